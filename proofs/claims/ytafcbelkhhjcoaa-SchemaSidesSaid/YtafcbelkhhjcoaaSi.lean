/-
  LAYER 12, THE DOCUMENT's: Copy: what it makes is the call's own.
-/
import Derived.Test.YtafcbelkhhjcoaaSh
import Derived.Test.YtafcbelkhhjcoaaTk
set_option linter.unusedVariables false
set_option linter.unusedSimpArgs false
set_option maxRecDepth 100000
namespace Go.Proofs.Ytafcbelkhhjcoaa
open Go.RowKit Go.Deep

theorem step_rapp {P : Program} {w : World} {ops : Array Oper} {o : Oper} {a : Act} {K : Act → World → Prop} {Q : Exit → Act → World → Prop} {E : Prop} (hgd : o.guard = none) (s x : Operand) (t : TypeId)
    (ho : o.op = .call { callee := .builtin .append, args := #[s, x], argTypes := #[t, t] })
    (base size bytes : Nat) (e : TypeId) (ht : P.underlying t = some (.slice e)) (z : Value) (hinfo : (P.info? e).map (fun i => (i.zero, i.size, i.bytes)) = some (some z, size, bytes)) (hzs : z.cells.size = size) (hsz : 0 < size)
    (v : Value) (n : Nat) (xs : List Value) (hs : a.eval s = v) (hown : w.ownsRow base e size v n xs)
    (y : Value) (L : List (List Value)) (hx : a.eval x = y) (hr : Rws size w y L) (hn : (n + L.length) * bytes ≤ 140737488355328) (hm : n + L.length ≤ maxLen) (hbase : base ≤ w.heap.size)
    (h : ∀ v' w', w'.ownsRow base e size v' (n + L.length) (xs ++ L.flatten) → w.grownBy w' v.ownBlock → K (a.put o.dst v') w') :
    if Region.wanted o (yielded ops a.tmps) = true then Oper.wp P o a w K Q else E := by
  have hw : Region.wanted o (yielded ops a.tmps) = true := by simp [Region.wanted, hgd]
  rw [if_pos hw]
  obtain ⟨i0, hi, hz0, hz1, hz2⟩ : ∃ i, P.info? e = some i ∧ i.zero = some z ∧ i.size = size ∧ i.bytes = bytes := by
    cases hq : P.info? e with
    | none => rw [hq] at hinfo; cases hinfo
    | some i => rw [hq] at hinfo; simp at hinfo; exact ⟨i, rfl, hinfo⟩
  obtain ⟨ao, c, rfl, h1, h2, h3, h5, h4⟩ := hr
  cases ao with
  | some ad =>
    exact wp_append_own w s x t ho base e i0 z size bytes ht hi hz0 hz1 hz2 hzs hsz v n xs hs hown ad L.length c L.flatten hx h5.len (h4 ad rfl) h5.one
      hm hn hbase fun v' w' a1 a2 _ => h v' w' a1 a2
  | none =>
    have hc := h3 rfl
    obtain rfl : L = [] := List.eq_nil_of_length_eq_zero (by omega)
    subst hc
    have hrun := run_append_owned_none (P := P) (w := w) base t o.type e i0 size ht hi v n xs hown
    unfold Oper.wp execOp
    simp only [List.length_nil] at hx
    simp only [ho, resolve, invoke, builtin, Sem.run_bind, Sem.run_pure, Result.andThen_ok, List.map_toArray, List.map_cons, List.map_nil, hs, hx, hrun]
    exact h v w (by simpa using hown) (World.grownBy.refl _ _)

theorem ZsN.mono {N N' : Nat → Prop} {w : World} {x : Value} {l : List Int} (h : ZsN N w x l) (hN : ∀ k, N k → N' k) : ZsN N' w x l := ⟨h.1, fun e k hk => hN k (h.2 e k hk)⟩
theorem ClsN.mono {N N' : Nat → Prop} {w : World} {x : Value} {l : List Col} (h : ClsN N w x l) (hN : ∀ k, N k → N' k) : ClsN N' w x l := ⟨h.1, fun e k hk => hN k (h.2 e k hk)⟩
theorem TabN.mono {N N' : Nat → Prop} {w : World} {cs : List Value} {t : Tab} (h : TabN N w cs t) (hN : ∀ k, N k → N' k) : TabN N' w cs t := by
  obtain ⟨x, y, h1, h2, h3, h4, h5⟩ := h
  exact ⟨x, y, h1, h2.mono hN, h3.mono hN, h4, h5⟩
theorem IdxN.mono {N N' : Nat → Prop} {w : World} {cs : List Value} {t : Idx} (h : IdxN N w cs t) (hN : ∀ k, N k → N' k) : IdxN N' w cs t := by
  obtain ⟨y, h1, h2, h3⟩ := h
  exact ⟨y, h1, h2.mono hN, h3⟩
theorem LstN.mono {α : Type} {R R' : World → List Value → α → Prop} {n : Nat} {N N' : Nat → Prop} {w : World} {x : Value} {l : List α} (h : LstN R n N w x l) (hN : ∀ k, N k → N' k) (hR : ∀ r a, R w r a → R' w r a) : LstN R' n N' w x l := by
  obtain ⟨M, h1, h2, h3, h4⟩ := h
  exact ⟨M, h1, h2, fun i r a p q => hR _ _ (h3 i r a p q), fun e k hk => hN k (h4 e k hk)⟩
theorem CatN.mono {N N' : Nat → Prop} {w : World} {cs : List Value} {C : Cat} (h : CatN N w cs C) (hN : ∀ k, N k → N' k) : CatN N' w cs C := by
  obtain ⟨x, y, h1, h2, h3, h4, h5⟩ := h
  exact ⟨x, y, h1, h2.mono hN (fun _ _ h => h.mono hN), h3.mono hN (fun _ _ h => h.mono hN), h4, h5⟩

/-- What an append onto nil makes: numbers, or columns, in new memory. -/
theorem zs_made {w w' : World} {v : Value} {l : List Int} {m : Nat} (h : w'.ownsRow w.heap.size 3 1 v m ((l.map zRow).flatten)) (hm : m = l.length) : ZsN (fun k => w.heap.size ≤ k ∧ k < w'.heap.size) w' v l ∧ ∃ a c, v = .slice a l.length c := by
  subst hm
  have hw : Wide 1 (l.map zRow) := fun r hr => by
    obtain ⟨z, -, rfl⟩ := List.mem_map.1 hr
    exact ⟨rfl, fun u hu => by simp [zRow] at hu; subst hu; rfl⟩
  have hR : Rws 1 w' v (l.map zRow) := Rws.own (e := 3) (base := w.heap.size) (by rw [List.length_map]; exact h) hw
  refine ⟨⟨hR, fun _ k hk => ?_⟩, ?_⟩
  · rcases h.2 with ⟨rfl, -⟩ | ⟨g, cap, cur, rfl, -⟩
    · cases hk
    · exact h.lt k hk
  · obtain ⟨a, c, rfl, -⟩ := hR.form
    exact ⟨a, c, by rw [List.length_map]⟩
theorem cls_made {w w' : World} {v : Value} {l : List Col} {m : Nat} (h : w'.ownsRow w.heap.size 123 3 v m ((l.map colRow).flatten)) (hm : m = l.length) : ClsN (fun k => w.heap.size ≤ k ∧ k < w'.heap.size) w' v l ∧ ∃ a c, v = .slice a l.length c := by
  subst hm
  have hw : Wide 3 (l.map colRow) := fun r hr => by
    obtain ⟨z, -, rfl⟩ := List.mem_map.1 hr
    refine ⟨rfl, fun u hu => ?_⟩
    simp only [colRow, List.mem_cons, List.not_mem_nil, or_false] at hu
    rcases hu with rfl | rfl | rfl <;> rfl
  have hR : Rws 3 w' v (l.map colRow) := Rws.own (e := 123) (base := w.heap.size) (by rw [List.length_map]; exact h) hw
  refine ⟨⟨hR, fun _ k hk => ?_⟩, ?_⟩
  · rcases h.2 with ⟨rfl, -⟩ | ⟨g, cap, cur, rfl, -⟩
    · cases hk
    · exact h.lt k hk
  · obtain ⟨a, c, rfl, -⟩ := hR.form
    exact ⟨a, c, by rw [List.length_map]⟩

def NewQ (base : Nat) (w : World) (x : Value) (k : Nat) : Prop := base ≤ k ∧ k < w.heap.size ∧ x.ownBlock ≠ some k
/-- A catalog whose memory is all the call's own. -/
def CatO (base : Nat) (w : World) (cs : List Value) (C : Cat) : Prop :=
  ∃ x y, cs = [.int .i64 C.ver, .int .i64 C.nxt, x, y] ∧ OwnL (TabN fun k => NewQ base w x k ∧ y.ownBlock ≠ some k) 4 33 base w x C.tabs ∧ OwnL (IdxN fun k => NewQ base w y k ∧ x.ownBlock ≠ some k) 7 37 base w y C.idxs ∧ ∀ k, x.ownBlock = some k → y.ownBlock ≠ some k
/-- Not too much. -/
def Cat.S (C : Cat) : Prop := C.tabs.length ≤ 100 ∧ C.idxs.length ≤ 100 ∧ (∀ t ∈ C.tabs, t.cols.length ≤ 100 ∧ t.key.length ≤ 100) ∧ ∀ x ∈ C.idxs, x.cols.length ≤ 100

theorem own_cell {α : Type} {R : World → List Value → α → Prop} {n : Nat} {e : TypeId} {base : Nat} {w : World} {v : Value} {l : List α} (h : OwnL R n e base w v l) : v.oneCell' = true := by
  obtain ⟨M, -, h2, -⟩ := h
  rcases h2.2 with ⟨rfl, -⟩ | ⟨g, cap, cur, rfl, -⟩ <;> rfl
theorem CatO.cat {base : Nat} {w : World} {cs : List Value} {C : Cat} (h : CatO base w cs C) : CatN (fun k => base ≤ k ∧ k < w.heap.size) w cs C := by
  obtain ⟨x, y, rfl, h1, h2, h3⟩ := h
  exact ⟨x, y, rfl, (h1.lst _ (fun k hk => h1.lt k hk)).mono (fun _ e => e) (fun r a h => h.mono (fun k e => ⟨e.1.1, e.1.2.1⟩)), (h2.lst _ (fun k hk => h2.lt k hk)).mono (fun _ e => e) (fun r a h => h.mono (fun k e => ⟨e.1.1, e.1.2.1⟩)), own_cell h1, own_cell h2⟩
theorem OwnL.base {α : Type} {R : World → List Value → α → Prop} {n : Nat} {e : TypeId} {base base' : Nat} {w : World} {v : Value} {l : List α} (h : OwnL R n e base w v l) (hb : base' ≤ base) : OwnL R n e base' w v l := by
  obtain ⟨M, h1, h2, h3, h4⟩ := h
  refine ⟨M, h1, ⟨h2.1, ?_⟩, h3, h4⟩
  rcases h2.2 with hn | ⟨g, cap, cur, hv, hbg, rest⟩
  · exact .inl hn
  · exact .inr ⟨g, cap, cur, hv, Nat.le_trans hb hbg, rest⟩
theorem own_form {α : Type} {R : World → List Value → α → Prop} {n : Nat} {e : TypeId} {base : Nat} {w : World} {v : Value} {l : List α} (h : OwnL R n e base w v l) : ∃ a c, v = .slice a l.length c := by
  obtain ⟨M, h1, h2, h3, h4⟩ := h
  rcases h2.2 with ⟨rfl, h0⟩ | ⟨g, cap, cur, hv, -⟩
  · exact ⟨none, 0, by rw [h0]⟩
  · exact ⟨_, _, hv⟩
/-- As wp_lapp; what comes is written out. -/
theorem wp_lapp2 {α : Type} {R : World → List Value → α → Prop} {P : Program} {w : World} {ops : Array Oper} {rest : List Oper} {o : Oper} {a : Act} {Q : Exit → Act → World → Prop} (hgd : Region.wanted o (yielded ops a.tmps) = true) (s x : Operand) (t : TypeId)
    (ho : o.op = .call { callee := .builtin .append, args := #[s, x], argTypes := #[t, t] })
    (base n bytes : Nat) (e : TypeId) (ht : P.underlying t = some (.slice e)) (z : Value) (hinfo : (P.info? e).map (fun i => (i.zero, i.size, i.bytes)) = some (some z, n, bytes)) (hzs : z.cells.size = n) (hsz : 0 < n)
    (v : Value) (l : List α) (hs : a.eval s = v) (hown : OwnL R n e base w v l)
    (g : Nat) (r : List Value) (hx : a.eval x = .slice (some ⟨g, 0, none⟩) 1 1) (hr : ∀ (j : Nat) u, r[j]? = some u → w.cell? ⟨g, j, none⟩ = some u) (hrl : r.length = n) (h1 : ∀ u ∈ r, u.oneCell' = true)
    (hm : l.length + 1 ≤ maxLen) (hn : (l.length + 1) * bytes ≤ 140737488355328) (hbase : base ≤ w.heap.size)
    (b0 : α)
    (h : ∀ va vc w', (∀ (R' : World → List Value → α → Prop) b, (∀ q c, R w q c → R' w' q c) → R' w' r b → OwnL R' n e base w' (.slice va (l.length + 1) vc) (l ++ [b])) → w.grownBy w' v.ownBlock → (∀ k, (Value.slice va (l.length + 1) vc).ownBlock = some k → v.ownBlock = some k ∨ w.heap.size ≤ k) →
      wpList P ops Q rest (a.put o.dst (.slice va (l.length + 1) vc)) w') : wpList P ops Q (o :: rest) a w := by
  refine wp_lapp hgd s x t ho base n bytes e ht z hinfo hzs hsz v l hs hown g r hx hr hrl h1 hm hn hbase (fun v' w' p1 p2 p3 => ?_)
  obtain ⟨va, vc, rfl⟩ := own_form (p1 (fun _ _ _ => True) b0 (fun _ _ _ => trivial) trivial)
  simp only [List.length_append, List.length_cons, List.length_nil, Nat.zero_add] at *
  exact h va vc w' p1 p2 p3
end Go.Proofs.Ytafcbelkhhjcoaa
