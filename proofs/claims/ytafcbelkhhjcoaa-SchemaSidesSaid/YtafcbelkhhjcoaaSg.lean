/-
  LAYER 12: LISTS OF STRUCTS OF THE CALL's OWN: one more at the end.
-/
import Derived.Test.YtafcbelkhhjcoaaSf
set_option linter.unusedVariables false
set_option linter.unusedSimpArgs false
set_option maxRecDepth 100000
namespace Go.Proofs.Ytafcbelkhhjcoaa
open Go.RowKit Go.Deep

def OwnL {α : Type} (R : World → List Value → α → Prop) (n : Nat) (e : TypeId) (base : Nat) (w : World) (v : Value) (l : List α) : Prop :=
  ∃ M : List (List Value), M.length = l.length ∧ w.ownsRow base e n v l.length M.flatten ∧ Wide n M ∧ ∀ (i : Nat) r a, M[i]? = some r → l[i]? = some a → R w r a

theorem OwnL.nil {α : Type} (R : World → List Value → α → Prop) (n : Nat) (e : TypeId) (base : Nat) (w : World) : OwnL R n e base w (.slice none 0 0) [] :=
  ⟨[], rfl, ⟨(by simp), .inl ⟨rfl, rfl⟩⟩, (fun r (hr : r ∈ []) => nomatch hr), fun i r a h => by simp at h⟩
theorem OwnL.lt {α : Type} {R : World → List Value → α → Prop} {n : Nat} {e : TypeId} {base : Nat} {w : World} {v : Value} {l : List α} (h : OwnL R n e base w v l) : ∀ k, v.ownBlock = some k → base ≤ k ∧ k < w.heap.size := by
  obtain ⟨M, -, h2, -⟩ := h
  exact h2.lt
theorem blk_own {α : Type} {R : World → List Value → α → Prop} {n : Nat} {e : TypeId} {base : Nat} {w : World} {v : Value} {l : List α} (h : OwnL R n e base w v l) : ∀ k, blk v = some k → v.ownBlock = some k := by
  obtain ⟨M, -, h2, -⟩ := h
  rcases h2.2 with ⟨rfl, -⟩ | ⟨g, cap, cur, rfl, -⟩
  · intro k hk; cases hk
  · intro k hk; exact hk
theorem OwnL.lst {α : Type} {R : World → List Value → α → Prop} {n : Nat} {e : TypeId} {base : Nat} {w : World} {v : Value} {l : List α} (h : OwnL R n e base w v l) (N : Nat → Prop) (hN : ∀ k, v.ownBlock = some k → N k) : LstN R n N w v l := by
  have hb := blk_own h
  obtain ⟨M, h1, h2, h3, h4⟩ := h
  refine ⟨M, h1, Rws.own (e := e) (base := base) (by rw [h1]; exact h2) h3, h4, fun _ k hk => hN k (hb k hk)⟩
theorem OwnL.mono {α : Type} {R R' : World → List Value → α → Prop} {n : Nat} {e : TypeId} {base : Nat} {X : Nat → Prop} {w w' : World} {v : Value} {l : List α} (h : OwnL R n e base w v l) (hk : Keep X w w') (hx : ∀ k, v.ownBlock = some k → ¬ X k)
    (hR : ∀ r a, R w r a → R' w' r a) : OwnL R' n e base w' v l := by
  obtain ⟨M, h1, h2, h3, h4⟩ := h
  exact ⟨M, h1, own_keep h2 hk hx, h3, fun i r a p q => hR r a (h4 i r a p q)⟩

/-- 'append(l, x)': x one row, built anew at g. -/
theorem wp_lapp {α : Type} {R : World → List Value → α → Prop} {P : Program} {w : World} {ops : Array Oper} {rest : List Oper} {o : Oper} {a : Act} {Q : Exit → Act → World → Prop} (hgd : Region.wanted o (yielded ops a.tmps) = true) (s x : Operand) (t : TypeId)
    (ho : o.op = .call { callee := .builtin .append, args := #[s, x], argTypes := #[t, t] })
    (base n bytes : Nat) (e : TypeId) (ht : P.underlying t = some (.slice e)) (z : Value) (hinfo : (P.info? e).map (fun i => (i.zero, i.size, i.bytes)) = some (some z, n, bytes)) (hzs : z.cells.size = n) (hsz : 0 < n)
    (v : Value) (l : List α) (hs : a.eval s = v) (hown : OwnL R n e base w v l)
    (g : Nat) (r : List Value) (hx : a.eval x = .slice (some ⟨g, 0, none⟩) 1 1) (hr : ∀ (j : Nat) u, r[j]? = some u → w.cell? ⟨g, j, none⟩ = some u) (hrl : r.length = n) (h1 : ∀ u ∈ r, u.oneCell' = true)
    (hm : l.length + 1 ≤ maxLen) (hn : (l.length + 1) * bytes ≤ 140737488355328) (hbase : base ≤ w.heap.size)
    (h : ∀ v' w', (∀ (R' : World → List Value → α → Prop) b, (∀ q c, R w q c → R' w' q c) → R' w' r b → OwnL R' n e base w' v' (l ++ [b])) → w.grownBy w' v.ownBlock → (∀ k, v'.ownBlock = some k → v.ownBlock = some k ∨ w.heap.size ≤ k) →
      wpList P ops Q rest (a.put o.dst v') w') : wpList P ops Q (o :: rest) a w := by
  obtain ⟨i0, hi, hz0, hz1, hz2⟩ : ∃ i, P.info? e = some i ∧ i.zero = some z ∧ i.size = n ∧ i.bytes = bytes := by
    cases hq : P.info? e with
    | none => rw [hq] at hinfo; cases hinfo
    | some i => rw [hq] at hinfo; simp at hinfo; exact ⟨i, rfl, hinfo⟩
  obtain ⟨M, m1, m2, m3, m4⟩ := hown
  have hnews : ∀ (j : Nat) u, r[j]? = some u → w.cell? ((⟨g, 0, none⟩ : Addr).add j) = some u := fun j u hu => by rw [WideShapes.add_plain, Nat.zero_add]; exact hr j u hu
  obtain ⟨v', w', hrun, b1, b2, b3⟩ := run_append_own (P := P) w base t o.type e i0 z n bytes ht hi hz0 hz1 hz2 hzs hsz v l.length M.flatten m2 ⟨g, 0, none⟩ 1 1 r (by rw [hrl, Nat.one_mul]) hnews h1 hm hn hbase
  have hfr := app_fresh (ty := o.type) ht hi hz0 hz1 hz2 hzs hsz m2 (a := ⟨g, 0, none⟩) (m := 1) (c := 1) (news := r) (by rw [hrl, Nat.one_mul]) hnews h1 hm hn hrun
  refine wpList_step fun K hK => ?_
  rw [if_pos hgd]
  unfold Oper.wp execOp
  simp only [ho, resolve, invoke, builtin, Sem.run_bind, Sem.run_pure, Result.andThen_ok, List.map_toArray, List.map_cons, List.map_nil, hs, hx, hrun]
  refine hK _ _ (h v' w' (fun R' b hR hb => ⟨M ++ [r], by simp [m1], ?_, m3.app (fun q hq => by simp at hq; subst hq; exact ⟨hrl, h1⟩), fun i q c hi hc => ?_⟩) b2 hfr)
  · rw [List.length_append, List.length_singleton, List.flatten_append]
    simpa using b1
  · rcases Nat.lt_trichotomy i M.length with hlt | heq | hgt
    · rw [List.getElem?_append_left hlt] at hi
      rw [List.getElem?_append_left (by omega)] at hc
      exact hR q c (m4 i q c hi hc)
    · subst heq
      rw [List.getElem?_append_right (Nat.le_refl _)] at hi
      rw [m1, List.getElem?_append_right (Nat.le_refl _)] at hc
      simp at hi hc
      subst hi hc
      exact hb
    · rw [List.getElem?_append_right (by omega)] at hi
      have : i - M.length ≠ 0 := by omega
      simp [this] at hi
end Go.Proofs.Ytafcbelkhhjcoaa
