/-
  PAGES: slices.Replace in a row of the call's own.
-/
import Derived.Test.YtcgnghkjkdkmmaaGr
import Derived.Deep.AppendSrc
set_option linter.unusedVariables false
namespace Go.Proofs.Ytcgnghkjkdkmmaa
open Go.RowKit Go.Shelf

theorem slice_lh {P : Program} (t e : TypeId) (ht : P.underlying t = some (.slice e)) {i : TypeInfo} (hi : P.info? e = some i) (ao : Option Addr) (n c lo hi' : Nat) (h1 : lo ≤ hi') (h2 : hi' ≤ c) :
    ∃ X, ∀ W, (Instr.slice t (.slice ao n c) (some (.int .i64 (lo : Int))) (some (.int .i64 (hi' : Int))) none).run P W = .ok X W := by
  have ht' : P.underlying t = some (.slice (P.elem t)) := by simp [Program.elem, ht]
  have he : P.elem t = e := by simp [Program.elem, ht]
  have hs : ∀ W, (sizeOf e).run P W = .ok i.size W := fun W => by simp [sizeOf, typeInfo, hi]
  refine ⟨sliced ao lo hi' c i.size, fun W => ?_⟩
  rw [run_slice_lh W t _ _ _ ht' .i64 .i64 _ _ (by omega) (by omega) (by omega), he, hs]
  simp only [Result.andThen, Int.toNat_natCast]

theorem slice_from {P : Program} (t e : TypeId) (ht : P.underlying t = some (.slice e)) {i : TypeInfo} (hi : P.info? e = some i) (hsz : i.size = 1) (g o n c k : Nat) (hk : k ≤ n) :
    ∃ ao, (∀ W, (Instr.slice t (.slice (some ⟨g, o, none⟩) n c) (some (.int .i64 (k : Int))) none none).run P W = .ok (.slice ao (n - k) (c - k)) W) ∧ (k < c → ao = some ⟨g, o + k, none⟩) := by
  have ht' : P.underlying t = some (.slice (P.elem t)) := by simp [Program.elem, ht]
  have he : P.elem t = e := by simp [Program.elem, ht]
  have hs : ∀ W, (sizeOf e).run P W = .ok 1 W := fun W => by simp [sizeOf, typeInfo, hi, hsz]
  refine ⟨if c = k then some ⟨g, o, none⟩ else some ⟨g, o + k, none⟩, fun W => ?_, fun h => by rw [if_neg (by omega)]⟩
  rw [run_slice_l W t _ _ _ ht' .i64 _ (by omega) (by omega), he, hs]
  simp only [Result.andThen, sliced, Int.toNat_natCast, Nat.mul_one, Option.map_some]
  congr 2
  split
  · rfl
  · unfold Addr.add; split
    · rename_i h; subst h; rfl
    · rfl

/-- A slice of rows that hold slices: their cells. -/
structure Vals (w : World) (v : Value) (T : List Value) : Prop where
  one : ∀ u ∈ T, u.oneCell' = true
  form : (T = [] ∧ v = .slice none 0 0) ∨ (0 < T.length ∧ ∃ g2, v = .slice (some ⟨g2, 0, none⟩) T.length T.length ∧ w.heap[g2]? = some (.cells T.toArray 29 (0, 0)))

theorem Vals.rws {w : World} {v : Value} {T : List Value} (h : Vals w v T) (hl : T.length ≤ maxLen) : Rws 1 w v (T.map fun u => [u]) := by
  have hw : Wide 1 (T.map fun u => [u]) := fun r hr => by
    obtain ⟨u, hu, rfl⟩ := List.mem_map.1 hr
    exact ⟨rfl, fun x hx => by simp at hx; subst hx; exact h.one _ hu⟩
  have hf : (T.map fun u => [u]).flatten = T := by
    clear h hl hw
    induction T with
    | nil => rfl
    | cons a l ih => simp [ih]
  rcases h.form with ⟨rfl, rfl⟩ | ⟨_, g2, rfl, hg⟩
  · exact Rws.nil 1 w
  · refine ⟨some ⟨g2, 0, none⟩, T.length, by rw [List.length_map], by rw [List.length_map]; exact Nat.le_refl _, hl, (fun h => by cases h), hw, fun a ha j u hu => ?_⟩
    cases ha
    rw [hf] at hu
    rw [WideShapes.add_plain, Nat.zero_add, cell_of_row w g2 j _ _ (0, 0) hg]
    simpa using hu

def ReplA (base g : Nat) (L : List Value) (w : World) (e : Ending) (w' : World) : Prop := ∃ r, e = .returned r ∧ w'.ownsRow base 29 1 r L.length L ∧ w.grownBy w' (some g) ∧ ∀ k, r.ownBlock = some k → k = g ∨ w.heap.size ≤ k

theorem own_of {w : World} {base g n cap : Nat} {cur : List Value} {e : TypeId} (hg : w.heap[g]? = some (.cells cur.toArray e (0, 0))) (hb : base ≤ g) (hcl : cur.length = cap) (hm : cap ≤ maxLen) (hn : n ≤ cap) :
    w.ownsRow base e 1 (.slice (some ⟨g, 0, none⟩) n cap) n (cur.take n) :=
  ⟨by rw [List.length_take]; omega, .inr ⟨g, cap, cur.toArray, rfl, hb, hg, hn, hm, by simp [hcl], by simp⟩⟩

theorem own_form {w : World} {base : Nat} {e : TypeId} {size : Nat} {v : Value} {n : Nat} {xs : List Value} (h : w.ownsRow base e size v n xs) (hn : 0 < n) : ∃ g cap, v = .slice (some ⟨g, 0, none⟩) n cap := by
  rcases h.2 with ⟨_, h0⟩ | ⟨g, cap, _, rfl, _⟩
  · omega
  · exact ⟨g, cap, rfl⟩

theorem flat_one : ∀ T : List Value, (T.map fun u => [u]).flatten = T
  | [] => rfl
  | a :: l => by simp [flat_one l]

/-- append to a row of the call's own: where the row lies behind it. -/
theorem run_append_new {P : Program} {w : World} (base : Nat) (t ty e : TypeId) (size bytes : Nat) (ht : P.underlying t = some (.slice e)) (z : Value) (hinfo : (P.info? e).map (fun i => (i.zero, i.size, i.bytes)) = some (some z, size, bytes)) (hzs : z.cells.size = size) (hsz : 0 < size)
    (v : Value) (n : Nat) (xs : List Value) (hown : w.ownsRow base e size v n xs) (y : Value) (L : List (List Value)) (hr : Rws size w y L)
    (hn : (n + L.length) * bytes ≤ 140737488355328) (hm : n + L.length ≤ maxLen) (hbase : base ≤ w.heap.size) :
    ∃ v' w', (Builtin.append_ #[t, t] ty #[v, y]).run P w = .ok v' w' ∧ w'.ownsRow base e size v' (n + L.length) (xs ++ L.flatten) ∧ w.grownBy w' v.ownBlock ∧ ∀ k, v'.ownBlock = some k → v.ownBlock = some k ∨ w.heap.size ≤ k := by
  obtain ⟨i0, hi, hz0, hz1, hz2⟩ := info3 hinfo
  obtain ⟨ao, c, rfl, h1, h2, h3, h5, h4⟩ := hr
  cases ao with
  | none =>
    have hc := h3 rfl
    obtain rfl : L = [] := List.eq_nil_of_length_eq_zero (by omega)
    subst hc
    refine ⟨v, w, run_append_owned_none (P := P) w base t ty e i0 size ht hi v n xs hown, by simpa using hown, World.grownBy.refl _ _, fun k hk => .inl hk⟩
  | some a =>
    obtain ⟨v', w', hrun, o1, g1, -⟩ := run_append_own (P := P) w base t ty e i0 z size bytes ht hi hz0 hz1 hz2 hzs hsz v n xs hown a L.length c L.flatten h5.len (h4 a rfl) h5.one hm hn hbase
    refine ⟨v', w', hrun, o1, g1, fun k hk => ?_⟩
    have hown' := hown
    obtain ⟨q1, q2⟩ := hown'
    rcases q2 with ⟨rfl, rfl⟩ | ⟨g, cap, cur, rfl, hb, hg, hnc, hcm, hcs, htk⟩
    · have hxs : xs = [] := List.eq_nil_of_length_eq_zero (by rw [q1]; simp)
      obtain ⟨v2, w2, hrun2, o2, -, -⟩ := run_append_own (P := P) w w.heap.size t ty e i0 z size bytes ht hi hz0 hz1 hz2 hzs hsz (.slice none 0 0) 0 [] (World.ownsRow_nil _ _ _ _) a L.length c L.flatten h5.len (h4 a rfl) h5.one hm hn (Nat.le_refl _)
      rw [hrun] at hrun2
      cases hrun2
      exact .inr (o2.lt k hk).1
    · by_cases hroom : n + L.length ≤ cap
      · obtain ⟨w2, hrun2, -, -⟩ := run_append_fits (P := P) w base t ty e i0 size ht hi hz1 g n cap xs hown a L.length c L.flatten h5.len (h4 a rfl) h5.one hroom
        rw [hrun] at hrun2
        cases hrun2
        exact .inl hk
      · have hold : (Builtin.firstCells i0.size n (.slice (some ⟨g, 0, none⟩) n cap)).run P w.drew = .ok xs.toArray w.drew := run_firstCells_some (P := P) (w := w.drew) i0.size n ⟨g, 0, none⟩ n cap xs (by rw [q1, hz1]) (fun p u hu => by
          rw [WideShapes.add_plain, Nat.zero_add, cell_of_row w.drew g p _ _ (0, 0) hg]
          rw [← htk, List.getElem?_take] at hu
          split at hu
          · simpa using hu
          · cases hu)
        have hrun2 := run_append_grow_src (P := P) w t t ty e i0 z ht hi hz0 (some ⟨g, 0, none⟩) n cap xs hold (.slice (some a) L.length c) L.length L.flatten (Src.ofSlice w ht a L.length c L.flatten (by rw [hz1]; exact h5.len) (h4 a rfl) h5.one) (by omega) (by unfold maxLen at hm; omega) (by rw [hz2]; exact growslice_fits (by omega) hn)
        rw [hrun] at hrun2
        cases hrun2
        simp only [Value.ownBlock, Option.some.injEq] at hk
        exact .inr (by omega)

theorem wp_rapp2 {P : Program} {w : World} {ops : Array Oper} {rest : List Oper} {o : Oper} {a : Act} {Q : Exit → Act → World → Prop} (hgd : o.guard = none) (s x : Operand) (t : TypeId)
    (ho : o.op = .call { callee := .builtin .append, args := #[s, x], argTypes := #[t, t] })
    (base size bytes : Nat) (e : TypeId) (ht : P.underlying t = some (.slice e)) (z : Value) (hinfo : (P.info? e).map (fun i => (i.zero, i.size, i.bytes)) = some (some z, size, bytes)) (hzs : z.cells.size = size) (hsz : 0 < size)
    (v : Value) (n : Nat) (xs : List Value) (hs : a.eval s = v) (hown : w.ownsRow base e size v n xs)
    (y : Value) (L : List (List Value)) (hx : a.eval x = y) (hr : Rws size w y L) (hn : (n + L.length) * bytes ≤ 140737488355328) (hm : n + L.length ≤ maxLen) (hbase : base ≤ w.heap.size)
    (h : ∀ v' w', Hid (w'.ownsRow base e size v' (n + L.length) (xs ++ L.flatten)) → Hid (w.grownBy w' v.ownBlock) → Hid (∀ k, v'.ownBlock = some k → v.ownBlock = some k ∨ w.heap.size ≤ k) → wpList P ops Q rest (a.put o.dst v') w') : wpList P ops Q (o :: rest) a w := by
  obtain ⟨v', w', hrun, h1, h2, h3⟩ := run_append_new (P := P) base t o.type e size bytes ht z hinfo hzs hsz v n xs hown y L hr hn hm hbase
  refine wpList_plain hgd fun K hK => ?_
  unfold Oper.wp execOp
  simp only [ho, resolve, invoke, builtin, Sem.run_bind, Sem.run_pure, Result.andThen_ok, List.map_toArray, List.map_cons, List.map_nil, hs, hx, hrun]
  exact hK _ _ (h v' w' h1 h2 h3)

set_option maxHeartbeats 4000000 in
set_option maxRecDepth 100000 in
/-- The end is replaced. -/
theorem replaceA_any (base g cap n i : Nat) (cur : List Value) (v : Value) (T : List Value) (w : World) (hg : w.heap[g]? = some (.cells cur.toArray 29 (0, 0))) (hb : base ≤ g) (hcl : cur.length = cap) (hm : cap ≤ maxLen) (hn : n ≤ cap) (hnl : n ≤ 1000000)
    (hij : i < n) (hT : T.length ≤ 1000) (hv : Vals w v T) :
    Calls Try.prog 46 #[.slice (some ⟨g, 0, none⟩) n cap, .int .i64 (i : Int), .int .i64 (n : Int), v] w (ReplA base g (cur.take i ++ T) w) := by
  obtain ⟨i0, hi, hz0, hz1, hz2⟩ := info3 (P := Try.prog) info_row
  obtain ⟨X, hX⟩ := slice_lh (P := Try.prog) 63 29 Try.underlying63 hi (some ⟨g, 0, none⟩) n cap i n (by omega) hn
  have hs1 := slice_to (P := Try.prog) 63 29 Try.underlying63 hi (some ⟨g, 0, none⟩) n cap i (by omega) .i64
  have HO := hid (own_of (n := i) hg hb hcl hm (by omega))
  have HV := hid (hv.rws (by unfold maxLen; omega))
  have hbase : base ≤ w.heap.size := Nat.le_trans hb (Nat.le_of_lt (lt_of_block hg))
  obtain ⟨vo, vc, rfl, hvl⟩ : ∃ vo vc, v = .slice vo T.length vc ∧ (vo = none → T.length = 0) := by
    rcases hv.form with ⟨rfl, rfl⟩ | ⟨_, g2, rfl, _⟩
    · exact ⟨none, 0, rfl, fun _ => rfl⟩
    · exact ⟨_, _, rfl, fun h => by cases h⟩
  have hf : (T.map fun u => [u]).flatten = T := by clear HV hv hT hvl; induction T with | nil => rfl | cons a l ih => simp [ih]
  have hb1 : ((i : Int) == (n : Int)) = false := beq_eq_false_iff_ne.2 (by omega)
  have hLen : (cur.take i ++ T).length = i + T.length := by rw [List.length_append, List.length_take]; omega
  have hone := hv.one
  clear hg hv
  by_cases hroom : i + T.length ≤ cap
  · obtain ⟨q, hq⟩ : ∃ q, q = i + T.length := ⟨_, rfl⟩
    have HL : Hid ((cur.take i ++ T).length = q) := by show _ = _; rw [hLen, hq]
    have hvn : vo = none → T.length = 0 ∧ vc = 0 := fun h => by
      obtain ⟨ao, c, h1, h2, h3, h4, -⟩ := HV.out
      simp only [List.length_map, Value.slice.injEq] at h1
      obtain ⟨e1, -, e3⟩ := h1
      exact ⟨hvl h, by rw [e3]; exact h4 (by rw [← e1]; exact h)⟩
    have hvc : ∀ ad, vo = some ad → ∀ (j : Nat) u, T[j]? = some u → w.cell? (ad.add j) = some u := fun ad h => by
      obtain ⟨ao, c, h1, h2, h3, h4, h5, h6⟩ := HV.out
      simp only [List.length_map, Value.slice.injEq] at h1
      rw [hf] at h6
      exact h6 ad (by rw [← h1.1]; exact h)
    have HVN := hid hvn
    have HVC := hid hvc
    have H1 : Hid (∀ u ∈ T, u.oneCell' = true) := hone
    clear hvn hvc hLen
    go_enter Try.func46, Try.ntmps46
    go_wp2_with (first
      | (at_builtin; refine wpList_append_fits_any _ rfl _ _ 63 rfl base 29 i0 1 Try.underlying63 hi hz1 g i cap (cur.take i) rfl HO.out vo T.length vc T rfl (by simp) HVN.out HVC.out H1.out hroom ?_))
    intro w1 o1 g1
    rw [← hq] at o1 hroom ⊢
    have HO1 := hid o1
    have HG1 := hid g1
    clear o1 g1 hq
    by_cases hqn : q < n
    · obtain ⟨ao, hs2, hao⟩ := slice_from (P := Try.prog) 63 29 Try.underlying63 hi hz1 g 0 n cap q (by omega)
      obtain ⟨w2, hcl, o2, g2⟩ := run_clear_row (P := Try.prog) (w := w1) 63 29 Try.underlying63 (.slice none 0 0) 24 info_row rfl rfl ao (n - q) (cap - q) base g q cap (cur.take i ++ T) HO1.out (fun h9 => ⟨q, by rw [hao (by omega), Nat.zero_add], Nat.le_refl _, by omega⟩)
      have hcl0 := hcl 0
      have O2 := hid o2
      have G2 := hid g2
      clear hao hcl o2 g2
      go_wp2_with fail
      go_ret
      exact ⟨_, rfl, by rw [HL.out]; exact O2.out, grown_trans HG1.out G2.out, fun k hk => .inl (by simpa [Value.ownBlock] using hk.symm)⟩
    · go_wp2_with fail
      go_ret
      exact ⟨_, rfl, by rw [HL.out]; exact HO1.out, HG1.out, fun k hk => .inl (by simpa [Value.ownBlock] using hk.symm)⟩
  · go_enter Try.func46, Try.ntmps46
    go_wp2_with (first
      | (at_builtin; refine wp_rapp2 rfl _ _ 63 rfl base 1 24 29 Try.underlying63 _ info_row (by decide) (by decide) _ _ _ rfl HO.out _ (T.map fun u => [u]) rfl HV.out ?c1 ?c2 ?c3 ?_))
    case c1 => rw [List.length_map]; omega
    case c2 => rw [List.length_map]; unfold maxLen; omega
    case c3 => exact hbase
    intro v' w1 o1 g1 NW
    obtain ⟨q, hq⟩ : ∃ q, q = i + T.length := ⟨_, rfl⟩
    replace o1 := o1.out
    replace g1 := g1.out
    rw [← hq] at o1 hroom
    obtain ⟨g', cap', rfl⟩ := own_form o1 (by omega)
    have HL : Hid ((cur.take i ++ T).length = q) := by show _ = _; rw [hLen, hq]
    have HO1 := hid o1
    have HG1 := hid g1
    have hnl : ¬ ((q : Int) < (n : Int)) := by omega
    clear o1 g1 hLen hq
    go_wp2_with fail
    go_ret
    exact ⟨_, rfl, by rw [HL.out]; exact HO1.out, HG1.out, fun k hk => (NW.out k hk).imp (fun e => by simpa [Value.ownBlock] using e.symm) id⟩
end Go.Proofs.Ytcgnghkjkdkmmaa
