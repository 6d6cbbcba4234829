/-
  CMP of lists: the code's, and the document's.
-/
import Derived.Test.YtacmidfcocjdjaaTCmp2
namespace Go.Proofs.Ytacmidfcocjdjaa
open Go.RowKit

theorem cmpVs_cons {a b : List Vl} {k : Nat} {v u : Vl} (ha : a[k]? = some v) (hb : b[k]? = some u) : cmpVs (a.drop k) (b.drop k) = if cmpV v u ≠ 0 then cmpV v u else cmpVs (a.drop (k + 1)) (b.drop (k + 1)) := by
  obtain ⟨h1, e1⟩ := List.getElem?_eq_some_iff.1 ha
  obtain ⟨h2, e2⟩ := List.getElem?_eq_some_iff.1 hb
  rw [List.drop_eq_getElem_cons h1, List.drop_eq_getElem_cons h2, e1, e2]
  rfl

theorem cmpVs_end1 {a b : List Vl} {k : Nat} (h1 : k < a.length) (h2 : b.length ≤ k) : cmpVs (a.drop k) (b.drop k) = 1 := by
  rw [List.drop_eq_getElem_cons h1, List.drop_eq_nil_of_le h2]; rfl

theorem cmpVs_end2 {a b : List Vl} {k : Nat} (h1 : k < b.length) (h2 : a.length ≤ k) : cmpVs (a.drop k) (b.drop k) = -1 := by
  rw [List.drop_eq_getElem_cons h1, List.drop_eq_nil_of_le h2]; rfl

theorem cmpVs_end3 {a b : List Vl} {k : Nat} (h1 : b.length ≤ k) (h2 : a.length ≤ k) : cmpVs (a.drop k) (b.drop k) = 0 := by
  rw [List.drop_eq_nil_of_le h1, List.drop_eq_nil_of_le h2]; rfl

theorem alloc2_then {w wr w2 : World} {o o' : Obj} (h : Below w.heap.size w wr) (g : Below ((wr.alloc o).alloc o').heap.size ((wr.alloc o).alloc o') w2) : Below w.heap.size w w2 := by
  have h2 := (h.alloc h.size o).alloc (h.alloc h.size o).size o'
  exact h2.trans (g.mono h2.size)

set_option maxHeartbeats 4000000 in
set_option maxRecDepth 100000 in
theorem cmpF_any (x y : Value) (a b : List Vl) (w : World) (hx : Vs w x a) (hy : Vs w y b) :
    Calls Try.prog 38 #[x, y, .func (.func 39) #[] #[]] w (Ans w (.int .i64 (cmpVs a b))) := by
  obtain ⟨ax, cx, rfl, hma⟩ := hx.form
  obtain ⟨ay, cy, rfl, hmb⟩ := hy.form
  unfold maxLen at hma hmb
  have HX := hid hx
  have HY := hid hy
  clear hx hy
  go_enter Try.func38, Try.ntmps38
  go_wp2_with fail
  go_loopw [13] (fun i wr => ∃ k : Nat, k ≤ a.length ∧ k ≤ b.length ∧ i = .int .i64 k ∧ cmpVs (a.drop k) (b.drop k) = cmpVs a b ∧ Below w.heap.size w wr) (fun i _ => a.length - (intOf i).toNat)
  case atStart => exact ⟨0, by omega, by omega, rfl, rfl, Below.refl _ _⟩
  case round =>
    obtain ⟨k, hk, hkb, rfl, hc, hb⟩ := hrel
    have HB := hid hb
    have HC := hid hc
    clear hb hc
    by_cases hlt : k < a.length
    · have hv := List.getElem?_eq_getElem hlt
      generalize a[k] = v at *
      obtain ⟨b1, off1, rfl, d1, d2, d3⟩ := (HX.out.old HB.out).get hv
      by_cases hlb : k < b.length
      · have hu := List.getElem?_eq_getElem hlb
        generalize b[k] = u at *
        obtain ⟨b2, off2, rfl, e1, e2, e3⟩ := (HY.out.old HB.out).get hu
        have HS := hid (cmpVs_cons hv hu)
        have C := fun W => compareV_any v u W
        unfold sv at C
        have f1 := fun o : Obj => (Below.refl wr.heap.size wr).alloc (Nat.le_refl _) o
        have e1' : ∀ o, (wr.alloc o).cell? ⟨b2, off2 + k * 3, none⟩ = some (.int .i64 u.k) := fun o => by rw [← e1]; exact (f1 o).cell (p := ⟨b2, off2 + k * 3, none⟩) (World.block_lt_of_cell? _ _ e1)
        have e2' : ∀ o, (wr.alloc o).cell? ⟨b2, off2 + k * 3 + 1, none⟩ = some (.int .i64 u.i) := fun o => by rw [← e2]; exact (f1 o).cell (p := ⟨b2, off2 + k * 3 + 1, none⟩) (World.block_lt_of_cell? _ _ e2)
        have e3' : ∀ o, (wr.alloc o).cell? ⟨b2, off2 + k * 3 + 2, none⟩ = some (.string ⟨u.s.toArray⟩) := fun o => by rw [← e3]; exact (f1 o).cell (p := ⟨b2, off2 + k * 3 + 2, none⟩) (World.block_lt_of_cell? _ _ e3)
        clear hv hu f1
        by_cases hz : cmpV v u = 0
        · have HN : Hid (cmpVs (a.drop (k + 1)) (b.drop (k + 1)) = cmpVs a b) := by show _ = _; rw [← HC.out, HS.out, if_neg (by simp [hz])]
          rw [hz] at C
          go_wp2_with (first | (go_at_call 39; refine (C _).mono ?_))
          rintro e w2 ⟨rfl, hb2⟩
          have HB2 := hid (alloc2_then HB.out hb2)
          clear hb2
          go_wp2_with fail
          go_roundw
          case rel => exact ⟨k + 1, by omega, by omega, by go_num, HN.out, HB2.out⟩
          case measure => simp [intOf]; omega
        · have HN : Hid (cmpVs a b = cmpV v u) := by show _ = _; rw [← HC.out, HS.out, if_pos hz]
          have hz' : (cmpV v u == 0) = false := by simp [hz]
          go_wp2_with (first | (go_at_call 39; refine (C _).mono ?_))
          rintro e w2 ⟨rfl, hb2⟩
          have HB2 := hid (alloc2_then HB.out hb2)
          clear hb2
          go_wp2_with fail
          go_ret
          unfold Ans
          rw [HN.out]
          exact ⟨rfl, HB2.out⟩
      · have HN : Hid (cmpVs a b = 1) := by show _ = _; rw [← HC.out, cmpVs_end1 hlt (by omega)]
        clear hv
        go_wp2_with fail
        go_ret
        unfold Ans
        rw [HN.out]
        exact ⟨rfl, HB.out.alloc HB.out.size _⟩
    · by_cases hlb : k < b.length
      · have HN : Hid (cmpVs a b = -1) := by show _ = _; rw [← HC.out, cmpVs_end2 hlb (by omega)]
        go_wp2_with fail
        go_ret
        unfold Ans
        rw [HN.out]
        exact ⟨rfl, HB.out⟩
      · have HN : Hid (cmpVs a b = 0) := by show _ = _; rw [← HC.out, cmpVs_end3 (by omega) (by omega)]
        go_wp2_with fail
        go_ret
        unfold Ans
        rw [HN.out]
        exact ⟨rfl, HB.out⟩

set_option maxHeartbeats 1000000 in
set_option maxRecDepth 100000 in
theorem cmp_any (x y : Value) (a b : List Vl) (w : World) (hx : Vs w x a) (hy : Vs w y b) :
    Calls Try.prog 27 #[x, y] w (Ans w (.int .i64 (cmpVs a b))) := by
  go_enter Try.func27, Try.ntmps27
  go_wp2_with fail
  refine (cmpF_any x y a b w hx hy).mono ?_
  rintro en w1 ⟨rfl, hb⟩
  go_wp2_with fail
  go_ret
  exact ⟨rfl, hb⟩
end Go.Proofs.Ytacmidfcocjdjaa
