/-
  LAYER 12, THE CODE's: Min, Max, placesFit, columnsFit, keyFits, tableFits, indexFits.
-/
import Derived.Test.YtafcbelkhhjcoaaSqd
set_option linter.unusedVariables false
set_option linter.unusedSimpArgs false
set_option maxRecDepth 100000
namespace Go.Proofs.Ytafcbelkhhjcoaa
open Go.RowKit Go.Deep

def lmin : List Int → Int | [] => 0 | u :: r => r.foldl min u
def lmax : List Int → Int | [] => 0 | u :: r => r.foldl max u
theorem lmin_take {l : List Int} {k : Nat} {u : Int} (h : l[k]? = some u) (hk : 1 ≤ k) : lmin (l.take (k + 1)) = min (lmin (l.take k)) u := by
  rw [List.take_add_one, h]
  cases l with
  | nil => cases h
  | cons y r =>
    obtain ⟨m, rfl⟩ : ∃ m, k = m + 1 := ⟨k - 1, by omega⟩
    simp [lmin, List.foldl_append]
theorem lmax_take {l : List Int} {k : Nat} {u : Int} (h : l[k]? = some u) (hk : 1 ≤ k) : lmax (l.take (k + 1)) = max (lmax (l.take k)) u := by
  rw [List.take_add_one, h]
  cases l with
  | nil => cases h
  | cons y r =>
    obtain ⟨m, rfl⟩ : ∃ m, k = m + 1 := ⟨k - 1, by omega⟩
    simp [lmax, List.foldl_append]
theorem fmin_all (z : Int) : ∀ (r : List Int) (u : Int), decide (z ≤ r.foldl min u) = (decide (z ≤ u) && r.all fun y => decide (z ≤ y))
  | [], u => by show _ = (decide (z ≤ u) && true); rw [Bool.and_true]; rfl
  | y :: r, u => by
    rw [List.foldl_cons, fmin_all z r (min u y), List.all_cons, ← Bool.and_assoc, ← Bool.decide_and]
    congr 2; simp; omega
theorem fmax_all (z : Int) : ∀ (r : List Int) (u : Int), decide (r.foldl max u < z) = (decide (u < z) && r.all fun y => decide (y < z))
  | [], u => by show _ = (decide (u < z) && true); rw [Bool.and_true]; rfl
  | y :: r, u => by
    rw [List.foldl_cons, fmax_all z r (max u y), List.all_cons, ← Bool.and_assoc, ← Bool.decide_and]
    congr 2; simp; omega
theorem lmin_all {l : List Int} (h : 1 ≤ l.length) (z : Int) : decide (z ≤ lmin l) = l.all fun y => decide (z ≤ y) := by
  cases l with
  | nil => simp at h
  | cons y r => exact fmin_all z r y
theorem lmax_all {l : List Int} (h : 1 ≤ l.length) (z : Int) : decide (lmax l < z) = l.all fun y => decide (y < z) := by
  cases l with
  | nil => simp at h
  | cons y r => exact fmax_all z r y

set_option maxHeartbeats 2000000 in
theorem min_any (w : World) {x : Value} {l : List Int} (hx : Rws 1 w x (l.map zRow)) (h0 : 1 ≤ l.length) : Calls Try.prog 228 #[x] w (fun e w' => e = .returned (.int .i64 (lmin l)) ∧ w' = w) := by
  obtain ⟨ao, c, rfl, h1, h2, hc⟩ := zs_cells hx
  have hlm : l.length ≤ 9223372036854775807 := by unfold maxLen at h2; omega
  have hlt1 : ¬ (l.length : Int) < 1 := by omega
  have hpos : (0 : Int) < (l.length : Int) := by omega
  have HC := hid hc
  clear hx hc
  obtain ⟨u0, hu0⟩ : ∃ u, l[0]? = some u := ⟨_, List.getElem?_eq_getElem h0⟩
  obtain ⟨b, off, rfl, hcell⟩ := HC.out 0 u0 hu0
  rw [Nat.add_zero] at hcell
  have H0 : Hid (u0 = lmin (l.take 1)) := hid (by rw [List.take_add_one, hu0]; rfl)
  clear hu0
  go_enter Try.func228, Try.ntmps228
  go_wp2_with fail
  go_loopw [3, 4] (fun v j wr => ∃ (k : Nat) (m : Int), 1 ≤ k ∧ k ≤ l.length ∧ j = .int .i64 (k : Int) ∧ v = .int .i64 m ∧ wr = w ∧ Hid (m = lmin (l.take k)))
    (fun _ j _ => l.length - (intOf j).toNat)
  case atStart => exact ⟨1, u0, by omega, by omega, rfl, rfl, rfl, H0⟩
  case round =>
    obtain ⟨k, m, hk1, hk, rfl, rfl, rfl, HA⟩ := hrel
    clear hcell
    by_cases hlt : k < l.length
    · obtain ⟨u, hu⟩ : ∃ u, l[k]? = some u := ⟨_, List.getElem?_eq_getElem hlt⟩
      obtain ⟨b2, off2, hbo, hcell⟩ := HC.out k u hu
      obtain ⟨rfl, rfl⟩ : b = b2 ∧ off = off2 := by simpa using hbo
      have hki : (k : Int) < (l.length : Int) := by omega
      have HT : Hid (min m u = lmin (l.take (k + 1))) := hid (by rw [lmin_take hu hk1, ← HA.out])
      clear hu hbo
      go_wp2_with fail
      go_roundw
      case rel => exact ⟨k + 1, min m u, by omega, by omega, by go_num, by first | rfl | trivial | exact congrArg _ (by split <;> omega), by first | trivial | rfl, HT⟩
      case measure => simp [intOf]; omega
    · obtain rfl : k = l.length := by omega
      rw [List.take_length] at HA
      go_wp2_with fail
      go_ret
      exact ⟨by rw [← HA.out]; rfl, rfl⟩

set_option maxHeartbeats 2000000 in
theorem max_any (w : World) {x : Value} {l : List Int} (hx : Rws 1 w x (l.map zRow)) (h0 : 1 ≤ l.length) : Calls Try.prog 229 #[x] w (fun e w' => e = .returned (.int .i64 (lmax l)) ∧ w' = w) := by
  obtain ⟨ao, c, rfl, h1, h2, hc⟩ := zs_cells hx
  have hlm : l.length ≤ 9223372036854775807 := by unfold maxLen at h2; omega
  have hlt1 : ¬ (l.length : Int) < 1 := by omega
  have hpos : (0 : Int) < (l.length : Int) := by omega
  have HC := hid hc
  clear hx hc
  obtain ⟨u0, hu0⟩ : ∃ u, l[0]? = some u := ⟨_, List.getElem?_eq_getElem h0⟩
  obtain ⟨b, off, rfl, hcell⟩ := HC.out 0 u0 hu0
  rw [Nat.add_zero] at hcell
  have H0 : Hid (u0 = lmax (l.take 1)) := hid (by rw [List.take_add_one, hu0]; rfl)
  clear hu0
  go_enter Try.func229, Try.ntmps229
  go_wp2_with fail
  go_loopw [3, 4] (fun v j wr => ∃ (k : Nat) (m : Int), 1 ≤ k ∧ k ≤ l.length ∧ j = .int .i64 (k : Int) ∧ v = .int .i64 m ∧ wr = w ∧ Hid (m = lmax (l.take k)))
    (fun _ j _ => l.length - (intOf j).toNat)
  case atStart => exact ⟨1, u0, by omega, by omega, rfl, rfl, rfl, H0⟩
  case round =>
    obtain ⟨k, m, hk1, hk, rfl, rfl, rfl, HA⟩ := hrel
    clear hcell
    by_cases hlt : k < l.length
    · obtain ⟨u, hu⟩ : ∃ u, l[k]? = some u := ⟨_, List.getElem?_eq_getElem hlt⟩
      obtain ⟨b2, off2, hbo, hcell⟩ := HC.out k u hu
      obtain ⟨rfl, rfl⟩ : b = b2 ∧ off = off2 := by simpa using hbo
      have hki : (k : Int) < (l.length : Int) := by omega
      have HT : Hid (max m u = lmax (l.take (k + 1))) := hid (by rw [lmax_take hu hk1, ← HA.out])
      clear hu hbo
      go_wp2_with fail
      go_roundw
      case rel => exact ⟨k + 1, max m u, by omega, by omega, by go_num, by first | rfl | trivial | exact congrArg _ (by split <;> omega), by first | trivial | rfl, HT⟩
      case measure => simp [intOf]; omega
    · obtain rfl : k = l.length := by omega
      rw [List.take_length] at HA
      go_wp2_with fail
      go_ret
      exact ⟨by rw [← HA.out]; rfl, rfl⟩

theorem below_drawnS {n : Nat} {w w1 : World} (h : Below n w w1) (q : Nat) : Below n w (w1.drewN q) := h.trans ⟨rfl, rfl, rfl, Nat.le_refl _, fun _ _ => rfl⟩

set_option maxHeartbeats 4000000 in
theorem placesFit_any {N : Nat → Prop} {w : World} {x : Value} {l : List Int} {cs : List Value} {t : Tab} (hx : Rws 1 w x (l.map zRow)) (h : TabN N w cs t) : Calls Try.prog 191 #[x, .agg cs.toArray] w (fun e w' => e = .returned (.bool (placesB l t.cols.length)) ∧ Below w.heap.size w w') := by
  obtain ⟨x2, y2, rfl, ⟨hx2, -⟩, ⟨hy2, -⟩, -, -⟩ := h
  obtain ⟨a1, e1, rfl, p1, p2, -⟩ := cl_cells hx2
  obtain ⟨a2, e2, rfl, -, -, -⟩ := zs_cells hy2
  obtain ⟨ao, c, rfl, h1, h2, -⟩ := zs_cells hx
  have HX := hid hx
  clear hx hx2 hy2
  go_enter Try.func191, Try.ntmps191
  go_upto_region 1 with fail
  have hb := (Below.refl w.heap.size w).alloc (Nat.le_refl _) (.cells #[.int .i64 t.id, .string ⟨t.name.toArray⟩, .slice a1 t.cols.length e1, .slice a2 t.key.length e2] 33)
  have hz := heap_alloc_new w (.cells #[.int .i64 t.id, .string ⟨t.name.toArray⟩, .slice a1 t.cols.length e1, .slice a2 t.key.length e2] 33)
  generalize w.alloc (.cells #[.int .i64 t.id, .string ⟨t.name.toArray⟩, .slice a1 t.cols.length e1, .slice a2 t.key.length e2] 33) = w1 at *
  have HB := hid hb
  have z2 := cell_in hz 2 _ rfl
  clear hb hz
  by_cases q1 : (l.length : Int) < 1
  · have HP : Hid (placesB l t.cols.length = false) := hid (by unfold placesB; rw [decide_eq_false (by omega : ¬ 1 ≤ l.length)]; simp)
    go_wp2_with fail
    go_ret
    exact ⟨by rw [HP.out]; rfl, HB.out⟩
  by_cases q2 : (6 : Int) < (l.length : Int)
  · have HP : Hid (placesB l t.cols.length = false) := hid (by unfold placesB; rw [decide_eq_false (by omega : ¬ l.length ≤ 6)]; simp)
    go_wp2_with fail
    go_ret
    exact ⟨by rw [HP.out]; rfl, HB.out⟩
  have hl1 : 1 ≤ l.length := by omega
  have HP : Hid (placesB l t.cols.length = (decide (0 ≤ lmin l) && decide (lmax l < (t.cols.length : Int)) && unl [] l)) := hid (by
    rw [← fitPl_eq, lmin_all hl1, lmax_all hl1]; unfold fitPl; rw [decide_eq_true hl1, decide_eq_true (by omega : l.length ≤ 6)]; rfl)
  have HR := fun q => HX.out.old (below_drawnS HB.out q)
  have C1 := hid (fun q => min_any (w1.drewN q) (HR q) hl1)
  have C2 := hid (fun q => max_any (w1.drewN q) (HR q) hl1)
  have C3 := hid (fun q => unlInt_any (w1.drewN q) (HR q))
  clear HR
  generalize lmin l = mn at *
  generalize lmax l = mx at *
  generalize unl [] l = un at *
  go_upto_region 3 with fail
  by_cases b1 : 0 ≤ mn
  · by_cases b2 : mx < (t.cols.length : Int)
    · rw [decide_eq_true b1, decide_eq_true b2] at HP
      go_quiet (first
        | (go_at_call 228; exact Calls.quiet_of_same (C1.out _))
        | (go_at_call 229; exact Calls.quiet_of_same (C2.out _))
        | (go_at_call 173; exact Calls.quiet_of_same (C3.out _)))
      go_wp2_with fail
      go_ret
      exact ⟨by rw [HP.out]; rfl, below_drawnS HB.out _⟩
    · rw [decide_eq_true b1, decide_eq_false b2] at HP
      go_quiet (first
        | (go_at_call 228; exact Calls.quiet_of_same (C1.out _))
        | (go_at_call 229; exact Calls.quiet_of_same (C2.out _)))
      go_wp2_with fail
      go_ret
      exact ⟨by rw [HP.out]; rfl, below_drawnS HB.out _⟩
  · rw [decide_eq_false b1] at HP
    go_quiet (first
      | (go_at_call 228; exact Calls.quiet_of_same (C1.out _)))
    go_wp2_with fail
    go_ret
    exact ⟨by rw [HP.out]; rfl, below_drawnS HB.out _⟩
end Go.Proofs.Ytafcbelkhhjcoaa
