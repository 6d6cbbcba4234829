/-
  LAYER 12, THE DOCUMENT's: Name.
-/
import Derived.Test.YtafcbelkhhjcoaaSa
import Derived.BigQuiet
import Derived.Deep.QuietTactic
import Derived.Deep.CutRange
import Derived.Deep.RegionWith
import Derived.Deep.RegionHeld3
set_option linter.unusedVariables false
set_option linter.unusedSimpArgs false
set_option maxRecDepth 100000
namespace Go.Proofs.Ytafcbelkhhjcoaa
open Go.RowKit Go.Deep

theorem all_take {p : UInt8 → Bool} {s : List UInt8} {k : Nat} (h : k < s.length) (ha : (s.take k).all p = true) : (s.take (k + 1)).all p = p s[k] := by
  rw [List.take_add_one, List.getElem?_eq_getElem h, List.all_append, ha]; simp

set_option maxHeartbeats 2000000 in
theorem rName_any (w : World) (s : List UInt8) (hs : s.length ≤ 140737488355328) : Calls Try.prog 99 #[.string ⟨s.toArray⟩] w (fun e w' => e = .returned (.bool (nameB s)) ∧ w = w') := by
  have hsz := size_str s
  go_enter Try.func99, Try.ntmps99
  go_wp2
  go_loopw [3] (fun j wr => ∃ k : Nat, k ≤ s.length ∧ j = .int .i64 (k : Int) ∧ wr = w ∧ (s.take k).all (fun c => okByte c.toNat) = true)
    (fun j _ => s.length - (intOf j).toNat)
  case atStart => exact ⟨0, by omega, rfl, rfl, rfl⟩
  case round =>
    obtain ⟨k, hk, rfl, rfl, ha⟩ := hrel
    have HA := hid ha
    clear ha
    by_cases hlt : k < s.length
    · have hidx := idx_str (P := Try.prog) 9 Try.underlying9 s k hlt
      have HT := hid (all_take hlt HA.out)
      have hc256 := UInt8.toNat_lt s[k]
      have HN : Hid (okByte s[k].toNat = false → nameB s = false) := hid (fun h => by
        have h9 : s.all (fun c => okByte c.toNat) = false := by
          rw [List.all_eq_false]; exact ⟨s[k], List.getElem_mem hlt, by simpa using h⟩
        unfold nameB; rw [h9]; rfl)
      generalize s[k].toNat = c at *
      have hcs : (c < 48 ∧ okByte c = false) ∨ (48 ≤ c ∧ c ≤ 57 ∧ okByte c = true) ∨ (57 < c ∧ c < 95 ∧ okByte c = false) ∨ (c = 95 ∧ okByte c = true) ∨ (c = 96 ∧ okByte c = false) ∨ (97 ≤ c ∧ c ≤ 122 ∧ okByte c = true) ∨ (122 < c ∧ okByte c = false) := by
        unfold okByte
        simp only [Bool.or_eq_true, Bool.and_eq_true, decide_eq_true_eq, Bool.or_eq_false_iff, Bool.and_eq_false_iff, decide_eq_false_iff_not]
        omega
      have go : ∀ (b1 b2 b3 b4 b5 : Bool), decide ((97 : Int) ≤ c) = b1 → decide ((c : Int) ≤ 122) = b2 → decide ((48 : Int) ≤ c) = b3 → decide ((c : Int) ≤ 57) = b4 → ((c : Int) == 95) = b5 → Hid (okByte c = (b1 && b2 || b3 && b4 || b5)) := by
        rintro _ _ _ _ _ rfl rfl rfl rfl rfl
        refine hid ?_
        unfold okByte
        have e1 : decide ((97 : Int) ≤ c) = decide (97 ≤ c) := by congr 1; simp; omega
        have e2 : decide ((c : Int) ≤ 122) = decide (c ≤ 122) := by congr 1; simp; omega
        have e3 : decide ((48 : Int) ≤ c) = decide (48 ≤ c) := by congr 1; simp; omega
        have e4 : decide ((c : Int) ≤ 57) = decide (c ≤ 57) := by congr 1; simp; omega
        have e5 : ((c : Int) == 95) = decide (c = 95) := by rw [Bool.eq_iff_iff]; simp; omega
        rw [e1, e2, e3, e4, e5]
      clear hcs
      cases hb1 : decide ((97 : Int) ≤ c) <;> cases hb2 : decide ((c : Int) ≤ 122) <;> cases hb3 : decide ((48 : Int) ≤ c) <;> cases hb4 : decide ((c : Int) ≤ 57) <;> cases hb5 : ((c : Int) == 95)
      all_goals
        have HG := go _ _ _ _ _ hb1 hb2 hb3 hb4 hb5
        clear go
        first
        | (exfalso; simp only [decide_eq_true_eq, decide_eq_false_iff_not, beq_iff_eq, beq_eq_false_iff_ne] at hb1 hb2 hb3 hb4 hb5; omega)
        | (go_wp2_with fail
           go_roundw
           case rel => exact ⟨k + 1, by omega, by go_num, trivial, by rw [HT.out]; exact HG.out⟩
           case measure => simp [intOf]; omega)
        | (go_wp2_with fail
           go_ret
           exact ⟨by rw [HN.out HG.out]; rfl, rfl⟩)
    · obtain rfl : k = s.length := by omega
      rw [List.take_length] at HA
      have HB : Hid (nameB s = (decide (1 ≤ s.length) && decide (s.length ≤ 20))) := hid (by unfold nameB; rw [HA.out]; rfl)
      clear HA
      by_cases h1 : 1 ≤ s.length
      · by_cases h2 : s.length ≤ 20
        · have h3 : (s.length : Int) ≤ 20 := by omega
          have HC : Hid (nameB s = true) := hid (by rw [HB.out]; simp [h1, h2])
          go_wp2_with fail
          go_ret
          exact ⟨by rw [HC.out]; rfl, rfl⟩
        · have h3 : ¬ (s.length : Int) ≤ 20 := by omega
          have HC : Hid (nameB s = false) := hid (by rw [HB.out]; simp [h1, h2])
          go_wp2_with fail
          go_ret
          exact ⟨by rw [HC.out]; rfl, rfl⟩
      · have h3 : s.length = 0 := by omega
        have h4 : ¬ 1 ≤ (s.length : Int) := by omega
        have HC : Hid (nameB s = false) := hid (by rw [HB.out]; simp [h1])
        go_wp2_with fail
        go_ret
        exact ⟨by rw [HC.out]; rfl, rfl⟩
end Go.Proofs.Ytafcbelkhhjcoaa
