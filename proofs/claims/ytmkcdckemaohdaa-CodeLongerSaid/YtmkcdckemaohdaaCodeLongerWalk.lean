/-
  THE LAW CodeLonger: the walk.
-/
import Derived.Test.YtmkcdckemaohdaaInt
namespace Go.Proofs.Ytmkcdckemaohdaa.codeLonger
open Go.RowKit

theorem zig_twin (c : Int) : zig (-1 - c) / 2 = zig c / 2 ∧ (zig (-1 - c) % 2 + zig c % 2 = 1) := by
  unfold zig
  split <;> split <;> omega

theorem neg_twin {c : Int} (hv : (Lit.int .i64 c).wf = true) : wrap64 (wrap64 (-c) - 1) = -1 - c := by
  have hb := bounds_i64 hv
  simp only [wrap64]
  omega

theorem twin_wf {c : Int} (hv : (Lit.int .i64 c).wf = true) : (Lit.int .i64 (-1 - c)).wf = true := by
  have hb := bounds_i64 hv
  exact WalkArith.wf_i64 (by omega)

theorem len_half : ∀ (n a b : Nat), b ≤ n → a / 2 = b / 2 → (numL a).length = (numL b).length := by
  intro n
  induction n with
  | zero => intro a b h h1
            rw [numL_lt (v := a) (by omega), numL_lt (v := b) (by omega)]; rfl
  | succ n ih =>
    intro a b h h1
    by_cases h2 : a < 128
    · rw [numL_lt h2, numL_lt (v := b) (by omega)]; rfl
    · rw [numL_ge (v := a) (by omega), numL_ge (v := b) (by omega)]
      have := ih (a / 128) (b / 128) (by omega) (by omega)
      simp; omega

set_option maxHeartbeats 1000000 in
set_option maxRecDepth 100000 in
theorem walk (a0 : Int) (a1 : Int) (a2 : Int) (w : World) (w0 : (Lit.int .u64 a0).wf = true) (w1 : (Lit.int .u64 a1).wf = true) (w2 : (Lit.int .i64 a2).wf = true) :
    Calls Try.prog 9 #[.int .u64 a0, .int .u64 a1, .int .i64 a2] w fun e w' => e = .returned (.bool true) ∧ Below w.heap.size w w' := by
  have b0 := bounds_u64 w0
  have b1 := bounds_u64 w1
  obtain ⟨n, rfl⟩ := Int.eq_ofNat_of_zero_le b0.1
  obtain ⟨m, rfl⟩ := Int.eq_ofNat_of_zero_le b1.1
  have ln := numL_len10 (v := n) (by omega)
  have lm := numL_len10 (v := m) (by omega)
  have pn := numL_pos n
  have d10 : decide (((numL n).length : Int) ≤ 10) = true := by simp; omega
  have He := hid (len_half _ _ _ (Nat.le_refl _) (zig_twin a2).1)
  have Ht := hid (neg_twin w2)
  have Hw := hid (twin_wf w2)
  clear b0 b1 w0 w1
  by_cases hgt : m < n
  · go_enter Try.func9, Try.ntmps9
    go_wp2_with fail
    refine (awake_any _).mono ?_
    rintro e w1 ⟨rfl, hb1⟩
    go_wp2_with fail
    refine (int_any _ _ w2).mono ?_
    rintro e w3 h3
    obtain ⟨ao3, c3, rfl, -, hb3⟩ := h3.elim
    clear h3
    go_wp2_with fail
    rw [Ht.out]
    refine (int_any _ _ Hw.out).mono ?_
    rintro e w4 h4
    obtain ⟨ao4, c4, rfl, -, hb4⟩ := h4.elim
    clear h4
    rw [He.out]
    go_wp2_with fail
    refine (num_any _ _ ln).mono ?_
    rintro e w5 h5
    obtain ⟨ao5, c5, rfl, -, hb5⟩ := h5.elim
    clear h5
    go_wp2_with fail
    refine (num_any _ _ ln).mono ?_
    rintro e w6 h6
    obtain ⟨ao6, c6, rfl, -, hb6⟩ := h6.elim
    clear h6
    go_wp2_with fail
    go_ret
    exact ⟨rfl, ((((hb1.trans (hb3.mono hb1.size)).trans (hb4.mono (by have := hb1.size; have := hb3.size; omega))).trans (hb5.mono (by have := hb1.size; have := hb3.size; have := hb4.size; omega))).trans (hb6.mono (by have := hb1.size; have := hb3.size; have := hb4.size; have := hb5.size; omega)))⟩
  · have hle : (numL n).length ≤ (numL m).length := numL_mono m n m (Nat.le_refl _) (by omega)
    go_enter Try.func9, Try.ntmps9
    go_wp2_with fail
    refine (awake_any _).mono ?_
    rintro e w1 ⟨rfl, hb1⟩
    go_wp2_with fail
    refine (num_any _ _ ln).mono ?_
    rintro e w1a h3
    obtain ⟨ao3, c3, rfl, -, hb1a⟩ := h3.elim
    clear h3
    go_wp2_with fail
    refine (num_any _ _ lm).mono ?_
    rintro e w1b h3
    obtain ⟨ao3, c3, rfl, -, hb1b⟩ := h3.elim
    clear h3
    go_wp2_with fail
    refine (int_any _ _ w2).mono ?_
    rintro e w3 h3
    obtain ⟨ao3, c3, rfl, -, hb3⟩ := h3.elim
    clear h3
    go_wp2_with fail
    rw [Ht.out]
    refine (int_any _ _ Hw.out).mono ?_
    rintro e w4 h4
    obtain ⟨ao4, c4, rfl, -, hb4⟩ := h4.elim
    clear h4
    rw [He.out]
    go_wp2_with fail
    refine (num_any _ _ ln).mono ?_
    rintro e w5 h5
    obtain ⟨ao5, c5, rfl, -, hb5⟩ := h5.elim
    clear h5
    go_wp2_with fail
    refine (num_any _ _ ln).mono ?_
    rintro e w6 h6
    obtain ⟨ao6, c6, rfl, -, hb6⟩ := h6.elim
    clear h6
    go_wp2_with fail
    go_ret
    have s1 := hb1.size
    have s2 := hb1a.size
    have s3 := hb1b.size
    have s4 := hb3.size
    have s5 := hb4.size
    have s6 := hb5.size
    exact ⟨rfl, hb1.trans ((hb1a.mono (by omega)).trans ((hb1b.mono (by omega)).trans ((hb3.mono (by omega)).trans ((hb4.mono (by omega)).trans ((hb5.mono (by omega)).trans (hb6.mono (by omega)))))))⟩

end Go.Proofs.Ytmkcdckemaohdaa.codeLonger
