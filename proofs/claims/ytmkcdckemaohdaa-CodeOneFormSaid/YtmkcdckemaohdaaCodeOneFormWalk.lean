/-
  THE LAW CodeOneForm: the walk.
-/
import Derived.Test.YtmkcdckemaohdaaBack
import Derived.Test.YtmkcdckemaohdaaLaw
import Derived.BigQuiet
import Derived.Deep.RegionWith
import Derived.Deep.QuietTactic
namespace Go.Proofs.Ytmkcdckemaohdaa.codeOneForm
open Go.RowKit

set_option maxHeartbeats 2000000 in
set_option maxRecDepth 100000 in
theorem walk (a0 : Option Addr) (len0 cap0 : Nat) (z0 : List Int) (a1 : Int) (w : World) (w0 : IsRow .u8 w a0 len0 cap0 z0) (b0 : cap0 * 1 ≤ 140737488351232) (w1 : (Lit.int .u64 a1).wf = true) :
    Calls Try.prog 6 #[.slice a0 len0 cap0, .int .u64 a1] w fun e w' => e = .returned (.bool true) ∧ Below w.heap.size w w' := by
  have hb1 := bounds_u64 w1
  obtain ⟨v, rfl⟩ := Int.eq_ofNat_of_zero_le hb1.1
  have hv64 : Hid (v < 2 ^ 64) := by show v < 2 ^ 64; omega
  have lv := numL_len10 hv64.out
  have pv := numL_pos v
  have hcap : len0 ≤ cap0 := by rcases w0 with ⟨_, rfl, rfl, _⟩ | ⟨_, _, h, _⟩ <;> omega
  obtain ⟨l, hll, hr⟩ := rd_of_row w0
  subst hll
  have hl : cap0 ≤ 140737488351232 := by omega
  have hbd := rdN_bounds l 0 0 (by decide) (by omega)
  have hinv := rdN_inv l 0 0
  have HL := hid (lookS_num (l := l))
  clear hb1 w0 w1 b0
  go_enter Try.func6, Try.ntmps6
  go_wp2_with fail
  refine (new_any w _ _ hr (by omega)).mono ?_
  rintro e x6 ⟨R, rfl, hR, h6, B6⟩
  have hRw : Hid (w.heap.size ≤ R) := hR
  have H6 := hid h6
  clear h6 hR
  go_wp2_with fail
  refine (awake_any x6).mono ?_
  rintro e x7 ⟨rfl, g7⟩
  have H7 := hid (H6.out.old g7)
  have B7 := B6.trans (g7.mono B6.size)
  clear H6 g7 B6
  go_wp2_with fail
  refine (numR_any x7 R l 0 H7.out).mono ?_
  rintro e x8 ⟨rfl, h8, g8⟩
  have B8 := B7.grown g8 B7.size (fun k hk => by cases hk; exact hRw.out)
  rw [HL.out] at *
  generalize rdN 0 0 l = t at *
  obtain ⟨y, n, er⟩ := t
  simp only at *
  have H8 := hid h8
  have hn : n ≤ l.length := by omega
  have hdl : (l.drop n).length = l.length - n := List.length_drop
  have hsub : (l.length : Int) - ((l.length - n : Nat) : Int) = (n : Int) := by omega
  have Hy : Hid (y < 2 ^ 64) := hbd.1
  clear h8 g8 B7 H7 HL
  go_wp2_with fail
  refine (left_any x8 R _ _ H8.out).mono ?_
  rintro e x9 ⟨rfl, rfl⟩
  by_cases her : er = 0
  · subst her
    obtain ⟨x, e1, e2, e3, -⟩ := hinv y n (by omega) rfl
    have hxy : x = y := by simp at e1; exact e1.symm
    subst hxy
    have hnl : n = (numL x).length := by omega
    have hpre : Hid (numL x = l.take n) := by rw [hnl]; exact e3
    have lx := numL_len10 Hy.out
    have hr8 := hid (hr.old B8)
    have hrt : Hid (Rd x8 (.slice a0 n cap0) (l.take n)) := (hr.old B8).take n hn
    clear hinv hbd hdl e1 e2 e3 hnl
    have hncap : (n : Int) ≤ (cap0 : Int) := by omega
    have hB : (numL x == l.take n) = true := by rw [hpre.out]; simp
    go_wp2_with fail
    go_region_with (first
      | (go_at_call 31; refine (err_any x8.drew R _ 0 (show RAt x8.drew R _ 0 from H8.out)).mono ?_; rintro en w9 ⟨rfl, rfl⟩)
      | (go_at_call 14; refine (num_any x x8.drew lx).mono ?_; rintro en w9 h9; obtain ⟨ao9, c9, rfl, o9, g9⟩ := h9.elim; have i9 := hid (Rd.own o9); have B9 := B8.drew.trans (g9.mono B8.size); have H9 := hid (RAt.old (w := x8.drew) (show RAt x8.drew R _ 0 from H8.out) g9); have r9 : Hid (Rd w9 (.slice a0 n cap0) (l.take n)) := (hr.old B9).take n hn; clear h9 o9 g9)
      | (go_at_call 13; refine (bytes_any _ _ (numL x) (l.take n) w9 i9.out r9.out).mono ?_; rintro en w10 ⟨rfl, rfl⟩))
    go_wp2_with fail
    refine (num_any v w9 lv).mono ?_
    rintro en w11 h11
    obtain ⟨ao11, c11, rfl, o11, g11⟩ := h11.elim
    have B11 := B9.trans (g11.mono B9.size)
    have hlc : (numL v).length ≤ c11 := by obtain ⟨_, _, hx, hx1, _⟩ := Rd.own o11; simp only [Value.slice.injEq] at hx; omega
    have hs1 : ((numL v).length : Int) - 1 = (((numL v).length - 1 : Nat) : Int) := by omega
    have i11 : Hid (Rd w11 (.slice ao11 ((numL v).length - 1) c11) (numL v).dropLast) := by
      rw [List.dropLast_eq_take]
      exact (Rd.own o11).take _ (by omega)
    have hle11 : ((numL v).length - 1 : Nat) ≤ c11 := by omega
    clear h11 o11 g11
    go_wp2_with fail
    refine (new_any w11 _ _ i11.out (by rw [List.length_dropLast]; omega)).mono ?_
    rintro e w12 ⟨R2, rfl, hR2, h12, g12⟩
    have B12 := B11.trans (g12.mono B11.size)
    have hRw2 : Hid (w.heap.size ≤ R2) := Nat.le_trans B11.size hR2
    have H12 := hid h12
    clear h12 hR2 g12 i11
    go_wp2_with fail
    refine (numR_any w12 R2 _ 0 H12.out).mono ?_
    rintro e w13 ⟨rfl, h13, g13⟩
    have B13 := B12.grown g13 B12.size (fun k hk => by cases hk; exact hRw2.out)
    rw [lookS_num, rdN_dropLast hv64.out] at *
    have H13 : Hid (RAt w13 R2 (numL v).dropLast 8) := h13
    clear h13 g13
    go_wp2_with fail
    refine (err_any w13 R2 _ 8 H13.out).mono ?_
    rintro e w14 ⟨rfl, rfl⟩
    go_wp2_with fail
    go_ret
    exact ⟨rfl, B13⟩
  · have her' : (er == 0) = false := by simp [her]
    have B8' : ∀ nq, Below w.heap.size w (x8.drewN nq) := fun nq => ⟨B8.os, B8.tape, B8.output, B8.size, B8.block⟩
    clear hinv hbd hdl
    go_wp2_with fail
    have C := fun nq => (err_any (x8.drewN nq) R (l.drop n) er H8.out).mono (R' := fun e w' => e = .returned (.int .i64 er) ∧ w' = x8.drewN nq) fun _ _ h => ⟨h.1, h.2.symm⟩
    go_quiet ((go_at_call 31; exact Calls.quiet_of_same (C _)))
    go_wp2_with fail
    refine (num_any v (x8.drewN _) lv).mono ?_
    rintro en w11 h11
    obtain ⟨ao11, c11, rfl, o11, g11⟩ := h11.elim
    have B11 := (B8' _).trans (g11.mono (B8' 0).size)
    have hlc : (numL v).length ≤ c11 := by obtain ⟨_, _, hx, hx1, _⟩ := Rd.own o11; simp only [Value.slice.injEq] at hx; omega
    have hs1 : ((numL v).length : Int) - 1 = (((numL v).length - 1 : Nat) : Int) := by omega
    have i11 : Hid (Rd w11 (.slice ao11 ((numL v).length - 1) c11) (numL v).dropLast) := by
      rw [List.dropLast_eq_take]
      exact (Rd.own o11).take _ (by omega)
    have hle11 : ((numL v).length - 1 : Nat) ≤ c11 := by omega
    clear h11 o11 g11
    go_wp2_with fail
    refine (new_any w11 _ _ i11.out (by rw [List.length_dropLast]; omega)).mono ?_
    rintro e w12 ⟨R2, rfl, hR2, h12, g12⟩
    have B12 := B11.trans (g12.mono B11.size)
    have hRw2 : Hid (w.heap.size ≤ R2) := Nat.le_trans B11.size hR2
    have H12 := hid h12
    clear h12 hR2 g12 i11
    go_wp2_with fail
    refine (numR_any w12 R2 _ 0 H12.out).mono ?_
    rintro e w13 ⟨rfl, h13, g13⟩
    have B13 := B12.grown g13 B12.size (fun k hk => by cases hk; exact hRw2.out)
    rw [lookS_num, rdN_dropLast hv64.out] at *
    have H13 : Hid (RAt w13 R2 (numL v).dropLast 8) := h13
    clear h13 g13
    go_wp2_with fail
    refine (err_any w13 R2 _ 8 H13.out).mono ?_
    rintro e w14 ⟨rfl, rfl⟩
    go_wp2_with fail
    go_ret
    exact ⟨rfl, B13⟩
end Go.Proofs.Ytmkcdckemaohdaa.codeOneForm
