/-
  THE LAW CodeWrites: the walk.
-/
import Derived.Test.YtmkcdckemaohdaaOwn
import Derived.Test.YtmkcdckemaohdaaRefNum
import Derived.Test.YtmkcdckemaohdaaLaw
namespace Go.Proofs.Ytmkcdckemaohdaa.codeWrites
open Go.RowKit

set_option maxHeartbeats 2000000 in
set_option maxRecDepth 100000 in
theorem walk (a0 : Int) (a1 : Int) (a2 : Option Addr) (len2 cap2 : Nat) (z2 : List Int) (w : World) (w0 : (Lit.int .u64 a0).wf = true) (w1 : (Lit.int .i64 a1).wf = true) (w2 : IsRow .u8 w a2 len2 cap2 z2) (b2 : cap2 * 1 ≤ 140737488351232) :
    Calls Try.prog 3 #[.int .u64 a0, .int .i64 a1, .slice a2 len2 cap2] w fun e w' => e = .returned (.bool true) ∧ Below w.heap.size w w' := by
  have hb0 := bounds_u64 w0
  obtain ⟨n, rfl⟩ := Int.eq_ofNat_of_zero_le hb0.1
  have hn64 : Hid (n < 2 ^ 64) := by show n < 2 ^ 64; omega
  have ln := numL_len10 hn64.out
  have hcap : len2 ≤ cap2 := by rcases w2 with ⟨_, rfl, rfl, _⟩ | ⟨_, _, h, _⟩ <;> omega
  obtain ⟨l, hll, hr⟩ := rd_of_row w2
  subst hll
  have hl : l.length ≤ 140737488351232 := by omega
  clear hb0 w0 w2 b2 hcap
  go_enter Try.func3, Try.ntmps3
  go_wp2_with fail
  refine (own_any _ l 71 w hr (by omega)).mono ?_
  rintro e x1 ⟨g, rfl, hg, o1, B1⟩
  have HO := hid o1
  have hgo : Hid (w.heap.size ≤ g) := hg
  have r1 : Rd x1 (.slice (some ⟨g, 0, none⟩) l.length (l.length + 3)) l := Rd.of_full o1 (by omega) (by rw [List.take_left' (by simp)]) rfl
  clear o1 hg
  go_wp2_with fail
  refine (text_any _ l x1 r1 (by omega)).mono ?_
  rintro e x2 h2
  obtain ⟨ao2, c2, rfl, o2, g2⟩ := h2.elim
  have B2 := B1.trans (g2.mono B1.size)
  have H2 := hid (own_old HO.out g2)
  have t2 := hid (Rd.own o2)
  clear h2 o2 g2 B1 HO r1
  go_wp2_with fail
  refine (awake_any x2).mono ?_
  rintro e x3 ⟨rfl, g3⟩
  have B3 := B2.trans (g3.mono B2.size)
  have H3 := hid (own_old H2.out g3)
  have t3 := hid (t2.out.old g3)
  clear g3 B2 H2 t2
  go_wp2_with fail
  refine (num_any n x3 ln).mono ?_
  rintro e x4 h4
  obtain ⟨ao4, c4, rfl, o4, g4⟩ := h4.elim
  have B4 := B3.trans (g4.mono B3.size)
  have H4 := hid (own_old H3.out g4)
  have t4 := hid (t3.out.old g4)
  have a4 := hid (Rd.own o4)
  clear h4 o4 g4 B3 H3 t3
  go_wp2_with fail
  refine (rnum_any n x4 ln hn64.out).mono ?_
  rintro e x5 h5
  obtain ⟨ao5, c5, rfl, o5, g5⟩ := h5.elim
  have B5 := B4.trans (g5.mono B4.size)
  have H5 := hid (own_old H4.out g5)
  have t5 := hid (t4.out.old g5)
  have a5 := hid (a4.out.old g5)
  have b5 := hid (Rd.own o5)
  clear h5 o5 g5 B4 H4 t4 a4
  go_wp2_with fail
  refine (bytes_any _ _ (numL n) (numL n) x5 a5.out b5.out).mono ?_
  rintro e x6 ⟨rfl, rfl⟩
  rw [show (numL n == numL n) = true from by simp]
  clear a5 b5
  go_wp2_with fail
  refine (int_any a1 x5 w1).mono ?_
  rintro e x4 h4
  obtain ⟨ao4, c4, rfl, o4, g4⟩ := h4.elim
  have B6 := B5.trans (g4.mono B5.size)
  have H6 := hid (own_old H5.out g4)
  have t6 := hid (t5.out.old g4)
  have a4 := hid (Rd.own o4)
  clear h4 o4 g4 B5 H5 t5
  go_wp2_with fail
  refine (rint_any a1 x4 w1).mono ?_
  rintro e x5 h5
  obtain ⟨ao5, c5, rfl, o5, g5⟩ := h5.elim
  have B7 := B6.trans (g5.mono B6.size)
  have H7 := hid (own_old H6.out g5)
  have t7 := hid (t6.out.old g5)
  have a5 := hid (a4.out.old g5)
  have b5 := hid (Rd.own o5)
  clear h5 o5 g5 B6 H6 t6 a4
  go_wp2_with fail
  refine (bytes_any _ _ (numL (zig a1)) (numL (zig a1)) x5 a5.out b5.out).mono ?_
  rintro e x6 ⟨rfl, rfl⟩
  rw [show (numL (zig a1) == numL (zig a1)) = true from by simp]
  clear a5 b5
  go_wp2_with fail
  refine (rtext_any _ l x5 (hr.old B7) (by omega)).mono ?_
  rintro e x6 h6
  obtain ⟨ao6, c6, rfl, o6, g6⟩ := h6.elim
  have B8 := B7.trans (g6.mono B7.size)
  have H8 := hid (own_old H7.out g6)
  have t8 := hid (t7.out.old g6)
  have b8 := hid (Rd.own o6)
  clear h6 o6 g6 B7 H7 t7
  go_wp2_with fail
  refine (bytes_any _ _ (textL l) (textL l) x6 t8.out b8.out).mono ?_
  rintro e x7 ⟨rfl, rfl⟩
  rw [show (textL l == textL l) = true from by simp]
  clear t8 b8
  go_wp2_with fail
  refine (kept_any _ l 71 x6 g w.heap.size (hr.old B8) (by omega) H8.out).mono ?_
  rintro e x7 hd
  have B9 := B8.trans (hd.below.mono B8.size)
  obtain ⟨rfl, -⟩ := hd
  go_wp2_with fail
  go_ret
  exact ⟨rfl, B9⟩
end Go.Proofs.Ytmkcdckemaohdaa.codeWrites
