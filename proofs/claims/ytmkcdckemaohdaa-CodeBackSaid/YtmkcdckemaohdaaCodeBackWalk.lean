/-
  THE LAW CodeBack: the walk.
-/
import Derived.Test.YtmkcdckemaohdaaBack
import Derived.Test.YtmkcdckemaohdaaLaw
namespace Go.Proofs.Ytmkcdckemaohdaa.codeBack
open Go.RowKit

set_option maxHeartbeats 2000000 in
set_option maxRecDepth 100000 in
theorem walk (a0 : Int) (a1 : Int) (a2 : Option Addr) (len2 cap2 : Nat) (z2 : List Int) (w : World) (w0 : (Lit.int .u64 a0).wf = true) (w1 : (Lit.int .i64 a1).wf = true) (w2 : IsRow .u8 w a2 len2 cap2 z2) (b2 : cap2 * 1 ≤ 140737488351232) :
    Calls Try.prog 5 #[.int .u64 a0, .int .i64 a1, .slice a2 len2 cap2] w fun e w' => e = .returned (.bool true) ∧ Below w.heap.size w w' := by
  have hb0 := bounds_u64 w0
  obtain ⟨n, rfl⟩ := Int.eq_ofNat_of_zero_le hb0.1
  have hn64 : Hid (n < 2 ^ 64) := by show n < 2 ^ 64; omega
  have ln := numL_len10 hn64.out
  have lz := numL_zig w1
  have hcap : len2 ≤ cap2 := by rcases w2 with ⟨_, rfl, rfl, _⟩ | ⟨_, _, h, _⟩ <;> omega
  obtain ⟨l, hll, hr⟩ := rd_of_row w2
  subst hll
  have hl : l.length ≤ 140737488351232 := by omega
  have lt := numL_len10 (v := l.length) (by omega)
  clear hb0 w0 w2 b2 hcap
  go_enter Try.func5, Try.ntmps5
  go_wp2_with fail
  refine (num_any n w ln).mono ?_
  rintro e x1 h1
  obtain ⟨ao1, c1, rfl, o1, B1⟩ := h1.elim
  clear h1
  go_wp2_with fail
  refine (int_any a1 x1 w1).mono ?_
  rintro e x2 h1
  obtain ⟨ao2, c2, rfl, o2, g2⟩ := h1.elim
  have B2 := B1.trans (g2.mono B1.size)
  have o1' := o1.kept (grown_below g2 none) (by cases ao1 <;> simp [Value.ownBlock])
  have i2 := Rd.own o2
  have s2 := B2.size
  clear h1 o1 o2 g2 B1
  go_wp2_with (first
      | (at_builtin; refine wp_app rfl _ _ 23 rfl w.heap.size 5 Try.underlying23 (by kernel_rfl) _ _ _ rfl o1' _ _ rfl i2 ?c1 ?c2 ?_))
  case c1 => omega
  case c2 => omega
  intro v3 x3 o3 g3
  have B3 := B2.grown g3 s2 (fun k hk => (o1'.lt k hk).1)
  clear o1' i2 B2 g3
  go_wp2_with fail
  refine (text_any _ l x3 (hr.old B3) (by omega)).mono ?_
  rintro e x4 h1
  obtain ⟨ao4, c4, rfl, o4, g4⟩ := h1.elim
  have o3' := o3.kept (grown_below g4 none) (by cases h : v3.ownBlock <;> simp)
  have B4 := B3.trans (g4.mono B3.size)
  have i4 := Rd.own o4
  have s4 := B4.size
  have lt4 : (textL l).length ≤ l.length + 10 := by unfold textL; simp; omega
  clear h1 o3 o4 g4 B3
  go_wp2_with (first
      | (at_builtin; refine wp_app rfl _ _ 23 rfl w.heap.size 5 Try.underlying23 (by kernel_rfl) _ _ _ rfl o3' _ _ rfl i4 ?d1 ?d2 ?_))
  case d1 => omega
  case d2 => omega
  intro v5 x5 o5 g5
  have B5 := B4.grown g5 s4 (fun k hk => (o3'.lt k hk).1)
  have i5 : Hid (Rd x5 v5 (numL n ++ (numL (zig a1) ++ textL l))) := Rd.own (base := w.heap.size) (e := 5) (by
    have e1 : (numL n ++ (numL (zig a1) ++ textL l)).map bv = (numL n).map bv ++ ((numL (zig a1)).map bv ++ (textL l).map bv) := by simp
    have e2 : (numL n ++ (numL (zig a1) ++ textL l)).length = (numL n).length + (numL (zig a1)).length + (textL l).length := by simp; omega
    rw [e1, e2]; exact o5)
  have hlen : Hid ((numL n ++ (numL (zig a1) ++ textL l)).length ≤ 140737488355328) := by show _ ≤ _; simp; omega
  clear o3' i4 B4 g5 o5 ln lz lt
  go_wp2_with fail
  refine (new_any x5 v5 _ i5.out hlen.out).mono ?_
  rintro e x6 ⟨R, rfl, hR, h6, g6⟩
  have B6 := B5.trans (g6.mono B5.size)
  have hRw : Hid (w.heap.size ≤ R) := Nat.le_trans B5.size hR
  have H6 := hid h6
  clear i5 B5 g6 h6 hR s2 s4 lt4
  go_wp2_with fail
  refine (awake_any x6).mono ?_
  rintro e x7 ⟨rfl, g7⟩
  have H7 := hid (H6.out.old g7)
  have B7 := B6.trans (g7.mono B6.size)
  clear H6 g7 B6
  by_cases hbig : 1048576 < l.length
  · have hbig' : (1048576 : Int) < (l.length : Int) := by omega
    go_wp2_with fail
    refine (awake_any x7).mono ?_
    rintro e x8 ⟨rfl, g8⟩
    have B8 := B7.trans (g8.mono B7.size)
    go_wp2_with fail
    go_ret
    exact ⟨rfl, B8⟩
  · have hbig' : ¬ (1048576 : Int) < (l.length : Int) := by omega
    go_wp2_with fail
    refine (numR_back x7 R n _ hn64.out H7.out).mono ?_
    rintro e x8 ⟨rfl, h8, g8⟩
    have B8 := B7.grown g8 B7.size (fun k hk => by cases hk; exact hRw.out)
    have H8 := hid h8
    clear h8 g8 B7
    go_wp2_with fail
    refine (intR_back x8 R a1 _ w1 H8.out).mono ?_
    rintro e x9 ⟨rfl, h9, g9⟩
    have B9 := B8.grown g9 B8.size (fun k hk => by cases hk; exact hRw.out)
    have H9 := hid h9
    clear h9 g9 B8
    go_wp2_with fail
    refine (textR_back x9 R l [] 1048576 (by decide) (by show l.length ≤ 1048576; omega) (by simpa using H9.out) (by have := hlen.out; simp at this ⊢; omega)).mono ?_
    rintro e x10 ⟨ao10, c10, rfl, o10, h10, g10⟩
    have B10 := B9.grown g10 B9.size (fun k hk => by cases hk; exact hRw.out)
    have H10 := hid h10
    have i10 := hid (Rd.own o10)
    have hr10 := hid (hr.old B10)
    clear h10 g10 o10 B9
    go_wp2_with fail
    refine (bytes_any _ _ l l x10 i10.out hr10.out).mono ?_
    rintro e x11 ⟨rfl, rfl⟩
    rw [show (l == l) = true from by simp]
    go_wp2_with fail
    refine (endR_any x10 R [] 0 H10.out).mono ?_
    rintro e x11 ⟨rfl, rfl⟩
    rw [show endS [] 0 = 0 from rfl]
    go_wp2_with fail
    refine (left_any x10 R [] 0 H10.out).mono ?_
    rintro e x11 ⟨rfl, rfl⟩
    go_wp2_with fail
    go_ret
    exact ⟨rfl, B10⟩
end Go.Proofs.Ytmkcdckemaohdaa.codeBack
