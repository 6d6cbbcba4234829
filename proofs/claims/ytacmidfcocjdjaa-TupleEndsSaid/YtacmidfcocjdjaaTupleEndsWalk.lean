/-
  THE LAW TupleEnds: the walk.
-/
import Derived.Test.YtacmidfcocjdjaaTBegins
import Derived.Test.YtacmidfcocjdjaaLaw
namespace Go.Proofs.Ytacmidfcocjdjaa.tupleEnds
open Go.RowKit

theorem less_out {l z : List UInt8} (h : endL l ≠ []) (hz : ¬ l <+: z) : (Op.bytesLess z l || !Op.bytesLess z (endL l)) = true := by
  have hb := between l h z
  rw [less_eq, less_eq]
  by_cases h1 : Go.Lib.compareBytes z l = -1
  · simp [h1]
  · have h2 : ¬ Go.Lib.compareBytes z (endL l) = -1 := fun h2 => hz (hb.1 ⟨h1, h2⟩)
    simp [h1, h2]

set_option maxHeartbeats 4000000 in
set_option maxRecDepth 100000 in
theorem walk (a0 : Option Addr) (len0 cap0 : Nat) (z0 : List Int) (a1 : Option Addr) (len1 cap1 : Nat) (z1 : List Int) (a2 : Option Addr) (len2 cap2 : Nat) (z2 : List Int) (w : World)
    (w0 : IsRow .u8 w a0 len0 cap0 z0) (b0 : cap0 * 1 ≤ 140737488351232) (w1 : IsRow .u8 w a1 len1 cap1 z1) (b1 : cap1 * 1 ≤ 140737488351232) (w2 : IsRow .u8 w a2 len2 cap2 z2) (b2 : cap2 * 1 ≤ 140737488351232) :
    Calls Try.prog 8 #[.slice a0 len0 cap0, .slice a1 len1 cap1, .slice a2 len2 cap2] w fun e w' => e = .returned (.bool true) ∧ Below w.heap.size w w' := by
  obtain ⟨l, rfl, hr0⟩ := rd_of_row w0
  obtain ⟨m, rfl, hr1⟩ := rd_of_row w1
  obtain ⟨z, rfl, hr2⟩ := rd_of_row w2
  have HR0 := hid hr0
  have HR1 := hid hr1
  have HR2 := hid hr2
  have B0 := Below.refl w.heap.size w
  clear w0 w1 w2 b0 b1 b2 hr0 hr1 hr2
  by_cases g0 : 200 < l.length
  · go_enter Try.func8, Try.ntmps8
    go_wp2_with (first | (go_at_call 10; refine (awake_from (by assumption)).mono ?_; rintro e x1 ⟨rfl, B1⟩))
    go_ret
    exact ⟨rfl, by assumption⟩
  by_cases g1 : 200 < m.length
  · go_enter Try.func8, Try.ntmps8
    go_wp2_with (first | (go_at_call 10; refine (awake_from (by assumption)).mono ?_; rintro e x1 ⟨rfl, B1⟩))
    go_ret
    exact ⟨rfl, by assumption⟩
  by_cases g2 : 200 < z.length
  · go_enter Try.func8, Try.ntmps8
    go_wp2_with (first | (go_at_call 10; refine (awake_from (by assumption)).mono ?_; rintro e x1 ⟨rfl, B1⟩))
    go_ret
    exact ⟨rfl, by assumption⟩
  go_enter Try.func8, Try.ntmps8
  go_wp2_with (first | (go_at_call 10; refine (awake_from (by assumption)).mono ?_; rintro e x1 ⟨rfl, B1⟩))
  have C1 := end_any _ l x1 (HR0.out.old B1) (by omega)
  refine C1.mono ?_
  clear C1
  rintro e x2 h2
  obtain ⟨ao2, c2, rfl, o2, q2⟩ := h2.elim
  have B2 := B1.trans (q2.mono B1.size)
  have E2 := hid (Rd.own o2)
  clear h2 o2 q2 B1
  go_wp2_with fail
  have C1 := copy_any _ l x2 (HR0.out.old B2) (by omega)
  refine C1.mono ?_
  clear C1
  rintro e x3 ⟨y3, rfl, o3, q3⟩
  have Q3 := hid q3
  have HB2 := hid B2
  have O3 := hid o3
  have HS : Hid (x2.heap.size ≤ x3.heap.size) := q3.size
  have HR13 := hid (HR1.out.old (B2.trans (q3.mono B2.size)))
  clear o3 q3 B2
  go_wp2_with (first
    | (at_builtin; refine wp_app rfl _ _ 27 rfl x2.heap.size 5 Try.underlying27 (by kernel_rfl) _ _ _ rfl O3.out _ m rfl HR13.out ?c1 ?c2 ?_))
  case c1 => omega
  case c2 => exact HS.out
  intro v4 x4 o4 q4
  have B24 := Q3.out.grown q4 Q3.out.size (fun k hk => (O3.out.lt k hk).1)
  have R0 := hid (HR0.out.old (HB2.out.trans (B24.mono HB2.out.size)))
  have R2 := hid (HR2.out.old (HB2.out.trans (B24.mono HB2.out.size)))
  have RE := hid (E2.out.old B24)
  have o4' : x4.ownsRow x2.heap.size 5 1 v4 (l ++ m).length ((l ++ m).map bv) := by simpa using o4
  have RX := hid (Rd.own o4')
  have B4 := hid (HB2.out.trans (B24.mono HB2.out.size))
  clear o4 q4 B24 o4' O3 Q3 HS HB2 E2 HR13
  by_cases he : endL l = []
  · have HF := hid (endL_none l he)
    have hz : (endL l).length = 0 := by rw [he]; rfl
    by_cases hl0 : l = []
    · subst hl0
      go_wp2_with fail
      refine wp_loop_rounds 1 ?_
      rw [rounds_succ]
      go_wp2_with fail
      go_ret
      exact ⟨rfl, B4.out⟩
    · obtain ⟨b, off, cp, hx, h1, h2, hc⟩ := R0.out.at (List.length_pos_iff.2 hl0)
      simp only [Value.slice.injEq, true_and] at hx
      obtain ⟨rfl, rfl⟩ := hx
      have HC := hid hc
      clear hc
      go_wp2_with fail
      go_loop [9] (fun i => ∃ k : Nat, k ≤ l.length ∧ i = .int .i64 k) (fun i => l.length - (intOf i).toNat)
      case atStart => exact ⟨0, Nat.zero_le _, rfl⟩
      case round =>
        obtain ⟨k, hk, rfl⟩ := hrel
        by_cases hlt : k < l.length
        · have hck := HC.out k hlt
          rw [HF.out l[k] (List.getElem_mem hlt)] at hck
          have hck' : x4.cell? ⟨b, off + k, none⟩ = some (.int .u8 255) := hck
          clear hck
          go_wp2_with fail
          go_round
          case rel => exact ⟨k + 1, by omega, by go_num⟩
          case measure => simp [intOf]; omega
        · go_wp2_with fail
          go_ret
          exact ⟨rfl, B4.out⟩
  · have hz : ¬ (endL l).length = 0 := fun h => he (List.eq_nil_of_length_eq_zero h)
    have t1 := (RX.out).conv (P := Try.prog) 27 9 5 Try.underlying27 Try.underlying5 Try.underlying9
    have t2 := (RE.out).conv (P := Try.prog) 27 9 5 Try.underlying27 Try.underlying5 Try.underlying9
    have hin : Op.bytesLess (l ++ m) (endL l) = true := by
      rw [less_eq]
      exact decide_eq_true ((between l he (l ++ m)).2 (List.prefix_append _ _)).2
    have u2 := fun n => (show Rd (x4.drewN n) _ _ from RE.out).conv (P := Try.prog) 27 9 5 Try.underlying27 Try.underlying5 Try.underlying9
    have u3 := fun n => (show Rd (x4.drewN n) _ _ from R0.out).conv (P := Try.prog) 27 9 5 Try.underlying27 Try.underlying5 Try.underlying9
    have u4 := fun n => (show Rd (x4.drewN n) _ _ from R2.out).conv (P := Try.prog) 27 9 5 Try.underlying27 Try.underlying5 Try.underlying9
    have C := begins_any _ _ z l x4 R2.out R0.out
    by_cases hp : l <+: z
    · rw [decide_eq_true hp] at C
      go_wp2_with (first | (go_at_call 30; refine C.mono ?_; rintro e x5 ⟨rfl, n, rfl⟩))
      go_ret
      exact ⟨rfl, drew_below B4.out n⟩
    · rw [decide_eq_false hp] at C
      have hl := less_out he hp
      cases hb : Op.bytesLess z l with
      | true =>
        clear hl
        go_wp2_with (first | (go_at_call 30; refine C.mono ?_; rintro e x5 ⟨rfl, n, rfl⟩))
        go_ret
        exact ⟨rfl, drew_below B4.out n⟩
      | false =>
        have hc : Op.bytesLess z (endL l) = false := by rw [hb] at hl; simpa using hl
        clear hl
        go_wp2_with (first | (go_at_call 30; refine C.mono ?_; rintro e x5 ⟨rfl, n, rfl⟩))
        go_ret
        exact ⟨rfl, drew_below B4.out n⟩
end Go.Proofs.Ytacmidfcocjdjaa.tupleEnds
