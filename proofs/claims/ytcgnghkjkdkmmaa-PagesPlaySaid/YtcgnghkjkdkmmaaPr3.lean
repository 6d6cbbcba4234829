/-
  PAIRS: the helpers Part, Put.
-/
import Derived.Test.YtcgnghkjkdkmmaaPr2
set_option linter.unusedVariables false
namespace Go.Proofs.Ytcgnghkjkdkmmaa
open Go.RowKit

theorem below_drew1 {w wr w2 : World} (h : Below w.heap.size w wr) (g : Below wr.drew.heap.size wr.drew w2) : Below w.heap.size w w2 :=
  h.trans ((⟨g.os, g.tape, g.output, g.size, g.block⟩ : Below wr.heap.size wr w2).mono h.size)

set_option maxHeartbeats 8000000 in
set_option maxRecDepth 100000 in
theorem part_any (x fv tv : Value) (M : List Lp) (f t : List UInt8) (w : World) (hx : Prs w x M) (hf : Rd w fv f) (ht : Rd w tv t) (hl : M.length ≤ 100000) :
    Calls Try.prog 14 #[x, .agg #[fv, tv]] w (MadeP w (M.filter (fun m => inSpan f t m.key))) := by
  obtain ⟨ao, c, rfl, hm⟩ := hx.form
  have hff := hf
  have htt := ht
  obtain ⟨fa, fc, rfl, -⟩ := hff
  obtain ⟨ta, tc, rfl, -⟩ := htt
  have B1 := (Below.refl w.heap.size w).alloc (Nat.le_refl _) (.cells #[.slice fa f.length fc, .slice ta t.length tc] 25)
  have HX := hid hx
  have HF := hid hf
  have HT := hid ht
  have HB0 := hid B1
  have HS : Hid ((w.alloc (.cells #[.slice fa f.length fc, .slice ta t.length tc] 25)).heap.size = w.heap.size + 1) := by simp [Hid]
  have HG : Hid ((w.alloc (.cells #[.slice fa f.length fc, .slice ta t.length tc] 25)).heap[w.heap.size]? = some (.cells #[.slice fa f.length fc, .slice ta t.length tc] 25 (0, 0))) := heap_alloc_new _ _
  clear hx hf ht hm B1
  go_enter Try.func14, Try.ntmps14
  go_wp2_with fail
  generalize w.alloc (.cells #[.slice fa f.length fc, .slice ta t.length tc] 25) = w1 at *
  go_loopw [5, 6] (fun z i wr => ∃ (k : Nat) (acc : List Lp), k ≤ M.length ∧ i = .int .i64 k ∧ acc.length ≤ k ∧ acc = (M.take k).filter (fun m => inSpan f t m.key) ∧ wr.ownsRow w1.heap.size 31 3 z acc.length (acc.map rowP).flatten ∧ Below w1.heap.size w1 wr) (fun _ i _ => M.length - (intOf i).toNat)
  case atStart => exact ⟨0, [], by omega, rfl, by simp, by simp, World.ownsRow_nil _ _ _ _, Below.refl _ _⟩
  case round =>
    obtain ⟨k, acc, hk, rfl, hal, hacc, hown, hb⟩ := hrel
    have HB := hid hb
    have HBW := hid (HB0.out.trans (hb.mono HB0.out.size))
    have HA := hid hacc
    have HO := hid hown
    have HGi := two_cells ((hb.block w.heap.size (by rw [HS.out]; exact Nat.lt_succ_self _)).trans HG.out)
    obtain ⟨s1, s2, -, -⟩ := HGi
    clear hb hacc hown
    by_cases hlt : k < M.length
    · have hv := List.getElem?_eq_getElem hlt
      generalize M[k] = m at *
      obtain ⟨b, off, rfl, d1, d2, d3⟩ := (HX.out.old HBW.out).get hv
      have hrd := (HX.out.old HBW.out).at hv
      have hbd : Below w.heap.size w wr.drew := ⟨HBW.out.os, HBW.out.tape, HBW.out.output, HBW.out.size, HBW.out.block⟩
      have C := within_any _ _ _ f t m.key wr.drew (HF.out.old hbd) (HT.out.old hbd) (show Rd wr.drew _ _ from hrd.1)
      have HRD := hid hrd
      have HFL := hid (filter_take (fun m => inSpan f t m.key) hv)
      have HV := hid hv
      clear hv hrd hbd
      cases h : inSpan f t m.key with
      | false =>
        rw [h] at C
        have HTT : Hid ((M.take (k + 1)).filter (fun m => inSpan f t m.key) = acc) := by show _ = _; rw [HFL.out, HA.out, h]; simp
        go_wp2_with fail
        go_region_with (first | (go_at_call 33; refine C.mono ?_; rintro e w2 ⟨rfl, hb2⟩))
        all_goals
          have HB2 : Hid (Below w1.heap.size w1 w2) := below_drew1 HB.out hb2
          have HO2 := hid (own_old (show wr.drew.ownsRow w1.heap.size 31 3 u5 acc.length (acc.map rowP).flatten from HO.out) hb2)
          clear hb2
          go_wp2_with fail
          go_roundw
          · exact ⟨k + 1, acc, by omega, by go_num, by omega, HTT.out.symm, HO2.out, HB2.out⟩
          · simp [intOf]; omega
      | true =>
        rw [h] at C
        have HTT : Hid ((M.take (k + 1)).filter (fun m => inSpan f t m.key) = acc ++ [m]) := by show _ = _; rw [HFL.out, HA.out, h]; simp
        go_wp2_with fail
        go_region_with (first | (go_at_call 33; refine C.mono ?_; rintro e w2 ⟨rfl, hb2⟩))
        all_goals
          have HB2 : Hid (Below w1.heap.size w1 w2) := below_drew1 HB.out hb2
          have HO2 := hid (own_old (show wr.drew.ownsRow w1.heap.size 31 3 u5 acc.length (acc.map rowP).flatten from HO.out) hb2)
          have HBW2 := hid (HB0.out.trans (HB2.out.mono HB0.out.size))
          have HRD2 := hid ((HX.out.old HBW2.out).at HV.out)
          obtain ⟨b', off', hbo, k1, k2, k3⟩ := (HX.out.old HBW2.out).get HV.out
          simp only [Option.some.injEq, Addr.mk.injEq, and_true] at hbo
          obtain ⟨rfl, rfl⟩ := hbo
          have hao := hid (HO2.out.alloc (.cells (rowP m).toArray 31))
          have hv1 : Hid (Rws 3 (w2.alloc (.cells (rowP m).toArray 31)) (.slice (some ⟨w2.heap.size, 0, none⟩) 1 1) [rowP m]) := Rws.one rfl HRD2.out.wide
          clear hb2 d1 d2 d3 s1 s2 C
          go_wp2_with (first
            | (at_builtin; refine wp_rapp rfl _ _ 29 rfl w1.heap.size 3 56 31 Try.underlying29 _ info_pair (by decide) (by decide) _ _ _ rfl hao.out _ [rowP m] rfl hv1.out ?c1 ?c2 ?c3 ?_))
          case c1 => simp; omega
          case c2 => unfold maxLen; simp; omega
          case c3 => have := HB2.out.size; simp; omega
          intro x4 w4 o4 g4
          obtain ⟨q1, q2⟩ := pstep HB2.out (Nat.le_refl _) HO2.out o4 g4
          clear o4 g4
          go_wp2_with fail
          go_roundw
          · exact ⟨k + 1, acc ++ [m], by omega, by go_num, by simp; omega, HTT.out.symm, q1.out, q2.out⟩
          · simp [intOf]; omega
    · obtain rfl : k = M.length := by omega
      rw [List.take_length] at HA
      go_wp2_with fail
      go_ret
      have := HO.out
      rw [HA.out] at this
      exact ⟨_, rfl, ownsRow_base this HB0.out.size, HBW.out⟩
end Go.Proofs.Ytcgnghkjkdkmmaa
