/-
  THE REFERENCE's NUM, INT, TEXT.
-/
import Derived.Test.YtmkcdckemaohdaaNum
import Derived.Test.YtmkcdckemaohdaaText
namespace Go.Proofs.Ytmkcdckemaohdaa
open Go.RowKit

theorem bv_more2 (n : Nat) : Value.int IntKind.u8 ((n : Int) % 128 + 128) = bv (moreB n) := by
  unfold bv
  rw [moreB_toNat]
  have e : ((n % 128 + 128 : Nat) : Int) = (n : Int) % 128 + 128 := by omega
  rw [e]

set_option maxHeartbeats 400000 in
set_option maxRecDepth 100000 in
theorem rnum_any (v : Nat) (w : World) (hl : (numL v).length ≤ 10) (hv : v < 2 ^ 64) :
    Calls Try.prog 15 #[.int .u64 (v : Int)] w (Gives 5 w (numL v)) := by
  obtain ⟨i0, hi, hz0, hz1, hz2⟩ := info_parts Try.info_u8
  have HV := hid hv
  clear hv
  go_enter Try.func15, Try.ntmps15
  go_wp2
  go_loopw [0, 3] (fun a x wr => ∃ (n : Nat) (pre : List UInt8), n ≤ v ∧ a = .int .u64 (n : Int) ∧ pre ++ numL n = numL v ∧ wr.ownsRow w.heap.size 5 1 x pre.length (pre.map bv) ∧ Below w.heap.size w wr)
    (fun a _ _ => (intOf a).toNat)
  case atStart => exact ⟨v, [], Nat.le_refl _, rfl, rfl, World.ownsRow_nil _ _ _ _, Below.refl _ _⟩
  case round =>
    obtain ⟨n, pre, hnv, rfl, hpre, hown, hb⟩ := hrel
    have hw : IntKind.u64.wrap ((n : Int) / 128) = (n : Int) / 128 := by rw [wrap_u64]; have := HV.out; omega
    have Hpre := hid hpre
    have hpl : pre.length + 1 ≤ 10 := by
      have := congrArg List.length hpre
      have h2 := numL_pos n
      simp at this; omega
    clear hpre
    have hone : ∀ c, ∀ u ∈ [bv c], u.oneCell' = true := fun c => bv_one [c]
    by_cases hge : 128 ≤ n
    · go_wp2_with (first
        | (at_builtin; refine wpList_append_own _ rfl _ _ 23 rfl w.heap.size 5 i0 (.int .u8 0) 1 1 Try.underlying23 hi hz0 hz1 hz2 rfl (by decide) _ _ _ rfl (hown.alloc _) ⟨wr.heap.size, 0, none⟩ 1 1 [bv (moreB n)] rfl rfl ?c1 ?c2 ?c3 ?c4 ?c5 ?_))
      case c1 => rw [← bv_more2]; exact (cell_one_new _ _ _)
      case c2 => exact hone _
      case c3 => unfold maxLen; simp; omega
      case c4 => simp; omega
      case c5 => have := hb.size; simp; omega
      intro x' w1 hown' hgrow _
      have R := num_step hge Hpre hown hb hown' hgrow
      clear hown' hgrow hown hb
      go_wp2
      go_roundw
      case rel => exact ⟨n / 128, _, by omega, by go_num, R⟩
      case measure => simp [intOf]; omega
    · have hlt : n < 128 := by omega
      clear hge
      go_wp2_with (first
        | (at_builtin; refine wpList_append_own _ rfl _ _ 23 rfl w.heap.size 5 i0 (.int .u8 0) 1 1 Try.underlying23 hi hz0 hz1 hz2 rfl (by decide) _ _ _ rfl (hown.alloc _) ⟨wr.heap.size, 0, none⟩ 1 1 [bv (lastB n)] rfl rfl ?d1 ?d2 ?d3 ?d4 ?d5 ?_))
      case d1 => rw [← bv_last hlt]; exact (cell_one_new _ _ _)
      case d2 => exact hone _
      case d3 => unfold maxLen; simp; omega
      case d4 => simp; omega
      case d5 => have := hb.size; simp; omega
      intro x' w1 hown' hgrow _
      have R := num_end hlt Hpre hown hb hown' hgrow
      clear hown' hgrow hown hb
      go_wp2
      go_ret
      exact ⟨_, rfl, R⟩

/-- What 'uint64(-(v+1))*2 + 1' is, v below 0. -/
theorem rzig_neg {v : Int} (hv : (Lit.int .i64 v).wf = true) (hn : v < 0) :
    wrap64 (v + 1) = v + 1 ∧ wrap64 (-(v + 1)) = -(v + 1) ∧ IntKind.u64.wrap (-(v + 1)) = -(v + 1) ∧ IntKind.u64.wrap (-(v + 1) * 2) = -(v + 1) * 2 ∧ IntKind.u64.wrap (-(v + 1) * 2 + 1) = ((zig v : Nat) : Int) := by
  have hb := bounds_i64 hv
  refine ⟨?_, ?_, ?_, ?_, ?_⟩
  · simp only [wrap64]; omega
  · simp only [wrap64]; omega
  · rw [wrap_u64]; omega
  · rw [wrap_u64]; omega
  · rw [wrap_u64]; unfold zig; rw [if_pos hn]; omega

theorem rzig_pos {v : Int} (hv : (Lit.int .i64 v).wf = true) (hn : 0 ≤ v) :
    IntKind.u64.wrap v = v ∧ IntKind.u64.wrap (v * 2) = ((zig v : Nat) : Int) := by
  have hb := bounds_i64 hv
  refine ⟨?_, ?_⟩
  · rw [wrap_u64]; omega
  · rw [wrap_u64]; unfold zig; rw [if_neg (by omega)]; omega

set_option maxHeartbeats 400000 in
set_option maxRecDepth 100000 in
theorem rint_any (v : Int) (w : World) (hv : (Lit.int .i64 v).wf = true) :
    Calls Try.prog 17 #[.int .i64 v] w (Gives 5 w (numL (zig v))) := by
  have Hl := numL_zig hv
  have Hlt := hid (zig_lt hv)
  by_cases hn : v < 0
  · obtain ⟨f1, f2, f3, f4, f5⟩ := rzig_neg hv hn
    have Hz := hid f5
    clear hv f5
    go_enter Try.func17, Try.ntmps17
    go_wp2_with fail
    rw [Hz.out]
    refine (rnum_any _ _ Hl Hlt.out).mono ?_
    rintro e w' ⟨x, rfl, hx⟩
    go_wp2
    go_ret
    exact ⟨_, rfl, hx⟩
  · obtain ⟨f1, f2⟩ := rzig_pos hv (by omega)
    have Hz := hid f2
    clear hv f2
    go_enter Try.func17, Try.ntmps17
    go_wp2_with fail
    rw [Hz.out]
    refine (rnum_any _ _ Hl Hlt.out).mono ?_
    rintro e w' ⟨x, rfl, hx⟩
    go_wp2
    go_ret
    exact ⟨_, rfl, hx⟩

set_option maxHeartbeats 1000000 in
set_option maxRecDepth 100000 in
theorem rtext_any (x : Value) (l : List UInt8) (w : World) (hx : Rd w x l) (hl : l.length ≤ 140737488355300) :
    Calls Try.prog 18 #[x] w (Gives 5 w (textL l)) := by
  have hn := numL_len10 (v := l.length) (by omega)
  have hw : IntKind.u64.wrap (l.length : Int) = (l.length : Int) := by rw [wrap_u64]; omega
  have hlen := hx.len (P := Try.prog) 23 5
  go_enter Try.func18, Try.ntmps18
  go_wp2_with fail
  refine (rnum_any _ _ hn (by omega)).mono ?_
  rintro e w1 h1
  obtain ⟨ao, c, rfl, h2, h3⟩ := h1.elim
  have hx1 := hx.old h3
  clear h1 hlen hw
  go_wp2_with (first
      | (at_builtin; refine wp_app rfl _ _ 23 rfl w.heap.size 5 Try.underlying23 (by kernel_rfl) _ _ _ rfl h2 _ l rfl hx1 ?c1 ?c2 ?_))
  case c1 => omega
  case c2 => exact h3.size
  intro v' w2 hown' hgrow
  have hb : Below w.heap.size w w2 := h3.grown hgrow h3.size (fun k hk => (h2.lt k hk).1)
  clear hgrow h2 hx1
  go_wp2_with fail
  go_ret
  exact ⟨_, rfl, by simpa [textL] using hown', hb⟩
end Go.Proofs.Ytmkcdckemaohdaa
