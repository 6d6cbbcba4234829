/-
  CODE.NUM, by its contract.
-/
import Derived.Test.YtmkcdckemaohdaaRows
import Derived.Test.YtmkcdckemaohdaaMath
import Derived.Test.YtmkcdckemaohdaaBytes
namespace Go.Proofs.Ytmkcdckemaohdaa
open Go.RowKit

theorem Try.info_u8 : (Try.prog.info? 5).map (fun i => (i.zero, i.size, i.bytes)) = some (some (.int .u8 0), 1, 1) := by kernel_rfl
theorem or128 (n : Nat) : bits BinOp.or IntKind.u8 ((n : Int) % 256) 128 = ((n % 128 + 128 : Nat) : Int) := by
  have h := u8_or ((n : Int) % 256) 128 (by omega) (by omega) (by omega) (by omega)
  rw [h]
  have e : ((n : Int) % 256).toNat = n % 256 := by omega
  rw [e]
  have e2 : n % 256 ||| (128 : Int).toNat = n % 128 + 128 := by
    show n % 256 ||| 128 = n % 128 + 128
    have hc : n % 256 = n % 128 ∨ n % 256 = n % 128 + 128 := by omega
    have hj : 128 ||| n % 128 = 128 + n % 128 := nat_join 7 128 (n % 128) (by decide) (by omega)
    rcases hc with hc | hc
    · rw [hc, Nat.or_comm, hj]; omega
    · rw [hc, Nat.add_comm (n % 128) 128, ← hj, Nat.or_comm 128 (n % 128), Nat.or_assoc, Nat.or_self]
  rw [e2]

theorem bv_more (n : Nat) : Value.int IntKind.u8 (bits BinOp.or IntKind.u8 ((n : Int) % 256) 128) = bv (moreB n) := by
  rw [or128]
  unfold bv
  rw [moreB_toNat]

theorem bv_last {n : Nat} (h : n < 128) : Value.int IntKind.u8 ((n : Int)) = bv (lastB n) := by
  unfold bv
  rw [lastB_toNat h]

theorem num_step {w wr w1 : World} {v n : Nat} {pre : List UInt8} {x x' : Value} {o : Obj} (hge : 128 ≤ n) (Hpre : Hid (pre ++ numL n = numL v)) (hown : wr.ownsRow w.heap.size 5 1 x pre.length (pre.map bv)) (hb : Below w.heap.size w wr)
    (hown' : w1.ownsRow w.heap.size 5 1 x' (pre.length + 1) (pre.map bv ++ [bv (moreB n)])) (hg : (wr.alloc o).grownBy w1 x.ownBlock) :
    (pre ++ [moreB n]) ++ numL (n / 128) = numL v ∧ w1.ownsRow w.heap.size 5 1 x' (pre ++ [moreB n]).length ((pre ++ [moreB n]).map bv) ∧ Below w.heap.size w w1 := by
  refine ⟨?_, by simpa using hown', ?_⟩
  · rw [← Hpre.out, numL_ge hge]; simp
  · exact (hb.alloc hb.size _).grown hg (by have := hb.size; simp; omega) (fun k hk => (hown.lt k hk).1)

theorem num_end {w wr w1 : World} {v n : Nat} {pre : List UInt8} {x x' : Value} {o : Obj} (hlt : n < 128) (Hpre : Hid (pre ++ numL n = numL v)) (hown : wr.ownsRow w.heap.size 5 1 x pre.length (pre.map bv)) (hb : Below w.heap.size w wr)
    (hown' : w1.ownsRow w.heap.size 5 1 x' (pre.length + 1) (pre.map bv ++ [bv (lastB n)])) (hg : (wr.alloc o).grownBy w1 x.ownBlock) :
    w1.ownsRow w.heap.size 5 1 x' (numL v).length ((numL v).map bv) ∧ Below w.heap.size w w1 := by
  refine ⟨?_, (hb.alloc hb.size _).grown hg (by have := hb.size; simp; omega) (fun k hk => (hown.lt k hk).1)⟩
  rw [← Hpre.out, numL_lt hlt]
  simpa using hown'

set_option maxHeartbeats 400000 in
set_option maxRecDepth 100000 in
theorem num_any (v : Nat) (w : World) (hl : (numL v).length ≤ 10) :
    Calls Try.prog 14 #[.int .u64 (v : Int)] w (Gives 5 w (numL v)) := by
  obtain ⟨i0, hi, hz0, hz1, hz2⟩ := info_parts Try.info_u8
  go_enter Try.func14, Try.ntmps14
  go_wp2
  go_loopw [0, 3] (fun a x wr => ∃ (n : Nat) (pre : List UInt8), a = .int .u64 (n : Int) ∧ pre ++ numL n = numL v ∧ wr.ownsRow w.heap.size 5 1 x pre.length (pre.map bv) ∧ Below w.heap.size w wr)
    (fun a _ _ => (intOf a).toNat)
  case atStart => exact ⟨v, [], rfl, rfl, World.ownsRow_nil _ _ _ _, Below.refl _ _⟩
  case round =>
    obtain ⟨n, pre, rfl, hpre, hown, hb⟩ := hrel
    have Hpre := hid hpre
    have hpl : pre.length + 1 ≤ 10 := by
      have := congrArg List.length hpre
      have h2 := numL_pos n
      simp at this; omega
    clear hpre
    have hone : ∀ c, ∀ u ∈ [bv c], u.oneCell' = true := fun c => bv_one [c]
    by_cases hge : 128 ≤ n
    · go_wp2_with (first
        | (at_builtin; refine wpList_append_own _ rfl _ _ 23 rfl w.heap.size 5 i0 (.int .u8 0) 1 1 Try.underlying23 hi hz0 hz1 hz2 rfl (by decide) _ _ _ rfl (hown.alloc _) ⟨wr.heap.size, 0, none⟩ 1 1 [bv (moreB n)] rfl rfl ?c1 ?c2 ?c3 ?c4 ?c5 ?_))
      case c1 => rw [bv_more]; exact (cell_one_new _ _ _)
      case c2 => exact hone _
      case c3 => unfold maxLen; simp; omega
      case c4 => simp; omega
      case c5 => have := hb.size; simp; omega
      intro x' w1 hown' hgrow _
      have R := num_step hge Hpre hown hb hown' hgrow
      clear hown' hgrow hown hb
      go_wp2
      go_roundw
      case rel => exact ⟨n / 128, _, by go_num, R⟩
      case measure => simp [intOf]; omega
    · have hlt : n < 128 := by omega
      clear hge
      go_wp2_with (first
        | (at_builtin; refine wpList_append_own _ rfl _ _ 23 rfl w.heap.size 5 i0 (.int .u8 0) 1 1 Try.underlying23 hi hz0 hz1 hz2 rfl (by decide) _ _ _ rfl (hown.alloc _) ⟨wr.heap.size, 0, none⟩ 1 1 [bv (lastB n)] rfl rfl ?d1 ?d2 ?d3 ?d4 ?d5 ?_))
      case d1 => rw [← bv_last hlt]; exact (cell_one_new _ _ _)
      case d2 => exact hone _
      case d3 => unfold maxLen; simp; omega
      case d4 => simp; omega
      case d5 => have := hb.size; simp; omega
      intro x' w1 hown' hgrow _
      have R := num_end hlt Hpre hown hb hown' hgrow
      clear hown' hgrow hown hb
      go_wp2
      go_ret
      exact ⟨_, rfl, R⟩
end Go.Proofs.Ytmkcdckemaohdaa
