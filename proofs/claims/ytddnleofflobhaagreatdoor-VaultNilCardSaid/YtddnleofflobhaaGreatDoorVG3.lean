import Derived.Test.YtddnleofflobhaaGreatDoorRows
import Derived.WalkKit
import Derived.OpenShut
import Derived.WalkSpells
import Derived.WalkLawsBesides
import Derived.Laws.AppendOwnNone
import Derived.BigQuiet
import Derived.Deep.QuietTactic
import Derived.Deep.MidRow
import Derived.Laws.MakeOwn
import Derived.Lib.Bytes
import Derived.Shelf.Abstract
import Derived.Deep.Slices
import Derived.Deep.AppendLies
import Derived.LoopN
import Derived.Deep.OwnRows
import Derived.Test.YtddnleofflobhaaGreatDoorVG1
import Derived.Test.YtddnleofflobhaaGreatDoorVG2
set_option linter.unusedVariables false
set_option linter.unusedSimpArgs false
namespace Go.Proofs.YtddnleofflobhaaGreatDoor
open Go.RowKit

theorem Tryz.info_u8 : (Tryz.prog.info? 5).map (fun i => (i.zero, i.size, i.bytes)) = some (some (.int .u8 0), 1, 1) := by kernel_rfl
theorem or128 (n : Nat) : bits BinOp.or IntKind.u8 ((n : Int) % 256) 128 = ((n % 128 + 128 : Nat) : Int) := by
  have h := u8_or ((n : Int) % 256) 128 (by omega) (by omega) (by omega) (by omega)
  rw [h]
  have e : ((n : Int) % 256).toNat = n % 256 := by omega
  rw [e]
  have e2 : n % 256 ||| (128 : Int).toNat = n % 128 + 128 := by
    show n % 256 ||| 128 = n % 128 + 128
    have hc : n % 256 = n % 128 ∨ n % 256 = n % 128 + 128 := by omega
    have hj : 128 ||| n % 128 = 128 + n % 128 := nat_join 7 128 (n % 128) (by decide) (by omega)
    rcases hc with hc | hc
    · rw [hc, Nat.or_comm, hj]; omega
    · rw [hc, Nat.add_comm (n % 128) 128, ← hj, Nat.or_comm 128 (n % 128), Nat.or_assoc, Nat.or_self]
  rw [e2]

theorem bv_more (n : Nat) : Value.int IntKind.u8 (bits BinOp.or IntKind.u8 ((n : Int) % 256) 128) = bv (moreB n) := by
  rw [or128]
  unfold bv
  rw [moreB_toNat]

theorem bv_last {n : Nat} (h : n < 128) : Value.int IntKind.u8 ((n : Int)) = bv (lastB n) := by
  unfold bv
  rw [lastB_toNat h]

theorem num_step {w wr w1 : World} {v n : Nat} {pre : List UInt8} {x x' : Value} {o : Obj} (hge : 128 ≤ n) (Hpre : Hid (pre ++ numL n = numL v)) (hown : wr.ownsRow w.heap.size 5 1 x pre.length (pre.map bv)) (hb : Below w.heap.size w wr)
    (hown' : w1.ownsRow w.heap.size 5 1 x' (pre.length + 1) (pre.map bv ++ [bv (moreB n)])) (hg : (wr.alloc o).grownBy w1 x.ownBlock) :
    (pre ++ [moreB n]) ++ numL (n / 128) = numL v ∧ w1.ownsRow w.heap.size 5 1 x' (pre ++ [moreB n]).length ((pre ++ [moreB n]).map bv) ∧ Below w.heap.size w w1 := by
  refine ⟨?_, by simpa using hown', ?_⟩
  · rw [← Hpre.out, numL_ge hge]; simp
  · exact (hb.alloc hb.size _).grown hg (by have := hb.size; simp; omega) (fun k hk => (hown.lt k hk).1)

theorem num_end {w wr w1 : World} {v n : Nat} {pre : List UInt8} {x x' : Value} {o : Obj} (hlt : n < 128) (Hpre : Hid (pre ++ numL n = numL v)) (hown : wr.ownsRow w.heap.size 5 1 x pre.length (pre.map bv)) (hb : Below w.heap.size w wr)
    (hown' : w1.ownsRow w.heap.size 5 1 x' (pre.length + 1) (pre.map bv ++ [bv (lastB n)])) (hg : (wr.alloc o).grownBy w1 x.ownBlock) :
    w1.ownsRow w.heap.size 5 1 x' (numL v).length ((numL v).map bv) ∧ Below w.heap.size w w1 := by
  refine ⟨?_, (hb.alloc hb.size _).grown hg (by have := hb.size; simp; omega) (fun k hk => (hown.lt k hk).1)⟩
  rw [← Hpre.out, numL_lt hlt]
  simpa using hown'

set_option maxHeartbeats 400000 in
set_option maxRecDepth 100000 in
theorem num_any (v : Nat) (w : World) (hl : (numL v).length ≤ 10) :
    Calls Tryz.prog 95 #[.int .u64 (v : Int)] w (Gives 5 w (numL v)) := by
  obtain ⟨i0, hi, hz0, hz1, hz2⟩ := info_parts Tryz.info_u8
  go_enter Tryz.func95, Tryz.ntmps95
  go_wp2
  go_loopw [0, 3] (fun a x wr => ∃ (n : Nat) (pre : List UInt8), a = .int .u64 (n : Int) ∧ pre ++ numL n = numL v ∧ wr.ownsRow w.heap.size 5 1 x pre.length (pre.map bv) ∧ Below w.heap.size w wr)
    (fun a _ _ => (intOf a).toNat)
  case atStart => exact ⟨v, [], rfl, rfl, World.ownsRow_nil _ _ _ _, Below.refl _ _⟩
  case round =>
    obtain ⟨n, pre, rfl, hpre, hown, hb⟩ := hrel
    have Hpre := hid hpre
    have hpl : pre.length + 1 ≤ 10 := by
      have := congrArg List.length hpre
      have h2 := numL_pos n
      simp at this; omega
    clear hpre
    have hone : ∀ c, ∀ u ∈ [bv c], u.oneCell' = true := fun c => bv_one [c]
    by_cases hge : 128 ≤ n
    · go_wp2_with (first
        | (at_builtin; refine wpList_append_own _ rfl _ _ 25 rfl w.heap.size 5 i0 (.int .u8 0) 1 1 Tryz.underlying25 hi hz0 hz1 hz2 rfl (by decide) _ _ _ rfl (hown.alloc _) ⟨wr.heap.size, 0, none⟩ 1 1 [bv (moreB n)] rfl rfl ?c1 ?c2 ?c3 ?c4 ?c5 ?_))
      case c1 => rw [bv_more]; exact (cell_one_new _ _ _)
      case c2 => exact hone _
      case c3 => unfold maxLen; simp; omega
      case c4 => simp; omega
      case c5 => have := hb.size; simp; omega
      intro x' w1 hown' hgrow _
      have R := num_step hge Hpre hown hb hown' hgrow
      clear hown' hgrow hown hb
      go_wp2
      go_roundw
      case rel => exact ⟨n / 128, _, by go_num, R⟩
      case measure => simp [intOf]; omega
    · have hlt : n < 128 := by omega
      clear hge
      go_wp2_with (first
        | (at_builtin; refine wpList_append_own _ rfl _ _ 25 rfl w.heap.size 5 i0 (.int .u8 0) 1 1 Tryz.underlying25 hi hz0 hz1 hz2 rfl (by decide) _ _ _ rfl (hown.alloc _) ⟨wr.heap.size, 0, none⟩ 1 1 [bv (lastB n)] rfl rfl ?d1 ?d2 ?d3 ?d4 ?d5 ?_))
      case d1 => rw [← bv_last hlt]; exact (cell_one_new _ _ _)
      case d2 => exact hone _
      case d3 => unfold maxLen; simp; omega
      case d4 => simp; omega
      case d5 => have := hb.size; simp; omega
      intro x' w1 hown' hgrow _
      have R := num_end hlt Hpre hown hb hown' hgrow
      clear hown' hgrow hown hb
      go_wp2
      go_ret
      exact ⟨_, rfl, R⟩
end Go.Proofs.YtddnleofflobhaaGreatDoor

namespace Go.Proofs.YtddnleofflobhaaGreatDoor
open Go.RowKit

/-- Bytes that are there lie at a plain address. -/
theorem Rd.at {w : World} {x : Value} {l : List UInt8} (h : Rd w x l) (hl : 0 < l.length) :
    ∃ b off c, x = .slice (some ⟨b, off, none⟩) l.length c ∧ l.length ≤ c ∧ c ≤ maxLen ∧ ∀ j (hj : j < l.length), w.cell? ⟨b, off + j, none⟩ = some (.int .u8 ((l[j]).toNat : Int)) := by
  obtain ⟨ao, c, rfl, h1, h2, h3, h4⟩ := h
  cases ao with
  | none => have := h3 rfl; omega
  | some a =>
    obtain ⟨b, off, spot⟩ := a
    have h0 := h4 _ rfl 0 (bv l[0]) (by simp [List.getElem?_eq_getElem hl])
    have hspot : spot = none := by simpa [Addr.add] using World.cell?_spot h0
    subst hspot
    refine ⟨b, off, c, rfl, h1, h2, fun j hj => ?_⟩
    have hj' := h4 _ rfl j (bv l[j]) (by simp [List.getElem?_eq_getElem hj])
    rw [WideShapes.add_plain] at hj'
    exact hj'

set_option maxHeartbeats 1000000 in
set_option maxRecDepth 100000 in
theorem cfirst_any (x : Value) (l : List UInt8) (w : World) (hr : Rd w x l) :
    Calls Tryz.prog 129 #[x] w fun e w' => e = .returned (.tuple #[.int .u64 ((rdN 0 0 l).1 : Nat), .int .i64 ((rdN 0 0 l).2.1 : Nat), .int .i64 (rdN 0 0 l).2.2]) ∧ w = w' := by
  by_cases hl : l = []
  · subst hl
    obtain ⟨ao, c, rfl, -⟩ := hr
    have e : rdN 0 0 [] = (0, 0, 8) := rfl
    rw [e]
    go_enter Tryz.func129, Tryz.ntmps129
    go_wp2
    refine wp_loop_rounds 1 ?_
    rw [rounds_succ]
    go_wp2
    go_ret3
    exact ⟨rfl, rfl⟩
  · have hlen : 0 < l.length := List.length_pos_iff.2 hl
    obtain ⟨b, off, cp, rfl, h1, h2, hc⟩ := hr.at hlen
    unfold maxLen at h2
    go_enter Tryz.func129, Tryz.ntmps129
    go_wp2
    go_loop [5, 10] (fun v i => ∃ (k V : Nat), k ≤ l.length ∧ i = .int .i64 k ∧ v = .int .u64 V ∧ V < 128 ^ k ∧ k ≤ 9 ∧ rdN k V (l.drop k) = rdN 0 0 l) (fun _ i => l.length - (intOf i).toNat)
    case atStart => exact ⟨0, 0, Nat.zero_le _, rfl, rfl, by decide, by omega, rfl⟩
    case round =>
      obtain ⟨k, V, hk, rfl, rfl, hV, hk9, hrec⟩ := hrel
      by_cases hlt : k < l.length
      · have hck := hc k hlt
        have hd : l.drop k = l[k] :: l.drop (k + 1) := List.drop_eq_getElem_cons hlt
        rw [hd] at hrec
        have hc256 : (l[k]).toNat < 256 := UInt8.toNat_lt _
        generalize l[k] = c at *
        have Hrec := hid hrec
        have HV := hid hV
        have Hd := hid hd
        clear hrec hd hc hV
        have HO : ¬ (k = 9 ∧ 1 < c.toNat) → Hid (bits BinOp.or IntKind.u64 (V : Int) (IntKind.u64.wrap (IntKind.u64.wrap (bits BinOp.andNot IntKind.u8 (c.toNat : Int) 128) * 2 ^ (7 * k))) = ((V + c.toNat % 128 * 128 ^ k : Nat) : Int)) := fun h => or_step HV.out hk9 hc256 h
        have HS := hid (step_lt (c := c.toNat) HV.out)
        by_cases t1 : k = 9 ∧ 1 < c.toNat
        · have HF : Hid (rdN 0 0 l = (0, 0, 9)) := by rw [← Hrec.out]; exact rdN_form t1
          obtain ⟨rfl, t1b⟩ := t1
          clear HO HS Hrec Hd
          go_wp2
          go_ret3
          rw [HF.out]
          exact ⟨rfl, rfl⟩
        · have HO' := HO t1
          clear HO
          by_cases t2 : 128 ≤ c.toNat
          · have HF : Hid (rdN (k + 1) (V + c.toNat % 128 * 128 ^ k) (l.drop (k + 1)) = rdN 0 0 l) := by rw [← Hrec.out]; exact (rdN_more t1 t2).symm
            have hk9' : k ≠ 9 := by omega
            clear Hrec Hd t1
            go_wp2
            go_round
            case rel => exact ⟨k + 1, _, by omega, by go_num, by rw [HO'.out], HS.out, by omega, HF.out⟩
            case measure => simp [intOf]; omega
          · by_cases t3 : c.toNat = 0 ∧ 0 < k
            · have HF : Hid (rdN 0 0 l = (0, 0, 9)) := by rw [← Hrec.out]; exact rdN_zero t1 t2 t3
              clear Hrec Hd HS
              obtain ⟨t3a, t3b⟩ := t3
              clear HO'
              go_wp2
              all_goals (go_ret3; rw [HF.out]; exact ⟨rfl, rfl⟩)
            · have HF : Hid (rdN 0 0 l = (V + c.toNat % 128 * 128 ^ k, k + 1, 0)) := by rw [← Hrec.out]; exact rdN_last t1 t2 t3
              clear Hrec Hd HS
              by_cases t4 : k = 9
              · subst t4
                have ev := HO'.out
                rw [show (2 : Int) ^ (7 * 9) = 9223372036854775808 from by decide] at ev
                have HE := hid ev
                have d1 : decide ((1 : Int) < (c.toNat : Int)) = false := by simp; omega
                have t5 : ¬ (c.toNat : Int) = 0 := by omega
                clear ev HO'
                go_wp2
                go_ret3
                rw [HF.out, HE.out]
                exact ⟨rfl, rfl⟩
              · by_cases t5 : c.toNat = 0
                · have t6 : ¬ (0 : Int) < (k : Int) := by omega
                  have t4' : ¬ (k : Int) = 9 := by omega
                  have t5' : (c.toNat : Int) = 0 := by omega
                  have ev := HO'.out
                  rw [t5'] at ev
                  have HE := hid ev
                  clear ev HO'
                  go_wp2
                  go_ret3
                  rw [HF.out, HE.out]
                  exact ⟨rfl, rfl⟩
                · have HE := HO'
                  have t4' : ¬ (k : Int) = 9 := by omega
                  have t5' : ¬ (c.toNat : Int) = 0 := by omega
                  clear HO'
                  go_wp2
                  go_ret3
                  rw [HF.out, HE.out]
                  exact ⟨rfl, rfl⟩
      · obtain rfl : k = l.length := by omega
        have HF : Hid (rdN 0 0 l = (0, 0, 8)) := by rw [← hrec, List.drop_length]; rfl
        clear hrec hV
        go_wp2
        go_ret3
        rw [HF.out]
        exact ⟨rfl, rfl⟩
end Go.Proofs.YtddnleofflobhaaGreatDoor

namespace Go.Proofs.YtddnleofflobhaaGreatDoor
open Go.RowKit

/-- The reader in block R: what is left, and its fault. -/
def RAt (w : World) (R : Nat) (l : List UInt8) (e : Int) : Prop :=
  ∃ (ao : Option Addr) (c : Nat), w.heap[R]? = some (.cells #[.slice ao l.length c, .int .i64 e] 171 (0, 0)) ∧ Rd w (.slice ao l.length c) l ∧ ∀ k, blk (.slice ao l.length c) = some k → k < R

theorem RAt.kept {w w' : World} {R : Nat} {l : List UInt8} {e : Int} {row : Option Nat} (h : RAt w R l e) (hg : w.grownBy w' row) (hne : ∀ k, row = some k → R < k) : RAt w' R l e := by
  obtain ⟨ao, c, h1, h2, h3⟩ := h
  refine ⟨ao, c, heap_kept hg h1 (fun h => by have := hne R h.symm; omega), h2.kept hg ?_, h3⟩
  cases hb : blk (.slice ao l.length c) with
  | none => exact .inl rfl
  | some k =>
    right
    intro hk
    have h5 := h3 k hb
    have h6 := hne k hk.symm
    omega

theorem RAt.old {w w' : World} {R : Nat} {l : List UInt8} {e : Int} (h : RAt w R l e) (hb : Below w.heap.size w w') : RAt w' R l e :=
  h.kept (grown_below hb none) (fun k hk => by cases hk)

theorem RAt.lt {w : World} {R : Nat} {l : List UInt8} {e : Int} (h : RAt w R l e) : R < w.heap.size := by
  obtain ⟨ao, c, h1, _⟩ := h
  exact lt_of_block h1

/-- A fault is written. -/
theorem RAt.fault {w : World} {R : Nat} {l : List UInt8} {e : Int} (h : RAt w R l e) (e' : Int) : RAt (w.setCell ⟨R, 1, none⟩ (.int .i64 e')) R l e' ∧ w.grownBy (w.setCell ⟨R, 1, none⟩ (.int .i64 e')) (some R) := by
  obtain ⟨ao, c, h1, h2, h3⟩ := h
  have hg := grown_set w ⟨R, 1, none⟩ (.int .i64 e')
  exact ⟨⟨ao, c, two_set1 h1, h2.kept hg (.inr (fun hk => by have := h3 R hk; omega)), h3⟩, hg⟩

/-- What is left is cut. -/
theorem RAt.step {w : World} {R n : Nat} {l : List UInt8} {e : Int} {ao ao' : Option Addr} {c c' : Nat} (h1 : w.heap[R]? = some (.cells #[.slice ao l.length c, .int .i64 e] 171 (0, 0))) (h3 : ∀ k, blk (.slice ao l.length c) = some k → k < R)
    (h2 : Rd w (.slice ao' (l.length - n) c') (l.drop n)) (h4 : ∀ k, blk (.slice ao' (l.length - n) c') = some k → blk (.slice ao l.length c) = some k) :
    RAt (w.setCell ⟨R, 0, none⟩ (.slice ao' (l.length - n) c')) R (l.drop n) e ∧ w.grownBy (w.setCell ⟨R, 0, none⟩ (.slice ao' (l.length - n) c')) (some R) := by
  have hg := grown_set w ⟨R, 0, none⟩ (.slice ao' (l.length - n) c')
  have hlen : (l.drop n).length = l.length - n := List.length_drop
  have hne : blk (.slice ao' (l.length - n) c') ≠ some R := fun hk => by have := h3 R (h4 R hk); omega
  refine ⟨⟨ao', c', ?_, ?_, ?_⟩, hg⟩
  · rw [hlen]; exact two_set0 h1
  · rw [hlen]; exact h2.kept hg (.inr hne)
  · rw [hlen]; exact fun k hk => h3 k (h4 k hk)

/-- What 'look' answers, and the fault behind it. -/
def lookS (m : Nat) (l : List UInt8) (e : Int) : Nat × Nat × Int :=
  if e ≠ 0 then (0, 0, e) else if (rdN 0 0 l).2.2 = 0 ∧ m < (rdN 0 0 l).1 then (0, 0, 9) else rdN 0 0 l

def LookIs (w : World) (R : Nat) (m : Nat) (l : List UInt8) (e : Int) (en : Ending) (w' : World) : Prop :=
  en = .returned (.tuple #[.int .u64 ((lookS m l e).1 : Nat), .int .i64 ((lookS m l e).2.1 : Nat)]) ∧ RAt w' R l (lookS m l e).2.2 ∧ w.grownBy w' (some R)

set_option maxHeartbeats 1000000 in
set_option maxRecDepth 100000 in
theorem err_any (w : World) (R : Nat) (l : List UInt8) (e : Int) (h : RAt w R l e) :
    Calls Tryz.prog 85 #[.pointer (some ⟨R, 0, none⟩)] w fun en w' => en = .returned (.int .i64 e) ∧ w = w' := by
  obtain ⟨ao, c, h1, h2, h3⟩ := h
  obtain ⟨c0, c1, f0, f1⟩ := two_cells h1
  clear h1 h2 h3
  go_enter Tryz.func85, Tryz.ntmps85
  go_wp2
  go_ret
  exact ⟨rfl, rfl⟩

set_option maxHeartbeats 1000000 in
set_option maxRecDepth 100000 in
theorem left_any (w : World) (R : Nat) (l : List UInt8) (e : Int) (h : RAt w R l e) :
    Calls Tryz.prog 84 #[.pointer (some ⟨R, 0, none⟩)] w fun en w' => en = .returned (.int .i64 (l.length : Nat)) ∧ w = w' := by
  obtain ⟨ao, c, h1, h2, h3⟩ := h
  obtain ⟨c0, c1, f0, f1⟩ := two_cells h1
  clear h1 h2 h3
  go_enter Tryz.func84, Tryz.ntmps84
  go_wp2
  go_ret
  exact ⟨rfl, rfl⟩

set_option maxHeartbeats 1000000 in
set_option maxRecDepth 100000 in
theorem look_any (w : World) (R : Nat) (m : Nat) (l : List UInt8) (e : Int) (h : RAt w R l e) :
    Calls Tryz.prog 110 #[.pointer (some ⟨R, 0, none⟩), .int .u64 (m : Int)] w (LookIs w R m l e) := by
  have h' := hid h
  obtain ⟨ao, c, h1, h2, h3⟩ := h
  obtain ⟨c0, c1, f0, f1⟩ := two_cells h1
  clear h1 h3
  go_enter Tryz.func110, Tryz.ntmps110
  go_wp2_with fail
  refine (err_any w R l e h'.out).mono ?_
  rintro en w1 ⟨rfl, rfl⟩
  by_cases he : e = 0
  · subst he
    go_wp2_with fail
    refine (cfirst_any _ l w h2).mono ?_
    rintro en w1 ⟨rfl, rfl⟩
    have HS : Hid (lookS m l 0 = if (rdN 0 0 l).2.2 = 0 ∧ m < (rdN 0 0 l).1 then (0, 0, 9) else rdN 0 0 l) := by unfold lookS; rw [if_neg (by simp)]; exact rfl
    have hb := (rdN_bounds l 0 0 (by decide) (by omega)).2
    generalize rdN 0 0 l = t at *
    obtain ⟨v, n, er⟩ := t
    simp only at *
    have HF1 := fun e' => hid (h'.out.fault e')
    by_cases t1 : er = 0 ∧ m < v
    · have HL : Hid (lookS m l 0 = (0, 0, 9)) := by rw [HS.out, if_pos t1]; exact rfl
      obtain ⟨rfl, t1b⟩ := t1
      clear HS hb
      go_wp2
      go_ret2
      exact ⟨by rw [HL.out]; rfl, by rw [HL.out]; exact (HF1 9).out⟩
    · have HL : Hid (lookS m l 0 = (v, n, er)) := by rw [HS.out, if_neg t1]; exact rfl
      by_cases t2 : er = 0
      · subst t2
        have t3 : ¬ m < v := by omega
        clear HS hb HF1
        go_wp2
        go_ret2
        exact ⟨by rw [HL.out]; rfl, by rw [HL.out]; exact h'.out, World.grownBy.refl _ _⟩
      · obtain ⟨rfl, rfl⟩ : v = 0 ∧ n = 0 := by omega
        have HF := HF1 er
        clear HS hb HF1
        go_wp2
        go_ret2
        exact ⟨by rw [HL.out]; rfl, by rw [HL.out]; exact HF.out⟩
  · have HL : Hid (lookS m l e = (0, 0, e)) := by unfold lookS; rw [if_pos he]; exact rfl
    go_wp2_with fail
    go_ret2
    exact ⟨by rw [HL.out]; rfl, by rw [HL.out]; exact h'.out, World.grownBy.refl _ _⟩

/-- The reader has gone on by n. -/
def Passed (w : World) (R n : Nat) (l : List UInt8) (e : Int) (en : Ending) (w' : World) : Prop :=
  en = .returned (.tuple #[]) ∧ RAt w' R (l.drop n) e ∧ w.grownBy w' (some R)

set_option maxHeartbeats 1000000 in
set_option maxRecDepth 100000 in
theorem pass_any (w : World) (R n : Nat) (l : List UInt8) (e : Int) (h : RAt w R l e) (hn : n ≤ l.length) :
    Calls Tryz.prog 111 #[.pointer (some ⟨R, 0, none⟩), .int .i64 (n : Int)] w (Passed w R n l e) := by
  by_cases h0 : n = 0
  · subst h0
    go_enter Tryz.func111, Tryz.ntmps111
    go_wp2
    go_end0
    exact ⟨rfl, by simpa using h, World.grownBy.refl _ _⟩
  · have hpos : (0 : Int) < (n : Int) := by omega
    obtain ⟨ao, c, h1, h2, h3⟩ := h
    obtain ⟨c0, c1, f0, f1⟩ := two_cells h1
    obtain ⟨ao', c', hs, h5, h6⟩ := h2.cut 25 5 Tryz.underlying25 (by kernel_rfl) n hn
    have HS := hid (RAt.step h1 h3 h5 h6)
    clear h1 h2 h3 h5 h6 h0
    go_enter Tryz.func111, Tryz.ntmps111
    go_wp2
    go_end0
    exact ⟨rfl, HS.out⟩

theorem lookS_le (m : Nat) (l : List UInt8) (e : Int) : (lookS m l e).2.1 ≤ l.length := by
  have hb := (rdN_bounds l 0 0 (by decide) (by omega)).2
  unfold lookS
  split
  · exact Nat.zero_le _
  · split
    · exact Nat.zero_le _
    · omega

theorem lookS_most (m : Nat) (l : List UInt8) (e : Int) : (lookS m l e).1 ≤ m := by
  have hb := (rdN_bounds l 0 0 (by decide) (by omega)).2
  unfold lookS
  split
  · exact Nat.zero_le _
  · split
    · exact Nat.zero_le _
    · omega

def maxU : Nat := 18446744073709551615
theorem maxU_eq : (18446744073709551615 : Int) = ((maxU : Nat) : Int) := rfl

/-- A number is read: its value; where the reader stands; its fault. -/
def NumIs (w : World) (R : Nat) (t : Nat × Nat × Int) (v : Value) (l : List UInt8) (en : Ending) (w' : World) : Prop :=
  en = .returned v ∧ RAt w' R (l.drop t.2.1) t.2.2 ∧ w.grownBy w' (some R)

set_option maxHeartbeats 1000000 in
set_option maxRecDepth 100000 in
theorem numR_any (w : World) (R : Nat) (l : List UInt8) (e : Int) (h : RAt w R l e) :
    Calls Tryz.prog 80 #[.pointer (some ⟨R, 0, none⟩)] w (NumIs w R (lookS maxU l e) (.int .u64 ((lookS maxU l e).1 : Nat)) l) := by
  go_enter Tryz.func80, Tryz.ntmps80
  go_wp2_with fail
  rw [maxU_eq]
  refine (look_any w R maxU l e h).mono ?_
  rintro en w1 ⟨rfl, h1, g1⟩
  go_wp2_with fail
  refine (pass_any w1 R _ l _ h1 (lookS_le _ _ _)).mono ?_
  rintro en w2 ⟨rfl, h2, g2⟩
  go_wp2_with fail
  go_ret
  exact ⟨rfl, h2, grown_trans g1 g2⟩

end Go.Proofs.YtddnleofflobhaaGreatDoor

namespace Go.Proofs.YtddnleofflobhaaGreatDoor
open Go.RowKit

/-- A reader whose bytes lie in blocks from lo on. -/
def RLo (w : World) (R lo : Nat) (l : List UInt8) (e : Int) : Prop :=
  ∃ (ao : Option Addr) (c : Nat), w.heap[R]? = some (.cells #[.slice ao l.length c, .int .i64 e] 171 (0, 0)) ∧ Rd w (.slice ao l.length c) l ∧ ∀ k, blk (.slice ao l.length c) = some k → lo ≤ k ∧ k < R

theorem RLo.rat {w : World} {R lo : Nat} {l : List UInt8} {e : Int} (h : RLo w R lo l e) : RAt w R l e := by
  obtain ⟨ao, c, h1, h2, h3⟩ := h
  exact ⟨ao, c, h1, h2, fun k hk => (h3 k hk).2⟩

theorem RLo.kept {w w' : World} {R lo : Nat} {l : List UInt8} {e : Int} {row : Option Nat} (h : RLo w R lo l e) (hg : w.grownBy w' row) (hne : ∀ k, row = some k → k < lo ∧ k < R) : RLo w' R lo l e := by
  obtain ⟨ao, c, h1, h2, h3⟩ := h
  refine ⟨ao, c, heap_kept hg h1 (fun h => by have := hne R h.symm; omega), h2.kept hg ?_, h3⟩
  cases hb : blk (.slice ao l.length c) with
  | none => exact .inl rfl
  | some k =>
    right
    intro hk
    have h5 := h3 k hb
    have h6 := hne k hk.symm
    omega

theorem RLo.old {w w' : World} {R lo : Nat} {l : List UInt8} {e : Int} (h : RLo w R lo l e) (hb : Below w.heap.size w w') : RLo w' R lo l e :=
  h.kept (grown_below hb none) (fun k hk => by cases hk)

set_option maxHeartbeats 1000000 in
set_option maxRecDepth 100000 in
theorem new_lo (w : World) (x : Value) (l : List UInt8) (h : Rd w x l) (hl : l.length ≤ 140737488355328) :
    Calls Tryz.prog 79 #[x] w fun en w' => ∃ R, en = .returned (.pointer (some ⟨R, 0, none⟩)) ∧ w.heap.size ≤ R ∧ RLo w' R w.heap.size l 0 ∧ Below w.heap.size w w' := by
  go_enter Tryz.func79, Tryz.ntmps79
  go_wp2_with fail
  refine (clone_any w x l h hl).mono ?_
  rintro en w1 hg
  obtain ⟨ao, c, rfl, h1, h2⟩ := hg.elim
  have h3 := Rd.own h1
  have h4 := h1.lt
  clear hg h1
  go_wp2_with fail
  go_ret
  refine ⟨w1.heap.size, rfl, h2.size, ⟨ao, c, heap_alloc_new _ _, h3.alloc _, ?_⟩, h2.alloc h2.size _⟩
  intro k hk
  cases ao with
  | none => simp [blk] at hk
  | some a =>
    simp only [blk, Option.some.injEq] at hk
    have := h4 a.block rfl
    omega

theorem cnew_any (w : World) (x : Value) (l : List UInt8) (h : Rd w x l) (hl : l.length ≤ 140737488355328) :
    Calls Tryz.prog 79 #[x] w fun en w' => ∃ R, en = .returned (.pointer (some ⟨R, 0, none⟩)) ∧ w.heap.size ≤ R ∧ RAt w' R l 0 ∧ Below w.heap.size w w' :=
  (new_lo w x l h hl).mono fun _ _ ⟨R, h1, h2, h3, h4⟩ => ⟨R, h1, h2, h3.rat, h4⟩

/-- A number, or 0. -/
def nn (z : Int) : Nat := z.toNat

set_option maxHeartbeats 1000000 in
set_option maxRecDepth 100000 in
theorem bound_any (w : World) (z : Int) (hz : (Lit.int .i64 z).wf = true) :
    Calls Tryz.prog 112 #[.int .i64 z] w fun en w' => en = .returned (.int .u64 (nn z : Int)) ∧ w = w' := by
  have hb := bounds_i64 hz
  by_cases h : z < 0
  · have HW : Hid (IntKind.u64.wrap 0 = (nn z : Int)) := by unfold nn; rw [wrap_u64]; show (0 : Int) % _ = _; omega
    clear hb
    go_enter Tryz.func112, Tryz.ntmps112
    go_wp2
    go_ret
    exact ⟨by rw [← HW.out]; rfl, rfl⟩
  · have HW : Hid (IntKind.u64.wrap z = (nn z : Int)) := by unfold nn; rw [wrap_u64]; show _ = _; omega
    clear hb
    go_enter Tryz.func112, Tryz.ntmps112
    go_wp2
    go_ret
    exact ⟨by rw [← HW.out]; rfl, rfl⟩
end Go.Proofs.YtddnleofflobhaaGreatDoor


namespace Go.Proofs.YtddnleofflobhaaGreatDoor
open Go.RowKit

set_option maxHeartbeats 1000000 in
set_option maxRecDepth 100000 in
theorem smallR_any (w : World) (R : Nat) (l : List UInt8) (e : Int) (z : Int) (hz : (Lit.int .i64 z).wf = true) (h : RAt w R l e) :
    Calls Tryz.prog 81 #[.pointer (some ⟨R, 0, none⟩), .int .i64 z] w (NumIs w R (lookS (nn z) l e) (.int .i64 ((lookS (nn z) l e).1 : Nat)) l) := by
  have hm := lookS_most (nn z) l e
  have hle := hid (lookS_le (nn z) l e)
  have hb := bounds_i64 hz
  have hw : IntKind.i64.wrap ((lookS (nn z) l e).1 : Int) = ((lookS (nn z) l e).1 : Int) := by
    rw [IntKind.wrap_i64]; unfold nn at *; omega
  have HW := hid hw
  clear hw hb hm
  go_enter Tryz.func81, Tryz.ntmps81
  go_wp2_with fail
  refine (bound_any _ z hz).mono ?_
  rintro en w1 ⟨rfl, rfl⟩
  go_wp2_with fail
  refine (look_any w R (nn z) l e h).mono ?_
  rintro en w1 ⟨rfl, h1, g1⟩
  go_wp2_with fail
  refine (pass_any w1 R _ l _ h1 hle.out).mono ?_
  rintro en w2 ⟨rfl, h2, g2⟩
  have HE := hid (And.intro h2 (grown_trans g1 g2))
  clear h1 g1 h2 g2
  have hw := HW.out
  go_wp2_with fail
  go_ret
  exact ⟨rfl, HE.out⟩

/-- A text is read: its bytes; how far the reader goes on; its fault. -/
def textS (m : Nat) (l : List UInt8) (e : Int) : List UInt8 × Nat × Int :=
  if (lookS m l e).2.1 = 0 then ([], 0, (lookS m l e).2.2)
  else if l.length - (lookS m l e).2.1 < (lookS m l e).1 then ([], 0, 8)
  else ((l.drop (lookS m l e).2.1).take (lookS m l e).1, (lookS m l e).2.1 + (lookS m l e).1, (lookS m l e).2.2)

def TextIs (w : World) (R : Nat) (t : List UInt8 × Nat × Int) (l : List UInt8) (en : Ending) (w' : World) : Prop :=
  ∃ (ao : Option Addr) (c : Nat), en = .returned (.slice ao t.1.length c) ∧ w'.ownsRow w.heap.size 5 1 (.slice ao t.1.length c) t.1.length (t.1.map bv) ∧ RAt w' R (l.drop t.2.1) t.2.2 ∧ w.grownBy w' (some R)

set_option maxHeartbeats 1000000 in
set_option maxRecDepth 100000 in
theorem textR_any (w : World) (R : Nat) (l : List UInt8) (e : Int) (z : Int) (hz : (Lit.int .i64 z).wf = true) (h : RAt w R l e) (hl : l.length ≤ 140737488355328) :
    Calls Tryz.prog 82 #[.pointer (some ⟨R, 0, none⟩), .int .i64 z] w (TextIs w R (textS (nn z) l e) l) := by
  have hm := lookS_most (nn z) l e
  have hle := lookS_le (nn z) l e
  have HT : Hid (textS (nn z) l e = if (lookS (nn z) l e).2.1 = 0 then ([], 0, (lookS (nn z) l e).2.2)
    else if l.length - (lookS (nn z) l e).2.1 < (lookS (nn z) l e).1 then ([], 0, 8)
    else ((l.drop (lookS (nn z) l e).2.1).take (lookS (nn z) l e).1, (lookS (nn z) l e).2.1 + (lookS (nn z) l e).1, (lookS (nn z) l e).2.2)) := rfl
  go_enter Tryz.func82, Tryz.ntmps82
  go_wp2_with fail
  refine (bound_any _ z hz).mono ?_
  rintro en w1 ⟨rfl, rfl⟩
  go_wp2_with fail
  refine (look_any w R (nn z) l e h).mono ?_
  rintro en w1 ⟨rfl, h1, g1⟩
  generalize lookS (nn z) l e = t at *
  obtain ⟨v, n, er⟩ := t
  simp only at *
  by_cases t1 : n = 0
  · have HF : Hid (textS (nn z) l e = ([], 0, er)) := by rw [HT.out, if_pos t1]; exact rfl
    have t1' : (n : Int) = 0 := by omega
    have HE := hid (And.intro h1 g1)
    clear HT h1 g1 h t1
    go_wp2_with fail
    go_ret
    refine ⟨none, 0, ?_, ?_, ?_⟩
    · rw [HF.out]; rfl
    · rw [HF.out]; exact World.ownsRow_nil _ _ _ _
    · rw [HF.out]; exact HE.out
  · have t1' : ¬ (n : Int) = 0 := by omega
    have hq : IntKind.u64.wrap ((l.length : Int) - (n : Int)) = (l.length : Int) - (n : Int) := by rw [wrap_u64]; omega
    by_cases t2 : l.length - n < v
    · have HF : Hid (textS (nn z) l e = ([], 0, 8)) := by rw [HT.out, if_neg t1, if_pos t2]; exact rfl
      have HE := hid (h1.fault 8)
      have Hg := hid g1
      obtain ⟨ao, c, a1, a2, a3⟩ := h1
      obtain ⟨c0, c1, f0, f1⟩ := two_cells a1
      have t2' : (l.length : Int) - (n : Int) < (v : Int) := by omega
      clear HT h t1 g1 a1 a2 a3 t2
      go_wp2_with fail
      go_ret
      refine ⟨none, 0, ?_, ?_, ?_⟩
      · rw [HF.out]; rfl
      · rw [HF.out]; exact World.ownsRow_nil _ _ _ _
      · rw [HF.out]; exact ⟨HE.out.1, grown_trans Hg.out HE.out.2⟩
    · have HF : Hid (textS (nn z) l e = ((l.drop n).take v, n + v, er)) := by rw [HT.out, if_neg t1, if_neg t2]; exact rfl
      have H1 := hid h1
      have Hg := hid g1
      obtain ⟨ao, c, a1, a2, a3⟩ := h1
      obtain ⟨c0, c1, f0, f1⟩ := two_cells a1
      have t2' : ¬ (l.length : Int) - (n : Int) < (v : Int) := by omega
      have hdl : (l.drop n).length = l.length - n := List.length_drop
      have htl : ((l.drop n).take v).length = v := by rw [List.length_take]; omega
      have Hdl := hid hdl
      have Htl := hid htl
      clear HT h t1 g1 a1 a2 a3 hdl htl
      go_wp2_with fail
      refine (pass_any w1 R _ l _ H1.out hle).mono ?_
      rintro en w2 ⟨rfl, h2, g2⟩
      have H2 := hid h2
      have Hg2 := hid g2
      clear c0 c1 f0 f1 hq H1
      obtain ⟨ao2, c2, a1, a2, a3⟩ := h2
      obtain ⟨c0, c1, f0, f1⟩ := two_cells a1
      have a5 := hid (a2.take v (by rw [Hdl.out]; omega))
      have hv2 : (v : Int) ≤ (c2 : Int) := by obtain ⟨_, _, hx, hx1, _⟩ := a2; simp only [Value.slice.injEq] at hx; have := Hdl.out; omega
      clear g2 a1 a2 a3
      go_wp2_with fail
      refine (clone_any w2 _ _ a5.out (by rw [Htl.out]; omega)).mono ?_
      rintro en w3 h3
      obtain ⟨ao4, c4, rfl, h4, h5⟩ := h3.elim
      rw [Htl.out]
      have H6 := hid (H2.out.old h5)
      have HO := hid h4
      have Hb := hid h5
      clear h3 h4 h5 a5 c0 c1 f0 f1
      go_wp2_with fail
      refine (pass_any w3 R v (l.drop n) er H6.out (by rw [Hdl.out]; omega)).mono ?_
      rintro en w4 ⟨rfl, h7, g7⟩
      have HE := hid (And.intro h7 g7)
      clear h7 g7
      go_wp2_with fail
      go_ret
      have hne : ∀ k, (Value.slice ao4 ((l.drop n).take v).length c4).ownBlock = some k → w2.heap.size ≤ k := fun k hk => (HO.out.lt k hk).1
      have hs1 := Hg.out.size
      have hs2 := Hg2.out.size
      have hs3 := Hb.out.size
      have hR := H2.out.lt
      refine ⟨ao4, c4, ?_, ?_, ?_, ?_⟩
      · rw [HF.out]; simp only [Htl.out]; rfl
      · rw [HF.out]
        have h8 := HO.out.kept HE.out.2 (by
          cases ho : (Value.slice ao4 ((l.drop n).take v).length c4).ownBlock with
          | none => exact .inl rfl
          | some k => right; intro hk; have := hne k ho; simp at hk; omega)
        exact ownsRow_base h8 (by omega)
      · rw [HF.out]
        have := HE.out.1
        rw [List.drop_drop] at this
        exact this
      · exact grown_trans (grown_trans (grown_trans Hg.out Hg2.out) (grown_below Hb.out _)) HE.out.2

/-- What End answers. -/
def endS (l : List UInt8) (e : Int) : Int := if e ≠ 0 then e else if 0 < l.length then 9 else 0

set_option maxHeartbeats 1000000 in
set_option maxRecDepth 100000 in
theorem endR_any (w : World) (R : Nat) (l : List UInt8) (e : Int) (h : RAt w R l e) :
    Calls Tryz.prog 86 #[.pointer (some ⟨R, 0, none⟩)] w fun en w' => en = .returned (.int .i64 (endS l e)) ∧ w = w' := by
  have HE : Hid (endS l e = if e ≠ 0 then e else if 0 < l.length then 9 else 0) := rfl
  go_enter Tryz.func86, Tryz.ntmps86
  go_wp2_with fail
  refine (err_any w R l e h).mono ?_
  rintro en w1 ⟨rfl, rfl⟩
  by_cases t1 : e = 0
  · by_cases t2 : 0 < l.length
    · have HF : Hid (endS l e = 9) := by rw [HE.out, if_neg (by simpa using t1), if_pos t2]; exact rfl
      have hh := hid h
      subst t1
      clear h HE
      go_wp2_with fail
      refine (left_any w R l 0 hh.out).mono ?_
      rintro en w1 ⟨rfl, rfl⟩
      go_wp2_with fail
      go_ret
      exact ⟨by rw [HF.out]; rfl, rfl⟩
    · have HF : Hid (endS l e = 0) := by rw [HE.out, if_neg (by simpa using t1), if_neg t2]; exact rfl
      have hh := hid h
      subst t1
      clear h HE
      go_wp2_with fail
      refine (left_any w R l 0 hh.out).mono ?_
      rintro en w1 ⟨rfl, rfl⟩
      go_wp2_with fail
      go_ret
      exact ⟨by rw [HF.out]; rfl, rfl⟩
  · have HF : Hid (endS l e = e) := by rw [HE.out, if_pos t1]; exact rfl
    clear h HE
    go_wp2_with fail
    go_ret
    exact ⟨by rw [HF.out]; rfl, rfl⟩

end Go.Proofs.YtddnleofflobhaaGreatDoor

namespace Go.Proofs.YtddnleofflobhaaGreatDoor
open Go.RowKit

set_option maxHeartbeats 1000000 in
set_option maxRecDepth 100000 in
theorem bytes_any (x y : Value) (l m : List UInt8) (w : World) (hx : Rd w x l) (hy : Rd w y m) :
    Calls Tryz.prog 29 #[x, y] w fun e w' => e = .returned (.bool (l == m)) ∧ w = w' := by
  have h1 := fun W (h : Rd W x l) => h.conv (P := Tryz.prog) 25 9 5 Tryz.underlying25 Tryz.underlying5 Tryz.underlying9
  have c1 := h1 w hx
  have c2 := hy.conv (P := Tryz.prog) 25 9 5 Tryz.underlying25 Tryz.underlying5 Tryz.underlying9
  clear h1 hx hy
  go_enter Tryz.func29, Tryz.ntmps29
  go_wp2_with fail
  go_ret
  exact ⟨rfl, rfl⟩

/-- The bytes of a text. -/
def textL (l : List UInt8) : List UInt8 := numL l.length ++ l

set_option maxHeartbeats 1000000 in
set_option maxRecDepth 100000 in
theorem text_any (x : Value) (l : List UInt8) (w : World) (hx : Rd w x l) (hl : l.length ≤ 140737488355300) :
    Calls Tryz.prog 96 #[x] w (Gives 5 w (textL l)) := by
  have hn := numL_len10 (v := l.length) (by omega)
  have hw : IntKind.u64.wrap (l.length : Int) = (l.length : Int) := by rw [wrap_u64]; omega
  have hlen := hx.len (P := Tryz.prog) 25 5
  go_enter Tryz.func96, Tryz.ntmps96
  go_wp2_with fail
  refine (num_any _ _ hn).mono ?_
  rintro e w1 h1
  obtain ⟨ao, c, rfl, h2, h3⟩ := h1.elim
  have hx1 := hx.old h3
  clear h1 hlen hw
  go_wp2_with (first
      | (at_builtin; refine wp_app rfl _ _ 25 rfl w.heap.size 5 Tryz.underlying25 (by kernel_rfl) _ _ _ rfl h2 _ l rfl hx1 ?c1 ?c2 ?_))
  case c1 => omega
  case c2 => exact h3.size
  intro v' w2 hown' hgrow
  have hb : Below w.heap.size w w2 := h3.grown hgrow h3.size (fun k hk => (h2.lt k hk).1)
  clear hgrow h2 hx1
  go_wp2_with fail
  go_ret
  exact ⟨_, rfl, by simpa [textL] using hown', hb⟩
end Go.Proofs.YtddnleofflobhaaGreatDoor

namespace Go.Proofs.YtddnleofflobhaaGreatDoor
open Go.RowKit

theorem lookS_back {v m : Nat} (h : v < 2 ^ 64) (hm : v ≤ m) (r : List UInt8) : lookS m (numL v ++ r) 0 = (v, (numL v).length, 0) := by
  unfold lookS
  rw [if_neg (by simp), rdN_back h r, if_neg (by simp; omega)]

theorem textS_back {b : List UInt8} {m : Nat} (h : b.length ≤ m) (hb : b.length < 2 ^ 64) (r : List UInt8) : textS m (textL b ++ r) 0 = (b, (textL b).length, 0) := by
  have e : textL b ++ r = numL b.length ++ (b ++ r) := by unfold textL; simp
  have h0 := numL_pos b.length
  unfold textS
  rw [e, lookS_back hb h]
  rw [if_neg (by simp; intro h1; rw [h1] at h0; simp at h0), if_neg (by simp)]
  simp [textL]

theorem numR_back (w : World) (R v : Nat) (r : List UInt8) (hv : v < 2 ^ 64) (h : RAt w R (numL v ++ r) 0) :
    Calls Tryz.prog 80 #[.pointer (some ⟨R, 0, none⟩)] w fun en w' => en = .returned (.int .u64 (v : Int)) ∧ RAt w' R r 0 ∧ w.grownBy w' (some R) := by
  refine (numR_any w R _ 0 h).mono ?_
  rintro en w' ⟨h1, h2, h3⟩
  rw [lookS_back hv (by unfold maxU; omega)] at h1 h2
  exact ⟨h1, by simpa using h2, h3⟩

theorem textR_back (w : World) (R : Nat) (b r : List UInt8) (z : Int) (hz : (Lit.int .i64 z).wf = true) (hb : b.length ≤ nn z) (h : RAt w R (textL b ++ r) 0) (hl : (textL b ++ r).length ≤ 140737488355328) :
    Calls Tryz.prog 82 #[.pointer (some ⟨R, 0, none⟩), .int .i64 z] w fun en w' =>
      ∃ (ao : Option Addr) (c : Nat), en = .returned (.slice ao b.length c) ∧ w'.ownsRow w.heap.size 5 1 (.slice ao b.length c) b.length (b.map bv) ∧ RAt w' R r 0 ∧ w.grownBy w' (some R) := by
  have hlt : b.length < 2 ^ 64 := by unfold textL at hl; simp at hl; omega
  refine (textR_any w R _ 0 z hz h hl).mono ?_
  rintro en w' ⟨ao, c, h1, h2, h3, h4⟩
  rw [textS_back hb hlt] at h1 h2 h3
  exact ⟨ao, c, h1, h2, by simpa using h3, h4⟩

end Go.Proofs.YtddnleofflobhaaGreatDoor

set_option linter.unusedVariables false
namespace Go.Proofs.YtddnleofflobhaaGreatDoor

/-- An entry; a log. -/
structure Pe where
  t : Nat
  i : Nat
  b : List UInt8
deriving DecidableEq
structure PL where
  ht : Nat
  hv : Int
  si : Nat
  st : Nat
  sd : List UInt8
  es : List Pe
deriving DecidableEq
def rightE : Nat → Nat → Nat → List Pe → Bool
  | _, _, _, [] => true
  | idx, tm, ht, e :: es => decide (e.i = idx + 1 ∧ tm ≤ e.t ∧ e.t ≤ ht ∧ e.b.length ≤ 32668) && rightE (idx + 1) e.t ht es
def rightS (l : PL) : Bool := decide (l.si ≤ 4611686018427387904 ∧ l.st ≤ l.ht ∧ (l.si = 0 ↔ l.st = 0) ∧ l.sd.length ≤ 32668)
def rightP (l : PL) : Bool := decide (0 ≤ l.hv ∧ l.hv ≤ 5) && rightS l && rightE l.si (max l.st 1) l.ht l.es

theorem rightE_get : ∀ {es : List Pe} {idx tm ht : Nat}, rightE idx tm ht es = true → ∀ (k : Nat) (e : Pe), es[k]? = some e → e.i = idx + k + 1 ∧ tm ≤ e.t ∧ e.t ≤ ht ∧ e.b.length ≤ 32668
  | [], _, _, _, _, k, e, hk => by cases hk
  | x :: es, idx, tm, ht, h, k, e, hk => by
    simp only [rightE, Bool.and_eq_true, decide_eq_true_eq] at h
    rcases k with _ | k
    · simp only [List.getElem?_cons_zero, Option.some.injEq] at hk
      subst hk
      exact ⟨by omega, h.1.2.1, h.1.2.2.1, h.1.2.2.2⟩
    · simp only [List.getElem?_cons_succ] at hk
      have := rightE_get h.2 k e hk
      exact ⟨by omega, Nat.le_trans h.1.2.1 this.2.1, this.2.2.1, this.2.2.2⟩

/-- The entries behind an index; how many first ones are the same. -/
def behindP (w : PL) (idx : Nat) : List Pe := if idx ≤ w.si then w.es else w.es.drop (min (idx - w.si) w.es.length)
def alikeP : List Pe → List Pe → Nat
  | x :: a, y :: b => if x = y then alikeP a b + 1 else 0
  | _, _ => 0
theorem alike_le : ∀ a b, alikeP a b ≤ a.length ∧ alikeP a b ≤ b.length
  | [], b => by simp [alikeP]
  | x :: a, [] => by simp [alikeP]
  | x :: a, y :: b => by
    have := alike_le a b
    simp only [alikeP]
    split
    · simp only [List.length_cons]; omega
    · simp
theorem alike_take : ∀ (a b : List Pe), a.take (alikeP a b) = b.take (alikeP a b)
  | [], b => by simp [alikeP]
  | x :: a, [] => by simp [alikeP]
  | x :: a, y :: b => by
    have := alike_take a b
    simp only [alikeP]
    split
    · rename_i h
      subst h
      rw [List.take_succ_cons, List.take_succ_cons, this]
    · rfl
theorem alike_next : ∀ (a b : List Pe) (k : Nat) (x y : Pe), k ≤ alikeP a b → a[k]? = some x → b[k]? = some y → (x = y → k + 1 ≤ alikeP a b) ∧ (x ≠ y → alikeP a b = k)
  | [], b, k, x, y, _, h, _ => by cases h
  | u :: a, [], k, x, y, _, _, h => by cases h
  | u :: a, v :: b, k, x, y, hk, h1, h2 => by
    rcases k with _ | k
    · simp only [List.getElem?_cons_zero, Option.some.injEq] at h1 h2
      subst h1 h2
      refine ⟨fun e => ?_, fun e => ?_⟩
      · simp only [alikeP, if_pos e]; omega
      · simp only [alikeP, if_neg e]
    · simp only [List.getElem?_cons_succ] at h1 h2
      by_cases e : u = v
      · simp only [alikeP, if_pos e] at hk ⊢
        have := alike_next a b k x y (by omega) h1 h2
        exact ⟨fun h => by have := this.1 h; omega, fun h => by have := this.2 h; omega⟩
      · simp only [alikeP, if_neg e] at hk
        omega

def entB (e : Pe) : List UInt8 := numL e.t ++ (numL e.b.length ++ e.b)
def snapB (w l : PL) : List UInt8 := if w.si = l.si ∧ w.st = l.st ∧ w.sd = l.sd then numL 0 else numL 1 ++ (numL l.si ++ (numL l.st ++ (numL l.sd.length ++ l.sd)))
def keepP (w l : PL) : Nat := alikeP (behindP w l.si) l.es
/-- What is to be known of a log where another one is known. -/
def diffB (w l : PL) : List UInt8 := numL l.ht ++ (numL l.hv.toNat ++ (snapB w l ++ (numL (keepP w l) ++ (l.es.drop (keepP w l)).flatMap entB)))

def longP (l : PL) : Nat := 40 + l.sd.length + (l.es.map fun e => 13 + e.b.length).sum
theorem ent_len {e : Pe} (ht : e.t < 18446744073709551616) (hb : e.b.length ≤ 32668) : (entB e).length ≤ 13 + e.b.length := by
  have h1 := numL_len10 (v := e.t) (by omega)
  have h2 := numL_len 2 e.b.length (by omega)
  unfold entB
  rw [List.length_append, List.length_append]
  omega
theorem ents_len : ∀ (es : List Pe), (∀ e ∈ es, e.t < 18446744073709551616 ∧ e.b.length ≤ 32668) → (es.flatMap entB).length ≤ (es.map fun e => 13 + e.b.length).sum
  | [], _ => by simp
  | e :: es, h => by
    have h1 := ent_len (h e (by simp)).1 (h e (by simp)).2
    have h2 := ents_len es (fun x hx => h x (by simp [hx]))
    rw [List.flatMap_cons, List.length_append, List.map_cons, List.sum_cons]
    omega
theorem sum_drop (es : List Pe) (k : Nat) : ((es.drop k).map fun e => 13 + e.b.length).sum ≤ (es.map fun e => 13 + e.b.length).sum := by
  conv => rhs; rw [← List.take_append_drop k es]
  rw [List.map_append, List.sum_append]
  omega
/-- A difference is no longer than it is said. -/
theorem diff_len (w l : PL) (hr : rightP l = true) (hht : l.ht < 18446744073709551616) (hes : l.es.length < 4398046511104) : (diffB w l).length ≤ longP l := by
  unfold rightP rightS at hr
  simp only [Bool.and_eq_true, decide_eq_true_eq] at hr
  obtain ⟨⟨h1, h2⟩, h3⟩ := hr
  have hE : ∀ e ∈ l.es, e.t < 18446744073709551616 ∧ e.b.length ≤ 32668 := fun e he => by
    obtain ⟨k, hk⟩ := List.mem_iff_getElem?.1 he
    have := rightE_get h3 k e hk
    exact ⟨by omega, this.2.2.2⟩
  have a1 := numL_len10 (v := l.ht) (by omega)
  have a2 := numL_len 0 l.hv.toNat (by omega)
  have a3 := numL_len 8 l.si (by omega)
  have a4 := numL_len10 (v := l.st) (by omega)
  have a5 := numL_len 2 l.sd.length (by omega)
  have hk : keepP w l < 4398046511104 := Nat.lt_of_le_of_lt (alike_le _ _).2 hes
  have a6 := numL_len 5 (keepP w l) (by omega)
  have a7 := numL_len 0 0 (by omega)
  have a8 := numL_len 0 1 (by omega)
  have a9 := ents_len (l.es.drop (keepP w l)) (fun e he => hE e (List.mem_of_mem_drop he))
  have a10 := sum_drop l.es (keepP w l)
  have hs : (snapB w l).length ≤ 23 + l.sd.length := by
    unfold snapB
    split
    · omega
    · simp only [List.length_append]; omega
  unfold diffB longP
  simp only [List.length_append]
  omega
end Go.Proofs.YtddnleofflobhaaGreatDoor

set_option linter.unusedVariables false
set_option maxRecDepth 100000
namespace Go.Proofs.YtddnleofflobhaaGreatDoor
open Go.RowKit

theorem info_u8 : (Tryz.prog.info? 5).map (fun i => (i.zero, i.size, i.bytes)) = some (some (.int .u8 0), 1, 1) := by kernel_rfl

theorem row_own {w : World} {b n : Nat} {t : TypeId} {f : Nat → Value} {base : Nat} {l : List UInt8} (h : w.rowIs b t n f) (hb : base ≤ b) (hl : l.length = n) (hm : n ≤ maxLen) (hf : ∀ i, i < n → ∃ c, l[i]? = some c ∧ f i = bv c) :
    w.ownsRow base t 1 (.slice (some ⟨b, 0, none⟩) n n) l.length (l.map bv) := by
  obtain ⟨c, hc, hs, hg⟩ := h
  subst hl
  refine ⟨by simp, .inr ⟨b, l.length, c, rfl, hb, hc, Nat.le_refl _, hm, by omega, ?_⟩⟩
  apply List.ext_getElem?
  intro i
  by_cases hi : i < l.length
  · obtain ⟨v, hv, hfv⟩ := hf i hi
    rw [List.getElem?_take, if_pos (by omega), List.getElem?_map, hv, Array.getElem?_toList, hg i hi, hfv]
    rfl
  · rw [List.getElem?_eq_none (by simp; omega), List.getElem?_eq_none (by simp; omega)]

theorem rd_get {w : World} {ao : Option Addr} {n c : Nat} {l : List UInt8} (h : Rd w (.slice ao n c) l) {k : Nat} {v : UInt8} (hk : l[k]? = some v) : ∃ b off, ao = some ⟨b, off, none⟩ ∧ w.cell? ⟨b, off + k, none⟩ = some (bv v) := by
  obtain ⟨ao', c', he, h1, h2, h3, h4⟩ := h
  simp only [Value.slice.injEq] at he
  obtain ⟨rfl, rfl, rfl⟩ := he
  have hkl : k < l.length := (List.getElem?_eq_some_iff.1 hk).1
  cases ao with
  | none => have := h3 rfl; omega
  | some a =>
    obtain ⟨b, off, spot⟩ := a
    have h00 := h4 _ rfl 0 (bv (l[0]'(by omega))) (by rw [List.getElem?_map, List.getElem?_eq_getElem (by omega)]; rfl)
    have hspot : spot = none := by simpa [Addr.add] using World.cell?_spot h00
    subst hspot
    refine ⟨b, off, rfl, ?_⟩
    have h0 := h4 _ rfl k (bv v) (by rw [List.getElem?_map, hk]; rfl)
    rw [WideShapes.add_plain] at h0
    exact h0

end Go.Proofs.YtddnleofflobhaaGreatDoor

