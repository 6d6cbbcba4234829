/-
  PROVED: the statement RouteAllSaid (law RouteAll of armoirelaw14): at every routes and every name the law answers true and does not panic: what the groups of entries own lies side by side, from the first key to the last; each base group has all names, and a name just one of them. No condition besides those of the statement.
-/
import GoSem.Op.String
import Derived.Lib.Bytealg
import Derived.Test.YthckgokkjlnknaaRows
import Derived.WalkKit
import Derived.WalkSpells
import Derived.WalkLawsBesides
import Derived.Laws.AppendOwnNone
import Derived.Deep.Slices
import Derived.BigQuiet
import Derived.Deep.QuietTactic
import Derived.Deep.AppendLies
import Derived.Deep.RegionWith
import Derived.Shelf.Abstract
import Derived.Test.YthckgokkjlnknaaProg
import Derived.LaidEql
import Derived.Stop.Asserts
import Derived.RowKitTokens
import Derived.Lib.Bytes
import Derived.Deep.OwnRows
import Derived.OwnWalk
import Derived.ProofKit
import Derived.Lib.AppendZeros
import Derived.Deep.CutRange
import Derived.Deep.RegionHeld3
import Derived.OpenShut
import Derived.ShutString
import Derived.ChangeOld
import Derived.Below
import Derived.SizedLaws
import Derived.Deep.Strs
import Derived.Deep.RegionHeld
import Derived.Deep.RegionLaw
import Derived.Laws.OwnMore
import Derived.Laws.ResultCell
import Derived.BigRegion
import Derived.Laws.CopyOwn
import Derived.Lib.AppendZerosOnto
import Derived.Lib.Overlaps
import Derived.Deep.AppendSrc
import Derived.Deep.CutBlock
import Derived.Lib.SlBytesConst
import Derived.RangeFuncNested
import Derived.RangeFuncBound
import Derived.RangeFuncCalls
import Derived.RangeFuncLeaves
import Derived.Shelf.RegionOpen
import Derived.OwnWalkIn
import Derived.TacticsInMore
import Derived.LoopNIn
import Derived.LoopIn
import Derived.Laws.CopyRow
import Derived.Deep.MidRow
import Derived.Laws.MakeOwn
import Derived.IntWalk
import Derived.Test.YthckgokkjlnknaaHA1
import Derived.Test.YthckgokkjlnknaaHA2
import Derived.Test.YthckgokkjlnknaaHA3
import Derived.Test.YthckgokkjlnknaaHA4
set_option linter.unusedVariables false
set_option linter.unusedSimpArgs false
set_option linter.unusedVariables false
set_option linter.unusedSimpArgs false
set_option maxRecDepth 100000
namespace Go.Proofs.Ythckgokkjlnknaa.routeAll
open Go.RowKit Go.Deep

set_option maxHeartbeats 32000000 in
theorem walk0 {R : Rou} {ao b : Option Addr} {c d : Nat} {x : Value} {nm : List UInt8} (W : World) (hr : OwsN W (.slice ao R.sp.length c) R.sp) (hcut : Rd W (.slice b R.cut.length d) R.cut) (hL : ∀ o ∈ R.sp, o.f.length ≤ 140737488355328) (hbi : i64 R.base) (hx : Rd W x nm) :
    Calls Try.prog 8 #[.agg #[.int .i64 R.ep, .int .i64 R.base, .slice ao R.sp.length c, .int .i64 R.mv, .slice b R.cut.length d], x] W (fun e w' => e = .returned (.bool true) ∧ Below W.heap.size W w') := by
  have HR := hid hr
  have HCUT := hid hcut
  have HLL := hid hL
  have HX := hid hx
  have HBI := hid hbi
  obtain ⟨ax, cx, rfl⟩ := zrd_form hx
  clear hr hcut hL hx hbi
  go_enter Try.func8, Try.ntmps8
  go_upto_region 1 with fail
  have hb := (Below.refl W.heap.size W).alloc (Nat.le_refl _) (.cells #[.int .i64 R.ep, .int .i64 R.base, .slice ao R.sp.length c, .int .i64 R.mv, .slice b R.cut.length d] 64)
  have hz := heap_alloc_new W (.cells #[.int .i64 R.ep, .int .i64 R.base, .slice ao R.sp.length c, .int .i64 R.mv, .slice b R.cut.length d] 64)
  have hs : (W.alloc (.cells #[.int .i64 R.ep, .int .i64 R.base, .slice ao R.sp.length c, .int .i64 R.mv, .slice b R.cut.length d] 64)).heap.size = W.heap.size + 1 := by simp
  generalize W.alloc (.cells #[.int .i64 R.ep, .int .i64 R.base, .slice ao R.sp.length c, .int .i64 R.mv, .slice b R.cut.length d] 64) = w1 at *
  have HB1 := hid hb
  have HKR : Hid (∀ V, Below w1.heap.size w1 V → V.cell? ⟨W.heap.size, 0, none⟩ = some (.int .i64 R.ep) ∧ V.cell? ⟨W.heap.size, 1, none⟩ = some (.int .i64 R.base) ∧ V.cell? ⟨W.heap.size, 2, none⟩ = some (.slice ao R.sp.length c) ∧ V.cell? ⟨W.heap.size, 3, none⟩ = some (.int .i64 R.mv) ∧ V.cell? ⟨W.heap.size, 4, none⟩ = some (.slice b R.cut.length d)) := hid (fun V hV => by
    have h9 := (hV.block _ (by omega)).trans hz
    exact ⟨cell_in h9 0 _ rfl, cell_in h9 1 _ rfl, cell_in h9 2 _ rfl, cell_in h9 3 _ rfl, cell_in h9 4 _ rfl⟩)
  clear hb hz hs
  have CAW := hid (fun V => awake_ok V)
  have HX1 : Hid (Below w1.heap.size w1 w1) := hid (Below.refl _ _)
  by_cases hsm : R.sp.length < 30
  case neg =>
    have CSM := hid (fun V => small_no V R ao b c d hsm)
    go_upto_region 2 with (first
      | (go_at_call 37; refine (CAW.out _).mono ?_; rintro en w2 ⟨rfl, hbE⟩; have HX2 := hid (below_step HX1.out hbE); clear hbE; obtain ⟨q0, q1, q2, q3, q4⟩ := HKR.out _ HX2.out)
      | (go_at_call 36; refine (CSM.out _).mono ?_; rintro en w3 ⟨rfl, hbE⟩; have HX3 := hid (below_step HX2.out hbE); clear hbE))
    go_wp2_with (first | (go_at_call 37; refine (CAW.out _).mono ?_; rintro en w4 ⟨rfl, hbE⟩; have HX4 := hid (below_step HX3.out hbE); clear hbE))
    go_ret
    exact ⟨rfl, below_step HB1.out HX4.out⟩
  have CSM := hid (fun V => small_any V R ao b c d hsm)
  have CRT := hid (fun (V : World) (hV : Below w1.heap.size w1 V) => rright_any (HR.out.old (below_step HB1.out hV)) (HCUT.out.old (below_step HB1.out hV)) HLL.out HBI.out)
  cases hrt : rightB R with
  | false =>
    rw [hrt] at CRT
    go_upto_region 2 with (first
      | (go_at_call 37; refine (CAW.out _).mono ?_; rintro en w2 ⟨rfl, hbE⟩; have HX2 := hid (below_step HX1.out hbE); clear hbE; obtain ⟨q0, q1, q2, q3, q4⟩ := HKR.out _ HX2.out)
      | (go_at_call 36; refine (CSM.out _).mono ?_; rintro en w3 ⟨rfl, hbE⟩; have HX3 := hid (below_step HX2.out hbE); clear hbE q0 q1 q2 q3 q4; obtain ⟨q0, q1, q2, q3, q4⟩ := HKR.out _ HX3.out)
      | (go_at_call 41; refine (CRT.out _ HX3.out).mono ?_; rintro en w4 ⟨rfl, hbE⟩; have HX4 := hid (below_step HX3.out hbE); clear hbE))
    go_wp2_with (first | (go_at_call 37; refine (CAW.out _).mono ?_; rintro en w5 ⟨rfl, hbE⟩; have HX5 := hid (below_step HX4.out hbE); clear hbE))
    go_ret
    exact ⟨rfl, below_step HB1.out HX5.out⟩
  | true =>
    rw [hrt] at CRT
    have HRT := hid (right_ok hrt)
    go_upto_region 3 with (first
      | (go_at_call 37; refine (CAW.out _).mono ?_; rintro en w2 ⟨rfl, hbE⟩; have HX2 := hid (below_step HX1.out hbE); clear hbE; obtain ⟨q0, q1, q2, q3, q4⟩ := HKR.out _ HX2.out)
      | (go_at_call 36; refine (CSM.out _).mono ?_; rintro en w3 ⟨rfl, hbE⟩; have HX3 := hid (below_step HX2.out hbE); clear hbE q0 q1 q2 q3 q4; obtain ⟨q0, q1, q2, q3, q4⟩ := HKR.out _ HX3.out)
      | (go_at_call 41; refine (CRT.out _ HX3.out).mono ?_; rintro en w4 ⟨rfl, hbE⟩; have HX4 := hid (below_step HX3.out hbE); clear hbE))
    clear q0 q1 q2 q3 q4 CAW CSM CRT
    go_wp2_with fail
    have HY0 := hid (zrd_one (c := 120) (heap_alloc_new w4 (.cells #[.int .u8 120] 5)))
    have HX5 := hid (HX4.out.alloc HX4.out.size (.cells #[.int .u8 120] 5))
    generalize w4.alloc (.cells #[.int .u8 120] 5) = w5 at *
    have HAT0 : Hid (∃ a c, (.slice (some ⟨w4.heap.size, 0, none⟩) 1 1 : Value) = .slice a (atL R.sp 0).length c ∧ Rd w5 (.slice a (atL R.sp 0).length c) (atL R.sp 0)) := hid (by rw [HRT.out.first]; exact ⟨_, _, rfl, HY0.out⟩)
    clear HY0
    generalize w4.heap.size = g4 at *
    have hlm := ows_form HR.out
    obtain ⟨ao', c', e, -, hm, hc⟩ := ows_cells HR.out
    cases e
    have HC := hid hc
    clear hm hc
    go_loopw [6, 5] (fun i at' wr => ∃ k : Nat, k ≤ R.sp.length ∧ i = .int .i64 (k : Int) ∧ Hid (∃ a c, at' = .slice a (atL R.sp k).length c ∧ Rd wr (.slice a (atL R.sp k).length c) (atL R.sp k)) ∧ Hid (Below w1.heap.size w1 wr))
      (fun i _ _ => R.sp.length - (intOf i).toNat)
    case atStart => exact ⟨0, by omega, rfl, HAT0, HX5⟩
    case round =>
      obtain ⟨k, hk, rfl, HAT, HXr⟩ := hrel
      obtain ⟨q0, q1, q2, q3, q4⟩ := HKR.out _ HXr.out
      obtain ⟨at1, at2, rfl, har⟩ := HAT.out
      have HAR := hid har
      clear har HAT
      by_cases hlt : k < R.sp.length
      · obtain ⟨o, hu⟩ : ∃ o, R.sp[k]? = some o := ⟨_, List.getElem?_eq_getElem hlt⟩
        obtain ⟨b1, of1, x5, d5, rfl, c0, c1, cr⟩ := HC.out k o hu
        have HO0 := hid c0
        have hki : (k : Int) < (R.sp.length : Int) := by omega
        have HU := hid hu
        have HAK := hid (atL_lt hu)
        have HPL := hid (HRT.out.grp k o hu).2.2
        have HLS := hid (HRT.out.rise k o hu)
        clear c0 c1 cr hu
        go_upto_region 7 with fail
        clear q0 q1 q2 q3 q4
        refine wp_region_noPanic ?_
        refine wp_region_held_drew (S := fun V => Hid (Below wr.heap.size wr V)) (by kernel_rfl) (hid (Below.drew (Below.refl _ _))) (fun hHeld => ?_)
        generalize wr.drew = Wd at *
        refine tkH 0 (.agg #[.int .i64 R.ep, .int .i64 R.base, .slice (some ⟨b1, of1, none⟩) R.sp.length c, .int .i64 R.mv, .slice b R.cut.length d]) rfl (by kernel_rfl) (fun _ _ _ => False.elim) hHeld (Or.inl ⟨by rfl, fun W9 hW => by obtain ⟨q0, q1, q2, q3, q4⟩ := HKR.out _ (HXr.out.trans (hW.out.mono HXr.out.size)); clear hHeld hW; simp only [jA, jB, jC]; go_simp⟩) ?_
        try simp only [Act.put, jA, jB, jC, jD, jE, jF]
        refine tkH 1 (.pointer (some ⟨W.heap.size, 2, none⟩)) rfl (by kernel_rfl) (fun _ _ _ => False.elim) hHeld (Or.inl ⟨by rfl, fun W9 hW => by clear hHeld hW; simp only [jA, jB, jC]; go_simp⟩) ?_
        try simp only [Act.put, jA, jB, jC, jD, jE, jF]
        refine tkH 2 (.slice (some ⟨b1, of1, none⟩) R.sp.length c) rfl (by kernel_rfl) (fun _ _ _ => False.elim) hHeld (Or.inl ⟨by rfl, fun W9 hW => by obtain ⟨q0, q1, q2, q3, q4⟩ := HKR.out _ (HXr.out.trans (hW.out.mono HXr.out.size)); clear hHeld hW; simp only [jA, jB, jC]; go_simp⟩) ?_
        try simp only [Act.put, jA, jB, jC, jD, jE, jF]
        refine tkH 3 (.int .i64 (k : Int)) rfl (by kernel_rfl) (fun _ _ _ => False.elim) hHeld (Or.inl ⟨by rfl, fun W9 hW => by clear hHeld hW; simp only [jA, jB, jC]; go_simp⟩) ?_
        try simp only [Act.put, jA, jB, jC, jD, jE, jF]
        refine tkH 4 (.pointer (some ⟨b1, of1 + k * 2, none⟩)) rfl (by kernel_rfl) (fun _ _ _ => False.elim) hHeld (Or.inl ⟨by rfl, fun W9 hW => by clear hHeld hW; simp only [jA, jB, jC]; go_simp⟩) ?_
        try simp only [Act.put, jA, jB, jC, jD, jE, jF]
        refine tkH 5 (.pointer (some ⟨b1, of1 + k * 2, none⟩)) rfl (by kernel_rfl) (fun _ _ _ => False.elim) hHeld (Or.inl ⟨by rfl, fun W9 hW => by clear hHeld hW; simp only [jA, jB, jC]; go_simp⟩) ?_
        try simp only [Act.put, jA, jB, jC, jD, jE, jF]
        refine tkH 6 (.int .i64 o.g) rfl (by kernel_rfl) (fun _ _ _ => False.elim) hHeld (Or.inl ⟨by rfl, fun W9 hW => by have p7 := ((below_step (below_step HB1.out HXr.out) hW.out).cell (block_cell HO0.out)).trans HO0.out; clear hHeld hW; simp only [jA, jB, jC]; go_simp⟩) ?_
        try simp only [Act.put, jA, jB, jC, jD, jE, jF]
        refine wpAnyH_ready (rs := [7, 8]) (by kernel_rfl) (by simp) ?_
        refine AllReadyH.cons rfl (fun K hK => ?_) (AllReadyH.cons rfl (fun K hK => ?_) AllReadyH.nil)
        · -- the call first
          go_simp
          have CQ := hid (owned_some (b := b) (d := d) (HR.out.old (below_step (below_step HB1.out HXr.out) hHeld.out)) HRT.out.lens HPL.out HU.out)
          go_wp2_with (first | (go_at_call 55; refine CQ.out.mono ?_; rintro en w6 ⟨a5, c5, a6, c6, rfl, hf, ht, hbE⟩; have HBE := hid (below_step hHeld.out hbE); have HF := hid hf; have HT := hid ht; clear hf ht))
          clear CQ hHeld
          refine hK.out _ _ HBE (fun hHeld => ?_)
          clear hK K
          try simp only [Act.put, jA, jB, jC, jD, jE, jF]
          have hb7 := hHeld.out.alloc hHeld.out.size (.cells #[.slice none 0 0, .slice none 0 0] 66)
          have hz7 := heap_alloc_new w6 (.cells #[.slice none 0 0, .slice none 0 0] 66)
          have HF7 := hid (HF.out.alloc (.cells #[.slice none 0 0, .slice none 0 0] 66))
          have HT7 := hid (HT.out.alloc (.cells #[.slice none 0 0, .slice none 0 0] 66))
          have hge : wr.heap.size ≤ w6.heap.size := hHeld.out.size
          refine rdH 8 (by kernel_rfl) rfl fun K hK => ?_
          go_simp
          refine hK.out _ _ (hid hb7) (fun hHeld => ?_)
          clear hK K hb7
          generalize w6.alloc (.cells #[.slice none 0 0, .slice none 0 0] 66) = w7 at *
          generalize w6.heap.size = g6 at *
          have HZ7 := hid hz7
          have r0 := cell_in hz7 0 _ rfl
          have r1 := cell_in hz7 1 _ rfl
          have fr0 := free_in hz7 0
          have fr1 := free_in hz7 1
          clear hz7
          try simp only [Act.put, jA, jB, jC, jD, jE, jF]
          have hb8 : Below wr.heap.size wr ((w7.setCell ⟨g6, 0, none⟩ (.slice a5 o.f.length c5)).setCell ⟨g6, 1, none⟩ (.slice a6 (toL R.sp k).length c6)) := (hHeld.out.setCell hge _).setCell hge _
          refine rdH 9 (by kernel_rfl) rfl fun K hK => ?_
          go_simp
          refine hK.out _ _ (hid hb8) (fun hHeld => ?_)
          clear hK K r0 r1 fr0 fr1
          try simp only [Act.put, jA, jB, jC, jD, jE, jF]
          have hk8 := keep2 w7 g6 (.slice a5 o.f.length c5) (.slice a6 (toL R.sp k).length c6)
          have HF8 := hid (rd_put HF7.out HZ7.out hk8)
          have HT8 := hid (rd_put HT7.out HZ7.out hk8)
          have hz8 := put_in (put_in HZ7.out 0 (.slice a5 o.f.length c5)) 1 (.slice a6 (toL R.sp k).length c6)
          have HDF := hid hb8
          clear hk8 hb8 HF7 HT7 HZ7 HF HT HBE
          generalize (w7.setCell ⟨g6, 0, none⟩ (.slice a5 o.f.length c5)).setCell ⟨g6, 1, none⟩ (.slice a6 (toL R.sp k).length c6) = wF at *
          have HXF := hid (HXr.out.trans (HDF.out.mono HXr.out.size))
          refine wpAnyH_done (by kernel_rfl) (NoPanic.normal ?_) _
          clear hHeld
          have y0 := cell_in hz8 0 _ rfl
          have y1 := cell_in hz8 1 _ rfl
          have t1 := HT8.out.conv (P := Try.prog) 62 9 5 Try.underlying62 Try.underlying5 Try.underlying9
          have t2 := HF8.out.conv (P := Try.prog) 62 9 5 Try.underlying62 Try.underlying5 Try.underlying9
          have CB := hid (zbytes_any wF HF8.out (HAR.out.old HDF.out))
          rw [HAK.out] at CB
          have hee : (o.f == o.f) = true := by simp
          rw [hee] at CB
          clear hee
          have hle1 : Op.bytesLess (toL R.sp k) o.f = false := (leq_not HLS.out).1
          have hle2 : (toL R.sp k == o.f) = false := beq_eq_false_iff_ne.2 (leq_not HLS.out).2
          have hrz : (k : Nat) + 1 ≤ R.sp.length := by omega
          rw [HAK.out]
          go_wp2_with (first | (go_at_call 63; refine CB.out.mono ?_; rintro en w9 ⟨rfl, e9⟩; obtain rfl : wF = w9 := e9.symm))
          go_roundw
          · exact ⟨k + 1, by omega, by go_num, hid ⟨_, _, rfl, HT8.out⟩, HXF⟩
          · simp [intOf]; omega
        · -- the variable first
          go_simp
          have hb6 := hHeld.out.alloc hHeld.out.size (.cells #[.slice none 0 0, .slice none 0 0] 66)
          have hz6 := heap_alloc_new Wd (.cells #[.slice none 0 0, .slice none 0 0] 66)
          have hge : wr.heap.size ≤ Wd.heap.size := hHeld.out.size
          refine hK.out _ _ (hid hb6) (fun hHeld => ?_)
          clear hK K hb6
          generalize Wd.alloc (.cells #[.slice none 0 0, .slice none 0 0] 66) = w6 at *
          generalize Wd.heap.size = g6 at *
          have HZ6 := hid hz6
          clear hz6
          try simp only [Act.put, jA, jB, jC, jD, jE, jF]
          refine rdH 7 (by kernel_rfl) rfl fun K hK => ?_
          go_simp
          have CQ := hid (owned_some (b := b) (d := d) (HR.out.old (below_step (below_step HB1.out HXr.out) hHeld.out)) HRT.out.lens HPL.out HU.out)
          go_wp2_with (first | (go_at_call 55; refine CQ.out.mono ?_; rintro en w7 ⟨a5, c5, a6, c6, rfl, hf, ht, hbE⟩; have HBE := hid (below_step hHeld.out hbE); have HF7 := hid hf; have HT7 := hid ht; have hz7 := (hbE.block _ (lt_of_block HZ6.out)).trans HZ6.out; have HZ7 := hid hz7; clear hf ht hz7))
          clear CQ hHeld
          refine hK.out _ _ HBE (fun hHeld => ?_)
          clear hK K
          try simp only [Act.put, jA, jB, jC, jD, jE, jF]
          have r0 := cell_in HZ7.out 0 _ rfl
          have r1 := cell_in HZ7.out 1 _ rfl
          have fr0 := free_in HZ7.out 0
          have fr1 := free_in HZ7.out 1
          have hb8 : Below wr.heap.size wr ((w7.setCell ⟨g6, 0, none⟩ (.slice a5 o.f.length c5)).setCell ⟨g6, 1, none⟩ (.slice a6 (toL R.sp k).length c6)) := (hHeld.out.setCell hge _).setCell hge _
          refine rdH 9 (by kernel_rfl) rfl fun K hK => ?_
          go_simp
          refine hK.out _ _ (hid hb8) (fun hHeld => ?_)
          clear hK K r0 r1 fr0 fr1
          try simp only [Act.put, jA, jB, jC, jD, jE, jF]
          have hk8 := keep2 w7 g6 (.slice a5 o.f.length c5) (.slice a6 (toL R.sp k).length c6)
          have HF8 := hid (rd_put HF7.out HZ7.out hk8)
          have HT8 := hid (rd_put HT7.out HZ7.out hk8)
          have hz8 := put_in (put_in HZ7.out 0 (.slice a5 o.f.length c5)) 1 (.slice a6 (toL R.sp k).length c6)
          have HDF := hid hb8
          clear hk8 hb8 HF7 HT7 HZ7 HZ6 HBE
          generalize (w7.setCell ⟨g6, 0, none⟩ (.slice a5 o.f.length c5)).setCell ⟨g6, 1, none⟩ (.slice a6 (toL R.sp k).length c6) = wF at *
          have HXF := hid (HXr.out.trans (HDF.out.mono HXr.out.size))
          refine wpAnyH_done (by kernel_rfl) (NoPanic.normal ?_) _
          clear hHeld
          have y0 := cell_in hz8 0 _ rfl
          have y1 := cell_in hz8 1 _ rfl
          have t1 := HT8.out.conv (P := Try.prog) 62 9 5 Try.underlying62 Try.underlying5 Try.underlying9
          have t2 := HF8.out.conv (P := Try.prog) 62 9 5 Try.underlying62 Try.underlying5 Try.underlying9
          have CB := hid (zbytes_any wF HF8.out (HAR.out.old HDF.out))
          rw [HAK.out] at CB
          have hee : (o.f == o.f) = true := by simp
          rw [hee] at CB
          clear hee
          have hle1 : Op.bytesLess (toL R.sp k) o.f = false := (leq_not HLS.out).1
          have hle2 : (toL R.sp k == o.f) = false := beq_eq_false_iff_ne.2 (leq_not HLS.out).2
          have hrz : (k : Nat) + 1 ≤ R.sp.length := by omega
          rw [HAK.out]
          go_wp2_with (first | (go_at_call 63; refine CB.out.mono ?_; rintro en w9 ⟨rfl, e9⟩; obtain rfl : wF = w9 := e9.symm))
          go_roundw
          · exact ⟨k + 1, by omega, by go_num, hid ⟨_, _, rfl, HT8.out⟩, HXF⟩
          · simp [intOf]; omega
      · obtain rfl : k = R.sp.length := by omega
        go_wp2_with fail
        clear q0 q1 q2 q3 q4
        have hz6 := heap_alloc_new wr (.cells #[.int .u8 114] 5)
        have hb6 := (Below.refl wr.heap.size wr).alloc (Nat.le_refl _) (.cells #[.int .u8 114] 5)
        have hs6 : (wr.alloc (.cells #[.int .u8 114] 5)).heap.size = wr.heap.size + 1 := by simp
        generalize wr.alloc (.cells #[.int .u8 114] 5) = w6 at *
        have hz7 := heap_alloc_new w6 (.cells #[.int .u8 115] 5)
        have hb7 := hb6.alloc hb6.size (.cells #[.int .u8 115] 5)
        have hz67 := (((Below.refl w6.heap.size w6).alloc (Nat.le_refl _) (.cells #[.int .u8 115] 5)).block _ (by omega)).trans hz6
        have hs7 : (w6.alloc (.cells #[.int .u8 115] 5)).heap.size = wr.heap.size + 1 + 1 := by simp; omega
        rw [hs6] at hz7
        generalize w6.alloc (.cells #[.int .u8 115] 5) = w7 at *
        have SPg : ∃ o : Obj, o = (.cells #[.slice (some ⟨wr.heap.size, 0, none⟩) 1 1, .slice (some ⟨wr.heap.size + 1, 0, none⟩) 1 1] 66) := ⟨_, rfl⟩
        have hz8 := heap_alloc_new w7 (.cells #[.slice (some ⟨wr.heap.size, 0, none⟩) 1 1, .slice (some ⟨wr.heap.size + 1, 0, none⟩) 1 1] 66)
        have hb8 := hb7.alloc hb7.size (.cells #[.slice (some ⟨wr.heap.size, 0, none⟩) 1 1, .slice (some ⟨wr.heap.size + 1, 0, none⟩) 1 1] 66)
        have hf8 := (zrd_one hz67 (c := 114)).alloc (.cells #[.slice (some ⟨wr.heap.size, 0, none⟩) 1 1, .slice (some ⟨wr.heap.size + 1, 0, none⟩) 1 1] 66)
        have ht8 := (zrd_one hz7 (c := 115)).alloc (.cells #[.slice (some ⟨wr.heap.size, 0, none⟩) 1 1, .slice (some ⟨wr.heap.size + 1, 0, none⟩) 1 1] 66)
        rw [hs7] at hz8
        generalize w7.alloc (.cells #[.slice (some ⟨wr.heap.size, 0, none⟩) 1 1, .slice (some ⟨wr.heap.size + 1, 0, none⟩) 1 1] 66) = w8 at *
        have HX8 := hid (HXr.out.trans (hb8.mono HXr.out.size))
        have HAR8 := hid (HAR.out.old hb8)
        have HZ8 := hid hz8
        have HF8 := hid hf8
        have HT8 := hid ht8
        clear hz6 hb6 hs6 hz7 hb7 hz67 hs7 hz8 hb8 hf8 ht8 SPg HAR HXr
        generalize hg0 : wr.heap.size = g0 at *
        clear hg0
        obtain ⟨nb, hnb⟩ : ∃ nb, R.base.toNat = nb := ⟨_, rfl⟩
        have hnbi : (nb : Int) = R.base := by have := HRT.out.base; omega
        have HNB := hid hnbi
        have hnl : nb ≤ 4 := by have := HRT.out.base; omega
        clear hnbi
        go_loopw [9] (fun g wv => ∃ j : Nat, j ≤ nb ∧ g = .int .i64 ((j : Int) + 1) ∧ Hid (Below w8.heap.size w8 wv))
          (fun g _ => 6 - (intOf g).toNat)
        case atStart => exact ⟨0, by omega, rfl, hid (Below.refl _ _)⟩
        case round =>
          obtain ⟨j, hj, rfl, HXv⟩ := hrel
          have HX9 := hid (HX8.out.trans (HXv.out.mono HX8.out.size))
          have hW9 := below_step HB1.out HX9.out
          obtain ⟨q0, q1, q2, q3, q4⟩ := HKR.out _ HX9.out
          by_cases hlt2 : j < nb
          · have hgb : (j : Int) + 1 ≤ R.base := by have := HNB.out; omega
            have CP := hid (part_base (z := (j : Int) + 1) (b := b) (d := d) HRT.out (HR.out.old hW9) (by omega) hgb)
            have HW9 := hid hW9
            clear hW9
            go_upto_region 16 with (first | (go_at_call 43; refine CP.out.mono ?_; rintro en wp ⟨a5, c5, a6, c6, rfl, hf, ht, hbp⟩; have HF9 := hid hf; have HT9 := hid ht; have HXp := hid (below_step HXv.out hbp); clear hf ht hbp CP q0 q1 q2 q3 q4))
            have hzp := heap_alloc_new wp (.cells #[.slice a5 1 c5, .slice a6 1 c6] 66)
            have hbp := (Below.refl wp.heap.size wp).alloc (Nat.le_refl _) (.cells #[.slice a5 1 c5, .slice a6 1 c6] 66)
            have HXq := hid (below_step HXp.out hbp)
            have HFq := hid (HF9.out.old hbp)
            have HTq := hid (HT9.out.old hbp)
            generalize wp.heap.size = gp at *
            generalize wp.alloc (.cells #[.slice a5 1 c5, .slice a6 1 c6] 66) = wq at *
            have HZq := hid hzp
            have h8q := (HXq.out.block _ (lt_of_block HZ8.out)).trans HZ8.out
            have CS := hid (hspan_any (F1 := [114]) (T1 := [115]) (F2 := [114]) (T2 := [115]) HFq.out HTq.out (HF8.out.old HXq.out) (HT8.out.old HXq.out))
            have hee : (([114] : List UInt8) == [114] && ([115] : List UInt8) == [115]) = true := by decide
            rw [hee] at CS
            clear hee hbp hzp
            have y0 := cell_in HZq.out 0 _ rfl
            have y1 := cell_in HZq.out 1 _ rfl
            have x0 := cell_in h8q 0 _ rfl
            have x1 := cell_in h8q 1 _ rfl
            clear h8q
            go_wp2_with (first | (go_at_call 45; refine CS.out.mono ?_; rintro en ws ⟨rfl, hbs⟩; have HXs := hid (below_step HXq.out hbs); clear hbs))
            go_roundw
            · exact ⟨j + 1, by omega, by go_num, HXs⟩
            · simp [intOf]; omega
          · obtain rfl : nb = j := by omega
            have hgb : ¬ (nb : Int) + 1 ≤ R.base := by have := HNB.out; omega
            have CB := hid (base_any (ao := ao) (b := b) (c := c) (d := d) HRT.out.bf (HX.out.old hW9))
            have HBI2 := hid (base_in HRT.out nm)
            clear hW9
            go_upto_region 19 with (first | (go_at_call 46; refine CB.out.mono ?_; rintro en wb ⟨rfl, hbb⟩; have HXb := hid (below_step HXv.out hbb); clear hbb q0 q1 q2 q3 q4 CB))
            have HXc := hid (HX8.out.trans (HXb.out.mono HX8.out.size))
            have HWc := hid (below_step HB1.out HXc.out)
            have HAL : Hid (atL R.sp R.sp.length = [121]) := hid (atL_ge (Nat.le_refl _))
            generalize baseI R.base nm = bi at *
            have hb1 : bi ≥ 1 := HBI2.out.1
            have hb2 : bi ≤ R.base := HBI2.out.2
            refine wp_region_noPanic ?_
            refine wp_region_held_drew (S := fun V => Hid (Below wb.heap.size wb V)) (by kernel_rfl) (hid (Below.drew (Below.refl _ _))) (fun hHeld => ?_)
            generalize wb.drew = Wd at *
            refine tkH 0 (.slice at1 (atL R.sp R.sp.length).length at2) rfl (by kernel_rfl) (fun _ _ _ => False.elim) hHeld (Or.inl ⟨by rfl, fun W9 hW => by clear hHeld hW; simp only [jA, jB, jC]; go_simp⟩) ?_
            try simp only [Act.put, jA, jB, jC, jD, jE, jF]
            have hb20 := hHeld.out.alloc hHeld.out.size (.cells #[.int .u8 121] 5)
            have hz20 := heap_alloc_new Wd (.cells #[.int .u8 121] 5)
            refine rdH 1 (by kernel_rfl) rfl fun K hK => ?_
            go_simp
            refine hK.out _ _ (hid hb20) (fun hHeld => ?_)
            clear hK K hb20
            generalize Wd.alloc (.cells #[.int .u8 121] 5) = w20 at *
            generalize Wd.heap.size = g20 at *
            try simp only [Act.put, jA, jB, jC, jD, jE, jF]
            have CBy := hid (zbytes_any w20 (HAR8.out.old (below_step HXb.out hHeld.out)) (zrd_one (c := 121) hz20))
            have hee : (atL R.sp R.sp.length == [121]) = true := by rw [HAL.out]; decide
            rw [hee] at CBy
            clear hee hz20
            refine rdH 2 (by kernel_rfl) rfl fun K hK => ?_
            go_simp
            go_wp2_with (first | (go_at_call 63; refine CBy.out.mono ?_; rintro en w21 ⟨rfl, e21⟩; obtain rfl : w20 = w21 := e21.symm))
            refine hK.out _ _ hHeld (fun hHeld => ?_)
            clear hK K CBy
            try simp only [Act.put, jA, jB, jC, jD, jE, jF]
            refine tkH 3 (.bool true) rfl (by kernel_rfl) (fun _ _ _ => False.elim) hHeld (Or.inl ⟨by rfl, fun W9 hW => by clear hHeld hW; simp only [jA, jB, jC]; go_simp⟩) ?_
            try simp only [Act.put, jA, jB, jC, jD, jE, jF]
            refine tkH 4 (.int .i64 bi) rfl (by kernel_rfl) (fun _ _ _ => False.elim) hHeld (Or.inl ⟨by rfl, fun W9 hW => by clear hHeld hW; simp only [jA, jB, jC]; go_simp⟩) ?_
            try simp only [Act.put, jA, jB, jC, jD, jE, jF]
            refine tkH 5 (.bool true) rfl (by kernel_rfl) (fun _ _ _ => False.elim) hHeld (Or.inl ⟨by rfl, fun W9 hW => by clear hHeld hW; simp only [jA, jB, jC]; go_simp⟩) ?_
            try simp only [Act.put, jA, jB, jC, jD, jE, jF]
            refine tkH 6 (.bool true) rfl (by kernel_rfl) (fun _ _ _ => False.elim) hHeld (Or.inl ⟨by rfl, fun W9 hW => by clear hHeld hW; simp only [jA, jB, jC]; go_simp⟩) ?_
            try simp only [Act.put, jA, jB, jC, jD, jE, jF]
            refine tkH 7 (.bool true) rfl (by kernel_rfl) (fun _ _ _ => False.elim) hHeld (Or.inl ⟨by rfl, fun W9 hW => by clear hHeld hW; simp only [jA, jB, jC]; go_simp⟩) ?_
            try simp only [Act.put, jA, jB, jC, jD, jE, jF]
            refine tkH 8 (.int .i64 bi) rfl (by kernel_rfl) (fun _ _ _ => False.elim) hHeld (Or.inl ⟨by rfl, fun W9 hW => by clear hHeld hW; simp only [jA, jB, jC]; go_simp⟩) ?_
            try simp only [Act.put, jA, jB, jC, jD, jE, jF]
            refine tkH 9 (.pointer (some ⟨W.heap.size, 1, none⟩)) rfl (by kernel_rfl) (fun _ _ _ => False.elim) hHeld (Or.inl ⟨by rfl, fun W9 hW => by clear hHeld hW; simp only [jA, jB, jC]; go_simp⟩) ?_
            try simp only [Act.put, jA, jB, jC, jD, jE, jF]
            refine tkH 10 (.int .i64 R.base) rfl (by kernel_rfl) (fun _ _ _ => False.elim) hHeld (Or.inl ⟨by rfl, fun W9 hW => by obtain ⟨q0, q1, q2, q3, q4⟩ := HKR.out _ (HXc.out.trans (hW.out.mono HXc.out.size)); clear hHeld hW; simp only [jA, jB, jC]; go_simp⟩) ?_
            try simp only [Act.put, jA, jB, jC, jD, jE, jF]
            refine tkH 11 (.bool true) rfl (by kernel_rfl) (fun _ _ _ => False.elim) hHeld (Or.inl ⟨by rfl, fun W9 hW => by clear hHeld hW; simp only [jA, jB, jC]; go_simp⟩) ?_
            try simp only [Act.put, jA, jB, jC, jD, jE, jF]
            refine tkH 12 (.bool true) rfl (by kernel_rfl) (fun _ _ _ => False.elim) hHeld (Or.inl ⟨by rfl, fun W9 hW => by clear hHeld hW; simp only [jA, jB, jC]; go_simp⟩) ?_
            try simp only [Act.put, jA, jB, jC, jD, jE, jF]
            refine tkH 13 (.bool true) rfl (by kernel_rfl) (fun _ _ _ => False.elim) hHeld (Or.inl ⟨by rfl, fun W9 hW => by clear hHeld hW; simp only [jA, jB, jC]; go_simp⟩) ?_
            try simp only [Act.put, jA, jB, jC, jD, jE, jF]
            refine tkH 14 (.agg #[.int .i64 R.ep, .int .i64 R.base, .slice ao R.sp.length c, .int .i64 R.mv, .slice b R.cut.length d]) rfl (by kernel_rfl) (fun _ _ _ => False.elim) hHeld (Or.inl ⟨by rfl, fun W9 hW => by obtain ⟨q0, q1, q2, q3, q4⟩ := HKR.out _ (HXc.out.trans (hW.out.mono HXc.out.size)); clear hHeld hW; simp only [jA, jB, jC]; go_simp⟩) ?_
            try simp only [Act.put, jA, jB, jC, jD, jE, jF]
            refine tkH 15 (.agg #[.slice (some ⟨g0, 0, none⟩) 1 1, .slice (some ⟨g0 + 1, 0, none⟩) 1 1]) rfl (by kernel_rfl) (fun _ _ _ => False.elim) hHeld (Or.inl ⟨by rfl, fun W9 hW => by have h8q := ((below_step HXb.out hW.out).block _ (lt_of_block HZ8.out)).trans HZ8.out; have x0 := cell_in h8q 0 _ rfl; have x1 := cell_in h8q 1 _ rfl; clear h8q; clear hHeld hW; simp only [jA, jB, jC]; go_simp⟩) ?_
            try simp only [Act.put, jA, jB, jC, jD, jE, jF]
            refine tkH 18 (.pointer (some ⟨W.heap.size, 1, none⟩)) rfl (by kernel_rfl) (fun _ _ _ => False.elim) hHeld (Or.inl ⟨by rfl, fun W9 hW => by clear hHeld hW; simp only [jA, jB, jC]; go_simp⟩) ?_
            try simp only [Act.put, jA, jB, jC, jD, jE, jF]
            refine tkH 19 (.int .i64 R.base) rfl (by kernel_rfl) (fun _ _ _ => False.elim) hHeld (Or.inl ⟨by rfl, fun W9 hW => by obtain ⟨q0, q1, q2, q3, q4⟩ := HKR.out _ (HXc.out.trans (hW.out.mono HXc.out.size)); clear hHeld hW; simp only [jA, jB, jC]; go_simp⟩) ?_
            try simp only [Act.put, jA, jB, jC, jD, jE, jF]
            refine rdH 16 (by kernel_rfl) rfl fun K hK => ?_
            try rw [if_pos (by rfl)]
            go_simp
            have CQ := hid (over_any (R := R) (b := b) (d := d) (F := [114]) (T := [115]) HRT.out.bf (HR.out.old (below_step HWc.out hHeld.out)) HRT.out.len4 (HF8.out.old (below_step HXb.out hHeld.out)) (HT8.out.old (below_step HXb.out hHeld.out)))
            go_wp2_with (first | (go_at_call 53; refine CQ.out.mono ?_; rintro en w22 ⟨vo, M, rfl, hp, hso, ho, hbE⟩; have HBE := hid (below_step hHeld.out hbE); have HMl : Hid ((M.length : Int) = R.base) := hid (by rw [hp.length_eq, over_rows HRT.out, bases_len]; have := HNB.out; omega); have HMo := hid ho; clear hp hso ho))
            clear CQ hHeld
            refine hK.out _ _ HBE (fun hHeld => ?_)
            clear hK K HBE
            try simp only [Act.put, jA, jB, jC, jD, jE, jF]
            have hvo : ∃ avo cvo, vo = .slice avo M.length cvo := by
              obtain ⟨h1, h2⟩ := HMo.out
              rcases h2 with ⟨h2, h3⟩ | ⟨g', cap, cur, rfl, -⟩
              · exact ⟨none, 0, by rw [h3]; exact h2⟩
              · exact ⟨_, _, rfl⟩
            obtain ⟨avo, cvo, rfl⟩ := hvo
            have hml := HMl.out
            have hlen := fun V => run_len_slice (P := Try.prog) V 31 3 avo M.length cvo Try.underlying31
            refine tkH 17 (.int .i64 (M.length : Int)) rfl (by kernel_rfl) (fun _ _ _ => False.elim) hHeld (Or.inl ⟨by rfl, fun W9 hW => by clear hHeld hW; simp only [jA, jB, jC]; go_simp⟩) ?_
            try simp only [Act.put, jA, jB, jC, jD, jE, jF]
            refine tkH 20 (.bool true) rfl (by kernel_rfl) (fun _ _ _ => False.elim) hHeld (Or.inl ⟨by rfl, fun W9 hW => by clear hHeld hW; simp only [jA, jB, jC]; go_simp⟩) ?_
            try simp only [Act.put, jA, jB, jC, jD, jE, jF]
            refine tkH 21 (.bool true) rfl (by kernel_rfl) (fun _ _ _ => False.elim) hHeld (Or.inl ⟨by rfl, fun W9 hW => by clear hHeld hW; simp only [jA, jB, jC]; go_simp⟩) ?_
            try simp only [Act.put, jA, jB, jC, jD, jE, jF]
            refine tkH 22 (.bool true) rfl (by kernel_rfl) (fun _ _ _ => False.elim) hHeld (Or.inl ⟨by rfl, fun W9 hW => by clear hHeld hW; simp only [jA, jB, jC]; go_simp⟩) ?_
            try simp only [Act.put, jA, jB, jC, jD, jE, jF]
            refine wpAnyH_done (by kernel_rfl) (NoPanic.normal ?_) _
            have HWf := hid (below_step HWc.out hHeld.out)
            go_wp2_with fail
            go_ret
            exact ⟨rfl, HWf.out⟩

open Go.ChangeShapes Go.WideShapes Go.ChangeAt in
theorem walk {H : Type} {enc : TypeId × Value → H} (v0 v1 : Value) (W : World) {base : Nat} {d0 d1 : DataW H} {p0 p1 : List MemPlace} (hw0 : Value.okWide Try.prog W .any base 64 v0) (h0 : DataW.Trod enc Try.prog W 0 (fun _ => true) true 64 v0 d0 p0) (hk0 : ∀ n ∈ d0.weights Try.prog 64, n ≤ reachBytes)
    (hw1 : Value.okWide Try.prog W .any base 62 v1) (h1 : DataW.Trod enc Try.prog W 0 (fun _ => true) true 62 v1 d1 p1) (hk1 : ∀ n ∈ d1.weights Try.prog 62, n ≤ reachBytes) :
    Calls Try.prog 8 #[v0, v1] W (fun e w' => e = .returned (.bool true) ∧ Below W.heap.size W w') := by
  obtain ⟨R, ao, c, b, d, rfl, hr, hcut, -, hbi, -, hL, -, -⟩ := routes_open hw0 h0 hk0
  obtain ⟨ax, cx, nm, rfl, hx, -⟩ := hbytes_open hw1 h1 hk1
  exact walk0 W hr hcut hL hbi hx
end Go.Proofs.Ythckgokkjlnknaa.routeAll

namespace Go.Proofs.Ythckgokkjlnknaa.routeAll
open Go.ChangeShapes Go.WideShapes Go.ChangeAt Go.RowKit
open Go.ChangeMaps (open_string shut_string)
set_option linter.unusedVariables false

theorem own : ownKnob Try.prog.godebug = none := by kernel_rfl
theorem laidOut : laidOutB Try.prog = true := by kernel_rfl

set_option maxRecDepth 100000 in
theorem contract (H : Type) (enc : TypeId × Value → H) (W : World) (base : Nat) (args : Array Value) (ds gs : List (DataW H)) (before : List MemPlace)
    (hval0 : ∀ (j : Nat) t v, Try.f8.params[j]? = some t → args[j]? = some v → Value.okWide Try.prog W .any base t v)
    (hW : DataW.Whole enc Try.prog Try.f8.params.toList Rows.routeAllSpec.vars false W args.toList ds gs before)
    (hsz0 : (DataW.weightsEach Try.prog (Try.f8.params.toList ++ Rows.routeAllSpec.plain.varTypes Try.prog) (ds ++ gs)).all (· ≤ reachBytes) = true) :
    Calls Try.prog 8 args W fun e W' => ∃ v, e = .returned v ∧ Rows.routeAllSpec.post enc Try.prog Try.f8 false true false false W args v W' := by
  have hval : ∀ (j : Nat) t v, Try.f8.params[j]? = some t → args[j]? = some v → Value.okWide Try.prog W .any base t v := hval0
  have hW' := hW
  obtain ⟨p, q, hA0, hV, rfl, hfz, hnd⟩ := hW
  have hA : DataW.TrodAll enc Try.prog W 0 (fun _ => true) true Try.f8.params.toList args.toList ds p := hA0
  have hsz : (DataW.weightsEach Try.prog (Try.f8.params.toList ++ Rows.routeAllSpec.plain.varTypes Try.prog) (ds ++ gs)).all (· ≤ reachBytes) = true := hsz0
  rw [Try.params8] at hA hval hsz
  obtain ⟨v0, vs0, d0, ds0, p0, q0, hargs, rfl, rfl, h0, r0⟩ := trodAll_cons hA
  obtain ⟨v1, vs1, d1, ds1, p1, q1, rfl, rfl, rfl, h1, r1⟩ := trodAll_cons r0
  obtain ⟨rfl, rfl, rfl⟩ := trodAll_nil r1
  obtain rfl : args = #[v0, v1] := by cases args; simp_all
  obtain ⟨rfl, rfl⟩ := trodVars_none hV
  have k0 := h0
  have lt0 : ∀ x ∈ p0, x.block < W.heap.size := by obtain ⟨m, hm⟩ := k0; exact DataW.trod_lt m _ _ _ hm
  have k1 := h1
  have lt1 : ∀ x ∈ p1, x.block < W.heap.size := by obtain ⟨m, hm⟩ := k1; exact DataW.trod_lt m _ _ _ hm
  clear hA0 hval0 hsz0
  refine (walk v0 v1 W (hval 0 64 v0 rfl rfl) h0 (fun n hn => of_decide_eq_true (List.all_eq_true.1 hsz n (DataW.weights_mem_each (j := 0) rfl rfl n hn))) (hval 1 62 v1 rfl rfl) h1 (fun n hn => of_decide_eq_true (List.all_eq_true.1 hsz n (DataW.weights_mem_each (j := 1) rfl rfl n hn)))).mono fun e W' ⟨he, bel⟩ => ?_
  subst he
  exact ⟨_, rfl, _, _, _, [], _, [], hW', trodAll_mk1 (shut_bool Try.underlying4 _), (trodAll_cons_mk (Below.trod laidOut (by kernel_rfl) (of_decide_eq_true (by kernel_rfl)) k0 bel lt0) (trodAll_cons_mk (Below.trod laidOut (by kernel_rfl) (of_decide_eq_true (by kernel_rfl)) k1 bel lt1) trodAll_mk0)), rfl, bel.frame _, fun h => by cases h⟩

set_option maxRecDepth 100000 in
theorem lifted (os : Os) (started : os.Started) (H : Type) (enc : TypeId × Value → H) :
    ReturnsInHanded {} Try.checked os 8 .any (Rows.routeAllSpec.pre6 enc Try.prog Try.f8 Rows.routeAllRow.domain false) (Rows.routeAllSpec.post enc Try.prog Try.f8 false true false false) := by
  refine returnsInHanded_of_change_sized (C := Try.checked) own started (by kernel_rfl) Try.func8
    (ChangeSpec.witness6 (enc := enc) (C := Try.checked) false ⟨#[], #[.agg #[.int .i64 0, .int .i64 0, .slice none 0 0, .int .i64 0, .slice none 0 0], .slice none 0 0], []⟩ 8 (by kernel_rfl) (by kernel_rfl) (by kernel_rfl) (by kernel_rfl)) ?_
  intro W base args ds gs before hval0 hW _ hsz _
  exact contract H enc W base args ds gs before hval0 hW hsz

theorem over : Rows.routeAllRow.holds Try.pinned (OpenSpec.ofChange Rows.routeAllSpec) :=
  OpenClaim.holds_of_wide 8 Try.f8 rfl rfl rfl rfl rfl rfl rfl ⟨rfl, rfl, rfl, rfl, rfl⟩ rfl rfl rfl rfl rfl (by kernel_rfl) Try.func8 (by kernel_rfl)
    (of_decide_eq_true (by kernel_rfl)) (by unfold Func.isWrapper; first | (rw [if_pos (by decide +kernel)]; kernel_rfl) | (rw [if_neg (by decide +kernel)]; exact ⟨rfl, rfl⟩))
    (fun os started H enc _ => lifted os started H enc)

/-- THE STATEMENT. -/
theorem proved : Rows.RouteAllSaid := over
end Go.Proofs.Ythckgokkjlnknaa.routeAll

