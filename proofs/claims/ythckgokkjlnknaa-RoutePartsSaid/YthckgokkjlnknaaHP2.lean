/-
  PROVED: the statement RoutePartsSaid (law RouteParts of armoirelaw14): at every routes and every span the law answers true and does not panic: the parts of a span of entries' keys that the groups over it have are not empty, lie side by side, and are the span together. No condition besides those of the statement.
-/
import Derived.Test.YthckgokkjlnknaaHA1
import Derived.Test.YthckgokkjlnknaaHA2
import Derived.Test.YthckgokkjlnknaaHA3
import Derived.Test.YthckgokkjlnknaaHA4
import Derived.Deep.CutRange
import Derived.Deep.CutBlock
import GoSem.Op.String
import Derived.Lib.Bytealg
import Derived.Test.YthckgokkjlnknaaRows
import Derived.WalkKit
import Derived.WalkSpells
import Derived.WalkLawsBesides
import Derived.Laws.AppendOwnNone
import Derived.Deep.Slices
import Derived.BigQuiet
import Derived.Deep.QuietTactic
import Derived.Deep.AppendLies
import Derived.Deep.RegionWith
import Derived.Shelf.Abstract
import Derived.Test.YthckgokkjlnknaaProg
import Derived.LaidEql
import Derived.Stop.Asserts
import Derived.RowKitTokens
import Derived.Lib.Bytes
import Derived.Deep.OwnRows
import Derived.OwnWalk
import Derived.ProofKit
import Derived.Lib.AppendZeros
import Derived.Deep.RegionHeld3
import Derived.OpenShut
import Derived.ShutString
import Derived.ChangeOld
import Derived.Below
import Derived.SizedLaws
import Derived.Deep.Strs
import Derived.Deep.RegionHeld
import Derived.Deep.RegionLaw
import Derived.Laws.OwnMore
import Derived.Laws.ResultCell
import Derived.BigRegion
import Derived.Laws.CopyOwn
import Derived.Lib.AppendZerosOnto
import Derived.Lib.Overlaps
import Derived.Deep.AppendSrc
import Derived.Lib.SlBytesConst
import Derived.RangeFuncNested
import Derived.RangeFuncBound
import Derived.RangeFuncCalls
import Derived.RangeFuncLeaves
import Derived.Shelf.RegionOpen
import Derived.OwnWalkIn
import Derived.TacticsInMore
import Derived.LoopNIn
import Derived.LoopIn
import Derived.Laws.CopyRow
import Derived.Deep.MidRow
import Derived.Laws.MakeOwn
import Derived.IntWalk
import Derived.ArgAppend
import Derived.Test.YthckgokkjlnknaaHP1
set_option linter.unusedVariables false
set_option linter.unusedSimpArgs false
set_option linter.unusedVariables false
set_option linter.unusedSimpArgs false
set_option maxRecDepth 100000
namespace Go.Proofs.Ythckgokkjlnknaa.routeParts
open Go.RowKit Go.Deep

theorem Keep.of_below9 {X : Nat → Prop} {w w' : World} (h : Below w.heap.size w w') : Keep X w w' := ⟨h.os, h.tape, h.output, h.size, fun k hk _ => h.block k hk⟩
theorem own_nil {w : World} {base : Nat} {e : TypeId} {v : Value} {xs : List Value} {n : Nat} (h : w.ownsRow base e 1 v n xs) : ∃ avo cvo, v = .slice avo n cvo := by
  obtain ⟨h1, h2⟩ := h
  rcases h2 with ⟨h2, h3⟩ | ⟨g', cap, cur, rfl, -⟩
  · exact ⟨none, 0, by rw [h3]; exact h2⟩
  · exact ⟨_, _, rfl⟩
set_option maxHeartbeats 32000000 in
theorem walk0 {R : Rou} {ao b : Option Addr} {c d : Nat} {a1 a2 : Option Addr} {c1 c2 : Nat} {F T : List UInt8} (W : World) (hr : OwsN W (.slice ao R.sp.length c) R.sp) (hcut : Rd W (.slice b R.cut.length d) R.cut) (hL : ∀ o ∈ R.sp, o.f.length ≤ 140737488355328) (hbi : i64 R.base) (h1 : Rd W (.slice a1 F.length c1) F) (h2 : Rd W (.slice a2 T.length c2) T) (hlF : F.length ≤ 140737488355328) (hlT : T.length ≤ 140737488355328) :
    Calls Try.prog 9 #[.agg #[.int .i64 R.ep, .int .i64 R.base, .slice ao R.sp.length c, .int .i64 R.mv, .slice b R.cut.length d], .agg #[.slice a1 F.length c1, .slice a2 T.length c2]] W (fun e w' => e = .returned (.bool true) ∧ Below W.heap.size W w') := by
  have HR := hid hr
  have HCUT := hid hcut
  have HLL := hid hL
  have HBI := hid hbi
  have H1 := hid h1
  have H2 := hid h2
  have HLF := hid hlF
  have HLT := hid hlT
  clear hr hcut hL hbi h1 h2 hlF hlT
  go_enter Try.func9, Try.ntmps9
  go_upto_region 1 with fail
  have hb0 := (Below.refl W.heap.size W).alloc (Nat.le_refl _) (.cells #[.int .i64 R.ep, .int .i64 R.base, .slice ao R.sp.length c, .int .i64 R.mv, .slice b R.cut.length d] 64)
  have hz0 := heap_alloc_new W (.cells #[.int .i64 R.ep, .int .i64 R.base, .slice ao R.sp.length c, .int .i64 R.mv, .slice b R.cut.length d] 64)
  have hs0 : (W.alloc (.cells #[.int .i64 R.ep, .int .i64 R.base, .slice ao R.sp.length c, .int .i64 R.mv, .slice b R.cut.length d] 64)).heap.size = W.heap.size + 1 := by simp
  generalize W.alloc (.cells #[.int .i64 R.ep, .int .i64 R.base, .slice ao R.sp.length c, .int .i64 R.mv, .slice b R.cut.length d] 64) = w0 at *
  have hb := hb0.alloc hb0.size (.cells #[.slice a1 F.length c1, .slice a2 T.length c2] 66)
  have hzs := heap_alloc_new w0 (.cells #[.slice a1 F.length c1, .slice a2 T.length c2] 66)
  have hz := (((Below.refl w0.heap.size w0).alloc (Nat.le_refl _) (.cells #[.slice a1 F.length c1, .slice a2 T.length c2] 66)).block _ (by omega)).trans hz0
  have hs : (w0.alloc (.cells #[.slice a1 F.length c1, .slice a2 T.length c2] 66)).heap.size = W.heap.size + 2 := by simp; omega
  rw [hs0] at hzs
  generalize w0.alloc (.cells #[.slice a1 F.length c1, .slice a2 T.length c2] 66) = w1 at *
  have HB1 := hid hb
  have HS1 := hid hs
  have HZS := hid hzs
  have HKR : Hid (∀ V, Below w1.heap.size w1 V → V.cell? ⟨W.heap.size, 0, none⟩ = some (.int .i64 R.ep) ∧ V.cell? ⟨W.heap.size, 1, none⟩ = some (.int .i64 R.base) ∧ V.cell? ⟨W.heap.size, 2, none⟩ = some (.slice ao R.sp.length c) ∧ V.cell? ⟨W.heap.size, 3, none⟩ = some (.int .i64 R.mv) ∧ V.cell? ⟨W.heap.size, 4, none⟩ = some (.slice b R.cut.length d)) := hid (fun V hV => by
    have h9 := (hV.block _ (by omega)).trans hz
    exact ⟨cell_in h9 0 _ rfl, cell_in h9 1 _ rfl, cell_in h9 2 _ rfl, cell_in h9 3 _ rfl, cell_in h9 4 _ rfl⟩)
  have HZR := hid hz
  clear hb hz hs hb0 hz0 hs0 hzs
  have CAW := hid (fun V => awake_ok V)
  have HX1 : Hid (Below w1.heap.size w1 w1) := hid (Below.refl _ _)
  by_cases hsm : R.sp.length < 30
  case neg =>
    have CSM := hid (fun V => small_no V R ao b c d hsm)
    go_upto_region 2 with (first
      | (go_at_call 37; refine (CAW.out _).mono ?_; rintro en w2 ⟨rfl, hbE⟩; have HX2 := hid (below_step HX1.out hbE); clear hbE; obtain ⟨q0, q1, q2, q3, q4⟩ := HKR.out _ HX2.out)
      | (go_at_call 36; refine (CSM.out _).mono ?_; rintro en w3 ⟨rfl, hbE⟩; have HX3 := hid (below_step HX2.out hbE); clear hbE q0 q1 q2 q3 q4; obtain ⟨q0, q1, q2, q3, q4⟩ := HKR.out _ HX3.out))
    go_wp2_with (first | (go_at_call 37; refine (CAW.out _).mono ?_; rintro en w4 ⟨rfl, hbE⟩; have HX4 := hid (below_step HX3.out hbE); clear hbE))
    go_ret
    exact ⟨rfl, below_step HB1.out HX4.out⟩
  have CSM := hid (fun V => small_any V R ao b c d hsm)
  have CRT := hid (fun (V : World) (hV : Below w1.heap.size w1 V) => rright_any (HR.out.old (below_step HB1.out hV)) (HCUT.out.old (below_step HB1.out hV)) HLL.out HBI.out)
  cases hrt : rightB R with
  | false =>
    rw [hrt] at CRT
    go_upto_region 2 with (first
      | (go_at_call 37; refine (CAW.out _).mono ?_; rintro en w2 ⟨rfl, hbE⟩; have HX2 := hid (below_step HX1.out hbE); clear hbE; obtain ⟨q0, q1, q2, q3, q4⟩ := HKR.out _ HX2.out)
      | (go_at_call 36; refine (CSM.out _).mono ?_; rintro en w3 ⟨rfl, hbE⟩; have HX3 := hid (below_step HX2.out hbE); clear hbE q0 q1 q2 q3 q4; obtain ⟨q0, q1, q2, q3, q4⟩ := HKR.out _ HX3.out)
      | (go_at_call 41; refine (CRT.out _ HX3.out).mono ?_; rintro en w4 ⟨rfl, hbE⟩; have HX4 := hid (below_step HX3.out hbE); clear hbE; have hs4 := (HX4.out.block _ (by have := HS1.out; omega)).trans HZS.out; have p0 := cell_in hs4 0 _ rfl; have p1 := cell_in hs4 1 _ rfl; clear hs4))
    go_wp2_with (first | (go_at_call 37; refine (CAW.out _).mono ?_; rintro en w5 ⟨rfl, hbE⟩; have HX5 := hid (below_step HX4.out hbE); clear hbE))
    go_ret
    exact ⟨rfl, below_step HB1.out HX5.out⟩
  | true =>
    rw [hrt] at CRT
    have HRT := hid (right_ok hrt)
    by_cases hF0 : F.length = 0
    · have hF0i : ((F.length : Nat) : Int) = 0 := by omega
      have hF0b : (((F.length : Nat) : Int) == 0) = true := by simpa using hF0i
      go_upto_region 2 with (first
        | (go_at_call 37; refine (CAW.out _).mono ?_; rintro en w2 ⟨rfl, hbE⟩; have HX2 := hid (below_step HX1.out hbE); clear hbE; obtain ⟨q0, q1, q2, q3, q4⟩ := HKR.out _ HX2.out)
        | (go_at_call 36; refine (CSM.out _).mono ?_; rintro en w3 ⟨rfl, hbE⟩; have HX3 := hid (below_step HX2.out hbE); clear hbE q0 q1 q2 q3 q4; obtain ⟨q0, q1, q2, q3, q4⟩ := HKR.out _ HX3.out)
        | (go_at_call 41; refine (CRT.out _ HX3.out).mono ?_; rintro en w4 ⟨rfl, hbE⟩; have HX4 := hid (below_step HX3.out hbE); clear hbE; have hs4 := (HX4.out.block _ (by have := HS1.out; omega)).trans HZS.out; have p0 := cell_in hs4 0 _ rfl; have p1 := cell_in hs4 1 _ rfl; clear hs4))
      go_wp2_with (first | (go_at_call 37; refine (CAW.out _).mono ?_; rintro en w5 ⟨rfl, hbE⟩; have HX5 := hid (below_step HX4.out hbE); clear hbE))
      go_ret
      exact ⟨rfl, below_step HB1.out HX5.out⟩
    have hF0i : ¬ ((F.length : Nat) : Int) = 0 := by omega
    have hF0b : (((F.length : Nat) : Int) == 0) = false := by simpa using hF0i
    have hpos : 0 < F.length := by omega
    have hpi : (0 : Int) < ((F.length : Nat) : Int) := by omega
    obtain ⟨b7, of7, d7, e7, -, -, hz7⟩ := H1.out.at hpos
    cases e7
    obtain ⟨z7, hz70⟩ : ∃ z7, F[0] = z7 := ⟨_, rfl⟩
    have hzz := hz7 0 hpos
    rw [hz70] at hzz
    have hbeg : begB F 120 = ((z7.toNat : Int) == 120) := by
      cases hf : F with
      | nil => rw [hf] at hpos; simp at hpos
      | cons q l => rw [← hz70]; simp only [hf, begB, List.getElem_cons_zero]
    simp only [Nat.add_zero] at hzz
    have HZ7 := hid hzz
    clear hz7 hz70 hzz hpos
    by_cases g10 : (z7.toNat : Int) = 120
    case neg =>
      have g10b : ((z7.toNat : Int) == 120) = false := by simpa using g10
      go_upto_region 2 with (first
        | (go_at_call 37; refine (CAW.out _).mono ?_; rintro en w2 ⟨rfl, hbE⟩; have HX2 := hid (below_step HX1.out hbE); clear hbE; obtain ⟨q0, q1, q2, q3, q4⟩ := HKR.out _ HX2.out)
        | (go_at_call 36; refine (CSM.out _).mono ?_; rintro en w3 ⟨rfl, hbE⟩; have HX3 := hid (below_step HX2.out hbE); clear hbE q0 q1 q2 q3 q4; obtain ⟨q0, q1, q2, q3, q4⟩ := HKR.out _ HX3.out)
        | (go_at_call 41; refine (CRT.out _ HX3.out).mono ?_; rintro en w4 ⟨rfl, hbE⟩; have HX4 := hid (below_step HX3.out hbE); clear hbE; have hs4 := (HX4.out.block _ (by have := HS1.out; omega)).trans HZS.out; have p0 := cell_in hs4 0 _ rfl; have p1 := cell_in hs4 1 _ rfl; clear hs4; have p7 := ((below_step HB1.out HX4.out).cell (block_cell HZ7.out)).trans HZ7.out))
      go_wp2_with (first | (go_at_call 37; refine (CAW.out _).mono ?_; rintro en w5 ⟨rfl, hbE⟩; have HX5 := hid (below_step HX4.out hbE); clear hbE))
      go_ret
      exact ⟨rfl, below_step HB1.out HX5.out⟩
    rw [g10] at hbeg
    have hbg : begB F 120 = true := by rw [hbeg]; rfl
    have HBG := hid hbg
    clear hbeg hbg
    go_upto_if 37 with (first
      | (go_at_call 37; refine (CAW.out _).mono ?_; rintro en w2 ⟨rfl, hbE⟩; have HX2 := hid (below_step HX1.out hbE); clear hbE; obtain ⟨q0, q1, q2, q3, q4⟩ := HKR.out _ HX2.out)
      | (go_at_call 36; refine (CSM.out _).mono ?_; rintro en w3 ⟨rfl, hbE⟩; have HX3 := hid (below_step HX2.out hbE); clear hbE q0 q1 q2 q3 q4; obtain ⟨q0, q1, q2, q3, q4⟩ := HKR.out _ HX3.out)
      | (go_at_call 41; refine (CRT.out _ HX3.out).mono ?_; rintro en w4 ⟨rfl, hbE⟩; have HX4 := hid (below_step HX3.out hbE); clear hbE; have hs4 := (HX4.out.block _ (by have := HS1.out; omega)).trans HZS.out; have p0 := cell_in hs4 0 _ rfl; have p1 := cell_in hs4 1 _ rfl; clear hs4; have p7 := ((below_step HB1.out HX4.out).cell (block_cell HZ7.out)).trans HZ7.out))
    go_step
    go_step
    go_step
    go_step
    go_step
    clear q0 q1 q2 q3 q4 p7 CAW CSM CRT HZ7 g10
    go_cut [] from 39 to 50 (fun wx => ∃ (a9 : Option Addr) (c9 : Nat) (T9 : List UInt8), Hid (wx.heap[W.heap.size + 1]? = some (.cells #[.slice (some ⟨b7, of7, none⟩) F.length c1, .slice a9 T9.length c9] 66 (0, 0))) ∧ Hid (Rd wx (.slice a9 T9.length c9) T9) ∧ Hid (T9 ≠ [] ∧ Op.bytesLess [121] T9 = false ∧ T9.length ≤ 140737488355328) ∧ Hid (Below W.heap.size W wx) ∧ Hid (Keep (fun q => q = W.heap.size + 1) w4 wx))
    case first =>
      have HZ4 := hid ((HX4.out.block _ (by have := HS1.out; omega)).trans HZS.out)
      have f1 := free_in HZ4.out 1
      have HT4 := hid (H2.out.old (below_step HB1.out HX4.out))
      have HBW4 := hid (below_step HB1.out HX4.out)
      by_cases hT0 : T.length = 0
      · have hT0i : ((T.length : Nat) : Int) = 0 := by omega
        have hT0b : (((T.length : Nat) : Int) == 0) = true := by simpa using hT0i
        have hbl := (Below.refl w4.heap.size w4).alloc (Nat.le_refl _) (.cells #[.int .u8 121] 5)
        have hz5 := (hbl.block _ (lt_of_block HZ4.out)).trans HZ4.out
        have g1 := cell_in hz5 1 _ rfl
        have fg1 := free_in hz5 1
        have HZ5 := hid hz5
        have HBL := hid hbl
        clear hbl hz5
        go_wp2_with fail
        go_meet
        have hz9 := put_in HZ5.out 1 (.slice (some ⟨w4.heap.size, 0, none⟩) 1 1)
        have hk9 : Keep (fun q => q = W.heap.size + 1) (w4.alloc (.cells #[.int .u8 121] 5)) ((w4.alloc (.cells #[.int .u8 121] 5)).setCell ⟨W.heap.size + 1, 1, none⟩ (.slice (some ⟨w4.heap.size, 0, none⟩) 1 1)) := Keep.set (X := fun q => q = W.heap.size + 1) _ ⟨W.heap.size + 1, 1, none⟩ _ rfl
        have hr9 := rd_put (zrd_one (c := 121) (heap_alloc_new w4 (.cells #[.int .u8 121] 5))) HZ5.out hk9
        have hb9 : Below W.heap.size W ((w4.alloc (.cells #[.int .u8 121] 5)).setCell ⟨W.heap.size + 1, 1, none⟩ (.slice (some ⟨w4.heap.size, 0, none⟩) 1 1)) := (below_step HBW4.out HBL.out).setCell (show W.heap.size ≤ W.heap.size + 1 by omega) _
        exact ⟨some ⟨w4.heap.size, 0, none⟩, 1, [121], hz9, hr9, ⟨by simp, by decide, by simp⟩, hb9, (Keep.of_below9 HBL.out).trans hk9⟩
      have hT0i : ¬ ((T.length : Nat) : Int) = 0 := by omega
      have hT0b : (((T.length : Nat) : Int) == 0) = false := by simpa using hT0i
      have t0 := HT4.out.conv (P := Try.prog) 62 9 5 Try.underlying62 Try.underlying5 Try.underlying9
      have hTn : T ≠ [] := fun e => hT0 (by rw [e]; rfl)
      have HTN := hid hTn
      clear hTn
      cases hT1 : Op.bytesLess T [121] with
      | true =>
        go_wp2_with fail
        go_meet
        exact ⟨a2, c2, T, HZ4.out, HT4.out, ⟨HTN.out, less_asymm hT1, HLT.out⟩, HBW4.out, Keep.refl _ _⟩
      | false =>
        by_cases hTe : T = [121]
        · have hTb : (T == [121]) = true := by simpa using hTe
          have HTE := hid hTe
          clear hTe
          go_wp2_with fail
          go_meet
          exact ⟨a2, c2, T, HZ4.out, HT4.out, ⟨HTN.out, by rw [HTE.out]; decide, HLT.out⟩, HBW4.out, Keep.refl _ _⟩
        have hTb : (T == [121]) = false := by simpa using hTe
        have hbl := (Below.refl w4.heap.size w4).alloc (Nat.le_refl _) (.cells #[.int .u8 121] 5)
        have hz5 := (hbl.block _ (lt_of_block HZ4.out)).trans HZ4.out
        have g1 := cell_in hz5 1 _ rfl
        have fg1 := free_in hz5 1
        have HZ5 := hid hz5
        have HBL := hid hbl
        clear hbl hz5
        go_wp2_with fail
        go_meet
        have hz9 := put_in HZ5.out 1 (.slice (some ⟨w4.heap.size, 0, none⟩) 1 1)
        have hk9 : Keep (fun q => q = W.heap.size + 1) (w4.alloc (.cells #[.int .u8 121] 5)) ((w4.alloc (.cells #[.int .u8 121] 5)).setCell ⟨W.heap.size + 1, 1, none⟩ (.slice (some ⟨w4.heap.size, 0, none⟩) 1 1)) := Keep.set (X := fun q => q = W.heap.size + 1) _ ⟨W.heap.size + 1, 1, none⟩ _ rfl
        have hr9 := rd_put (zrd_one (c := 121) (heap_alloc_new w4 (.cells #[.int .u8 121] 5))) HZ5.out hk9
        have hb9 : Below W.heap.size W ((w4.alloc (.cells #[.int .u8 121] 5)).setCell ⟨W.heap.size + 1, 1, none⟩ (.slice (some ⟨w4.heap.size, 0, none⟩) 1 1)) := (below_step HBW4.out HBL.out).setCell (show W.heap.size ≤ W.heap.size + 1 by omega) _
        exact ⟨some ⟨w4.heap.size, 0, none⟩, 1, [121], hz9, hr9, ⟨by simp, by decide, by simp⟩, hb9, (Keep.of_below9 HBL.out).trans hk9⟩
    case rest =>
      obtain ⟨a9, c9, T9, HZS9, HT9, HT9P, HB9, HK9⟩ := hcut
      have hsz4 : W.heap.size + 2 ≤ w4.heap.size := by have := HX4.out.size; have := HS1.out; omega
      have HZR9 : Hid (wc.heap[W.heap.size]? = some (.cells #[.int .i64 R.ep, .int .i64 R.base, .slice ao R.sp.length c, .int .i64 R.mv, .slice b R.cut.length d] 64 (0, 0))) := hid ((HK9.out.block _ (by omega) (by omega)).trans ((HX4.out.block _ (by have := HS1.out; omega)).trans HZR.out))
      have HKR5 : Hid (∀ V, Below wc.heap.size wc V → V.cell? ⟨W.heap.size, 0, none⟩ = some (.int .i64 R.ep) ∧ V.cell? ⟨W.heap.size, 1, none⟩ = some (.int .i64 R.base) ∧ V.cell? ⟨W.heap.size, 2, none⟩ = some (.slice ao R.sp.length c) ∧ V.cell? ⟨W.heap.size, 3, none⟩ = some (.int .i64 R.mv) ∧ V.cell? ⟨W.heap.size, 4, none⟩ = some (.slice b R.cut.length d)) := hid (fun V hV => by
        have h9 := (hV.block _ (lt_of_block HZR9.out)).trans HZR9.out
        exact ⟨cell_in h9 0 _ rfl, cell_in h9 1 _ rfl, cell_in h9 2 _ rfl, cell_in h9 3 _ rfl, cell_in h9 4 _ rfl⟩)
      have HKS5 : Hid (∀ V, Below wc.heap.size wc V → V.cell? ⟨W.heap.size + 1, 0, none⟩ = some (.slice (some ⟨b7, of7, none⟩) F.length c1) ∧ V.cell? ⟨W.heap.size + 1, 1, none⟩ = some (.slice a9 T9.length c9)) := hid (fun V hV => by
        have h9 := (hV.block _ (lt_of_block HZS9.out)).trans HZS9.out
        exact ⟨cell_in h9 0 _ rfl, cell_in h9 1 _ rfl⟩)
      have HF9 := hid (H1.out.old HB9.out)
      have HR9 := hid (HR.out.old HB9.out)
      clear HKR HZR HZS HK9 HX1 HX2 HX3 HX4 HCUT H2 HLT HZR9 HZS9 hsz4
      have t1 := HF9.out.conv (P := Try.prog) 62 9 5 Try.underlying62 Try.underlying5 Try.underlying9
      have t2 := HT9.out.conv (P := Try.prog) 62 9 5 Try.underlying62 Try.underlying5 Try.underlying9
      obtain ⟨q0, q1, q2, q3, q4⟩ := HKR5.out wc (Below.refl _ _)
      obtain ⟨p0, p1⟩ := HKS5.out wc (Below.refl _ _)
      cases hFT : Op.bytesLess F T9 with
      | false =>
        have hle : Op.bytesLess T9 F = true ∨ T9 = F := leq_of hFT
        have hleb : (Op.bytesLess T9 F || T9 == F) = true := by rcases hle with h | h <;> simp [h]
        have CO := hid (over_any (b := b) (d := d) HRT.out.bf HR9.out HRT.out.len4 HF9.out HT9.out)
        rw [over_none HT9P.out.1 hFT] at CO
        go_wp2_with (first | (go_at_call 53; refine CO.out.mono ?_; rintro en w6 ⟨vo, M, rfl, hp, hso, ho, hbE⟩; obtain rfl : M = [] := List.eq_nil_of_length_eq_zero hp.length_eq; have HBf := hid (below_step HB9.out hbE); have hvo : ∃ avo cvo, vo = .slice avo 0 cvo := own_nil ho; obtain ⟨avo, cvo, rfl⟩ := hvo; have hlen := fun V => run_len_slice (P := Try.prog) V 31 3 avo 0 cvo Try.underlying31; clear hp hso ho hbE))
        go_ret
        exact ⟨rfl, HBf.out⟩
      | true =>
        have hle1 : Op.bytesLess T9 F = false := less_asymm hFT
        have hle2 : (T9 == F) = false := beq_eq_false_iff_ne.2 (leq_not hFT).2
        have CO := hid (over_any (b := b) (d := d) HRT.out.bf HR9.out HRT.out.len4 HF9.out HT9.out)
        rw [over_entries HBG.out hFT] at CO
        have HFT := hid hFT
        clear hFT t1 t2
        have t1 := HF9.out.conv (P := Try.prog) 62 9 5 Try.underlying62 Try.underlying5 Try.underlying9
        have t2 := HT9.out.conv (P := Try.prog) 62 9 5 Try.underlying62 Try.underlying5 Try.underlying9
        go_wp2_with (first | (go_at_call 53; refine CO.out.mono ?_; rintro en w6 ⟨vo, M, rfl, hp, hso, ho, hbE⟩; have HXo := hid hbE; have HMp := hid hp; obtain ⟨avo, cvo, rfl⟩ : ∃ avo cvo, vo = .slice avo M.length cvo := own_nil ho; have HMo := hid ho; have hlen := fun V => run_len_slice (P := Try.prog) V 31 3 avo M.length cvo Try.underlying31; clear hp hso ho hbE q0 q1 q2 q3 q4 p0 p1 t1 t2 CO hle1 hle2))
        have hml : M.length ≤ 4 := by rw [HMp.out.length_eq]; have := met_len R.sp F T9 R.sp.length; have := HRT.out.len4; omega
        have HML := hid hml
        have hmlb : M.length ≤ 9223372036854775807 := by omega
        clear hml
        go_loopw [7, 5] (fun iv' pv wr => ∃ (i : Nat) (S : List Spn) (va : Option Addr) (vc : Nat), i ≤ M.length ∧ iv' = .int .i64 (i : Int) ∧ pv = .slice va S.length vc ∧ Hid (SpsN wr (.slice va S.length vc) S) ∧ Hid (S.Perm ((M.take i).map (ptZ R F T9)) ∧ S.Pairwise nlt) ∧ Hid (Below w6.heap.size w6 wr))
          (fun iv' _ _ => M.length - (intOf iv').toNat)
        case atStart => exact ⟨0, [], none, 0, by omega, rfl, rfl, SpsN.nil _, hid ⟨List.Perm.refl _, List.Pairwise.nil⟩, hid (Below.refl _ _)⟩
        case round =>
          obtain ⟨i, S, va, vc, hi, rfl, rfl, HSP, HSS, HXr⟩ := hrel
          have HXw := hid (HXo.out.trans (HXr.out.mono HXo.out.size))
          by_cases hlt : i < M.length
          · obtain ⟨z, hz⟩ : ∃ z, M[i]? = some z := ⟨_, List.getElem?_eq_getElem hlt⟩
            obtain ⟨k, o, -, ho, rfl, hmt⟩ := met_mem _ z (HMp.out.mem_iff.1 (List.mem_of_getElem? hz))
            obtain ⟨hAll, hptz⟩ := part_spec (F := F) (T := T9) HRT.out ho
            have HPZ := hid hptz
            have HALL := hid hAll
            have HMT := hid hmt
            have HZi := hid hz
            obtain ⟨g1, rfl, hgc⟩ := own_at HMo.out hz
            have HGC := hid hgc
            have hki : (i : Int) < (M.length : Int) := by omega
            have HSL : Hid (S.length ≤ 4) := hid (by have h1 := HSS.out.1.length_eq; have h2 := HML.out; simp only [List.length_map, List.length_take] at h1; omega)
            clear hAll hptz hmt hz ho hgc
            go_upto_region 12 with fail
            refine wp_region_noPanic ?_
            refine wp_region_held_drew (S := fun V => Hid (Below wr.heap.size wr V)) (by kernel_rfl) (hid (Below.drew (Below.refl _ _))) (fun hHeld => ?_)
            generalize wr.drew = Wd at *
            refine tkH 0 (.agg #[.int .i64 R.ep, .int .i64 R.base, .slice ao R.sp.length c, .int .i64 R.mv, .slice b R.cut.length d]) rfl (by kernel_rfl) (fun _ _ _ => False.elim) hHeld (Or.inl ⟨by rfl, fun W9 hW => by obtain ⟨q0, q1, q2, q3, q4⟩ := HKR5.out _ (below_step HXw.out hW.out); clear hHeld hW; simp only [jA, jB, jC]; go_simp⟩) ?_
            try simp only [Act.put, jA, jB, jC, jD, jE, jF]
            refine tkH 1 (.slice (some ⟨g1, 0, none⟩) M.length cvo) rfl (by kernel_rfl) (fun _ _ _ => False.elim) hHeld (Or.inl ⟨by rfl, fun W9 hW => by clear hHeld hW; simp only [jA, jB, jC]; go_simp⟩) ?_
            try simp only [Act.put, jA, jB, jC, jD, jE, jF]
            refine tkH 2 (.int .i64 (i : Int)) rfl (by kernel_rfl) (fun _ _ _ => False.elim) hHeld (Or.inl ⟨by rfl, fun W9 hW => by clear hHeld hW; simp only [jA, jB, jC]; go_simp⟩) ?_
            try simp only [Act.put, jA, jB, jC, jD, jE, jF]
            refine tkH 3 (.pointer (some ⟨g1, i, none⟩)) rfl (by kernel_rfl) (fun _ _ _ => False.elim) hHeld (Or.inl ⟨by rfl, fun W9 hW => by clear hHeld hW; simp only [jA, jB, jC]; go_simp⟩) ?_
            try simp only [Act.put, jA, jB, jC, jD, jE, jF]
            refine tkH 4 (.int .i64 o.g) rfl (by kernel_rfl) (fun _ _ _ => False.elim) hHeld (Or.inl ⟨by rfl, fun W9 hW => by have g9 := ((below_step HXr.out hW.out).cell (block_cell HGC.out)).trans HGC.out; clear hHeld hW; simp only [jA, jB, jC]; go_simp⟩) ?_
            try simp only [Act.put, jA, jB, jC, jD, jE, jF]
            refine tkH 5 (.agg #[.slice (some ⟨b7, of7, none⟩) F.length c1, .slice a9 T9.length c9]) rfl (by kernel_rfl) (fun _ _ _ => False.elim) hHeld (Or.inl ⟨by rfl, fun W9 hW => by obtain ⟨p0, p1⟩ := HKS5.out _ (below_step HXw.out hW.out); clear hHeld hW; simp only [jA, jB, jC]; go_simp⟩) ?_
            try simp only [Act.put, jA, jB, jC, jD, jE, jF]
            refine wpAnyH_ready (rs := [6, 10]) (by kernel_rfl) (by simp) ?_
            refine AllReadyH.cons rfl (fun K hK => ?_) (AllReadyH.cons rfl (fun K hK => ?_) AllReadyH.nil)
            · -- the call first
              go_simp
              have CQ := hid (part_any (b := b) (d := d) HRT.out.bf (HR9.out.old (below_step HXw.out hHeld.out)) HRT.out.lens (HF9.out.old (below_step HXw.out hHeld.out)) (HT9.out.old (below_step HXw.out hHeld.out)) HLF.out HT9P.out.2.2 HALL.out)
              have hmb := HMT.out
              unfold meetB at hmb
              rw [hmb] at CQ
              simp only [if_true] at CQ
              clear hmb
              go_wp2_with (first | (go_at_call 43; refine CQ.out.mono ?_; rintro en w7 ⟨a5, c5, a6, c6, rfl, hf, ht, hbE⟩; have HBE := hid (below_step hHeld.out hbE); have HF := hid hf; have HT := hid ht; clear hf ht))
              clear CQ hHeld
              refine hK.out _ _ HBE (fun hHeld => ?_)
              clear hK K
              try simp only [Act.put, jA, jB, jC, jD, jE, jF]
              refine tkH 7 (.tuple #[.agg #[.slice a5 (bothF F o.f).length c5, .slice a6 (bothT T9 (toL R.sp k)).length c6], .bool true]) rfl (by kernel_rfl) (fun _ _ _ => False.elim) hHeld (Or.inl ⟨by rfl, fun W9 hW => by clear hHeld hW; simp only [jA, jB, jC]; go_simp⟩) ?_
              try simp only [Act.put, jA, jB, jC, jD, jE, jF]
              refine tkH 8 (.agg #[.slice a5 (bothF F o.f).length c5, .slice a6 (bothT T9 (toL R.sp k)).length c6]) rfl (by kernel_rfl) (fun _ _ _ => False.elim) hHeld (Or.inl ⟨by rfl, fun W9 hW => by clear hHeld hW; simp only [jA, jB, jC]; go_simp⟩) ?_
              try simp only [Act.put, jA, jB, jC, jD, jE, jF]
              refine tkH 9 (.bool true) rfl (by kernel_rfl) (fun _ _ _ => False.elim) hHeld (Or.inl ⟨by rfl, fun W9 hW => by clear hHeld hW; simp only [jA, jB, jC]; go_simp⟩) ?_
              try simp only [Act.put, jA, jB, jC, jD, jE, jF]
              have hb7 := hHeld.out.alloc hHeld.out.size (.cells #[.slice none 0 0, .slice none 0 0] 66)
              have hz7 := heap_alloc_new w7 (.cells #[.slice none 0 0, .slice none 0 0] 66)
              have HF7 := hid (HF.out.alloc (.cells #[.slice none 0 0, .slice none 0 0] 66))
              have HT7 := hid (HT.out.alloc (.cells #[.slice none 0 0, .slice none 0 0] 66))
              have hge : wr.heap.size ≤ w7.heap.size := hHeld.out.size
              refine rdH 10 (by kernel_rfl) rfl fun K hK => ?_
              go_simp
              refine hK.out _ _ (hid hb7) (fun hHeld => ?_)
              clear hK K hb7
              generalize w7.alloc (.cells #[.slice none 0 0, .slice none 0 0] 66) = w8 at *
              generalize w7.heap.size = g6 at *
              have HZ7 := hid hz7
              have r0 := cell_in hz7 0 _ rfl
              have r1 := cell_in hz7 1 _ rfl
              have fr0 := free_in hz7 0
              have fr1 := free_in hz7 1
              clear hz7
              try simp only [Act.put, jA, jB, jC, jD, jE, jF]
              have hb8 : Below wr.heap.size wr ((w8.setCell ⟨g6, 0, none⟩ (.slice a5 (bothF F o.f).length c5)).setCell ⟨g6, 1, none⟩ (.slice a6 (bothT T9 (toL R.sp k)).length c6)) := (hHeld.out.setCell hge _).setCell hge _
              refine rdH 11 (by kernel_rfl) rfl fun K hK => ?_
              go_simp
              refine hK.out _ _ (hid hb8) (fun hHeld => ?_)
              clear hK K r0 r1 fr0 fr1
              try simp only [Act.put, jA, jB, jC, jD, jE, jF]
              have hk8 := keep2 w8 g6 (.slice a5 (bothF F o.f).length c5) (.slice a6 (bothT T9 (toL R.sp k)).length c6)
              have HF8 := hid (rd_put HF7.out HZ7.out hk8)
              have HT8 := hid (rd_put HT7.out HZ7.out hk8)
              have hz8 := put_in (put_in HZ7.out 0 (.slice a5 (bothF F o.f).length c5)) 1 (.slice a6 (bothT T9 (toL R.sp k)).length c6)
              have HDF := hid hb8
              clear hk8 hb8 HF7 HT7 HZ7 HF HT HBE
              generalize (w8.setCell ⟨g6, 0, none⟩ (.slice a5 (bothF F o.f).length c5)).setCell ⟨g6, 1, none⟩ (.slice a6 (bothT T9 (toL R.sp k)).length c6) = wF at *
              have hFc := HF8.out
              have hTc := HT8.out
              have HZ8 := hid hz8
              clear hz8
              refine tkH 12 (.bool true) rfl (by kernel_rfl) (fun _ _ _ => False.elim) hHeld (Or.inl ⟨by rfl, fun W9 hW => by clear hHeld hW; simp only [jA, jB, jC]; go_simp⟩) ?_
              try simp only [Act.put, jA, jB, jC, jD, jE, jF]
              refine wpAnyH_done (by kernel_rfl) (NoPanic.normal ?_) _
              clear hHeld
              have y0 := cell_in HZ8.out 0 _ rfl
              have y1 := cell_in HZ8.out 1 _ rfl
              have hpp : Op.bytesLess (bothF F o.f) (bothT T9 (toL R.sp k)) = true := HMT.out
              clear hFc hTc HMT HALL HGC
              generalize bothF F o.f = PF at *
              generalize bothT T9 (toL R.sp k) = PT at *
              have t1 := HF8.out.conv (P := Try.prog) 62 9 5 Try.underlying62 Try.underlying5 Try.underlying9
              have t2 := HT8.out.conv (P := Try.prog) 62 9 5 Try.underlying62 Try.underlying5 Try.underlying9
              have HXF := hid (HXr.out.trans (HDF.out.mono HXr.out.size))
              have HSP9 := hid (HSP.out.old HDF.out)
              go_upto_block 2 with fail
              clear t1 t2 hpp
              go_cut [10] from 93 to 110 (fun jv wx => ∃ j n : Nat, j ≤ S.length ∧ jv = .int .i64 (j : Int) ∧ wx = wF.drewN n ∧ Hid (∀ (q : Nat) (u : Spn), q < j → S[q]? = some u → Op.bytesLess u.1 PF = true) ∧ Hid (∀ (u : Spn), S[j]? = some u → Op.bytesLess u.1 PF = false))
              case first =>
                obtain ⟨va', vc', e9, -, hvm, hsc⟩ := sps_cells HSP9.out
                cases e9
                have HSC := hid hsc
                clear hsc
                have hslm : S.length ≤ 9223372036854775807 := by have := HSL.out; omega
                go_wp2_with fail
                go_loopw [10] (fun jv wr' => ∃ j n : Nat, j ≤ S.length ∧ jv = .int .i64 (j : Int) ∧ wr' = wF.drewN n ∧ Hid (∀ (q : Nat) (u : Spn), q < j → S[q]? = some u → Op.bytesLess u.1 PF = true)) (fun jv _ => S.length - (intOf jv).toNat)
                case atStart => exact ⟨0, 0, by omega, rfl, rfl, fun q u h => by omega⟩
                case round =>
                  obtain ⟨j, n, hj, rfl, rfl, HN⟩ := hrel
                  by_cases hjl : j < S.length
                  · obtain ⟨u, hu⟩ : ∃ u, S[j]? = some u := ⟨_, List.getElem?_eq_getElem hjl⟩
                    obtain ⟨b8, of8, x1, d1, x2, d2, rfl, e1, -, r1, -⟩ := HSC.out j u hu
                    have v1 := fun n => (show Rd (wF.drewN n) _ _ from r1).conv (P := Try.prog) 62 9 5 Try.underlying62 Try.underlying5 Try.underlying9
                    have v2 := fun n => (show Rd (wF.drewN n) _ _ from HF8.out).conv (P := Try.prog) 62 9 5 Try.underlying62 Try.underlying5 Try.underlying9
                    have HV := hid hu
                    have hjli : (j : Int) < (S.length : Int) := by omega
                    clear hu r1
                    cases h : Op.bytesLess u.1 PF with
                    | true =>
                      go_wp2_with fail
                      go_quiet (fail)
                      go_wp2_with fail
                      go_roundw
                      case rel =>
                        refine ⟨j + 1, _, by omega, by go_num, rfl, fun q u2 hq hu => ?_⟩
                        by_cases hqj : q < j
                        · exact HN.out q u2 hqj hu
                        · obtain rfl : q = j := by omega
                          rw [HV.out] at hu
                          cases hu
                          exact h
                      case measure => simp [intOf]; omega
                    | false =>
                      have HLS : Hid (∀ (u : Spn), S[j]? = some u → Op.bytesLess u.1 PF = false) := fun u2 hu => by rw [HV.out] at hu; cases hu; exact h
                      go_wp2_with fail
                      go_quiet (fail)
                      rename_i nq
                      go_wp2_with fail
                      go_meet
                      exact ⟨j, n + nq, hj, rfl, by rw [World.drewN_drewN], HN, HLS⟩
                  · obtain rfl : j = S.length := by omega
                    have HLS : Hid (∀ (u : Spn), S[S.length]? = some u → Op.bytesLess u.1 PF = false) := fun u hu => by simp at hu
                    have hjli : ¬ (S.length : Int) < (S.length : Int) := by omega
                    have hjlb : decide ((S.length : Int) < (S.length : Int)) = false := decide_eq_false hjli
                    go_wp2_with fail
                    go_quiet (fail)
                    rename_i nq
                    go_wp2_with fail
                    go_meet
                    exact ⟨S.length, n + nq, hj, rfl, by rw [World.drewN_drewN], HN, HLS⟩
              case rest =>
                obtain ⟨j, n, hj, rfl, rfl, HN, HLS⟩ := hcut
                have hbn : Below wF.heap.size wF (wF.drewN n) := below_drewN wF n
                have HSPB := hid (HSP9.out.old hbn)
                have HFB := hid (HF8.out.old hbn)
                have HTB := hid (HT8.out.old hbn)
                have HZB := hid ((hbn.block _ (lt_of_block HZ8.out)).trans HZ8.out)
                have HXB := hid (HXF.out.trans (hbn.mono HXF.out.size))
                generalize wF.drewN n = wB at *
                clear HSP9 HF8 HT8 HZ8 HXF HDF hbn y0 y1 HSP HXr
                obtain ⟨va9, vc9, e9, hvc1, hvc2, -⟩ := sps_cells HSPB.out
                cases e9
                obtain ⟨ML, hm1, hm2, hm3⟩ := HSPB.out
                have hcb := cut_both2 va S.length vc j (by omega)
                obtain ⟨ao2, cc2, hcr, hcw, -⟩ := Rws.hcut (P := Try.prog) hm2 (by decide) 89 66 Try.underlying89 (by kernel_rfl) j (by omega)
                have HM2 := hid hm2
                have HM3 := hid hm3
                have HM1 := hid hm1
                have HCW := hid hcw
                have HJ := hid hj
                clear hm1 hm2 hm3 hcw hvc1 hvc2 hj
                go_upto_region 18 with fail
                refine wp_region_noPanic ?_
                refine wp_region_held_drew (S := fun V => Hid (Below wB.heap.size wB V)) (by kernel_rfl) (hid (Below.drew (Below.refl _ _))) (fun hHeld => ?_)
                generalize wB.drew = Wd at *
                refine tkH 0 (.slice va S.length vc) rfl (by kernel_rfl) (fun _ _ _ => False.elim) hHeld (Or.inl ⟨by rfl, fun W9 hW => by clear hHeld hW; simp only [jA, jB, jC]; go_simp⟩) ?_
                try simp only [Act.put, jA, jB, jC, jD, jE, jF]
                refine tkH 1 (.int .i64 (j : Int)) rfl (by kernel_rfl) (fun _ _ _ => False.elim) hHeld (Or.inl ⟨by rfl, fun W9 hW => by clear hHeld hW; simp only [jA, jB, jC]; go_simp⟩) ?_
                try simp only [Act.put, jA, jB, jC, jD, jE, jF]
                refine tkH 2 (.int .i64 (j : Int)) rfl (by kernel_rfl) (fun _ _ _ => False.elim) hHeld (Or.inl ⟨by rfl, fun W9 hW => by clear hHeld hW; simp only [jA, jB, jC]; go_simp⟩) ?_
                try simp only [Act.put, jA, jB, jC, jD, jE, jF]
                refine tkH 3 (.slice va j j) rfl (by kernel_rfl) (fun _ _ _ => False.elim) hHeld (Or.inl ⟨by rfl, fun W9 hW => by clear hHeld hW; simp only [jA, jB, jC]; go_simp⟩) ?_
                try simp only [Act.put, jA, jB, jC, jD, jE, jF]
                refine tkH 4 (.agg #[.slice a5 PF.length c5, .slice a6 PT.length c6]) rfl (by kernel_rfl) (fun _ _ _ => False.elim) hHeld (Or.inl ⟨by rfl, fun W9 hW => by have g9 := (hW.out.block _ (lt_of_block HZB.out)).trans HZB.out; have y0 := cell_in g9 0 _ rfl; have y1 := cell_in g9 1 _ rfl; clear g9; clear hHeld hW; simp only [jA, jB, jC]; go_simp⟩) ?_
                try simp only [Act.put, jA, jB, jC, jD, jE, jF]
                refine tkH 6 (.slice va S.length vc) rfl (by kernel_rfl) (fun _ _ _ => False.elim) hHeld (Or.inl ⟨by rfl, fun W9 hW => by clear hHeld hW; simp only [jA, jB, jC]; go_simp⟩) ?_
                try simp only [Act.put, jA, jB, jC, jD, jE, jF]
                refine tkH 7 (.int .i64 (j : Int)) rfl (by kernel_rfl) (fun _ _ _ => False.elim) hHeld (Or.inl ⟨by rfl, fun W9 hW => by clear hHeld hW; simp only [jA, jB, jC]; go_simp⟩) ?_
                try simp only [Act.put, jA, jB, jC, jD, jE, jF]
                refine tkH 8 (.slice ao2 (ML.length - j) cc2) rfl (by kernel_rfl) (fun _ _ _ => False.elim) hHeld (Or.inl ⟨by rfl, fun W9 hW => by clear hHeld hW; simp only [jA, jB, jC]; go_simp⟩) ?_
                try simp only [Act.put, jA, jB, jC, jD, jE, jF]
                have hba := hHeld.out.alloc hHeld.out.size (.cells #[.slice a5 PF.length c5, .slice a6 PT.length c6] 66)
                refine rdH 5 (by kernel_rfl) rfl fun K hK => ?_
                go_simp
                refine hK.out _ _ (hid hba) (fun hHeld9 => ?_)
                clear hK K
                try simp only [Act.put, jA, jB, jC, jD, jE, jF]
                obtain ⟨o9, c9x, w9, hrun9, hr9, hb9⟩ := app_lit (w := Wd) (u := .slice a5 PF.length c5) (v := .slice a6 PT.length c6) rfl rfl (HCW.out.old hba) (by have := HM1.out; have := HSL.out; rw [List.length_drop]; omega)
                have hb9b : Below wB.heap.size wB w9 := hba.trans (hb9.mono hHeld.out.size)
                have hdl : (ML.drop j).length = ML.length - j := List.length_drop
                refine rdH 9 (by kernel_rfl) rfl fun K hK => ?_
                refine step_known (.tmp 116) (.tmp 119) 89 rfl rfl _ _ _ (by rfl) (by rfl) hrun9 (by rfl) ?_
                refine hK.out _ _ (hid hb9b) (fun hHeld8 => ?_)
                clear hK K
                try simp only [Act.put, jA, jB, jC, jD, jE, jF]
                have hn9 : ([.slice a5 PF.length c5, .slice a6 PT.length c6] :: ML.drop j).length = 1 + (ML.drop j).length := by rw [List.length_cons]; omega
                obtain ⟨o10, c10, w10, hrun10, hr10, hb10⟩ := app_full (HM2.out.old hb9b) (k := j) (by have := HM1.out; have := HJ.out; omega) hr9 (by rw [hn9]; omega) (by have := HM1.out; have := HSL.out; rw [hn9, hdl]; omega)
                have hb10b : Below wB.heap.size wB w10 := below_step hb9b hb10
                refine rdH 10 (by kernel_rfl) rfl fun K hK => ?_
                refine step_known (.tmp 114) (.tmp 120) 89 rfl rfl _ _ _ (by rfl) (by rfl) hrun10 (by rfl) ?_
                refine hK.out _ _ (hid hb10b) (fun hHeld7 => ?_)
                clear hK K
                try simp only [Act.put, jA, jB, jC, jD, jE, jF]
                have hlI : (insS S (PF, PT) j).length = j + ([.slice a5 PF.length c5, .slice a6 PT.length c6] :: ML.drop j).length := by
                  unfold insS
                  have := HM1.out
                  have := HJ.out
                  rw [List.length_append, List.length_cons, List.length_take, List.length_drop, List.length_cons, List.length_drop]
                  omega
                have HSI : Hid (SpsN w10 (.slice o10 (insS S (PF, PT) j).length c10) (insS S (PF, PT) j)) := hid (by
                  rw [hlI]
                  refine ⟨_, ?_, hr10, ?_⟩
                  · rw [hlI, List.length_append, List.length_take]; have := HM1.out; have := HJ.out; omega
                  · exact rows_ins (Q := SpN w10) HM1.out HJ.out (fun q r s h1 h2 => (HM3.out q r s h1 h2).old hb10b) ⟨a5, c5, a6, c6, rfl, HFB.out.old hb10b, HTB.out.old hb10b⟩)
                have HXf := hid (HXB.out.trans (hb10b.mono HXB.out.size))
                have HSO : Hid ((insS S (PF, PT) j).Perm ((M.take (i + 1)).map (ptZ R F T9)) ∧ (insS S (PF, PT) j).Pairwise nlt) := hid ⟨by
                  rw [List.take_add_one, HZi.out]
                  simp only [Option.toList_some, List.map_append, List.map_cons, List.map_nil]
                  rw [HPZ.out]
                  exact (ins_perm S (PF, PT) j).trans ((List.Perm.cons _ HSS.out.1).trans (List.perm_append_singleton _ _).symm), ins_sorted HSS.out.2 HN.out HLS.out⟩
                clear hba hrun9 hr9 hb9 hb9b hdl hn9 hrun10 hr10 hb10 hb10b hHeld9 hHeld8 hHeld hcb hcr
                rw [← hlI]
                clear hlI
                refine tkH 11 (.slice o10 (insS S (PF, PT) j).length c10) rfl (by kernel_rfl) (fun _ _ _ => False.elim) hHeld7 (Or.inl ⟨by rfl, fun W9 hW => by clear hHeld7 hW; simp only [jA, jB, jC]; go_simp⟩) ?_
                try simp only [Act.put, jA, jB, jC, jD, jE, jF]
                refine wpAnyH_done (by kernel_rfl) (NoPanic.normal ?_) _
                clear hHeld7
                go_wp2_with fail
                go_roundw
                · exact ⟨i + 1, insS S (PF, PT) j, o10, c10, by omega, by go_num, rfl, HSI, HSO, HXf⟩
                · simp [intOf]; omega
            · -- the variable first
              go_simp
              have hb6 := hHeld.out.alloc hHeld.out.size (.cells #[.slice none 0 0, .slice none 0 0] 66)
              have hz6 := heap_alloc_new Wd (.cells #[.slice none 0 0, .slice none 0 0] 66)
              have hge : wr.heap.size ≤ Wd.heap.size := hHeld.out.size
              refine hK.out _ _ (hid hb6) (fun hHeld => ?_)
              clear hK K hb6
              generalize Wd.alloc (.cells #[.slice none 0 0, .slice none 0 0] 66) = w7 at *
              generalize Wd.heap.size = g6 at *
              have HZ6 := hid hz6
              clear hz6
              try simp only [Act.put, jA, jB, jC, jD, jE, jF]
              refine rdH 6 (by kernel_rfl) rfl fun K hK => ?_
              go_simp
              have CQ := hid (part_any (b := b) (d := d) HRT.out.bf (HR9.out.old (below_step HXw.out hHeld.out)) HRT.out.lens (HF9.out.old (below_step HXw.out hHeld.out)) (HT9.out.old (below_step HXw.out hHeld.out)) HLF.out HT9P.out.2.2 HALL.out)
              have hmb := HMT.out
              unfold meetB at hmb
              rw [hmb] at CQ
              simp only [if_true] at CQ
              clear hmb
              go_wp2_with (first | (go_at_call 43; refine CQ.out.mono ?_; rintro en w8 ⟨a5, c5, a6, c6, rfl, hf, ht, hbE⟩; have HBE := hid (below_step hHeld.out hbE); have HF7 := hid hf; have HT7 := hid ht; have hz7 := (hbE.block _ (lt_of_block HZ6.out)).trans HZ6.out; have HZ7 := hid hz7; clear hf ht hz7))
              clear CQ hHeld
              refine hK.out _ _ HBE (fun hHeld => ?_)
              clear hK K
              try simp only [Act.put, jA, jB, jC, jD, jE, jF]
              refine tkH 7 (.tuple #[.agg #[.slice a5 (bothF F o.f).length c5, .slice a6 (bothT T9 (toL R.sp k)).length c6], .bool true]) rfl (by kernel_rfl) (fun _ _ _ => False.elim) hHeld (Or.inl ⟨by rfl, fun W9 hW => by clear hHeld hW; simp only [jA, jB, jC]; go_simp⟩) ?_
              try simp only [Act.put, jA, jB, jC, jD, jE, jF]
              refine tkH 8 (.agg #[.slice a5 (bothF F o.f).length c5, .slice a6 (bothT T9 (toL R.sp k)).length c6]) rfl (by kernel_rfl) (fun _ _ _ => False.elim) hHeld (Or.inl ⟨by rfl, fun W9 hW => by clear hHeld hW; simp only [jA, jB, jC]; go_simp⟩) ?_
              try simp only [Act.put, jA, jB, jC, jD, jE, jF]
              refine tkH 9 (.bool true) rfl (by kernel_rfl) (fun _ _ _ => False.elim) hHeld (Or.inl ⟨by rfl, fun W9 hW => by clear hHeld hW; simp only [jA, jB, jC]; go_simp⟩) ?_
              try simp only [Act.put, jA, jB, jC, jD, jE, jF]
              have r0 := cell_in HZ7.out 0 _ rfl
              have r1 := cell_in HZ7.out 1 _ rfl
              have fr0 := free_in HZ7.out 0
              have fr1 := free_in HZ7.out 1
              have hb8 : Below wr.heap.size wr ((w8.setCell ⟨g6, 0, none⟩ (.slice a5 (bothF F o.f).length c5)).setCell ⟨g6, 1, none⟩ (.slice a6 (bothT T9 (toL R.sp k)).length c6)) := (hHeld.out.setCell hge _).setCell hge _
              refine rdH 11 (by kernel_rfl) rfl fun K hK => ?_
              go_simp
              refine hK.out _ _ (hid hb8) (fun hHeld => ?_)
              clear hK K r0 r1 fr0 fr1
              try simp only [Act.put, jA, jB, jC, jD, jE, jF]
              have hk8 := keep2 w8 g6 (.slice a5 (bothF F o.f).length c5) (.slice a6 (bothT T9 (toL R.sp k)).length c6)
              have HF8 := hid (rd_put HF7.out HZ7.out hk8)
              have HT8 := hid (rd_put HT7.out HZ7.out hk8)
              have hz8 := put_in (put_in HZ7.out 0 (.slice a5 (bothF F o.f).length c5)) 1 (.slice a6 (bothT T9 (toL R.sp k)).length c6)
              have HDF := hid hb8
              clear hk8 hb8 HF7 HT7 HZ7 HZ6 HBE
              generalize (w8.setCell ⟨g6, 0, none⟩ (.slice a5 (bothF F o.f).length c5)).setCell ⟨g6, 1, none⟩ (.slice a6 (bothT T9 (toL R.sp k)).length c6) = wF at *
              have hFc := HF8.out
              have hTc := HT8.out
              have HZ8 := hid hz8
              clear hz8
              refine tkH 12 (.bool true) rfl (by kernel_rfl) (fun _ _ _ => False.elim) hHeld (Or.inl ⟨by rfl, fun W9 hW => by clear hHeld hW; simp only [jA, jB, jC]; go_simp⟩) ?_
              try simp only [Act.put, jA, jB, jC, jD, jE, jF]
              refine wpAnyH_done (by kernel_rfl) (NoPanic.normal ?_) _
              clear hHeld
              have y0 := cell_in HZ8.out 0 _ rfl
              have y1 := cell_in HZ8.out 1 _ rfl
              have hpp : Op.bytesLess (bothF F o.f) (bothT T9 (toL R.sp k)) = true := HMT.out
              clear hFc hTc HMT HALL HGC
              generalize bothF F o.f = PF at *
              generalize bothT T9 (toL R.sp k) = PT at *
              have t1 := HF8.out.conv (P := Try.prog) 62 9 5 Try.underlying62 Try.underlying5 Try.underlying9
              have t2 := HT8.out.conv (P := Try.prog) 62 9 5 Try.underlying62 Try.underlying5 Try.underlying9
              have HXF := hid (HXr.out.trans (HDF.out.mono HXr.out.size))
              have HSP9 := hid (HSP.out.old HDF.out)
              go_upto_block 2 with fail
              clear t1 t2 hpp
              go_cut [10] from 93 to 110 (fun jv wx => ∃ j n : Nat, j ≤ S.length ∧ jv = .int .i64 (j : Int) ∧ wx = wF.drewN n ∧ Hid (∀ (q : Nat) (u : Spn), q < j → S[q]? = some u → Op.bytesLess u.1 PF = true) ∧ Hid (∀ (u : Spn), S[j]? = some u → Op.bytesLess u.1 PF = false))
              case first =>
                obtain ⟨va', vc', e9, -, hvm, hsc⟩ := sps_cells HSP9.out
                cases e9
                have HSC := hid hsc
                clear hsc
                have hslm : S.length ≤ 9223372036854775807 := by have := HSL.out; omega
                go_wp2_with fail
                go_loopw [10] (fun jv wr' => ∃ j n : Nat, j ≤ S.length ∧ jv = .int .i64 (j : Int) ∧ wr' = wF.drewN n ∧ Hid (∀ (q : Nat) (u : Spn), q < j → S[q]? = some u → Op.bytesLess u.1 PF = true)) (fun jv _ => S.length - (intOf jv).toNat)
                case atStart => exact ⟨0, 0, by omega, rfl, rfl, fun q u h => by omega⟩
                case round =>
                  obtain ⟨j, n, hj, rfl, rfl, HN⟩ := hrel
                  by_cases hjl : j < S.length
                  · obtain ⟨u, hu⟩ : ∃ u, S[j]? = some u := ⟨_, List.getElem?_eq_getElem hjl⟩
                    obtain ⟨b8, of8, x1, d1, x2, d2, rfl, e1, -, r1, -⟩ := HSC.out j u hu
                    have v1 := fun n => (show Rd (wF.drewN n) _ _ from r1).conv (P := Try.prog) 62 9 5 Try.underlying62 Try.underlying5 Try.underlying9
                    have v2 := fun n => (show Rd (wF.drewN n) _ _ from HF8.out).conv (P := Try.prog) 62 9 5 Try.underlying62 Try.underlying5 Try.underlying9
                    have HV := hid hu
                    have hjli : (j : Int) < (S.length : Int) := by omega
                    clear hu r1
                    cases h : Op.bytesLess u.1 PF with
                    | true =>
                      go_wp2_with fail
                      go_quiet (fail)
                      go_wp2_with fail
                      go_roundw
                      case rel =>
                        refine ⟨j + 1, _, by omega, by go_num, rfl, fun q u2 hq hu => ?_⟩
                        by_cases hqj : q < j
                        · exact HN.out q u2 hqj hu
                        · obtain rfl : q = j := by omega
                          rw [HV.out] at hu
                          cases hu
                          exact h
                      case measure => simp [intOf]; omega
                    | false =>
                      have HLS : Hid (∀ (u : Spn), S[j]? = some u → Op.bytesLess u.1 PF = false) := fun u2 hu => by rw [HV.out] at hu; cases hu; exact h
                      go_wp2_with fail
                      go_quiet (fail)
                      rename_i nq
                      go_wp2_with fail
                      go_meet
                      exact ⟨j, n + nq, hj, rfl, by rw [World.drewN_drewN], HN, HLS⟩
                  · obtain rfl : j = S.length := by omega
                    have HLS : Hid (∀ (u : Spn), S[S.length]? = some u → Op.bytesLess u.1 PF = false) := fun u hu => by simp at hu
                    have hjli : ¬ (S.length : Int) < (S.length : Int) := by omega
                    have hjlb : decide ((S.length : Int) < (S.length : Int)) = false := decide_eq_false hjli
                    go_wp2_with fail
                    go_quiet (fail)
                    rename_i nq
                    go_wp2_with fail
                    go_meet
                    exact ⟨S.length, n + nq, hj, rfl, by rw [World.drewN_drewN], HN, HLS⟩
              case rest =>
                obtain ⟨j, n, hj, rfl, rfl, HN, HLS⟩ := hcut
                have hbn : Below wF.heap.size wF (wF.drewN n) := below_drewN wF n
                have HSPB := hid (HSP9.out.old hbn)
                have HFB := hid (HF8.out.old hbn)
                have HTB := hid (HT8.out.old hbn)
                have HZB := hid ((hbn.block _ (lt_of_block HZ8.out)).trans HZ8.out)
                have HXB := hid (HXF.out.trans (hbn.mono HXF.out.size))
                generalize wF.drewN n = wB at *
                clear HSP9 HF8 HT8 HZ8 HXF HDF hbn y0 y1 HSP HXr
                obtain ⟨va9, vc9, e9, hvc1, hvc2, -⟩ := sps_cells HSPB.out
                cases e9
                obtain ⟨ML, hm1, hm2, hm3⟩ := HSPB.out
                have hcb := cut_both2 va S.length vc j (by omega)
                obtain ⟨ao2, cc2, hcr, hcw, -⟩ := Rws.hcut (P := Try.prog) hm2 (by decide) 89 66 Try.underlying89 (by kernel_rfl) j (by omega)
                have HM2 := hid hm2
                have HM3 := hid hm3
                have HM1 := hid hm1
                have HCW := hid hcw
                have HJ := hid hj
                clear hm1 hm2 hm3 hcw hvc1 hvc2 hj
                go_upto_region 18 with fail
                refine wp_region_noPanic ?_
                refine wp_region_held_drew (S := fun V => Hid (Below wB.heap.size wB V)) (by kernel_rfl) (hid (Below.drew (Below.refl _ _))) (fun hHeld => ?_)
                generalize wB.drew = Wd at *
                refine tkH 0 (.slice va S.length vc) rfl (by kernel_rfl) (fun _ _ _ => False.elim) hHeld (Or.inl ⟨by rfl, fun W9 hW => by clear hHeld hW; simp only [jA, jB, jC]; go_simp⟩) ?_
                try simp only [Act.put, jA, jB, jC, jD, jE, jF]
                refine tkH 1 (.int .i64 (j : Int)) rfl (by kernel_rfl) (fun _ _ _ => False.elim) hHeld (Or.inl ⟨by rfl, fun W9 hW => by clear hHeld hW; simp only [jA, jB, jC]; go_simp⟩) ?_
                try simp only [Act.put, jA, jB, jC, jD, jE, jF]
                refine tkH 2 (.int .i64 (j : Int)) rfl (by kernel_rfl) (fun _ _ _ => False.elim) hHeld (Or.inl ⟨by rfl, fun W9 hW => by clear hHeld hW; simp only [jA, jB, jC]; go_simp⟩) ?_
                try simp only [Act.put, jA, jB, jC, jD, jE, jF]
                refine tkH 3 (.slice va j j) rfl (by kernel_rfl) (fun _ _ _ => False.elim) hHeld (Or.inl ⟨by rfl, fun W9 hW => by clear hHeld hW; simp only [jA, jB, jC]; go_simp⟩) ?_
                try simp only [Act.put, jA, jB, jC, jD, jE, jF]
                refine tkH 4 (.agg #[.slice a5 PF.length c5, .slice a6 PT.length c6]) rfl (by kernel_rfl) (fun _ _ _ => False.elim) hHeld (Or.inl ⟨by rfl, fun W9 hW => by have g9 := (hW.out.block _ (lt_of_block HZB.out)).trans HZB.out; have y0 := cell_in g9 0 _ rfl; have y1 := cell_in g9 1 _ rfl; clear g9; clear hHeld hW; simp only [jA, jB, jC]; go_simp⟩) ?_
                try simp only [Act.put, jA, jB, jC, jD, jE, jF]
                refine tkH 6 (.slice va S.length vc) rfl (by kernel_rfl) (fun _ _ _ => False.elim) hHeld (Or.inl ⟨by rfl, fun W9 hW => by clear hHeld hW; simp only [jA, jB, jC]; go_simp⟩) ?_
                try simp only [Act.put, jA, jB, jC, jD, jE, jF]
                refine tkH 7 (.int .i64 (j : Int)) rfl (by kernel_rfl) (fun _ _ _ => False.elim) hHeld (Or.inl ⟨by rfl, fun W9 hW => by clear hHeld hW; simp only [jA, jB, jC]; go_simp⟩) ?_
                try simp only [Act.put, jA, jB, jC, jD, jE, jF]
                refine tkH 8 (.slice ao2 (ML.length - j) cc2) rfl (by kernel_rfl) (fun _ _ _ => False.elim) hHeld (Or.inl ⟨by rfl, fun W9 hW => by clear hHeld hW; simp only [jA, jB, jC]; go_simp⟩) ?_
                try simp only [Act.put, jA, jB, jC, jD, jE, jF]
                have hba := hHeld.out.alloc hHeld.out.size (.cells #[.slice a5 PF.length c5, .slice a6 PT.length c6] 66)
                refine rdH 5 (by kernel_rfl) rfl fun K hK => ?_
                go_simp
                refine hK.out _ _ (hid hba) (fun hHeld9 => ?_)
                clear hK K
                try simp only [Act.put, jA, jB, jC, jD, jE, jF]
                obtain ⟨o9, c9x, w9, hrun9, hr9, hb9⟩ := app_lit (w := Wd) (u := .slice a5 PF.length c5) (v := .slice a6 PT.length c6) rfl rfl (HCW.out.old hba) (by have := HM1.out; have := HSL.out; rw [List.length_drop]; omega)
                have hb9b : Below wB.heap.size wB w9 := hba.trans (hb9.mono hHeld.out.size)
                have hdl : (ML.drop j).length = ML.length - j := List.length_drop
                refine rdH 9 (by kernel_rfl) rfl fun K hK => ?_
                refine step_known (.tmp 116) (.tmp 119) 89 rfl rfl _ _ _ (by rfl) (by rfl) hrun9 (by rfl) ?_
                refine hK.out _ _ (hid hb9b) (fun hHeld8 => ?_)
                clear hK K
                try simp only [Act.put, jA, jB, jC, jD, jE, jF]
                have hn9 : ([.slice a5 PF.length c5, .slice a6 PT.length c6] :: ML.drop j).length = 1 + (ML.drop j).length := by rw [List.length_cons]; omega
                obtain ⟨o10, c10, w10, hrun10, hr10, hb10⟩ := app_full (HM2.out.old hb9b) (k := j) (by have := HM1.out; have := HJ.out; omega) hr9 (by rw [hn9]; omega) (by have := HM1.out; have := HSL.out; rw [hn9, hdl]; omega)
                have hb10b : Below wB.heap.size wB w10 := below_step hb9b hb10
                refine rdH 10 (by kernel_rfl) rfl fun K hK => ?_
                refine step_known (.tmp 114) (.tmp 120) 89 rfl rfl _ _ _ (by rfl) (by rfl) hrun10 (by rfl) ?_
                refine hK.out _ _ (hid hb10b) (fun hHeld7 => ?_)
                clear hK K
                try simp only [Act.put, jA, jB, jC, jD, jE, jF]
                have hlI : (insS S (PF, PT) j).length = j + ([.slice a5 PF.length c5, .slice a6 PT.length c6] :: ML.drop j).length := by
                  unfold insS
                  have := HM1.out
                  have := HJ.out
                  rw [List.length_append, List.length_cons, List.length_take, List.length_drop, List.length_cons, List.length_drop]
                  omega
                have HSI : Hid (SpsN w10 (.slice o10 (insS S (PF, PT) j).length c10) (insS S (PF, PT) j)) := hid (by
                  rw [hlI]
                  refine ⟨_, ?_, hr10, ?_⟩
                  · rw [hlI, List.length_append, List.length_take]; have := HM1.out; have := HJ.out; omega
                  · exact rows_ins (Q := SpN w10) HM1.out HJ.out (fun q r s h1 h2 => (HM3.out q r s h1 h2).old hb10b) ⟨a5, c5, a6, c6, rfl, HFB.out.old hb10b, HTB.out.old hb10b⟩)
                have HXf := hid (HXB.out.trans (hb10b.mono HXB.out.size))
                have HSO : Hid ((insS S (PF, PT) j).Perm ((M.take (i + 1)).map (ptZ R F T9)) ∧ (insS S (PF, PT) j).Pairwise nlt) := hid ⟨by
                  rw [List.take_add_one, HZi.out]
                  simp only [Option.toList_some, List.map_append, List.map_cons, List.map_nil]
                  rw [HPZ.out]
                  exact (ins_perm S (PF, PT) j).trans ((List.Perm.cons _ HSS.out.1).trans (List.perm_append_singleton _ _).symm), ins_sorted HSS.out.2 HN.out HLS.out⟩
                clear hba hrun9 hr9 hb9 hb9b hdl hn9 hrun10 hr10 hb10 hb10b hHeld9 hHeld8 hHeld hcb hcr
                rw [← hlI]
                clear hlI
                refine tkH 11 (.slice o10 (insS S (PF, PT) j).length c10) rfl (by kernel_rfl) (fun _ _ _ => False.elim) hHeld7 (Or.inl ⟨by rfl, fun W9 hW => by clear hHeld7 hW; simp only [jA, jB, jC]; go_simp⟩) ?_
                try simp only [Act.put, jA, jB, jC, jD, jE, jF]
                refine wpAnyH_done (by kernel_rfl) (NoPanic.normal ?_) _
                clear hHeld7
                go_wp2_with fail
                go_roundw
                · exact ⟨i + 1, insS S (PF, PT) j, o10, c10, by omega, by go_num, rfl, HSI, HSO, HXf⟩
                · simp [intOf]; omega
          · obtain rfl : i = M.length := by omega
            have hSis : S = partsL R.sp F T9 R.sp.length := by
              have h1 := HSS.out.1
              rw [List.take_length] at h1
              have h2 : (M.map (ptZ R F T9)).Perm (partsL R.sp F T9 R.sp.length) := by
                rw [← parts_met HRT.out F T9 R.sp.length (Nat.le_refl _)]
                exact HMp.out.map _
              exact sorted_is (h1.trans h2) HSS.out.2 (chain_ok HRT.out HBG.out HFT.out R.sp.length (Nat.le_refl _)).rise
            have hch : ChOk F S T9 := by
              have h1 := chain_ok HRT.out HBG.out HFT.out R.sp.length (Nat.le_refl _)
              rw [cur_end HBG.out HFT.out HT9P.out.2.1, ← hSis] at h1
              exact h1
            have HCH := hid hch
            have hSpos : 0 < S.length := by
              rcases Nat.eq_zero_or_pos S.length with h0 | h0
              · obtain rfl := List.eq_nil_of_length_eq_zero h0
                have h1 : F = T9 := hch.last
                have h2 := HFT.out
                rw [h1, less_irr] at h2; cases h2
              · exact h0
            have hSl4 : S.length ≤ 9223372036854775807 := by
              have h1 := HSS.out.1.length_eq
              simp only [List.length_map, List.take_length] at h1
              omega
            clear hSis hch
            obtain ⟨va9, vc9, e9, -, -, hsc⟩ := sps_cells HSP.out
            cases e9
            have HSC := hid hsc
            have HFr := hid (HF9.out.old HXw.out)
            have HTr := hid (HT9.out.old HXw.out)
            clear hsc
            obtain ⟨p0, p1⟩ := HKS5.out _ HXw.out
            have hSpi : (0 : Int) < (S.length : Int) := by omega
            go_wp2_with fail
            go_loopw [12, 11] (fun qv av wz => ∃ q : Nat, q ≤ S.length ∧ qv = .int .i64 (q : Int) ∧ Hid (∃ ax cx, av = .slice ax (atP F S q).length cx ∧ Rd wr (.slice ax (atP F S q).length cx) (atP F S q)) ∧ wz = wr)
              (fun qv _ _ => S.length - (intOf qv).toNat)
            case atStart => exact ⟨0, by omega, rfl, hid ⟨_, _, rfl, HFr.out⟩, rfl⟩
            case round =>
              obtain ⟨q, hq, rfl, HAT, rfl⟩ := hrel
              obtain ⟨ax, cx, rfl, har⟩ := HAT.out
              have HAR := hid har
              clear har HAT
              by_cases hql : q < S.length
              · obtain ⟨u, hu⟩ : ∃ u, S[q]? = some u := ⟨_, List.getElem?_eq_getElem hql⟩
                obtain ⟨b8, of8, x1, d1, x2, d2, rfl, e1, e2, r1, r2⟩ := HSC.out q u hu
                have hqi : (q : Int) < (S.length : Int) := by omega
                have hat := HCH.out.at_ q u hu
                have hnx : atP F S (q + 1) = u.2 := by
                  show (S.getD q ([], [])).2 = u.2
                  rw [List.getD_eq_getElem?_getD, hu]; rfl
                have CB := hid (zbytes_any _ r1 HAR.out)
                have hee : (u.1 == atP F S q) = true := by rw [hat]; simp
                rw [hee] at CB
                have HNX := hid hnx
                have HR2 := hid r2
                clear hee hat hnx r1 r2 hu
                go_wp2_with (first | (go_at_call 63; refine CB.out.mono ?_; rintro en wy ⟨rfl, e9⟩; subst e9))
                go_roundw
                · exact ⟨q + 1, by omega, by go_num, hid (by rw [HNX.out]; exact ⟨_, _, rfl, HR2.out⟩), trivial⟩
                · simp [intOf]; omega
              · obtain rfl : q = S.length := by omega
                have CB := hid (zbytes_any _ HAR.out HTr.out)
                have hee : (atP F S S.length == T9) = true := by rw [HCH.out.last]; simp
                rw [hee] at CB
                clear hee
                have hqi : ¬ (S.length : Int) < (S.length : Int) := by omega
                go_wp2_with (first | (go_at_call 63; refine CB.out.mono ?_; rintro en wy ⟨rfl, e9⟩; subst e9))
                go_ret
                exact ⟨rfl, below_step HB9.out HXw.out⟩

open Go.ChangeShapes Go.WideShapes Go.ChangeAt in
theorem walk {H : Type} {enc : TypeId × Value → H} (v0 v1 : Value) (W : World) {base : Nat} {d0 d1 : DataW H} {p0 p1 : List MemPlace} (hw0 : Value.okWide Try.prog W .any base 64 v0) (h0 : DataW.Trod enc Try.prog W 0 (fun _ => true) true 64 v0 d0 p0) (hk0 : ∀ n ∈ d0.weights Try.prog 64, n ≤ reachBytes)
    (hw1 : Value.okWide Try.prog W .any base 66 v1) (h1 : DataW.Trod enc Try.prog W 0 (fun _ => true) true 66 v1 d1 p1) (hk1 : ∀ n ∈ d1.weights Try.prog 66, n ≤ reachBytes) :
    Calls Try.prog 9 #[v0, v1] W (fun e w' => e = .returned (.bool true) ∧ Below W.heap.size W w') := by
  obtain ⟨R, ao, c, b, d, rfl, hr, hcut, -, hbi, -, hL, -, -⟩ := routes_open hw0 h0 hk0
  obtain ⟨a1, c1, F, a2, c2, T, rfl, h1, h2, h3, h4⟩ := hspan_open hw1 h1 hk1
  exact walk0 W hr hcut hL hbi h1 h2 h3 h4
end Go.Proofs.Ythckgokkjlnknaa.routeParts

namespace Go.Proofs.Ythckgokkjlnknaa.routeParts
open Go.ChangeShapes Go.WideShapes Go.ChangeAt Go.RowKit
open Go.ChangeMaps (open_string shut_string)
set_option linter.unusedVariables false

theorem own : ownKnob Try.prog.godebug = none := by kernel_rfl
theorem laidOut : laidOutB Try.prog = true := by kernel_rfl

set_option maxRecDepth 100000 in
theorem contract (H : Type) (enc : TypeId × Value → H) (W : World) (base : Nat) (args : Array Value) (ds gs : List (DataW H)) (before : List MemPlace)
    (hval0 : ∀ (j : Nat) t v, Try.f9.params[j]? = some t → args[j]? = some v → Value.okWide Try.prog W .any base t v)
    (hW : DataW.Whole enc Try.prog Try.f9.params.toList Rows.routePartsSpec.vars false W args.toList ds gs before)
    (hsz0 : (DataW.weightsEach Try.prog (Try.f9.params.toList ++ Rows.routePartsSpec.plain.varTypes Try.prog) (ds ++ gs)).all (· ≤ reachBytes) = true) :
    Calls Try.prog 9 args W fun e W' => ∃ v, e = .returned v ∧ Rows.routePartsSpec.post enc Try.prog Try.f9 false true false false W args v W' := by
  have hval : ∀ (j : Nat) t v, Try.f9.params[j]? = some t → args[j]? = some v → Value.okWide Try.prog W .any base t v := hval0
  have hW' := hW
  obtain ⟨p, q, hA0, hV, rfl, hfz, hnd⟩ := hW
  have hA : DataW.TrodAll enc Try.prog W 0 (fun _ => true) true Try.f9.params.toList args.toList ds p := hA0
  have hsz : (DataW.weightsEach Try.prog (Try.f9.params.toList ++ Rows.routePartsSpec.plain.varTypes Try.prog) (ds ++ gs)).all (· ≤ reachBytes) = true := hsz0
  rw [Try.params9] at hA hval hsz
  obtain ⟨v0, vs0, d0, ds0, p0, q0, hargs, rfl, rfl, h0, r0⟩ := trodAll_cons hA
  obtain ⟨v1, vs1, d1, ds1, p1, q1, rfl, rfl, rfl, h1, r1⟩ := trodAll_cons r0
  obtain ⟨rfl, rfl, rfl⟩ := trodAll_nil r1
  obtain rfl : args = #[v0, v1] := by cases args; simp_all
  obtain ⟨rfl, rfl⟩ := trodVars_none hV
  have k0 := h0
  have lt0 : ∀ x ∈ p0, x.block < W.heap.size := by obtain ⟨m, hm⟩ := k0; exact DataW.trod_lt m _ _ _ hm
  have k1 := h1
  have lt1 : ∀ x ∈ p1, x.block < W.heap.size := by obtain ⟨m, hm⟩ := k1; exact DataW.trod_lt m _ _ _ hm
  clear hA0 hval0 hsz0
  refine (walk v0 v1 W (hval 0 64 v0 rfl rfl) h0 (fun n hn => of_decide_eq_true (List.all_eq_true.1 hsz n (DataW.weights_mem_each (j := 0) rfl rfl n hn))) (hval 1 66 v1 rfl rfl) h1 (fun n hn => of_decide_eq_true (List.all_eq_true.1 hsz n (DataW.weights_mem_each (j := 1) rfl rfl n hn)))).mono fun e W' ⟨he, bel⟩ => ?_
  subst he
  exact ⟨_, rfl, _, _, _, [], _, [], hW', trodAll_mk1 (shut_bool Try.underlying4 _), (trodAll_cons_mk (Below.trod laidOut (by kernel_rfl) (of_decide_eq_true (by kernel_rfl)) k0 bel lt0) (trodAll_cons_mk (Below.trod laidOut (by kernel_rfl) (of_decide_eq_true (by kernel_rfl)) k1 bel lt1) trodAll_mk0)), rfl, bel.frame _, fun h => by cases h⟩

set_option maxRecDepth 100000 in
theorem lifted (os : Os) (started : os.Started) (H : Type) (enc : TypeId × Value → H) :
    ReturnsInHanded {} Try.checked os 9 .any (Rows.routePartsSpec.pre6 enc Try.prog Try.f9 Rows.routePartsRow.domain false) (Rows.routePartsSpec.post enc Try.prog Try.f9 false true false false) := by
  refine returnsInHanded_of_change_sized (C := Try.checked) own started (by kernel_rfl) Try.func9
    (ChangeSpec.witness6 (enc := enc) (C := Try.checked) false ⟨#[], #[.agg #[.int .i64 0, .int .i64 0, .slice none 0 0, .int .i64 0, .slice none 0 0], .agg #[.slice none 0 0, .slice none 0 0]], []⟩ 8 (by kernel_rfl) (by kernel_rfl) (by kernel_rfl) (by kernel_rfl)) ?_
  intro W base args ds gs before hval0 hW _ hsz _
  exact contract H enc W base args ds gs before hval0 hW hsz

theorem over : Rows.routePartsRow.holds Try.pinned (OpenSpec.ofChange Rows.routePartsSpec) :=
  OpenClaim.holds_of_wide 9 Try.f9 rfl rfl rfl rfl rfl rfl rfl ⟨rfl, rfl, rfl, rfl, rfl⟩ rfl rfl rfl rfl rfl (by kernel_rfl) Try.func9 (by kernel_rfl)
    (of_decide_eq_true (by kernel_rfl)) (by unfold Func.isWrapper; first | (rw [if_pos (by decide +kernel)]; kernel_rfl) | (rw [if_neg (by decide +kernel)]; exact ⟨rfl, rfl⟩))
    (fun os started H enc _ => lifted os started H enc)

/-- THE STATEMENT. -/
theorem proved : Rows.RoutePartsSaid := over
end Go.Proofs.Ythckgokkjlnknaa.routeParts

