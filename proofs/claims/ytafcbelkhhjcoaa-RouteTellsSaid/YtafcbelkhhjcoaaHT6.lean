/-
  PROVED: the statement RouteTellsSaid (law RouteTells of armoirelaw14): at every routes, key, span, group, spare and base the law answers true and does not panic: which routes are right, and where any key, and any span, is, is what the document says. No condition besides those of the statement.
-/
import Derived.Deep.CutRange
import GoSem.Op.String
import Derived.Lib.Bytealg
import Derived.Test.YtafcbelkhhjcoaaRows
import Derived.WalkKit
import Derived.WalkSpells
import Derived.WalkLawsBesides
import Derived.Laws.AppendOwnNone
import Derived.Deep.Slices
import Derived.BigQuiet
import Derived.Deep.QuietTactic
import Derived.Deep.AppendLies
import Derived.Deep.RegionWith
import Derived.Shelf.Abstract
import Derived.Test.YtafcbelkhhjcoaaProg
import Derived.LaidEql
import Derived.Stop.Asserts
import Derived.RowKitTokens
import Derived.Lib.Bytes
import Derived.Deep.OwnRows
import Derived.OwnWalk
import Derived.ProofKit
import Derived.Lib.AppendZeros
import Derived.Deep.RegionHeld3
import Derived.OpenShut
import Derived.ShutString
import Derived.ChangeOld
import Derived.Below
import Derived.SizedLaws
import Derived.Deep.Strs
import Derived.Deep.RegionHeld
import Derived.Deep.RegionLaw
import Derived.Laws.OwnMore
import Derived.Laws.ResultCell
import Derived.BigRegion
import Derived.Laws.CopyOwn
import Derived.Lib.AppendZerosOnto
import Derived.Lib.Overlaps
import Derived.Deep.AppendSrc
import Derived.Deep.CutBlock
import Derived.Lib.SlBytesConst
import Derived.RangeFuncNested
import Derived.RangeFuncBound
import Derived.RangeFuncCalls
import Derived.RangeFuncLeaves
import Derived.Shelf.RegionOpen
import Derived.OwnWalkIn
import Derived.TacticsInMore
import Derived.LoopNIn
import Derived.LoopIn
import Derived.Laws.CopyRow
import Derived.Deep.MidRow
import Derived.Laws.MakeOwn
import Derived.IntWalk
import Derived.Test.YtafcbelkhhjcoaaHT1
import Derived.Test.YtafcbelkhhjcoaaHT2
import Derived.Test.YtafcbelkhhjcoaaHT3
import Derived.Test.YtafcbelkhhjcoaaHT4
import Derived.Test.YtafcbelkhhjcoaaHT5
set_option linter.unusedVariables false
set_option linter.unusedSimpArgs false
set_option linter.unusedVariables false
set_option linter.unusedSimpArgs false
set_option maxRecDepth 100000
namespace Go.Proofs.Ytafcbelkhhjcoaa.routeTells
open Go.RowKit Go.Deep

/-- What is promised behind each operation may be made narrower. -/
theorem wpAnyH_low2 {P : Program} {md : Region.Mode} {ops : Array Oper} {Q : Exit → Act → World → Prop} {S S' : World → Prop} (h : ∀ V, S' V → S V) : ∀ (fuel : Nat) (listed : Array Bool) (a : Act) (w : World),
    wpAnyH P md ops Q S' fuel listed a w → wpAnyH P md ops Q S fuel listed a w
  | 0, _, _, _, H => H
  | fuel + 1, _, _, _, H => ⟨H.1, fun i hi => wpOp_mono (fun a' w' h' => ⟨h _ h'.1, wpAnyH_low2 h fuel _ _ _ h'.2⟩) (H.2 i hi)⟩
theorem hspan_eq {w : World} {a1 a2 a3 a4 : Option Addr} {c1 c2 c3 c4 : Nat} {F T : List UInt8} (h1 : Rd w (.slice a1 F.length c1) F) (h2 : Rd w (.slice a2 T.length c2) T) (h3 : Rd w (.slice a3 F.length c3) F) (h4 : Rd w (.slice a4 T.length c4) T) :
    Calls Try.prog 48 #[.agg #[.slice a1 F.length c1, .slice a2 T.length c2], .agg #[.slice a3 F.length c3, .slice a4 T.length c4]] w (AnsP w (.bool true)) := by
  have h := hspan_any h1 h2 h3 h4
  rw [beq_self_eq_true, beq_self_eq_true] at h
  exact h
set_option maxHeartbeats 32000000 in
theorem walk0 {R : Rou} {ao b : Option Addr} {c d : Nat} {a1 a2 ak : Option Addr} {c1 c2 ck : Nat} {F T key : List UInt8} (gr sp bs : Int) (W : World) (hr : OwsN W (.slice ao R.sp.length c) R.sp) (hcut : Rd W (.slice b R.cut.length d) R.cut) (hL : ∀ o ∈ R.sp, o.f.length ≤ 140737488355328) (hbi : i64 R.base) (hsp : i64 sp)
    (hk : Rd W (.slice ak key.length ck) key) (h1 : Rd W (.slice a1 F.length c1) F) (h2 : Rd W (.slice a2 T.length c2) T) (hlF : F.length ≤ 140737488355328) (hlT : T.length ≤ 140737488355328) :
    Calls Try.prog 6 #[.agg #[.int .i64 R.ep, .int .i64 R.base, .slice ao R.sp.length c, .int .i64 R.mv, .slice b R.cut.length d], .slice ak key.length ck, .agg #[.slice a1 F.length c1, .slice a2 T.length c2], .int .i64 gr, .int .i64 sp, .int .i64 bs] W (fun e w' => e = .returned (.bool true) ∧ Below W.heap.size W w') := by
  have HR := hid hr
  have HCUT := hid hcut
  have HLL := hid hL
  have HBI := hid hbi
  have HSPI := hid hsp
  have HKEY := hid hk
  have H1 := hid h1
  have H2 := hid h2
  have HLF := hid hlF
  have HLT := hid hlT
  clear hr hcut hL hbi hsp hk h1 h2 hlF hlT
  go_enter Try.func6, Try.ntmps6
  go_upto_region 1 with fail
  have hb0 := (Below.refl W.heap.size W).alloc (Nat.le_refl _) (.cells #[.int .i64 R.ep, .int .i64 R.base, .slice ao R.sp.length c, .int .i64 R.mv, .slice b R.cut.length d] 64)
  have hz0 := heap_alloc_new W (.cells #[.int .i64 R.ep, .int .i64 R.base, .slice ao R.sp.length c, .int .i64 R.mv, .slice b R.cut.length d] 64)
  have hs0 : (W.alloc (.cells #[.int .i64 R.ep, .int .i64 R.base, .slice ao R.sp.length c, .int .i64 R.mv, .slice b R.cut.length d] 64)).heap.size = W.heap.size + 1 := by simp
  generalize W.alloc (.cells #[.int .i64 R.ep, .int .i64 R.base, .slice ao R.sp.length c, .int .i64 R.mv, .slice b R.cut.length d] 64) = w0 at *
  have hb := (Below.refl w0.heap.size w0).alloc (Nat.le_refl _) (.cells #[.slice a1 F.length c1, .slice a2 T.length c2] 66)
  have hzs := heap_alloc_new w0 (.cells #[.slice a1 F.length c1, .slice a2 T.length c2] 66)
  rw [hs0] at hzs
  generalize w0.alloc (.cells #[.slice a1 F.length c1, .slice a2 T.length c2] 66) = w1 at *
  have HB1 := hid (below_step hb0 hb)
  have HZ := hid ((hb.block _ (lt_of_block hz0)).trans hz0)
  have HS := hid hzs
  clear hb0 hz0 hs0 hb hzs
  have HKT : Hid (∀ V, Below w1.heap.size w1 V → V.cell? ⟨W.heap.size, 0, none⟩ = some (.int .i64 R.ep) ∧ V.cell? ⟨W.heap.size, 1, none⟩ = some (.int .i64 R.base) ∧ V.cell? ⟨W.heap.size, 2, none⟩ = some (.slice ao R.sp.length c) ∧ V.cell? ⟨W.heap.size, 3, none⟩ = some (.int .i64 R.mv) ∧ V.cell? ⟨W.heap.size, 4, none⟩ = some (.slice b R.cut.length d) ∧ V.cell? ⟨(W.heap.size + 1), 0, none⟩ = some (.slice a1 F.length c1) ∧ V.cell? ⟨(W.heap.size + 1), 1, none⟩ = some (.slice a2 T.length c2)) := hid (fun V hV => by
    have hHZ := (hV.block _ (lt_of_block HZ.out)).trans HZ.out
    have hHS := (hV.block _ (lt_of_block HS.out)).trans HS.out
    exact ⟨cell_in hHZ 0 _ rfl, cell_in hHZ 1 _ rfl, cell_in hHZ 2 _ rfl, cell_in hHZ 3 _ rfl, cell_in hHZ 4 _ rfl, cell_in hHS 0 _ rfl, cell_in hHS 1 _ rfl⟩)
  have CAW := hid (fun V => awake_ok V)
  have HCw1 : Hid (Below w1.heap.size w1 w1) := hid (Below.refl _ _)
  by_cases hsm : R.sp.length < 30
  case neg =>
    have CSM := small_no w1 R ao b c d hsm
    obtain ⟨q0, q1, q2, q3, q4, q5, q6⟩ := HKT.out _ HCw1.out
    go_wp2_with (first | (go_at_call 39; refine CSM.mono ?_; rintro en w2 ⟨rfl, hbE⟩; have HCw2 := hid hbE; clear hbE CSM q0 q1 q2 q3 q4 q5 q6) | (go_at_call 40; refine (CAW.out _).mono ?_; rintro en w3 ⟨rfl, hbE⟩; have HCw3 := hid (below_step HCw2.out hbE); clear hbE))
    go_ret
    exact ⟨rfl, below_step HB1.out HCw3.out⟩
  case pos =>
  have CSM := small_any w1 R ao b c d hsm
  obtain ⟨q0, q1, q2, q3, q4, q5, q6⟩ := HKT.out _ HCw1.out
  clear hsm
  obtain ⟨B, E, L, cn1, cn2⟩ := new_two bs sp
  have CN1 := hid cn1
  have CN2 := hid cn2
  clear cn1 cn2
  go_upto_region 3 with (first | (go_at_call 39; refine CSM.mono ?_; rintro en w2 ⟨rfl, hbE⟩; have HCw2 := hid hbE; clear hbE CSM q0 q1 q2 q3 q4 q5 q6))
  go_upto_region 4 with (first | (go_at_call 41; refine (CN1.out _).mono ?_; rintro en w3 ⟨n1, m1, rfl, hlE, hbE⟩; have HX3 := hid hbE; have HL3 := hid hlE; clear hbE hlE))
  have hb4 := (Below.refl w3.heap.size w3).alloc (Nat.le_refl _) (.cells #[.int .i64 0, .int .i64 B, .slice n1 L.length m1, .int .i64 0, .slice none 0 0] 64)
  have hz4 := heap_alloc_new w3 (.cells #[.int .i64 0, .int .i64 B, .slice n1 L.length m1, .int .i64 0, .slice none 0 0] 64)
  generalize w3.alloc (.cells #[.int .i64 0, .int .i64 B, .slice n1 L.length m1, .int .i64 0, .slice none 0 0] 64) = w4 at *
  have HCw4 := hid (below_step (below_step HCw2.out HX3.out) hb4)
  have HL4 := hid (HL3.out.old hb4)
  have HA4 := hid hz4
  clear hb4 hz4 HL3 HX3
  generalize w3.heap.size = g1 at *
  go_upto_region 5 with (first | (go_at_call 42; refine (CN2.out _).mono ?_; rintro en w5 ⟨n2, m2, rfl, hlE, hbE⟩; have HX5 := hid hbE; have HM5 := hid hlE; clear hbE hlE))
  have hb6 := (Below.refl w5.heap.size w5).alloc (Nat.le_refl _) (.cells #[.int .i64 0, .int .i64 B, .slice n2 L.length m2, .int .i64 0, .slice none 0 0] 64)
  have hz6 := heap_alloc_new w5 (.cells #[.int .i64 0, .int .i64 B, .slice n2 L.length m2, .int .i64 0, .slice none 0 0] 64)
  generalize w5.alloc (.cells #[.int .i64 0, .int .i64 B, .slice n2 L.length m2, .int .i64 0, .slice none 0 0] 64) = w6 at *
  have HX6 := hid (below_step HX5.out hb6)
  have HCC6 := hid (below_step HCw4.out HX6.out)
  have HL6 := hid (HL4.out.old HX6.out)
  have HM6 := hid (HM5.out.old hb6)
  have HA6 := hid ((HX6.out.block _ (lt_of_block HA4.out)).trans HA4.out)
  have HD6 := hid hz6
  clear hb6 hz6 HL4 HM5 HX5 HX6 HA4 CN1 CN2
  generalize w5.heap.size = g2 at *
  have HCw6 : Hid (Below w6.heap.size w6 w6) := hid (Below.refl _ _)
  have HZ6 := hid ((HCC6.out.block _ (lt_of_block HZ.out)).trans HZ.out)
  have HS6 := hid ((HCC6.out.block _ (lt_of_block HS.out)).trans HS.out)
  have HB6 := hid (below_step HB1.out HCC6.out)
  clear HKT HCw2 HCw4
  have HK6 : Hid (∀ V, Below w6.heap.size w6 V → V.cell? ⟨W.heap.size, 0, none⟩ = some (.int .i64 R.ep) ∧ V.cell? ⟨W.heap.size, 1, none⟩ = some (.int .i64 R.base) ∧ V.cell? ⟨W.heap.size, 2, none⟩ = some (.slice ao R.sp.length c) ∧ V.cell? ⟨W.heap.size, 3, none⟩ = some (.int .i64 R.mv) ∧ V.cell? ⟨W.heap.size, 4, none⟩ = some (.slice b R.cut.length d) ∧ V.cell? ⟨(W.heap.size + 1), 0, none⟩ = some (.slice a1 F.length c1) ∧ V.cell? ⟨(W.heap.size + 1), 1, none⟩ = some (.slice a2 T.length c2) ∧ V.cell? ⟨g1, 0, none⟩ = some (.int .i64 0) ∧ V.cell? ⟨g1, 1, none⟩ = some (.int .i64 B) ∧ V.cell? ⟨g1, 2, none⟩ = some (.slice n1 L.length m1) ∧ V.cell? ⟨g1, 3, none⟩ = some (.int .i64 0) ∧ V.cell? ⟨g1, 4, none⟩ = some (.slice none 0 0) ∧ V.cell? ⟨g2, 0, none⟩ = some (.int .i64 0) ∧ V.cell? ⟨g2, 1, none⟩ = some (.int .i64 B) ∧ V.cell? ⟨g2, 2, none⟩ = some (.slice n2 L.length m2) ∧ V.cell? ⟨g2, 3, none⟩ = some (.int .i64 0) ∧ V.cell? ⟨g2, 4, none⟩ = some (.slice none 0 0)) := hid (fun V hV => by
    have hHZ6 := (hV.block _ (lt_of_block HZ6.out)).trans HZ6.out
    have hHS6 := (hV.block _ (lt_of_block HS6.out)).trans HS6.out
    have hHA6 := (hV.block _ (lt_of_block HA6.out)).trans HA6.out
    have hHD6 := (hV.block _ (lt_of_block HD6.out)).trans HD6.out
    exact ⟨cell_in hHZ6 0 _ rfl, cell_in hHZ6 1 _ rfl, cell_in hHZ6 2 _ rfl, cell_in hHZ6 3 _ rfl, cell_in hHZ6 4 _ rfl, cell_in hHS6 0 _ rfl, cell_in hHS6 1 _ rfl, cell_in hHA6 0 _ rfl, cell_in hHA6 1 _ rfl, cell_in hHA6 2 _ rfl, cell_in hHA6 3 _ rfl, cell_in hHA6 4 _ rfl, cell_in hHD6 0 _ rfl, cell_in hHD6 1 _ rfl, cell_in hHD6 2 _ rfl, cell_in hHD6 3 _ rfl, cell_in hHD6 4 _ rfl⟩)
  refine wp_region_noPanic ?_
  refine wp_region_held_drew (S := fun V => Hid (Below w6.heap.size w6 V)) (by kernel_rfl) (hid (Below.drew (Below.refl _ _))) (fun hHeld => ?_)
  generalize w6.drew = Wd at *
  refine rdH 0 (by kernel_rfl) rfl fun K hK => ?_
  go_simp
  have CQ := hid (CAW.out Wd)
  go_wp2_with (first | (go_at_call 40; refine CQ.out.mono ?_; rintro en wa ⟨rfl, hbE⟩; have HBE := hid (below_step hHeld.out hbE); have HCwa := hid (below_step HCw6.out HBE.out)))
  clear CQ hHeld
  refine hK.out _ _ HBE (fun hHeld => ?_)
  clear hK K
  try simp only [Act.put, jA, jB, jC, jD, jE, jF]
  refine wpAnyH_low2 (S' := fun V => Hid (Below wa.heap.size wa V)) (fun V hV => hid (below_step HBE.out hV.out)) _ _ _ _ ?_
  clear hHeld HBE
  have hHeld : Hid (Below wa.heap.size wa wa) := hid (Below.refl _ _)
  refine tkH 1 (.bool false) rfl (by kernel_rfl) (fun _ _ _ => False.elim) hHeld (Or.inl ⟨by rfl, fun W9 hW => by clear hHeld hW; simp only [jA, jB, jC]; go_simp⟩) ?_
  simp only [Act.put, jA, jB, jC, jD, jE, jF]
  refine tkH 2 (.bool false) rfl (by kernel_rfl) (fun _ _ _ => False.elim) hHeld (Or.inl ⟨by rfl, fun W9 hW => by clear hHeld hW; simp only [jA, jB, jC]; go_simp⟩) ?_
  simp only [Act.put, jA, jB, jC, jD, jE, jF]
  refine tkH 3 (.agg #[.int .i64 R.ep, .int .i64 R.base, .slice ao R.sp.length c, .int .i64 R.mv, .slice b R.cut.length d]) rfl (by kernel_rfl) (fun _ _ _ => False.elim) hHeld (Or.inl ⟨by rfl, fun W9 hW => by obtain ⟨q0, q1, q2, q3, q4, q5, q6, q7, q8, q9, q10, q11, q12, q13, q14, q15, q16⟩ := HK6.out _ (below_step HCwa.out hW.out); clear hHeld hW; simp only [jA, jB, jC]; go_simp⟩) ?_
  simp only [Act.put, jA, jB, jC, jD, jE, jF]
  refine tkH 5 (.agg #[.int .i64 R.ep, .int .i64 R.base, .slice ao R.sp.length c, .int .i64 R.mv, .slice b R.cut.length d]) rfl (by kernel_rfl) (fun _ _ _ => False.elim) hHeld (Or.inl ⟨by rfl, fun W9 hW => by obtain ⟨q0, q1, q2, q3, q4, q5, q6, q7, q8, q9, q10, q11, q12, q13, q14, q15, q16⟩ := HK6.out _ (below_step HCwa.out hW.out); clear hHeld hW; simp only [jA, jB, jC]; go_simp⟩) ?_
  simp only [Act.put, jA, jB, jC, jD, jE, jF]
  refine rdH 4 (by kernel_rfl) rfl fun K hK => ?_
  rw [if_pos (by rfl)]
  go_simp
  have CQ := hid (codeRight_any (HR.out.old (below_step HB6.out (below_step HCwa.out hHeld.out))) (HCUT.out.old (below_step HB6.out (below_step HCwa.out hHeld.out))))
  go_wp2_with (first | (go_at_call 43; refine CQ.out.mono ?_; rintro en wb ⟨rfl, hbE⟩; have HBE := hid (below_step hHeld.out hbE); have HCwb := hid (below_step HCwa.out HBE.out)))
  clear CQ hHeld
  refine hK.out _ _ HBE (fun hHeld => ?_)
  clear hK K
  try simp only [Act.put, jA, jB, jC, jD, jE, jF]
  refine wpAnyH_low2 (S' := fun V => Hid (Below wb.heap.size wb V)) (fun V hV => hid (below_step HBE.out hV.out)) _ _ _ _ ?_
  clear hHeld HBE
  have hHeld : Hid (Below wb.heap.size wb wb) := hid (Below.refl _ _)
  refine rdH 6 (by kernel_rfl) rfl fun K hK => ?_
  rw [if_pos (by rfl)]
  go_simp
  have CQ := hid (rright_any (HR.out.old (below_step HB6.out (below_step HCwb.out hHeld.out))) (HCUT.out.old (below_step HB6.out (below_step HCwb.out hHeld.out))) HLL.out HBI.out)
  go_wp2_with (first | (go_at_call 44; refine CQ.out.mono ?_; rintro en wc ⟨rfl, hbE⟩; have HBE := hid (below_step hHeld.out hbE); have HCwc := hid (below_step HCwb.out HBE.out)))
  clear CQ hHeld
  refine hK.out _ _ HBE (fun hHeld => ?_)
  clear hK K
  try simp only [Act.put, jA, jB, jC, jD, jE, jF]
  refine wpAnyH_low2 (S' := fun V => Hid (Below wc.heap.size wc V)) (fun V hV => hid (below_step HBE.out hV.out)) _ _ _ _ ?_
  clear hHeld HBE
  have hHeld : Hid (Below wc.heap.size wc wc) := hid (Below.refl _ _)
  refine tkH 7 (.bool false) rfl (by kernel_rfl) (fun _ _ _ => False.elim) hHeld (Or.inl ⟨by rfl, fun W9 hW => by clear hHeld hW; simp only [jA, jB, jC]; go_simp⟩) ?_
  simp only [Act.put, jA, jB, jC, jD, jE, jF]
  refine tkH 8 (.bool false) rfl (by kernel_rfl) (fun _ _ _ => False.elim) hHeld (Or.inl ⟨by rfl, fun W9 hW => by clear hHeld hW; simp only [jA, jB, jC]; go_simp⟩) ?_
  simp only [Act.put, jA, jB, jC, jD, jE, jF]
  refine tkH 9 (.bool false) rfl (by kernel_rfl) (fun _ _ _ => False.elim) hHeld (Or.inl ⟨by rfl, fun W9 hW => by clear hHeld hW; simp only [jA, jB, jC]; go_simp⟩) ?_
  simp only [Act.put, jA, jB, jC, jD, jE, jF]
  refine tkH 10 (.agg #[.int .i64 0, .int .i64 B, .slice n1 L.length m1, .int .i64 0, .slice none 0 0]) rfl (by kernel_rfl) (fun _ _ _ => False.elim) hHeld (Or.inl ⟨by rfl, fun W9 hW => by obtain ⟨q0, q1, q2, q3, q4, q5, q6, q7, q8, q9, q10, q11, q12, q13, q14, q15, q16⟩ := HK6.out _ (below_step HCwc.out hW.out); clear hHeld hW; simp only [jA, jB, jC]; go_simp⟩) ?_
  simp only [Act.put, jA, jB, jC, jD, jE, jF]
  refine tkH 11 (.agg #[.int .i64 0, .int .i64 B, .slice n2 L.length m2, .int .i64 0, .slice none 0 0]) rfl (by kernel_rfl) (fun _ _ _ => False.elim) hHeld (Or.inl ⟨by rfl, fun W9 hW => by obtain ⟨q0, q1, q2, q3, q4, q5, q6, q7, q8, q9, q10, q11, q12, q13, q14, q15, q16⟩ := HK6.out _ (below_step HCwc.out hW.out); clear hHeld hW; simp only [jA, jB, jC]; go_simp⟩) ?_
  simp only [Act.put, jA, jB, jC, jD, jE, jF]
  refine rdH 12 (by kernel_rfl) rfl fun K hK => ?_
  rw [if_pos (by rfl)]
  go_simp
  have CQ := hid (routes_eq 0 B 0 L [] n1 n2 none none m1 m2 0 0 wc (HL6.out.old (below_step HCwc.out hHeld.out)) (HM6.out.old (below_step HCwc.out hHeld.out)) (Rd.nil _) (Rd.nil _))
  go_wp2_with (first | (go_at_call 45; refine CQ.out.mono ?_; rintro en wd ⟨rfl, hbE⟩; have HBE := hid (below_step hHeld.out hbE); have HCwd := hid (below_step HCwc.out HBE.out)))
  clear CQ hHeld
  refine hK.out _ _ HBE (fun hHeld => ?_)
  clear hK K
  try simp only [Act.put, jA, jB, jC, jD, jE, jF]
  refine wpAnyH_low2 (S' := fun V => Hid (Below wd.heap.size wd V)) (fun V hV => hid (below_step HBE.out hV.out)) _ _ _ _ ?_
  clear hHeld HBE
  have hHeld : Hid (Below wd.heap.size wd wd) := hid (Below.refl _ _)
  refine tkH 13 (.bool false) rfl (by kernel_rfl) (fun _ _ _ => False.elim) hHeld (Or.inl ⟨by rfl, fun W9 hW => by clear hHeld hW; simp only [jA, jB, jC]; go_simp⟩) ?_
  simp only [Act.put, jA, jB, jC, jD, jE, jF]
  refine tkH 14 (.bool false) rfl (by kernel_rfl) (fun _ _ _ => False.elim) hHeld (Or.inl ⟨by rfl, fun W9 hW => by clear hHeld hW; simp only [jA, jB, jC]; go_simp⟩) ?_
  simp only [Act.put, jA, jB, jC, jD, jE, jF]
  refine tkH 15 (.bool false) rfl (by kernel_rfl) (fun _ _ _ => False.elim) hHeld (Or.inl ⟨by rfl, fun W9 hW => by clear hHeld hW; simp only [jA, jB, jC]; go_simp⟩) ?_
  simp only [Act.put, jA, jB, jC, jD, jE, jF]
  refine tkH 16 (.int .i64 E) rfl (by kernel_rfl) (fun _ _ _ => False.elim) hHeld (Or.inl ⟨by rfl, fun W9 hW => by clear hHeld hW; simp only [jA, jB, jC]; go_simp⟩) ?_
  simp only [Act.put, jA, jB, jC, jD, jE, jF]
  refine tkH 17 (.int .i64 E) rfl (by kernel_rfl) (fun _ _ _ => False.elim) hHeld (Or.inl ⟨by rfl, fun W9 hW => by clear hHeld hW; simp only [jA, jB, jC]; go_simp⟩) ?_
  simp only [Act.put, jA, jB, jC, jD, jE, jF]
  refine tkH 18 (.bool false) rfl (by kernel_rfl) (fun _ _ _ => False.elim) hHeld (Or.inl ⟨by rfl, fun W9 hW => by clear hHeld hW; simp only [jA, jB, jC]; go_simp⟩) ?_
  simp only [Act.put, jA, jB, jC, jD, jE, jF]
  refine tkH 19 (.bool false) rfl (by kernel_rfl) (fun _ _ _ => False.elim) hHeld (Or.inl ⟨by rfl, fun W9 hW => by clear hHeld hW; simp only [jA, jB, jC]; go_simp⟩) ?_
  simp only [Act.put, jA, jB, jC, jD, jE, jF]
  refine wpAnyH_done (by kernel_rfl) (NoPanic.normal ?_) _
  clear hHeld
  have HBd := hid (below_step HB6.out HCwd.out)
  have HZd := hid ((HCwd.out.block _ (lt_of_block HZ6.out)).trans HZ6.out)
  have HSd := hid ((HCwd.out.block _ (lt_of_block HS6.out)).trans HS6.out)
  clear HK6 HZ6 HS6 HA6 HD6 HL6 HM6 HB6 HCw6 HCwa HCwb HCwc HCwd
  have CRT := rright_any (HR.out.old HBd.out) (HCUT.out.old HBd.out) HLL.out HBI.out
  obtain ⟨q0, q1, q2, q3, q4⟩ : wd.cell? ⟨W.heap.size, 0, none⟩ = some (.int .i64 R.ep) ∧ wd.cell? ⟨W.heap.size, 1, none⟩ = some (.int .i64 R.base) ∧ wd.cell? ⟨W.heap.size, 2, none⟩ = some (.slice ao R.sp.length c) ∧ wd.cell? ⟨W.heap.size, 3, none⟩ = some (.int .i64 R.mv) ∧ wd.cell? ⟨W.heap.size, 4, none⟩ = some (.slice b R.cut.length d) := ⟨cell_in HZd.out 0 _ rfl, cell_in HZd.out 1 _ rfl, cell_in HZd.out 2 _ rfl, cell_in HZd.out 3 _ rfl, cell_in HZd.out 4 _ rfl⟩
  cases hq : rightB R with
  | false =>
    rw [hq] at CRT
    go_wp2_with (first | (go_at_call 44; refine CRT.mono ?_; rintro en w8 ⟨rfl, hbE⟩; have HC8 := hid hbE; clear hbE CRT))
    go_ret
    exact ⟨rfl, below_step HBd.out HC8.out⟩
  | true =>
  rw [hq] at CRT
  have HOK := hid (right_ok hq)
  clear hq
  go_upto_region 9 with (first | (go_at_call 44; refine CRT.mono ?_; rintro en w8 ⟨rfl, hbE⟩; have HX8 := hid hbE; clear hbE CRT q0 q1 q2 q3 q4))
  have HB8 := hid (below_step HBd.out HX8.out)
  have HZ8 := hid ((HX8.out.block _ (lt_of_block HZd.out)).trans HZd.out)
  have HS8 := hid ((HX8.out.block _ (lt_of_block HSd.out)).trans HSd.out)
  clear HBd HZd HSd HX8
  have HCw8 : Hid (Below w8.heap.size w8 w8) := hid (Below.refl _ _)
  have HK8 : Hid (∀ V, Below w8.heap.size w8 V → V.cell? ⟨W.heap.size, 0, none⟩ = some (.int .i64 R.ep) ∧ V.cell? ⟨W.heap.size, 1, none⟩ = some (.int .i64 R.base) ∧ V.cell? ⟨W.heap.size, 2, none⟩ = some (.slice ao R.sp.length c) ∧ V.cell? ⟨W.heap.size, 3, none⟩ = some (.int .i64 R.mv) ∧ V.cell? ⟨W.heap.size, 4, none⟩ = some (.slice b R.cut.length d) ∧ V.cell? ⟨(W.heap.size + 1), 0, none⟩ = some (.slice a1 F.length c1) ∧ V.cell? ⟨(W.heap.size + 1), 1, none⟩ = some (.slice a2 T.length c2)) := hid (fun V hV => by
    have hHZ8 := (hV.block _ (lt_of_block HZ8.out)).trans HZ8.out
    have hHS8 := (hV.block _ (lt_of_block HS8.out)).trans HS8.out
    exact ⟨cell_in hHZ8 0 _ rfl, cell_in hHZ8 1 _ rfl, cell_in hHZ8 2 _ rfl, cell_in hHZ8 3 _ rfl, cell_in hHZ8 4 _ rfl, cell_in hHS8 0 _ rfl, cell_in hHS8 1 _ rfl⟩)
  obtain ⟨FP, TP, qp, cp1, cp2⟩ := part_two (b := b) (d := d) HOK.out (HR.out.old HB8.out) (H1.out.old HB8.out) (H2.out.old HB8.out) HLF.out HLT.out gr
  have CP1 := hid cp1
  have CP2 := hid cp2
  clear cp1 cp2
  obtain ⟨q0, q1, q2, q3, q4, q5, q6⟩ := HK8.out _ HCw8.out
  go_upto_region 10 with (first | (go_at_call 46; refine (CP1.out _ HCw8.out).mono ?_; rintro en w9 ⟨x1, y1, x2, y2, rfl, hfE, htE, hbE⟩; have HX9 := hid hbE; have HF9 := hid hfE; have HT9 := hid htE; clear hbE hfE htE q0 q1 q2 q3 q4 q5 q6))
  have hb10 := (Below.refl w9.heap.size w9).alloc (Nat.le_refl _) (.cells #[.slice x1 FP.length y1, .slice x2 TP.length y2] 66)
  have hz10 := heap_alloc_new w9 (.cells #[.slice x1 FP.length y1, .slice x2 TP.length y2] 66)
  generalize w9.alloc (.cells #[.slice x1 FP.length y1, .slice x2 TP.length y2] 66) = w10 at *
  have HCw10 := hid (below_step HX9.out hb10)
  have HF10 := hid (HF9.out.old hb10)
  have HT10 := hid (HT9.out.old hb10)
  have HP10 := hid hz10
  clear hb10 hz10 HF9 HT9 HX9 CP1
  generalize w9.heap.size = g3 at *
  obtain ⟨q0, q1, q2, q3, q4, q5, q6⟩ := HK8.out _ HCw10.out
  go_upto_region 11 with (first | (go_at_call 47; refine (CP2.out _ HCw10.out).mono ?_; rintro en w11 ⟨x3, y3, x4, y4, rfl, hfE, htE, hbE⟩; have HX11 := hid hbE; have HF11 := hid hfE; have HT11 := hid htE; clear hbE hfE htE q0 q1 q2 q3 q4 q5 q6))
  have hb12 := (Below.refl w11.heap.size w11).alloc (Nat.le_refl _) (.cells #[.slice x3 FP.length y3, .slice x4 TP.length y4] 66)
  have hz12 := heap_alloc_new w11 (.cells #[.slice x3 FP.length y3, .slice x4 TP.length y4] 66)
  generalize w11.alloc (.cells #[.slice x3 FP.length y3, .slice x4 TP.length y4] 66) = w12 at *
  have HX12 := hid (below_step HX11.out hb12)
  have HCC12 := hid (below_step HCw10.out HX12.out)
  have HF12 := hid (HF10.out.old HX12.out)
  have HT12 := hid (HT10.out.old HX12.out)
  have HG12 := hid (HF11.out.old hb12)
  have HU12 := hid (HT11.out.old hb12)
  have HP12 := hid ((HX12.out.block _ (lt_of_block HP10.out)).trans HP10.out)
  have HQ12 := hid hz12
  clear hb12 hz12 HF10 HT10 HF11 HT11 HX11 HX12 HP10 CP2
  generalize w11.heap.size = g4 at *
  have HB12 := hid (below_step HB8.out HCC12.out)
  have HZ12 := hid ((HCC12.out.block _ (lt_of_block HZ8.out)).trans HZ8.out)
  have HS12 := hid ((HCC12.out.block _ (lt_of_block HS8.out)).trans HS8.out)
  clear HK8 HCw8 HCw10 HCC12 HZ8 HS8 HB8
  have HCw12 : Hid (Below w12.heap.size w12 w12) := hid (Below.refl _ _)
  obtain ⟨FO, TO, co1, co2⟩ := owned_two (b := b) (d := d) HOK.out (HR.out.old HB12.out) gr
  have CO1 := hid co1
  have CO2 := hid co2
  clear co1 co2
  have HK12 : Hid (∀ V, Below w12.heap.size w12 V → V.cell? ⟨W.heap.size, 0, none⟩ = some (.int .i64 R.ep) ∧ V.cell? ⟨W.heap.size, 1, none⟩ = some (.int .i64 R.base) ∧ V.cell? ⟨W.heap.size, 2, none⟩ = some (.slice ao R.sp.length c) ∧ V.cell? ⟨W.heap.size, 3, none⟩ = some (.int .i64 R.mv) ∧ V.cell? ⟨W.heap.size, 4, none⟩ = some (.slice b R.cut.length d) ∧ V.cell? ⟨(W.heap.size + 1), 0, none⟩ = some (.slice a1 F.length c1) ∧ V.cell? ⟨(W.heap.size + 1), 1, none⟩ = some (.slice a2 T.length c2) ∧ V.cell? ⟨g3, 0, none⟩ = some (.slice x1 FP.length y1) ∧ V.cell? ⟨g3, 1, none⟩ = some (.slice x2 TP.length y2) ∧ V.cell? ⟨g4, 0, none⟩ = some (.slice x3 FP.length y3) ∧ V.cell? ⟨g4, 1, none⟩ = some (.slice x4 TP.length y4)) := hid (fun V hV => by
    have hHZ12 := (hV.block _ (lt_of_block HZ12.out)).trans HZ12.out
    have hHS12 := (hV.block _ (lt_of_block HS12.out)).trans HS12.out
    have hHP12 := (hV.block _ (lt_of_block HP12.out)).trans HP12.out
    have hHQ12 := (hV.block _ (lt_of_block HQ12.out)).trans HQ12.out
    exact ⟨cell_in hHZ12 0 _ rfl, cell_in hHZ12 1 _ rfl, cell_in hHZ12 2 _ rfl, cell_in hHZ12 3 _ rfl, cell_in hHZ12 4 _ rfl, cell_in hHS12 0 _ rfl, cell_in hHS12 1 _ rfl, cell_in hHP12 0 _ rfl, cell_in hHP12 1 _ rfl, cell_in hHQ12 0 _ rfl, cell_in hHQ12 1 _ rfl⟩)
  refine wp_region_noPanic ?_
  refine wp_region_held_drew (S := fun V => Hid (Below w12.heap.size w12 V)) (by kernel_rfl) (hid (Below.drew (Below.refl _ _))) (fun hHeld => ?_)
  generalize w12.drew = Wd at *
  refine tkH 0 (.agg #[.slice x1 FP.length y1, .slice x2 TP.length y2]) rfl (by kernel_rfl) (fun _ _ _ => False.elim) hHeld (Or.inl ⟨by rfl, fun W9 hW => by obtain ⟨q0, q1, q2, q3, q4, q5, q6, q7, q8, q9, q10⟩ := HK12.out _ (below_step HCw12.out hW.out); clear hHeld hW; simp only [jA, jB, jC]; go_simp⟩) ?_
  simp only [Act.put, jA, jB, jC, jD, jE, jF]
  refine tkH 1 (.agg #[.slice x3 FP.length y3, .slice x4 TP.length y4]) rfl (by kernel_rfl) (fun _ _ _ => False.elim) hHeld (Or.inl ⟨by rfl, fun W9 hW => by obtain ⟨q0, q1, q2, q3, q4, q5, q6, q7, q8, q9, q10⟩ := HK12.out _ (below_step HCw12.out hW.out); clear hHeld hW; simp only [jA, jB, jC]; go_simp⟩) ?_
  simp only [Act.put, jA, jB, jC, jD, jE, jF]
  refine rdH 2 (by kernel_rfl) rfl fun K hK => ?_
  go_simp
  have CQ := hid (hspan_eq (HF12.out.old (below_step HCw12.out hHeld.out)) (HT12.out.old (below_step HCw12.out hHeld.out)) (HG12.out.old (below_step HCw12.out hHeld.out)) (HU12.out.old (below_step HCw12.out hHeld.out)))
  go_wp2_with (first | (go_at_call 48; refine CQ.out.mono ?_; rintro en wa ⟨rfl, hbE⟩; have HBE := hid (below_step hHeld.out hbE); have HCwa := hid (below_step HCw12.out HBE.out)))
  clear CQ hHeld
  refine hK.out _ _ HBE (fun hHeld => ?_)
  clear hK K
  try simp only [Act.put, jA, jB, jC, jD, jE, jF]
  refine wpAnyH_low2 (S' := fun V => Hid (Below wa.heap.size wa V)) (fun V hV => hid (below_step HBE.out hV.out)) _ _ _ _ ?_
  clear hHeld HBE
  have hHeld : Hid (Below wa.heap.size wa wa) := hid (Below.refl _ _)
  refine tkH 3 (.bool true) rfl (by kernel_rfl) (fun _ _ _ => False.elim) hHeld (Or.inl ⟨by rfl, fun W9 hW => by clear hHeld hW; simp only [jA, jB, jC]; go_simp⟩) ?_
  simp only [Act.put, jA, jB, jC, jD, jE, jF]
  refine tkH 4 (.bool qp) rfl (by kernel_rfl) (fun _ _ _ => False.elim) hHeld (Or.inl ⟨by rfl, fun W9 hW => by clear hHeld hW; simp only [jA, jB, jC]; go_simp⟩) ?_
  simp only [Act.put, jA, jB, jC, jD, jE, jF]
  refine tkH 5 (.bool qp) rfl (by kernel_rfl) (fun _ _ _ => False.elim) hHeld (Or.inl ⟨by rfl, fun W9 hW => by clear hHeld hW; simp only [jA, jB, jC]; go_simp⟩) ?_
  simp only [Act.put, jA, jB, jC, jD, jE, jF]
  refine tkH 6 (.bool true) rfl (by kernel_rfl) (fun _ _ _ => False.elim) hHeld (Or.inl ⟨by rfl, fun W9 hW => by clear hHeld hW; simp only [jA, jB, jC]; go_simp⟩) ?_
  simp only [Act.put, jA, jB, jC, jD, jE, jF]
  refine tkH 7 (.bool true) rfl (by kernel_rfl) (fun _ _ _ => False.elim) hHeld (Or.inl ⟨by rfl, fun W9 hW => by clear hHeld hW; simp only [jA, jB, jC]; go_simp⟩) ?_
  simp only [Act.put, jA, jB, jC, jD, jE, jF]
  refine tkH 8 (.bool true) rfl (by kernel_rfl) (fun _ _ _ => False.elim) hHeld (Or.inl ⟨by rfl, fun W9 hW => by clear hHeld hW; simp only [jA, jB, jC]; go_simp⟩) ?_
  simp only [Act.put, jA, jB, jC, jD, jE, jF]
  refine tkH 9 (.agg #[.int .i64 R.ep, .int .i64 R.base, .slice ao R.sp.length c, .int .i64 R.mv, .slice b R.cut.length d]) rfl (by kernel_rfl) (fun _ _ _ => False.elim) hHeld (Or.inl ⟨by rfl, fun W9 hW => by obtain ⟨q0, q1, q2, q3, q4, q5, q6, q7, q8, q9, q10⟩ := HK12.out _ (below_step HCwa.out hW.out); clear hHeld hW; simp only [jA, jB, jC]; go_simp⟩) ?_
  simp only [Act.put, jA, jB, jC, jD, jE, jF]
  refine tkH 10 (.slice ak key.length ck) rfl (by kernel_rfl) (fun _ _ _ => False.elim) hHeld (Or.inl ⟨by rfl, fun W9 hW => by clear hHeld hW; simp only [jA, jB, jC]; go_simp⟩) ?_
  simp only [Act.put, jA, jB, jC, jD, jE, jF]
  refine tkH 12 (.agg #[.int .i64 R.ep, .int .i64 R.base, .slice ao R.sp.length c, .int .i64 R.mv, .slice b R.cut.length d]) rfl (by kernel_rfl) (fun _ _ _ => False.elim) hHeld (Or.inl ⟨by rfl, fun W9 hW => by obtain ⟨q0, q1, q2, q3, q4, q5, q6, q7, q8, q9, q10⟩ := HK12.out _ (below_step HCwa.out hW.out); clear hHeld hW; simp only [jA, jB, jC]; go_simp⟩) ?_
  simp only [Act.put, jA, jB, jC, jD, jE, jF]
  refine tkH 13 (.slice ak key.length ck) rfl (by kernel_rfl) (fun _ _ _ => False.elim) hHeld (Or.inl ⟨by rfl, fun W9 hW => by clear hHeld hW; simp only [jA, jB, jC]; go_simp⟩) ?_
  simp only [Act.put, jA, jB, jC, jD, jE, jF]
  refine rdH 11 (by kernel_rfl) rfl fun K hK => ?_
  rw [if_pos (by rfl)]
  go_simp
  have CQ := hid (base_any (b := b) (d := d) HOK.out.bf (HKEY.out.old (below_step HB12.out (below_step HCwa.out hHeld.out))) (ao := ao) (c := c))
  go_wp2_with (first | (go_at_call 49; refine CQ.out.mono ?_; rintro en wb ⟨rfl, hbE⟩; have HBE := hid (below_step hHeld.out hbE); have HCwb := hid (below_step HCwa.out HBE.out)))
  clear CQ hHeld
  refine hK.out _ _ HBE (fun hHeld => ?_)
  clear hK K
  try simp only [Act.put, jA, jB, jC, jD, jE, jF]
  refine wpAnyH_low2 (S' := fun V => Hid (Below wb.heap.size wb V)) (fun V hV => hid (below_step HBE.out hV.out)) _ _ _ _ ?_
  clear hHeld HBE
  have hHeld : Hid (Below wb.heap.size wb wb) := hid (Below.refl _ _)
  refine rdH 14 (by kernel_rfl) rfl fun K hK => ?_
  rw [if_pos (by rfl)]
  go_simp
  have CQ := hid (rbase_any (b := b) (d := d) HOK.out.bf (HKEY.out.old (below_step HB12.out (below_step HCwb.out hHeld.out))) (ao := ao) (c := c))
  go_wp2_with (first | (go_at_call 50; refine CQ.out.mono ?_; rintro en wc ⟨rfl, hbE⟩; have HBE := hid (below_step hHeld.out hbE); have HCwc := hid (below_step HCwb.out HBE.out)))
  clear CQ hHeld
  refine hK.out _ _ HBE (fun hHeld => ?_)
  clear hK K
  try simp only [Act.put, jA, jB, jC, jD, jE, jF]
  refine wpAnyH_low2 (S' := fun V => Hid (Below wc.heap.size wc V)) (fun V hV => hid (below_step HBE.out hV.out)) _ _ _ _ ?_
  clear hHeld HBE
  have hHeld : Hid (Below wc.heap.size wc wc) := hid (Below.refl _ _)
  refine tkH 15 (.bool true) rfl (by kernel_rfl) (fun _ _ _ => False.elim) hHeld (Or.inl ⟨by rfl, fun W9 hW => by clear hHeld hW; simp only [jA, jB, jC]; go_simp⟩) ?_
  simp only [Act.put, jA, jB, jC, jD, jE, jF]
  refine tkH 16 (.bool true) rfl (by kernel_rfl) (fun _ _ _ => False.elim) hHeld (Or.inl ⟨by rfl, fun W9 hW => by clear hHeld hW; simp only [jA, jB, jC]; go_simp⟩) ?_
  simp only [Act.put, jA, jB, jC, jD, jE, jF]
  refine tkH 17 (.bool true) rfl (by kernel_rfl) (fun _ _ _ => False.elim) hHeld (Or.inl ⟨by rfl, fun W9 hW => by clear hHeld hW; simp only [jA, jB, jC]; go_simp⟩) ?_
  simp only [Act.put, jA, jB, jC, jD, jE, jF]
  refine tkH 18 (.agg #[.int .i64 R.ep, .int .i64 R.base, .slice ao R.sp.length c, .int .i64 R.mv, .slice b R.cut.length d]) rfl (by kernel_rfl) (fun _ _ _ => False.elim) hHeld (Or.inl ⟨by rfl, fun W9 hW => by obtain ⟨q0, q1, q2, q3, q4, q5, q6, q7, q8, q9, q10⟩ := HK12.out _ (below_step HCwc.out hW.out); clear hHeld hW; simp only [jA, jB, jC]; go_simp⟩) ?_
  simp only [Act.put, jA, jB, jC, jD, jE, jF]
  refine tkH 19 (.slice ak key.length ck) rfl (by kernel_rfl) (fun _ _ _ => False.elim) hHeld (Or.inl ⟨by rfl, fun W9 hW => by clear hHeld hW; simp only [jA, jB, jC]; go_simp⟩) ?_
  simp only [Act.put, jA, jB, jC, jD, jE, jF]
  refine tkH 21 (.agg #[.int .i64 R.ep, .int .i64 R.base, .slice ao R.sp.length c, .int .i64 R.mv, .slice b R.cut.length d]) rfl (by kernel_rfl) (fun _ _ _ => False.elim) hHeld (Or.inl ⟨by rfl, fun W9 hW => by obtain ⟨q0, q1, q2, q3, q4, q5, q6, q7, q8, q9, q10⟩ := HK12.out _ (below_step HCwc.out hW.out); clear hHeld hW; simp only [jA, jB, jC]; go_simp⟩) ?_
  simp only [Act.put, jA, jB, jC, jD, jE, jF]
  refine tkH 22 (.slice ak key.length ck) rfl (by kernel_rfl) (fun _ _ _ => False.elim) hHeld (Or.inl ⟨by rfl, fun W9 hW => by clear hHeld hW; simp only [jA, jB, jC]; go_simp⟩) ?_
  simp only [Act.put, jA, jB, jC, jD, jE, jF]
  refine rdH 20 (by kernel_rfl) rfl fun K hK => ?_
  rw [if_pos (by rfl)]
  go_simp
  have CQ := hid (entry_any (b := b) (d := d) (HR.out.old (below_step HB12.out (below_step HCwc.out hHeld.out))) (HKEY.out.old (below_step HB12.out (below_step HCwc.out hHeld.out))))
  go_wp2_with (first | (go_at_call 51; refine CQ.out.mono ?_; rintro en wd ⟨rfl, hbE⟩; have HBE := hid (below_step hHeld.out hbE); have HCwd := hid (below_step HCwc.out HBE.out)))
  clear CQ hHeld
  refine hK.out _ _ HBE (fun hHeld => ?_)
  clear hK K
  try simp only [Act.put, jA, jB, jC, jD, jE, jF]
  refine wpAnyH_low2 (S' := fun V => Hid (Below wd.heap.size wd V)) (fun V hV => hid (below_step HBE.out hV.out)) _ _ _ _ ?_
  clear hHeld HBE
  have hHeld : Hid (Below wd.heap.size wd wd) := hid (Below.refl _ _)
  refine rdH 23 (by kernel_rfl) rfl fun K hK => ?_
  rw [if_pos (by rfl)]
  go_simp
  have CQ := hid (rentry_any (b := b) (d := d) (HR.out.old (below_step HB12.out (below_step HCwd.out hHeld.out))) HOK.out.len1 (HKEY.out.old (below_step HB12.out (below_step HCwd.out hHeld.out))))
  go_wp2_with (first | (go_at_call 52; refine CQ.out.mono ?_; rintro en we ⟨rfl, hbE⟩; have HBE := hid (below_step hHeld.out hbE); have HCwe := hid (below_step HCwd.out HBE.out)))
  clear CQ hHeld
  refine hK.out _ _ HBE (fun hHeld => ?_)
  clear hK K
  try simp only [Act.put, jA, jB, jC, jD, jE, jF]
  refine wpAnyH_low2 (S' := fun V => Hid (Below we.heap.size we V)) (fun V hV => hid (below_step HBE.out hV.out)) _ _ _ _ ?_
  clear hHeld HBE
  have hHeld : Hid (Below we.heap.size we we) := hid (Below.refl _ _)
  refine tkH 24 (.bool true) rfl (by kernel_rfl) (fun _ _ _ => False.elim) hHeld (Or.inl ⟨by rfl, fun W9 hW => by clear hHeld hW; simp only [jA, jB, jC]; go_simp⟩) ?_
  simp only [Act.put, jA, jB, jC, jD, jE, jF]
  refine tkH 25 (.bool true) rfl (by kernel_rfl) (fun _ _ _ => False.elim) hHeld (Or.inl ⟨by rfl, fun W9 hW => by clear hHeld hW; simp only [jA, jB, jC]; go_simp⟩) ?_
  simp only [Act.put, jA, jB, jC, jD, jE, jF]
  refine tkH 26 (.bool true) rfl (by kernel_rfl) (fun _ _ _ => False.elim) hHeld (Or.inl ⟨by rfl, fun W9 hW => by clear hHeld hW; simp only [jA, jB, jC]; go_simp⟩) ?_
  simp only [Act.put, jA, jB, jC, jD, jE, jF]
  refine tkH 27 (.agg #[.int .i64 R.ep, .int .i64 R.base, .slice ao R.sp.length c, .int .i64 R.mv, .slice b R.cut.length d]) rfl (by kernel_rfl) (fun _ _ _ => False.elim) hHeld (Or.inl ⟨by rfl, fun W9 hW => by obtain ⟨q0, q1, q2, q3, q4, q5, q6, q7, q8, q9, q10⟩ := HK12.out _ (below_step HCwe.out hW.out); clear hHeld hW; simp only [jA, jB, jC]; go_simp⟩) ?_
  simp only [Act.put, jA, jB, jC, jD, jE, jF]
  refine tkH 28 (.slice ak key.length ck) rfl (by kernel_rfl) (fun _ _ _ => False.elim) hHeld (Or.inl ⟨by rfl, fun W9 hW => by clear hHeld hW; simp only [jA, jB, jC]; go_simp⟩) ?_
  simp only [Act.put, jA, jB, jC, jD, jE, jF]
  refine tkH 30 (.agg #[.int .i64 R.ep, .int .i64 R.base, .slice ao R.sp.length c, .int .i64 R.mv, .slice b R.cut.length d]) rfl (by kernel_rfl) (fun _ _ _ => False.elim) hHeld (Or.inl ⟨by rfl, fun W9 hW => by obtain ⟨q0, q1, q2, q3, q4, q5, q6, q7, q8, q9, q10⟩ := HK12.out _ (below_step HCwe.out hW.out); clear hHeld hW; simp only [jA, jB, jC]; go_simp⟩) ?_
  simp only [Act.put, jA, jB, jC, jD, jE, jF]
  refine tkH 31 (.slice ak key.length ck) rfl (by kernel_rfl) (fun _ _ _ => False.elim) hHeld (Or.inl ⟨by rfl, fun W9 hW => by clear hHeld hW; simp only [jA, jB, jC]; go_simp⟩) ?_
  simp only [Act.put, jA, jB, jC, jD, jE, jF]
  refine rdH 29 (by kernel_rfl) rfl fun K hK => ?_
  rw [if_pos (by rfl)]
  go_simp
  have CQ := hid (group_any (b := b) (d := d) HOK.out.bf (HR.out.old (below_step HB12.out (below_step HCwe.out hHeld.out))) (HKEY.out.old (below_step HB12.out (below_step HCwe.out hHeld.out))))
  go_wp2_with (first | (go_at_call 53; refine CQ.out.mono ?_; rintro en wf ⟨rfl, hbE⟩; have HBE := hid (below_step hHeld.out hbE); have HCwf := hid (below_step HCwe.out HBE.out)))
  clear CQ hHeld
  refine hK.out _ _ HBE (fun hHeld => ?_)
  clear hK K
  try simp only [Act.put, jA, jB, jC, jD, jE, jF]
  refine wpAnyH_low2 (S' := fun V => Hid (Below wf.heap.size wf V)) (fun V hV => hid (below_step HBE.out hV.out)) _ _ _ _ ?_
  clear hHeld HBE
  have hHeld : Hid (Below wf.heap.size wf wf) := hid (Below.refl _ _)
  refine rdH 32 (by kernel_rfl) rfl fun K hK => ?_
  rw [if_pos (by rfl)]
  go_simp
  have CQ := hid (rgroup_any (b := b) (d := d) HOK.out.bf (HR.out.old (below_step HB12.out (below_step HCwf.out hHeld.out))) HOK.out.len1 (HKEY.out.old (below_step HB12.out (below_step HCwf.out hHeld.out))))
  go_wp2_with (first | (go_at_call 54; refine CQ.out.mono ?_; rintro en wg ⟨rfl, hbE⟩; have HBE := hid (below_step hHeld.out hbE); have HCwg := hid (below_step HCwf.out HBE.out)))
  clear CQ hHeld
  refine hK.out _ _ HBE (fun hHeld => ?_)
  clear hK K
  try simp only [Act.put, jA, jB, jC, jD, jE, jF]
  refine wpAnyH_low2 (S' := fun V => Hid (Below wg.heap.size wg V)) (fun V hV => hid (below_step HBE.out hV.out)) _ _ _ _ ?_
  clear hHeld HBE
  have hHeld : Hid (Below wg.heap.size wg wg) := hid (Below.refl _ _)
  refine tkH 33 (.bool true) rfl (by kernel_rfl) (fun _ _ _ => False.elim) hHeld (Or.inl ⟨by rfl, fun W9 hW => by clear hHeld hW; simp only [jA, jB, jC]; go_simp⟩) ?_
  simp only [Act.put, jA, jB, jC, jD, jE, jF]
  refine tkH 34 (.bool true) rfl (by kernel_rfl) (fun _ _ _ => False.elim) hHeld (Or.inl ⟨by rfl, fun W9 hW => by clear hHeld hW; simp only [jA, jB, jC]; go_simp⟩) ?_
  simp only [Act.put, jA, jB, jC, jD, jE, jF]
  refine tkH 35 (.bool true) rfl (by kernel_rfl) (fun _ _ _ => False.elim) hHeld (Or.inl ⟨by rfl, fun W9 hW => by clear hHeld hW; simp only [jA, jB, jC]; go_simp⟩) ?_
  simp only [Act.put, jA, jB, jC, jD, jE, jF]
  refine tkH 36 (.agg #[.int .i64 R.ep, .int .i64 R.base, .slice ao R.sp.length c, .int .i64 R.mv, .slice b R.cut.length d]) rfl (by kernel_rfl) (fun _ _ _ => False.elim) hHeld (Or.inl ⟨by rfl, fun W9 hW => by obtain ⟨q0, q1, q2, q3, q4, q5, q6, q7, q8, q9, q10⟩ := HK12.out _ (below_step HCwg.out hW.out); clear hHeld hW; simp only [jA, jB, jC]; go_simp⟩) ?_
  simp only [Act.put, jA, jB, jC, jD, jE, jF]
  refine tkH 37 (.agg #[.slice a1 F.length c1, .slice a2 T.length c2]) rfl (by kernel_rfl) (fun _ _ _ => False.elim) hHeld (Or.inl ⟨by rfl, fun W9 hW => by obtain ⟨q0, q1, q2, q3, q4, q5, q6, q7, q8, q9, q10⟩ := HK12.out _ (below_step HCwg.out hW.out); clear hHeld hW; simp only [jA, jB, jC]; go_simp⟩) ?_
  simp only [Act.put, jA, jB, jC, jD, jE, jF]
  refine tkH 39 (.agg #[.int .i64 R.ep, .int .i64 R.base, .slice ao R.sp.length c, .int .i64 R.mv, .slice b R.cut.length d]) rfl (by kernel_rfl) (fun _ _ _ => False.elim) hHeld (Or.inl ⟨by rfl, fun W9 hW => by obtain ⟨q0, q1, q2, q3, q4, q5, q6, q7, q8, q9, q10⟩ := HK12.out _ (below_step HCwg.out hW.out); clear hHeld hW; simp only [jA, jB, jC]; go_simp⟩) ?_
  simp only [Act.put, jA, jB, jC, jD, jE, jF]
  refine tkH 40 (.agg #[.slice a1 F.length c1, .slice a2 T.length c2]) rfl (by kernel_rfl) (fun _ _ _ => False.elim) hHeld (Or.inl ⟨by rfl, fun W9 hW => by obtain ⟨q0, q1, q2, q3, q4, q5, q6, q7, q8, q9, q10⟩ := HK12.out _ (below_step HCwg.out hW.out); clear hHeld hW; simp only [jA, jB, jC]; go_simp⟩) ?_
  simp only [Act.put, jA, jB, jC, jD, jE, jF]
  refine rdH 38 (by kernel_rfl) rfl fun K hK => ?_
  rw [if_pos (by rfl)]
  go_simp
  have CQ := hid ((over_any (b := b) (d := d) HOK.out.bf (HR.out.old (below_step HB12.out (below_step HCwg.out hHeld.out))) HOK.out.len4 (H1.out.old (below_step HB12.out (below_step HCwg.out hHeld.out))) (H2.out.old (below_step HB12.out (below_step HCwg.out hHeld.out)))).mono (fun e w h => OvA.elim HOK.out h))
  go_wp2_with (first | (go_at_call 56; refine CQ.out.mono ?_; rintro en wh ⟨v1, rfl, hvE, hbE⟩; have HBE := hid (below_step hHeld.out hbE); have HV1 := hid hvE; have HCwh := hid (below_step HCwg.out HBE.out)))
  clear CQ hHeld
  refine hK.out _ _ HBE (fun hHeld => ?_)
  clear hK K
  try simp only [Act.put, jA, jB, jC, jD, jE, jF]
  refine wpAnyH_low2 (S' := fun V => Hid (Below wh.heap.size wh V)) (fun V hV => hid (below_step HBE.out hV.out)) _ _ _ _ ?_
  clear hHeld HBE
  have hHeld : Hid (Below wh.heap.size wh wh) := hid (Below.refl _ _)
  refine rdH 41 (by kernel_rfl) rfl fun K hK => ?_
  rw [if_pos (by rfl)]
  go_simp
  have CQ := hid ((rover_any (b := b) (d := d) HOK.out.bf (HR.out.old (below_step HB12.out (below_step HCwh.out hHeld.out))) HLL.out (H1.out.old (below_step HB12.out (below_step HCwh.out hHeld.out))) (H2.out.old (below_step HB12.out (below_step HCwh.out hHeld.out)))).mono (fun e w h => LsA.elim HOK.out h))
  go_wp2_with (first | (go_at_call 57; refine CQ.out.mono ?_; rintro en wi ⟨v2, rfl, hvE2, hbE⟩; have HBE := hid (below_step hHeld.out hbE); have HV2 := hid hvE2; have HV3 := hid (HV1.out.old HBE.out); have HCwi := hid (below_step HCwh.out HBE.out)))
  clear CQ hHeld
  refine hK.out _ _ HBE (fun hHeld => ?_)
  clear hK K
  try simp only [Act.put, jA, jB, jC, jD, jE, jF]
  refine wpAnyH_low2 (S' := fun V => Hid (Below wi.heap.size wi V)) (fun V hV => hid (below_step HBE.out hV.out)) _ _ _ _ ?_
  clear hHeld HBE
  have hHeld : Hid (Below wi.heap.size wi wi) := hid (Below.refl _ _)
  refine rdH 42 (by kernel_rfl) rfl fun K hK => ?_
  rw [if_pos (by rfl)]
  go_simp
  have CQ := hid (iplain_eq _ _ _ _ (HV3.out.old hHeld.out) (HV2.out.old hHeld.out))
  go_wp2_with (first | (go_at_call 55; refine CQ.out.mono ?_; rintro en wj ⟨rfl, hbE⟩; have HBE := hid (below_step hHeld.out hbE); have HCwj := hid (below_step HCwi.out HBE.out)))
  clear CQ hHeld
  refine hK.out _ _ HBE (fun hHeld => ?_)
  clear hK K
  try simp only [Act.put, jA, jB, jC, jD, jE, jF]
  refine wpAnyH_low2 (S' := fun V => Hid (Below wj.heap.size wj V)) (fun V hV => hid (below_step HBE.out hV.out)) _ _ _ _ ?_
  clear hHeld HBE
  have hHeld : Hid (Below wj.heap.size wj wj) := hid (Below.refl _ _)
  refine tkH 43 (.bool true) rfl (by kernel_rfl) (fun _ _ _ => False.elim) hHeld (Or.inl ⟨by rfl, fun W9 hW => by clear hHeld hW; simp only [jA, jB, jC]; go_simp⟩) ?_
  simp only [Act.put, jA, jB, jC, jD, jE, jF]
  refine tkH 44 (.bool true) rfl (by kernel_rfl) (fun _ _ _ => False.elim) hHeld (Or.inl ⟨by rfl, fun W9 hW => by clear hHeld hW; simp only [jA, jB, jC]; go_simp⟩) ?_
  simp only [Act.put, jA, jB, jC, jD, jE, jF]
  refine tkH 45 (.agg #[.int .i64 R.ep, .int .i64 R.base, .slice ao R.sp.length c, .int .i64 R.mv, .slice b R.cut.length d]) rfl (by kernel_rfl) (fun _ _ _ => False.elim) hHeld (Or.inl ⟨by rfl, fun W9 hW => by obtain ⟨q0, q1, q2, q3, q4, q5, q6, q7, q8, q9, q10⟩ := HK12.out _ (below_step HCwj.out hW.out); clear hHeld hW; simp only [jA, jB, jC]; go_simp⟩) ?_
  simp only [Act.put, jA, jB, jC, jD, jE, jF]
  refine tkH 46 (.int .i64 gr) rfl (by kernel_rfl) (fun _ _ _ => False.elim) hHeld (Or.inl ⟨by rfl, fun W9 hW => by clear hHeld hW; simp only [jA, jB, jC]; go_simp⟩) ?_
  simp only [Act.put, jA, jB, jC, jD, jE, jF]
  refine tkH 48 (.agg #[.int .i64 R.ep, .int .i64 R.base, .slice ao R.sp.length c, .int .i64 R.mv, .slice b R.cut.length d]) rfl (by kernel_rfl) (fun _ _ _ => False.elim) hHeld (Or.inl ⟨by rfl, fun W9 hW => by obtain ⟨q0, q1, q2, q3, q4, q5, q6, q7, q8, q9, q10⟩ := HK12.out _ (below_step HCwj.out hW.out); clear hHeld hW; simp only [jA, jB, jC]; go_simp⟩) ?_
  simp only [Act.put, jA, jB, jC, jD, jE, jF]
  refine tkH 49 (.int .i64 gr) rfl (by kernel_rfl) (fun _ _ _ => False.elim) hHeld (Or.inl ⟨by rfl, fun W9 hW => by clear hHeld hW; simp only [jA, jB, jC]; go_simp⟩) ?_
  simp only [Act.put, jA, jB, jC, jD, jE, jF]
  refine rdH 47 (by kernel_rfl) rfl fun K hK => ?_
  rw [if_pos (by rfl)]
  go_simp
  have CQ := hid (CO1.out _ (below_step HCwj.out hHeld.out))
  go_wp2_with (first | (go_at_call 58; refine CQ.out.mono ?_; rintro en wk ⟨x5, y5, x6, y6, rfl, hfE, htE, hbE⟩; have HBE := hid (below_step hHeld.out hbE); have HFO := hid hfE; have HTO := hid htE; have HCwk := hid (below_step HCwj.out HBE.out)))
  clear CQ hHeld
  refine hK.out _ _ HBE (fun hHeld => ?_)
  clear hK K
  try simp only [Act.put, jA, jB, jC, jD, jE, jF]
  refine wpAnyH_low2 (S' := fun V => Hid (Below wk.heap.size wk V)) (fun V hV => hid (below_step HBE.out hV.out)) _ _ _ _ ?_
  clear hHeld HBE
  have hHeld : Hid (Below wk.heap.size wk wk) := hid (Below.refl _ _)
  refine rdH 50 (by kernel_rfl) rfl fun K hK => ?_
  rw [if_pos (by rfl)]
  go_simp
  have CQ := hid (CO2.out _ (below_step HCwk.out hHeld.out))
  go_wp2_with (first | (go_at_call 59; refine CQ.out.mono ?_; rintro en wl ⟨x7, y7, x8, y8, rfl, hfE2, htE2, hbE⟩; have HBE := hid (below_step hHeld.out hbE); have HFO2 := hid hfE2; have HTO2 := hid htE2; have HFO3 := hid (HFO.out.old HBE.out); have HTO3 := hid (HTO.out.old HBE.out); have HCwl := hid (below_step HCwk.out HBE.out)))
  clear CQ hHeld
  refine hK.out _ _ HBE (fun hHeld => ?_)
  clear hK K
  try simp only [Act.put, jA, jB, jC, jD, jE, jF]
  refine wpAnyH_low2 (S' := fun V => Hid (Below wl.heap.size wl V)) (fun V hV => hid (below_step HBE.out hV.out)) _ _ _ _ ?_
  clear hHeld HBE
  have hHeld : Hid (Below wl.heap.size wl wl) := hid (Below.refl _ _)
  refine rdH 51 (by kernel_rfl) rfl fun K hK => ?_
  rw [if_pos (by rfl)]
  go_simp
  have CQ := hid (hspan_eq (HFO3.out.old hHeld.out) (HTO3.out.old hHeld.out) (HFO2.out.old hHeld.out) (HTO2.out.old hHeld.out))
  go_wp2_with (first | (go_at_call 48; refine CQ.out.mono ?_; rintro en wm ⟨rfl, hbE⟩; have HBE := hid (below_step hHeld.out hbE); have HCwm := hid (below_step HCwl.out HBE.out)))
  clear CQ hHeld
  refine hK.out _ _ HBE (fun hHeld => ?_)
  clear hK K
  try simp only [Act.put, jA, jB, jC, jD, jE, jF]
  refine wpAnyH_low2 (S' := fun V => Hid (Below wm.heap.size wm V)) (fun V hV => hid (below_step HBE.out hV.out)) _ _ _ _ ?_
  clear hHeld HBE
  have hHeld : Hid (Below wm.heap.size wm wm) := hid (Below.refl _ _)
  refine tkH 52 (.bool true) rfl (by kernel_rfl) (fun _ _ _ => False.elim) hHeld (Or.inl ⟨by rfl, fun W9 hW => by clear hHeld hW; simp only [jA, jB, jC]; go_simp⟩) ?_
  simp only [Act.put, jA, jB, jC, jD, jE, jF]
  refine tkH 53 (.bool true) rfl (by kernel_rfl) (fun _ _ _ => False.elim) hHeld (Or.inl ⟨by rfl, fun W9 hW => by clear hHeld hW; simp only [jA, jB, jC]; go_simp⟩) ?_
  simp only [Act.put, jA, jB, jC, jD, jE, jF]
  refine tkH 54 (.agg #[.int .i64 R.ep, .int .i64 R.base, .slice ao R.sp.length c, .int .i64 R.mv, .slice b R.cut.length d]) rfl (by kernel_rfl) (fun _ _ _ => False.elim) hHeld (Or.inl ⟨by rfl, fun W9 hW => by obtain ⟨q0, q1, q2, q3, q4, q5, q6, q7, q8, q9, q10⟩ := HK12.out _ (below_step HCwm.out hW.out); clear hHeld hW; simp only [jA, jB, jC]; go_simp⟩) ?_
  simp only [Act.put, jA, jB, jC, jD, jE, jF]
  refine tkH 55 (.int .i64 sp) rfl (by kernel_rfl) (fun _ _ _ => False.elim) hHeld (Or.inl ⟨by rfl, fun W9 hW => by clear hHeld hW; simp only [jA, jB, jC]; go_simp⟩) ?_
  simp only [Act.put, jA, jB, jC, jD, jE, jF]
  refine tkH 57 (.agg #[.int .i64 R.ep, .int .i64 R.base, .slice ao R.sp.length c, .int .i64 R.mv, .slice b R.cut.length d]) rfl (by kernel_rfl) (fun _ _ _ => False.elim) hHeld (Or.inl ⟨by rfl, fun W9 hW => by obtain ⟨q0, q1, q2, q3, q4, q5, q6, q7, q8, q9, q10⟩ := HK12.out _ (below_step HCwm.out hW.out); clear hHeld hW; simp only [jA, jB, jC]; go_simp⟩) ?_
  simp only [Act.put, jA, jB, jC, jD, jE, jF]
  refine tkH 58 (.int .i64 sp) rfl (by kernel_rfl) (fun _ _ _ => False.elim) hHeld (Or.inl ⟨by rfl, fun W9 hW => by clear hHeld hW; simp only [jA, jB, jC]; go_simp⟩) ?_
  simp only [Act.put, jA, jB, jC, jD, jE, jF]
  refine rdH 56 (by kernel_rfl) rfl fun K hK => ?_
  rw [if_pos (by rfl)]
  go_simp
  have CQ := hid (next_any (b := b) (d := d) HOK.out.bf (HR.out.old (below_step HB12.out (below_step HCwm.out hHeld.out))) sp)
  go_wp2_with (first | (go_at_call 60; refine CQ.out.mono ?_; rintro en wn ⟨rfl, hbE⟩; have HBE := hid (below_step hHeld.out hbE); have HCwn := hid (below_step HCwm.out HBE.out)))
  clear CQ hHeld
  refine hK.out _ _ HBE (fun hHeld => ?_)
  clear hK K
  try simp only [Act.put, jA, jB, jC, jD, jE, jF]
  refine wpAnyH_low2 (S' := fun V => Hid (Below wn.heap.size wn V)) (fun V hV => hid (below_step HBE.out hV.out)) _ _ _ _ ?_
  clear hHeld HBE
  have hHeld : Hid (Below wn.heap.size wn wn) := hid (Below.refl _ _)
  refine rdH 59 (by kernel_rfl) rfl fun K hK => ?_
  rw [if_pos (by rfl)]
  go_simp
  have CQ := hid (rnext_any (b := b) (d := d) HOK.out.bf (HR.out.old (below_step HB12.out (below_step HCwn.out hHeld.out))) sp HSPI.out)
  go_wp2_with (first | (go_at_call 61; refine CQ.out.mono ?_; rintro en wo ⟨rfl, hbE⟩; have HBE := hid (below_step hHeld.out hbE); have HCwo := hid (below_step HCwn.out HBE.out)))
  clear CQ hHeld
  refine hK.out _ _ HBE (fun hHeld => ?_)
  clear hK K
  try simp only [Act.put, jA, jB, jC, jD, jE, jF]
  refine wpAnyH_low2 (S' := fun V => Hid (Below wo.heap.size wo V)) (fun V hV => hid (below_step HBE.out hV.out)) _ _ _ _ ?_
  clear hHeld HBE
  have hHeld : Hid (Below wo.heap.size wo wo) := hid (Below.refl _ _)
  refine tkH 60 (.bool true) rfl (by kernel_rfl) (fun _ _ _ => False.elim) hHeld (Or.inl ⟨by rfl, fun W9 hW => by clear hHeld hW; simp only [jA, jB, jC]; go_simp⟩) ?_
  simp only [Act.put, jA, jB, jC, jD, jE, jF]
  refine tkH 61 (.bool true) rfl (by kernel_rfl) (fun _ _ _ => False.elim) hHeld (Or.inl ⟨by rfl, fun W9 hW => by clear hHeld hW; simp only [jA, jB, jC]; go_simp⟩) ?_
  simp only [Act.put, jA, jB, jC, jD, jE, jF]
  refine tkH 62 (.bool true) rfl (by kernel_rfl) (fun _ _ _ => False.elim) hHeld (Or.inl ⟨by rfl, fun W9 hW => by clear hHeld hW; simp only [jA, jB, jC]; go_simp⟩) ?_
  simp only [Act.put, jA, jB, jC, jD, jE, jF]
  refine wpAnyH_done (by kernel_rfl) (NoPanic.normal ?_) _
  clear hHeld
  go_wp2_with fail
  go_ret
  exact ⟨rfl, below_step HB12.out HCwo.out⟩

open Go.ChangeShapes Go.WideShapes Go.ChangeAt in
theorem walk {H : Type} {enc : TypeId × Value → H} (v0 v1 v2 : Value) (gr sp bs : Int) (W : World) {base : Nat} {d0 d1 d2 : DataW H} {p0 p1 p2 : List MemPlace} (hw0 : Value.okWide Try.prog W .any base 64 v0) (h0 : DataW.Trod enc Try.prog W 0 (fun _ => true) true 64 v0 d0 p0) (hk0 : ∀ n ∈ d0.weights Try.prog 64, n ≤ reachBytes)
    (hw1 : Value.okWide Try.prog W .any base 62 v1) (h1 : DataW.Trod enc Try.prog W 0 (fun _ => true) true 62 v1 d1 p1) (hk1 : ∀ n ∈ d1.weights Try.prog 62, n ≤ reachBytes)
    (hw2 : Value.okWide Try.prog W .any base 66 v2) (h2 : DataW.Trod enc Try.prog W 0 (fun _ => true) true 66 v2 d2 p2) (hk2 : ∀ n ∈ d2.weights Try.prog 66, n ≤ reachBytes) (hsp : i64 sp) :
    Calls Try.prog 6 #[v0, v1, v2, .int .i64 gr, .int .i64 sp, .int .i64 bs] W (fun e w' => e = .returned (.bool true) ∧ Below W.heap.size W w') := by
  obtain ⟨R, ao, c, b, d, rfl, hr, hcut, -, hbi, -, hL, -, -⟩ := routes_open hw0 h0 hk0
  obtain ⟨ak, ck, key, rfl, hkey, -⟩ := hbytes_open hw1 h1 hk1
  obtain ⟨a1, c1, F, a2, c2, T, rfl, h1, h2, h3, h4⟩ := hspan_open hw2 h2 hk2
  exact walk0 gr sp bs W hr hcut hL hbi hsp hkey h1 h2 h3 h4
end Go.Proofs.Ytafcbelkhhjcoaa.routeTells

namespace Go.Proofs.Ytafcbelkhhjcoaa.routeTells
open Go.ChangeShapes Go.WideShapes Go.ChangeAt Go.RowKit
open Go.ChangeMaps (open_string shut_string)
set_option linter.unusedVariables false

theorem own : ownKnob Try.prog.godebug = none := by kernel_rfl
theorem laidOut : laidOutB Try.prog = true := by kernel_rfl

set_option maxRecDepth 100000 in
theorem contract (H : Type) (enc : TypeId × Value → H) (W : World) (base : Nat) (args : Array Value) (ds gs : List (DataW H)) (before : List MemPlace)
    (hval0 : ∀ (j : Nat) t v, Try.f6.params[j]? = some t → args[j]? = some v → Value.okWide Try.prog W .any base t v)
    (hW : DataW.Whole enc Try.prog Try.f6.params.toList Rows.routeTellsSpec.vars false W args.toList ds gs before)
    (hsz0 : (DataW.weightsEach Try.prog (Try.f6.params.toList ++ Rows.routeTellsSpec.plain.varTypes Try.prog) (ds ++ gs)).all (· ≤ reachBytes) = true) :
    Calls Try.prog 6 args W fun e W' => ∃ v, e = .returned v ∧ Rows.routeTellsSpec.post enc Try.prog Try.f6 false true false false W args v W' := by
  have hval : ∀ (j : Nat) t v, Try.f6.params[j]? = some t → args[j]? = some v → Value.okWide Try.prog W .any base t v := hval0
  have hW' := hW
  obtain ⟨p, q, hA0, hV, rfl, hfz, hnd⟩ := hW
  have hA : DataW.TrodAll enc Try.prog W 0 (fun _ => true) true Try.f6.params.toList args.toList ds p := hA0
  have hsz : (DataW.weightsEach Try.prog (Try.f6.params.toList ++ Rows.routeTellsSpec.plain.varTypes Try.prog) (ds ++ gs)).all (· ≤ reachBytes) = true := hsz0
  rw [Try.params6] at hA hval hsz
  obtain ⟨v0, vs0, d0, ds0, p0, q0, hargs, rfl, rfl, h0, r0⟩ := trodAll_cons hA
  obtain ⟨v1, vs1, d1, ds1, p1, q1, rfl, rfl, rfl, h1, r1⟩ := trodAll_cons r0
  obtain ⟨v2, vs2, d2, ds2, p2, q2, rfl, rfl, rfl, h2, r2⟩ := trodAll_cons r1
  obtain ⟨v3, vs3, d3, ds3, p3, q3, rfl, rfl, rfl, h3, r3⟩ := trodAll_cons r2
  obtain ⟨v4, vs4, d4, ds4, p4, q4, rfl, rfl, rfl, h4, r4⟩ := trodAll_cons r3
  obtain ⟨v5, vs5, d5, ds5, p5, q5, rfl, rfl, rfl, h5, r5⟩ := trodAll_cons r4
  obtain ⟨rfl, rfl, rfl⟩ := trodAll_nil r5
  obtain rfl : args = #[v0, v1, v2, v3, v4, v5] := by cases args; simp_all
  obtain ⟨rfl, rfl⟩ := trodVars_none hV
  have k0 := h0
  have lt0 : ∀ x ∈ p0, x.block < W.heap.size := by obtain ⟨m, hm⟩ := k0; exact DataW.trod_lt m _ _ _ hm
  have k1 := h1
  have lt1 : ∀ x ∈ p1, x.block < W.heap.size := by obtain ⟨m, hm⟩ := k1; exact DataW.trod_lt m _ _ _ hm
  have k2 := h2
  have lt2 : ∀ x ∈ p2, x.block < W.heap.size := by obtain ⟨m, hm⟩ := k2; exact DataW.trod_lt m _ _ _ hm
  obtain ⟨a3, rfl, rfl, rfl, w3⟩ := open_int Try.underlying3 (hval 3 3 v3 rfl rfl) h3
  obtain ⟨a4, rfl, rfl, rfl, w4⟩ := open_int Try.underlying3 (hval 4 3 v4 rfl rfl) h4
  obtain ⟨a5, rfl, rfl, rfl, w5⟩ := open_int Try.underlying3 (hval 5 3 v5 rfl rfl) h5
  clear hA0 hval0 hsz0
  refine (walk v0 v1 v2 a3 a4 a5 W (hval 0 64 v0 rfl rfl) h0 (fun n hn => of_decide_eq_true (List.all_eq_true.1 hsz n (DataW.weights_mem_each (j := 0) rfl rfl n hn))) (hval 1 62 v1 rfl rfl) h1 (fun n hn => of_decide_eq_true (List.all_eq_true.1 hsz n (DataW.weights_mem_each (j := 1) rfl rfl n hn))) (hval 2 66 v2 rfl rfl) h2 (fun n hn => of_decide_eq_true (List.all_eq_true.1 hsz n (DataW.weights_mem_each (j := 2) rfl rfl n hn))) (i64_in w4)).mono fun e W' ⟨he, bel⟩ => ?_
  subst he
  exact ⟨_, rfl, _, _, _, [], _, [], hW', trodAll_mk1 (shut_bool Try.underlying4 _), (trodAll_cons_mk (Below.trod laidOut (by kernel_rfl) (of_decide_eq_true (by kernel_rfl)) k0 bel lt0) (trodAll_cons_mk (Below.trod laidOut (by kernel_rfl) (of_decide_eq_true (by kernel_rfl)) k1 bel lt1) (trodAll_cons_mk (Below.trod laidOut (by kernel_rfl) (of_decide_eq_true (by kernel_rfl)) k2 bel lt2) (trodAll_cons_mk (shut_int Try.underlying3 w3) (trodAll_cons_mk (shut_int Try.underlying3 w4) (trodAll_cons_mk (shut_int Try.underlying3 w5) trodAll_mk0)))))), rfl, bel.frame _, fun h => by cases h⟩

set_option maxRecDepth 100000 in
theorem lifted (os : Os) (started : os.Started) (H : Type) (enc : TypeId × Value → H) :
    ReturnsInHanded {} Try.checked os 6 .any (Rows.routeTellsSpec.pre6 enc Try.prog Try.f6 Rows.routeTellsRow.domain false) (Rows.routeTellsSpec.post enc Try.prog Try.f6 false true false false) := by
  refine returnsInHanded_of_change_sized (C := Try.checked) own started (by kernel_rfl) Try.func6
    (ChangeSpec.witness6 (enc := enc) (C := Try.checked) false ⟨#[], #[.agg #[.int .i64 0, .int .i64 0, .slice none 0 0, .int .i64 0, .slice none 0 0], .slice none 0 0, .agg #[.slice none 0 0, .slice none 0 0], .int .i64 0, .int .i64 0, .int .i64 0], []⟩ 8 (by kernel_rfl) (by kernel_rfl) (by kernel_rfl) (by kernel_rfl)) ?_
  intro W base args ds gs before hval0 hW _ hsz _
  exact contract H enc W base args ds gs before hval0 hW hsz

theorem over : Rows.routeTellsRow.holds Try.pinned (OpenSpec.ofChange Rows.routeTellsSpec) :=
  OpenClaim.holds_of_wide 6 Try.f6 rfl rfl rfl rfl rfl rfl rfl ⟨rfl, rfl, rfl, rfl, rfl⟩ rfl rfl rfl rfl rfl (by kernel_rfl) Try.func6 (by kernel_rfl)
    (of_decide_eq_true (by kernel_rfl)) (by unfold Func.isWrapper; first | (rw [if_pos (by decide +kernel)]; kernel_rfl) | (rw [if_neg (by decide +kernel)]; exact ⟨rfl, rfl⟩))
    (fun os started H enc _ => lifted os started H enc)

/-- THE STATEMENT. -/
theorem proved : Rows.RouteTellsSaid := over
end Go.Proofs.Ytafcbelkhhjcoaa.routeTells

