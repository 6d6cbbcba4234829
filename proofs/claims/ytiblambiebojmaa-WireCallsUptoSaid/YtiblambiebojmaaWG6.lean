import Derived.WalkKit
import Derived.OpenShut
import Derived.Test.YtiblambiebojmaaRows
import Derived.WalkSpells
import Derived.WalkLawsBesides
import Derived.Laws.AppendOwnNone
import Derived.ProofKit
import Derived.ShutString
import Derived.ChangeOld
import Derived.Below
import Derived.SizedLaws
import Derived.Deep.Slices
import Derived.Deep.AppendLies
import Derived.Deep.Strs
import Derived.Deep.RegionHeld3
import Derived.Lib.ConvBytes
import Derived.Laws.AppendOwn
import Derived.Deep.CutRange
import Derived.Deep.MidRow
import Derived.Great.Walk
import Derived.Test.YtiblambiebojmaaWG1
import Derived.Test.YtiblambiebojmaaWG2
import Derived.Test.YtiblambiebojmaaWG3
import Derived.Test.YtiblambiebojmaaWG4
import Derived.Test.YtiblambiebojmaaWG5
set_option linter.unusedVariables false
set_option linter.unusedSimpArgs false
set_option linter.unusedVariables false
set_option linter.unusedSimpArgs false
set_option maxRecDepth 100000
namespace Go.Proofs.Ytiblambiebojmaa
open Go.RowKit Go.Deep

set_option maxHeartbeats 8000000 in
theorem wtopCommand_any {W0 : World} {v0 v1 v2 v3 v4 v5 v6 v7 v8 v9 v10 v11 v12 v13 v14 v15 v16 v17 v18 v19 v20 v21 v22 v23 v24 : Value} {b0 b1 b2 b3 b4 b5 b6 b7 b8 b9 b10 b11 b12 b13 b14 b15 b16 b17 b18 b19 b20 b21 b22 b23 b24 : List UInt8} (e0 : Enc W0 .int [v0] b0) (e1 : Enc W0 .int [v1] b1) (e2 : Enc W0 .num [v2] b2) (e3 : Enc W0 .int [v3] b3) (e4 : Enc W0 .int [v4] b4) (e5 : Enc W0 .int [v5] b5) (e6 : Enc W0 .bool [v6] b6) (e7 : Enc W0 .data [v7] b7) (e8 : Enc W0 .data [v8] b8) (e9 : Enc W0 .data [v9] b9) (e10 : Enc W0 (.list sPair) [v10] b10) (e11 : Enc W0 (.list sSeen) [v11] b11) (e12 : Enc W0 (.list sWrite) [v12] b12) (e13 : Enc W0 .int [v13] b13) (e14 : Enc W0 .name [v14] b14) (e15 : Enc W0 (.list sColumn) [v15] b15) (e16 : Enc W0 (.list .int) [v16] b16) (e17 : Enc W0 .int [v17] b17) (e18 : Enc W0 .int [v18] b18) (e19 : Enc W0 .name [v19] b19) (e20 : Enc W0 (.list .int) [v20] b20) (e21 : Enc W0 .bool [v21] b21) (e22 : Enc W0 .int [v22] b22) (e23 : Enc W0 .bool [v23] b23) (e24 : Enc W0 .name [v24] b24) (hl : (b0 ++ (b1 ++ (b2 ++ (b3 ++ (b4 ++ (b5 ++ (b6 ++ (b7 ++ (b8 ++ (b9 ++ (b10 ++ (b11 ++ (b12 ++ (b13 ++ (b14 ++ (b15 ++ (b16 ++ (b17 ++ (b18 ++ (b19 ++ (b20 ++ (b21 ++ (b22 ++ (b23 ++ b24)))))))))))))))))))))))).length ≤ 1000000000000) :
    Calls Try.prog 11 #[.agg #[v0, v1, v2, v3, v4, v5, v6, v7, v8, v9, v10, v11, v12, v13, v14, v15, v16, v17, v18, v19, v20, v21, v22, v23, v24]] W0 (Gives 5 W0 (b0 ++ (b1 ++ (b2 ++ (b3 ++ (b4 ++ (b5 ++ (b6 ++ (b7 ++ (b8 ++ (b9 ++ (b10 ++ (b11 ++ (b12 ++ (b13 ++ (b14 ++ (b15 ++ (b16 ++ (b17 ++ (b18 ++ (b19 ++ (b20 ++ (b21 ++ (b22 ++ (b23 ++ b24))))))))))))))))))))))))) := by
  have H0 := hid (St.begin W0 #[v0, v1, v2, v3, v4, v5, v6, v7, v8, v9, v10, v11, v12, v13, v14, v15, v16, v17, v18, v19, v20, v21, v22, v23, v24] 38 69)
  have C := fun (w0 : World) (a B : Nat) (h : St 69 W0 [(B, .cells #[v0, v1, v2, v3, v4, v5, v6, v7, v8, v9, v10, v11, v12, v13, v14, v15, v16, v17, v18, v19, v20, v21, v22, v23, v24] 38 (0, 0))] a w0 []) => wCommand_any h e0 e1 e2 e3 e4 e5 e6 e7 e8 e9 e10 e11 e12 e13 e14 e15 e16 e17 e18 e19 e20 e21 e22 e23 e24 (by rw [List.length_nil, Nat.zero_add]; exact hl)
  have CH := hid C
  clear C hl e0 e1 e2 e3 e4 e5 e6 e7 e8 e9 e10 e11 e12 e13 e14 e15 e16 e17 e18 e19 e20 e21 e22 e23 e24
  go_enter Try.func11, Try.ntmps11
  go_upto_region 2 with fail
  generalize (W0.alloc (.cells #[v0, v1, v2, v3, v4, v5, v6, v7, v8, v9, v10, v11, v12, v13, v14, v15, v16, v17, v18, v19, v20, v21, v22, v23, v24] 38)).alloc (.cells #[.slice none 0 0] 69) = w0 at *
  obtain ⟨B, hB⟩ : ∃ B, B = W0.heap.size := ⟨_, rfl⟩
  obtain ⟨a, ha⟩ : ∃ a, a = W0.heap.size + 1 := ⟨_, rfl⟩
  rw [← ha, ← hB] at H0
  try rw [← ha]
  try rw [← hB]
  clear hB ha
  have CC := hid (CH.out _ _ _ H0.out)
  have LD := cells_load (box_cell H0.out) Try.underlying38 rfl (by kernel_rfl)
  have HLD := hid LD
  clear LD
  apply wp_region_lit
  refine Great.wpList_readTo rfl (some 4) rfl (.agg #[v0, v1, v2, v3, v4, v5, v6, v7, v8, v9, v10, v11, v12, v13, v14, v15, v16, v17, v18, v19, v20, v21, v22, v23, v24]) (exec_load rfl HLD.out) ?_
  simp only [Act.put, List.getElem_toArray, List.getElem_cons_succ, List.getElem_cons_zero, List.setIfInBounds_toArray, List.set_cons_succ, List.set_cons_zero]
  go_upto_region 3 with (first | (go_at_call 25; refine CC.out.mono ?_; rintro en w1 ⟨rfl, h1⟩; have H1 := hid h1; clear h1))
  obtain ⟨cx, hx, hg⟩ := St.ends (show St 69 W0 _ a _ (b0 ++ (b1 ++ (b2 ++ (b3 ++ (b4 ++ (b5 ++ (b6 ++ (b7 ++ (b8 ++ (b9 ++ (b10 ++ (b11 ++ (b12 ++ (b13 ++ (b14 ++ (b15 ++ (b16 ++ (b17 ++ (b18 ++ (b19 ++ (b20 ++ (b21 ++ (b22 ++ (b23 ++ b24)))))))))))))))))))))))) from H1.out)
  obtain ⟨z0, z1⟩ := one_cell hx
  have HG := hid hg
  clear hx hg 
  go_wp2_with fail
  go_ret
  exact HG.out

set_option maxHeartbeats 8000000 in
theorem rtopCommand_any {W0 : World} {v0 v1 v2 v3 v4 v5 v6 v7 v8 v9 v10 v11 v12 v13 v14 v15 v16 v17 v18 v19 v20 v21 v22 v23 v24 : Value} {b0 b1 b2 b3 b4 b5 b6 b7 b8 b9 b10 b11 b12 b13 b14 b15 b16 b17 b18 b19 b20 b21 b22 b23 b24 : List UInt8} (e0 : Enc W0 .int [v0] b0) (e1 : Enc W0 .int [v1] b1) (e2 : Enc W0 .num [v2] b2) (e3 : Enc W0 .int [v3] b3) (e4 : Enc W0 .int [v4] b4) (e5 : Enc W0 .int [v5] b5) (e6 : Enc W0 .bool [v6] b6) (e7 : Enc W0 .data [v7] b7) (e8 : Enc W0 .data [v8] b8) (e9 : Enc W0 .data [v9] b9) (e10 : Enc W0 (.list sPair) [v10] b10) (e11 : Enc W0 (.list sSeen) [v11] b11) (e12 : Enc W0 (.list sWrite) [v12] b12) (e13 : Enc W0 .int [v13] b13) (e14 : Enc W0 .name [v14] b14) (e15 : Enc W0 (.list sColumn) [v15] b15) (e16 : Enc W0 (.list .int) [v16] b16) (e17 : Enc W0 .int [v17] b17) (e18 : Enc W0 .int [v18] b18) (e19 : Enc W0 .name [v19] b19) (e20 : Enc W0 (.list .int) [v20] b20) (e21 : Enc W0 .bool [v21] b21) (e22 : Enc W0 .int [v22] b22) (e23 : Enc W0 .bool [v23] b23) (e24 : Enc W0 .name [v24] b24) (hl : (b0 ++ (b1 ++ (b2 ++ (b3 ++ (b4 ++ (b5 ++ (b6 ++ (b7 ++ (b8 ++ (b9 ++ (b10 ++ (b11 ++ (b12 ++ (b13 ++ (b14 ++ (b15 ++ (b16 ++ (b17 ++ (b18 ++ (b19 ++ (b20 ++ (b21 ++ (b22 ++ (b23 ++ b24)))))))))))))))))))))))).length ≤ 1000000000000) :
    Calls Try.prog 12 #[.agg #[v0, v1, v2, v3, v4, v5, v6, v7, v8, v9, v10, v11, v12, v13, v14, v15, v16, v17, v18, v19, v20, v21, v22, v23, v24]] W0 (Gives 5 W0 (b0 ++ (b1 ++ (b2 ++ (b3 ++ (b4 ++ (b5 ++ (b6 ++ (b7 ++ (b8 ++ (b9 ++ (b10 ++ (b11 ++ (b12 ++ (b13 ++ (b14 ++ (b15 ++ (b16 ++ (b17 ++ (b18 ++ (b19 ++ (b20 ++ (b21 ++ (b22 ++ (b23 ++ b24))))))))))))))))))))))))) := by
  obtain ⟨ao10, n10, cc10, M10, rfl, hL10, rfl⟩ := list_open e10
  have HLst10 := hid hL10
  clear hL10
  obtain ⟨ao11, n11, cc11, M11, rfl, hL11, rfl⟩ := list_open e11
  have HLst11 := hid hL11
  clear hL11
  obtain ⟨ao12, n12, cc12, M12, rfl, hL12, rfl⟩ := list_open e12
  have HLst12 := hid hL12
  clear hL12
  have H0 := hid (St.begin W0 #[v0, v1, v2, v3, v4, v5, v6, v7, v8, v9, (.slice ao10 n10 cc10), (.slice ao11 n11 cc11), (.slice ao12 n12 cc12), v13, v14, v15, v16, v17, v18, v19, v20, v21, v22, v23, v24] 38 73)
  have HL0 : Hid (([] : List UInt8).length + (b0 ++ (b1 ++ (b2 ++ (b3 ++ (b4 ++ (b5 ++ (b6 ++ (b7 ++ (b8 ++ (b9 ++ (numL n10 ++ (takeB M10 n10 ++ (numL n11 ++ (takeB M11 n11 ++ (numL n12 ++ (takeB M12 n12 ++ (b13 ++ (b14 ++ (b15 ++ (b16 ++ (b17 ++ (b18 ++ (b19 ++ (b20 ++ (b21 ++ (b22 ++ (b23 ++ b24))))))))))))))))))))))))))).length ≤ 1000000000000) := hid (by rw [List.length_nil, Nat.zero_add]; simpa only [List.append_assoc] using hl)
  have E0 := hid e0
  have E1 := hid e1
  have E2 := hid e2
  have E3 := hid e3
  have E4 := hid e4
  have E5 := hid e5
  have E6 := hid e6
  have E7 := hid e7
  have E8 := hid e8
  have E9 := hid e9
  have E13 := hid e13
  have E14 := hid e14
  have E15 := hid e15
  have E16 := hid e16
  have E17 := hid e17
  have E18 := hid e18
  have E19 := hid e19
  have E20 := hid e20
  have E21 := hid e21
  have E22 := hid e22
  have E23 := hid e23
  have E24 := hid e24
  clear hl e0 e1 e2 e3 e4 e5 e6 e7 e8 e9 e10 e11 e12 e13 e14 e15 e16 e17 e18 e19 e20 e21 e22 e23 e24
  go_enter Try.func12, Try.ntmps12
  go_upto_region 2 with fail
  generalize (W0.alloc (.cells #[v0, v1, v2, v3, v4, v5, v6, v7, v8, v9, (.slice ao10 n10 cc10), (.slice ao11 n11 cc11), (.slice ao12 n12 cc12), v13, v14, v15, v16, v17, v18, v19, v20, v21, v22, v23, v24] 38)).alloc (.cells #[.slice none 0 0] 73) = w0 at *
  obtain ⟨B, hB⟩ : ∃ B, B = W0.heap.size := ⟨_, rfl⟩
  obtain ⟨a, ha⟩ : ∃ a, a = W0.heap.size + 1 := ⟨_, rfl⟩
  rw [← ha, ← hB] at H0
  try rw [← ha]
  try rw [← hB]
  clear hB ha
  have x0 := box_cell H0.out 0 v0 rfl
  have HN0 := hid (len_now HL0.out)
  have HL1 := hid (len_step HL0.out)
  go_upto_region 3 with (first | (go_at_call 26; refine (ointE H0.out E0.out HN0.out).mono ?_; rintro en w1 ⟨rfl, h1⟩; have H1 := hid h1; clear h1))
  clear x0
  have x1 := box_cell H1.out 1 v1 rfl
  have HN1 := hid (len_now HL1.out)
  have HL2 := hid (len_step HL1.out)
  go_upto_region 4 with (first | (go_at_call 26; refine (ointE H1.out E1.out HN1.out).mono ?_; rintro en w2 ⟨rfl, h2⟩; have H2 := hid h2; clear h2))
  clear x1
  have x2 := box_cell H2.out 2 v2 rfl
  have HN2 := hid (len_now HL2.out)
  have HL3 := hid (len_step HL2.out)
  go_upto_region 5 with (first | (go_at_call 23; refine (onumE H2.out E2.out HN2.out).mono ?_; rintro en w3 ⟨rfl, h3⟩; have H3 := hid h3; clear h3))
  clear x2
  have x3 := box_cell H3.out 3 v3 rfl
  have HN3 := hid (len_now HL3.out)
  have HL4 := hid (len_step HL3.out)
  go_upto_region 6 with (first | (go_at_call 26; refine (ointE H3.out E3.out HN3.out).mono ?_; rintro en w4 ⟨rfl, h4⟩; have H4 := hid h4; clear h4))
  clear x3
  have x4 := box_cell H4.out 4 v4 rfl
  have HN4 := hid (len_now HL4.out)
  have HL5 := hid (len_step HL4.out)
  go_upto_region 7 with (first | (go_at_call 26; refine (ointE H4.out E4.out HN4.out).mono ?_; rintro en w5 ⟨rfl, h5⟩; have H5 := hid h5; clear h5))
  clear x4
  have x5 := box_cell H5.out 5 v5 rfl
  have HN5 := hid (len_now HL5.out)
  have HL6 := hid (len_step HL5.out)
  go_upto_region 8 with (first | (go_at_call 26; refine (ointE H5.out E5.out HN5.out).mono ?_; rintro en w6 ⟨rfl, h6⟩; have H6 := hid h6; clear h6))
  clear x5
  have x6 := box_cell H6.out 6 v6 rfl
  have HN6 := hid (len_now HL6.out)
  have HL7 := hid (len_step HL6.out)
  go_upto_region 9 with (first | (go_at_call 27; refine (oboolE H6.out E6.out HN6.out).mono ?_; rintro en w7 ⟨rfl, h7⟩; have H7 := hid h7; clear h7))
  clear x6
  have x7 := box_cell H7.out 7 v7 rfl
  have HN7 := hid (len_now HL7.out)
  have HL8 := hid (len_step HL7.out)
  go_upto_region 10 with (first | (go_at_call 24; refine (obytesE H7.out E7.out HN7.out).mono ?_; rintro en w8 ⟨rfl, h8⟩; have H8 := hid h8; clear h8))
  clear x7
  have x8 := box_cell H8.out 8 v8 rfl
  have x9 := box_cell H8.out 9 v9 rfl
  have HG8 : Hid (((((((((([] : List UInt8) ++ b0) ++ b1) ++ b2) ++ b3) ++ b4) ++ b5) ++ b6) ++ b7).length + ((b8 ++ b9) ++ (numL n10 ++ (takeB M10 n10 ++ (numL n11 ++ (takeB M11 n11 ++ (numL n12 ++ (takeB M12 n12 ++ (b13 ++ (b14 ++ (b15 ++ (b16 ++ (b17 ++ (b18 ++ (b19 ++ (b20 ++ (b21 ++ (b22 ++ (b23 ++ b24)))))))))))))))))).length ≤ 1000000000000) := hid (by simpa only [List.append_assoc] using HL8.out)
  have HN8 := hid (len_now HG8.out)
  have HL9 := hid (len_step HG8.out)
  go_upto_region 11 with (first | (go_at_call 28; refine (oSpan_any H8.out E8.out E9.out HN8.out).mono ?_; rintro en w9 ⟨rfl, h9⟩; have H9 := hid h9; clear h9))
  clear x8 x9
  have x10 := box_cell H9.out 10 (.slice ao10 n10 cc10) rfl
  obtain ⟨hcap, hn6, hn64, hw⟩ := HLst10.out.cap
  have HN9 := hid (len_now HL9.out)
  have HL10 := hid (len_step HL9.out)
  have C0 := hid (onum_any H9.out n10 hn64 HN9.out)
  clear hn64
  go_wp2_with (first | (go_at_call 23; refine C0.out.mono ?_; rintro en w10 ⟨rfl, h10⟩; have H10 := hid h10; clear h10))
  clear hw C0 x10
  have HN10 := hid (len_now HL10.out)
  have HL11 := hid (len_step HL10.out)
  have HL := hid (HN10.out)
  go_loopw [4] (fun i wr => ∃ k, k ≤ n10 ∧ i = .int .i64 (k : Int) ∧ St 73 W0 [(B, .cells #[v0, v1, v2, v3, v4, v5, v6, v7, v8, v9, (.slice ao10 n10 cc10), (.slice ao11 n11 cc11), (.slice ao12 n12 cc12), v13, v14, v15, v16, v17, v18, v19, v20, v21, v22, v23, v24] 38 (0, 0))] a wr (((((((((((([] : List UInt8) ++ b0) ++ b1) ++ b2) ++ b3) ++ b4) ++ b5) ++ b6) ++ b7) ++ (b8 ++ b9)) ++ numL n10) ++ takeB M10 k)) (fun i _ => n10 - (intOf i).toNat)
  case atStart => exact ⟨0, by omega, rfl, by rw [takeB_zero, List.append_nil]; exact H10.out⟩
  case round =>
    obtain ⟨k, hk, rfl, hst⟩ := hrel
    have HS := hid hst
    clear hst
    by_cases hlt : k < n10
    · obtain ⟨⟨mc, mb⟩, bk, off, hm, rfl, hcell, htk, hle⟩ := HLst10.out.get (by decide) hlt
      simp only at hm hcell htk hle
      have xs := box_cell HS.out 10 _ rfl
      obtain ⟨u0, u1, u2, p0, p1, p2, rfl, rfl, f0, f1, f2⟩ := Pair_cells hm
      have HX := hid hle
      have HT := hid htk
      have hki : (k : Int) < (n10 : Int) := by omega
      have d0 := hcell _ HS.out.below 0 u0 rfl
      rw [show Sh.wid sPair = 3 from rfl, Nat.add_zero] at d0
      have d1 := hcell _ HS.out.below 1 u1 rfl
      rw [show Sh.wid sPair = 3 from rfl] at d1
      have d2 := hcell _ HS.out.below 2 u2 rfl
      rw [show Sh.wid sPair = 3 from rfl] at d2
      have C := hid (oPair_any HS.out f0 f1 f2 (by have := HL.out; have := HX.out; simp only [List.length_append] at *; omega))
      clear htk hle hcell hm
      go_wp2_with (first | (go_at_call 29; refine C.out.mono ?_; rintro en w2 ⟨rfl, h2⟩; have H2x := hid h2; clear h2))
      go_roundw
      case rel => exact ⟨k + 1, by omega, by go_num, by rw [HT.out, ← List.append_assoc]; exact H2x.out⟩
      case measure => simp [intOf]; omega
    · obtain rfl : n10 = k := by omega
      have hki : ¬ (n10 : Int) < (n10 : Int) := by omega
      have xs := box_cell HS.out 10 _ rfl
      have H11 := HS
      clear HS hlt hk HL
      go_upto_region 16 with fail
      clear xs hki hcap hn6
      have x11 := box_cell H11.out 11 (.slice ao11 n11 cc11) rfl
      obtain ⟨hcap, hn6, hn64, hw⟩ := HLst11.out.cap
      have HN11 := hid (len_now HL11.out)
      have HL12 := hid (len_step HL11.out)
      have C0 := hid (onum_any H11.out n11 hn64 HN11.out)
      clear hn64
      go_wp2_with (first | (go_at_call 23; refine C0.out.mono ?_; rintro en w12 ⟨rfl, h12⟩; have H12 := hid h12; clear h12))
      clear hw C0 x11
      have HN12 := hid (len_now HL12.out)
      have HL13 := hid (len_step HL12.out)
      have HL := hid (HN12.out)
      go_loopw [5] (fun i wr => ∃ k, k ≤ n11 ∧ i = .int .i64 (k : Int) ∧ St 73 W0 [(B, .cells #[v0, v1, v2, v3, v4, v5, v6, v7, v8, v9, (.slice ao10 n10 cc10), (.slice ao11 n11 cc11), (.slice ao12 n12 cc12), v13, v14, v15, v16, v17, v18, v19, v20, v21, v22, v23, v24] 38 (0, 0))] a wr (((((((((((((([] : List UInt8) ++ b0) ++ b1) ++ b2) ++ b3) ++ b4) ++ b5) ++ b6) ++ b7) ++ (b8 ++ b9)) ++ numL n10) ++ takeB M10 n10) ++ numL n11) ++ takeB M11 k)) (fun i _ => n11 - (intOf i).toNat)
      case atStart => exact ⟨0, by omega, rfl, by rw [takeB_zero, List.append_nil]; exact H12.out⟩
      case round =>
        obtain ⟨k, hk, rfl, hst⟩ := hrel
        have HS := hid hst
        clear hst
        by_cases hlt : k < n11
        · obtain ⟨⟨mc, mb⟩, bk, off, hm, rfl, hcell, htk, hle⟩ := HLst11.out.get (by decide) hlt
          simp only at hm hcell htk hle
          have xs := box_cell HS.out 11 _ rfl
          obtain ⟨u0, u1, u2, p0, p1, p2, rfl, rfl, f0, f1, f2⟩ := Seen_cells hm
          have HX := hid hle
          have HT := hid htk
          have hki : (k : Int) < (n11 : Int) := by omega
          have d0 := hcell _ HS.out.below 0 u0 rfl
          rw [show Sh.wid sSeen = 3 from rfl, Nat.add_zero] at d0
          have d1 := hcell _ HS.out.below 1 u1 rfl
          rw [show Sh.wid sSeen = 3 from rfl] at d1
          have d2 := hcell _ HS.out.below 2 u2 rfl
          rw [show Sh.wid sSeen = 3 from rfl] at d2
          have C := hid (oSeen_any HS.out f0 f1 f2 (by have := HL.out; have := HX.out; simp only [List.length_append] at *; omega))
          clear htk hle hcell hm
          go_wp2_with (first | (go_at_call 30; refine C.out.mono ?_; rintro en w2 ⟨rfl, h2⟩; have H2x := hid h2; clear h2))
          go_roundw
          case rel => exact ⟨k + 1, by omega, by go_num, by rw [HT.out, ← List.append_assoc]; exact H2x.out⟩
          case measure => simp [intOf]; omega
        · obtain rfl : n11 = k := by omega
          have hki : ¬ (n11 : Int) < (n11 : Int) := by omega
          have xs := box_cell HS.out 11 _ rfl
          have H13 := HS
          clear HS hlt hk HL
          go_upto_region 21 with fail
          clear xs hki hcap hn6
          have x12 := box_cell H13.out 12 (.slice ao12 n12 cc12) rfl
          obtain ⟨hcap, hn6, hn64, hw⟩ := HLst12.out.cap
          have HN13 := hid (len_now HL13.out)
          have HL14 := hid (len_step HL13.out)
          have C0 := hid (onum_any H13.out n12 hn64 HN13.out)
          clear hn64
          go_wp2_with (first | (go_at_call 23; refine C0.out.mono ?_; rintro en w14 ⟨rfl, h14⟩; have H14 := hid h14; clear h14))
          clear hw C0 x12
          have HN14 := hid (len_now HL14.out)
          have HL15 := hid (len_step HL14.out)
          have HL := hid (HN14.out)
          go_loopw [6] (fun i wr => ∃ k, k ≤ n12 ∧ i = .int .i64 (k : Int) ∧ St 73 W0 [(B, .cells #[v0, v1, v2, v3, v4, v5, v6, v7, v8, v9, (.slice ao10 n10 cc10), (.slice ao11 n11 cc11), (.slice ao12 n12 cc12), v13, v14, v15, v16, v17, v18, v19, v20, v21, v22, v23, v24] 38 (0, 0))] a wr (((((((((((((((([] : List UInt8) ++ b0) ++ b1) ++ b2) ++ b3) ++ b4) ++ b5) ++ b6) ++ b7) ++ (b8 ++ b9)) ++ numL n10) ++ takeB M10 n10) ++ numL n11) ++ takeB M11 n11) ++ numL n12) ++ takeB M12 k)) (fun i _ => n12 - (intOf i).toNat)
          case atStart => exact ⟨0, by omega, rfl, by rw [takeB_zero, List.append_nil]; exact H14.out⟩
          case round =>
            obtain ⟨k, hk, rfl, hst⟩ := hrel
            have HS := hid hst
            clear hst
            by_cases hlt : k < n12
            · obtain ⟨⟨mc, mb⟩, bk, off, hm, rfl, hcell, htk, hle⟩ := HLst12.out.get (by decide) hlt
              simp only at hm hcell htk hle
              have xs := box_cell HS.out 12 _ rfl
              obtain ⟨u0, u1, u2, p0, p1, p2, rfl, rfl, f0, f1, f2⟩ := Write_cells hm
              have HX := hid hle
              have HT := hid htk
              have hki : (k : Int) < (n12 : Int) := by omega
              have d0 := hcell _ HS.out.below 0 u0 rfl
              rw [show Sh.wid sWrite = 3 from rfl, Nat.add_zero] at d0
              have d1 := hcell _ HS.out.below 1 u1 rfl
              rw [show Sh.wid sWrite = 3 from rfl] at d1
              have d2 := hcell _ HS.out.below 2 u2 rfl
              rw [show Sh.wid sWrite = 3 from rfl] at d2
              have C := hid (oWrite_any HS.out f0 f1 f2 (by have := HL.out; have := HX.out; simp only [List.length_append] at *; omega))
              clear htk hle hcell hm
              go_wp2_with (first | (go_at_call 31; refine C.out.mono ?_; rintro en w2 ⟨rfl, h2⟩; have H2x := hid h2; clear h2))
              go_roundw
              case rel => exact ⟨k + 1, by omega, by go_num, by rw [HT.out, ← List.append_assoc]; exact H2x.out⟩
              case measure => simp [intOf]; omega
            · obtain rfl : n12 = k := by omega
              have hki : ¬ (n12 : Int) < (n12 : Int) := by omega
              have xs := box_cell HS.out 12 _ rfl
              have H15 := HS
              clear HS hlt hk HL
              go_upto_region 26 with fail
              clear xs hki hcap hn6
              have x13 := box_cell H15.out 13 v13 rfl
              have x14 := box_cell H15.out 14 v14 rfl
              have x15 := box_cell H15.out 15 v15 rfl
              have x16 := box_cell H15.out 16 v16 rfl
              have HG15 : Hid ((((((((((((((((([] : List UInt8) ++ b0) ++ b1) ++ b2) ++ b3) ++ b4) ++ b5) ++ b6) ++ b7) ++ (b8 ++ b9)) ++ numL n10) ++ takeB M10 n10) ++ numL n11) ++ takeB M11 n11) ++ numL n12) ++ takeB M12 n12).length + ((b13 ++ (b14 ++ (b15 ++ b16))) ++ (b17 ++ (b18 ++ (b19 ++ (b20 ++ (b21 ++ (b22 ++ (b23 ++ b24)))))))).length ≤ 1000000000000) := hid (by simpa only [List.append_assoc] using HL15.out)
              have HN15 := hid (len_now HG15.out)
              have HL16 := hid (len_step HG15.out)
              go_upto_region 27 with (first | (go_at_call 32; refine (oTable_any H15.out E13.out E14.out E15.out E16.out HN15.out).mono ?_; rintro en w16 ⟨rfl, h16⟩; have H16 := hid h16; clear h16))
              clear x13 x14 x15 x16
              have x17 := box_cell H16.out 17 v17 rfl
              have x18 := box_cell H16.out 18 v18 rfl
              have x19 := box_cell H16.out 19 v19 rfl
              have x20 := box_cell H16.out 20 v20 rfl
              have x21 := box_cell H16.out 21 v21 rfl
              have x22 := box_cell H16.out 22 v22 rfl
              have x23 := box_cell H16.out 23 v23 rfl
              have HG16 : Hid (((((((((((((((((([] : List UInt8) ++ b0) ++ b1) ++ b2) ++ b3) ++ b4) ++ b5) ++ b6) ++ b7) ++ (b8 ++ b9)) ++ numL n10) ++ takeB M10 n10) ++ numL n11) ++ takeB M11 n11) ++ numL n12) ++ takeB M12 n12) ++ (b13 ++ (b14 ++ (b15 ++ b16)))).length + ((b17 ++ (b18 ++ (b19 ++ (b20 ++ (b21 ++ (b22 ++ b23)))))) ++ (b24)).length ≤ 1000000000000) := hid (by simpa only [List.append_assoc] using HL16.out)
              have HN16 := hid (len_now HG16.out)
              have HL17 := hid (len_step HG16.out)
              go_upto_region 28 with (first | (go_at_call 33; refine (oIndex_any H16.out E17.out E18.out E19.out E20.out E21.out E22.out E23.out HN16.out).mono ?_; rintro en w17 ⟨rfl, h17⟩; have H17 := hid h17; clear h17))
              clear x17 x18 x19 x20 x21 x22 x23
              have x24 := box_cell H17.out 24 v24 rfl
              go_upto_region 29 with (first | (go_at_call 34; refine (otextE H17.out E24.out HL17.out).mono ?_; rintro en w18 ⟨rfl, h18⟩; have H18 := hid h18; clear h18))
              clear x24
              obtain ⟨cx, hx, hg⟩ := St.ends (show St 73 W0 _ a _ (b0 ++ (b1 ++ (b2 ++ (b3 ++ (b4 ++ (b5 ++ (b6 ++ (b7 ++ (b8 ++ (b9 ++ ((numL n10 ++ takeB M10 n10) ++ ((numL n11 ++ takeB M11 n11) ++ ((numL n12 ++ takeB M12 n12) ++ (b13 ++ (b14 ++ (b15 ++ (b16 ++ (b17 ++ (b18 ++ (b19 ++ (b20 ++ (b21 ++ (b22 ++ (b23 ++ b24)))))))))))))))))))))))) by simpa only [List.append_assoc, List.nil_append] using H18.out)
              obtain ⟨z0, z1⟩ := one_cell hx
              have HG := hid hg
              clear hx hg
              go_wp2_with fail
              go_ret
              exact HG.out

end Go.Proofs.Ytiblambiebojmaa

set_option linter.unusedVariables false
set_option linter.unusedSimpArgs false
set_option maxRecDepth 100000
namespace Go.Proofs.Ytiblambiebojmaa
open Go.RowKit Go.Deep

set_option maxHeartbeats 8000000 in
theorem wOwner_any {W0 w : World} {KK : List (Nat × Obj)} {a : Nat} {l : List UInt8} {v0 v1 : Value} {b0 b1 : List UInt8} (h : St 69 W0 KK a w l) (e0 : Enc W0 .int [v0] b0) (e1 : Enc W0 .data [v1] b1) (hl : l.length + (b0 ++ b1).length ≤ 1000000000000) :
    Calls Try.prog 93 #[.pointer (some ⟨a, 0, none⟩), .agg #[v0, v1]] w (Wrote 69 W0 KK a l (b0 ++ b1)) := by
  have H0 := hid (h.box #[v0, v1] 125)
  have HL0 := hid hl
  have E0 := hid e0
  have E1 := hid e1
  clear h hl e0 e1
  go_enter Try.func93, Try.ntmps93
  go_upto_region 1 with fail
  generalize w.alloc (.cells #[v0, v1] 125) = w0 at *
  generalize w.heap.size = B at *
  have x0 := box_cell H0.out 0 v0 rfl
  have HN0 := hid (len_now HL0.out)
  have HL1 := hid (len_step HL0.out)
  go_upto_region 2 with (first | (go_at_call 52; refine (wwholeE H0.out E0.out HN0.out).mono ?_; rintro en w1 ⟨rfl, h1⟩; have H1 := hid h1; clear h1))
  clear x0
  have x1 := box_cell H1.out 1 v1 rfl
  go_wp2_with (first | (go_at_call 49; refine (wdataE H1.out E1.out HL1.out).mono ?_; rintro en w2 ⟨rfl, h2⟩; have H2 := hid h2; clear h2))
  clear x1
  go_end0
  exact ⟨rfl, by simpa only [List.append_assoc] using H2.out.drop⟩

set_option maxHeartbeats 4000000 in
theorem wlist_Owner {W0 w : World} {KK : List (Nat × Obj)} {a : Nat} {l : List UInt8} {v : Value} {b : List UInt8} (h : St 69 W0 KK a w l) (e : Enc W0 (.list sOwner) [v] b) (hl : l.length + b.length ≤ 1000000000000) :
    Calls Try.prog 92 #[.pointer (some ⟨a, 0, none⟩), v, (.func (.func 93) #[.pointer (some ⟨a, 0, none⟩)] #[])] w (Wrote 69 W0 KK a l b) := by
  obtain ⟨ao, n, c, M, rfl, hL, rfl⟩ := list_open e
  obtain ⟨hcap, hn6, hn64, hw⟩ := hL.cap
  have HLst := hid hL
  have HL := hid hl
  have C0 := hid (wnum_any h n hn64 (by have := HL.out; simp only [List.length_append] at this ⊢; omega))
  clear h e hl hL hn64
  go_enter Try.func92, Try.ntmps92
  go_wp2_with (first | (go_at_call 48; refine C0.out.mono ?_; rintro en w1 ⟨rfl, h1⟩; have H1 := hid h1; clear h1))
  clear hw C0
  go_loopw [15] (fun i wr => ∃ k, k ≤ n ∧ i = .int .i64 (k : Int) ∧ St 69 W0 KK a wr ((l ++ numL n) ++ takeB M k)) (fun i _ => n - (intOf i).toNat)
  case atStart => exact ⟨0, by omega, rfl, by rw [takeB_zero, List.append_nil]; exact H1.out⟩
  case round =>
    obtain ⟨k, hk, rfl, hst⟩ := hrel
    have HS := hid hst
    clear hst
    by_cases hlt : k < n
    · obtain ⟨⟨mc, mb⟩, bk, off, hm, rfl, hcell, htk, hle⟩ := HLst.out.get (by decide) hlt
      simp only at hm hcell htk hle
      obtain ⟨v0, v1, b0, b1, rfl, rfl, e0, e1⟩ := Owner_cells hm
      obtain ⟨y0, rfl⟩ := form_int e0
      obtain ⟨y1, j1, c1, rfl⟩ := form_data e1
      have d0 : wr.cell? ⟨bk, off + k * 2, none⟩ = some (.int .i64 y0) := hcell _ HS.out.below 0 _ rfl
      have d1 : wr.cell? ⟨bk, off + k * 2 + 1, none⟩ = some (.slice y1 j1 c1) := hcell _ HS.out.below 1 _ rfl
      have HB := hid (HS.out.box #[(.int .i64 y0), (.slice y1 j1 c1)] 125)
      have HX := hid hle
      have C := hid (wOwner_any HB.out e0 e1 (by have := HL.out; have := HX.out; simp only [List.length_append] at *; omega))
      have HT := hid htk
      clear htk hle hcell hm e0 e1
      have hki : (k : Int) < (n : Int) := by omega
      go_wp2_with (first | (go_at_call 93; refine C.out.mono ?_; rintro en w2 ⟨rfl, h2⟩; have H2 := hid h2.drop; clear h2))
      go_roundw
      case rel => exact ⟨k + 1, by omega, by go_num, by rw [HT.out, ← List.append_assoc]; exact H2.out⟩
      case measure => simp [intOf]; omega
    · obtain rfl : k = n := by omega
      have hki : ¬ (k : Int) < (k : Int) := by omega
      go_wp2_with fail
      go_end0
      exact ⟨rfl, by rw [← List.append_assoc]; exact HS.out⟩

set_option maxHeartbeats 8000000 in
theorem wRoutes_any {W0 w : World} {KK : List (Nat × Obj)} {a : Nat} {l : List UInt8} {v0 v1 v2 v3 v4 : Value} {b0 b1 b2 b3 b4 : List UInt8} (h : St 69 W0 KK a w l) (e0 : Enc W0 .int [v0] b0) (e1 : Enc W0 .int [v1] b1) (e2 : Enc W0 (.list sOwner) [v2] b2) (e3 : Enc W0 .int [v3] b3) (e4 : Enc W0 .data [v4] b4) (hl : l.length + (b0 ++ (b1 ++ (b2 ++ (b3 ++ b4)))).length ≤ 1000000000000) :
    Calls Try.prog 69 #[.pointer (some ⟨a, 0, none⟩), .agg #[v0, v1, v2, v3, v4]] w (Wrote 69 W0 KK a l (b0 ++ (b1 ++ (b2 ++ (b3 ++ b4))))) := by
  have H0 := hid (h.box #[v0, v1, v2, v3, v4] 47)
  have HL0 := hid hl
  have E0 := hid e0
  have E1 := hid e1
  have E2 := hid e2
  have E3 := hid e3
  have E4 := hid e4
  clear h hl e0 e1 e2 e3 e4
  go_enter Try.func69, Try.ntmps69
  go_upto_region 1 with fail
  generalize w.alloc (.cells #[v0, v1, v2, v3, v4] 47) = w0 at *
  generalize w.heap.size = B at *
  have x0 := box_cell H0.out 0 v0 rfl
  have HN0 := hid (len_now HL0.out)
  have HL1 := hid (len_step HL0.out)
  go_upto_region 2 with (first | (go_at_call 52; refine (wwholeE H0.out E0.out HN0.out).mono ?_; rintro en w1 ⟨rfl, h1⟩; have H1 := hid h1; clear h1))
  clear x0
  have x1 := box_cell H1.out 1 v1 rfl
  have HN1 := hid (len_now HL1.out)
  have HL2 := hid (len_step HL1.out)
  go_upto_region 3 with (first | (go_at_call 52; refine (wwholeE H1.out E1.out HN1.out).mono ?_; rintro en w2 ⟨rfl, h2⟩; have H2 := hid h2; clear h2))
  clear x1
  have x2 := box_cell H2.out 2 v2 rfl
  have HN2 := hid (len_now HL2.out)
  have HL3 := hid (len_step HL2.out)
  go_upto_region 4 with (first | (go_at_call 92; refine (wlist_Owner H2.out E2.out HN2.out).mono ?_; rintro en w3 ⟨rfl, h3⟩; have H3 := hid h3; clear h3))
  clear x2
  have x3 := box_cell H3.out 3 v3 rfl
  have HN3 := hid (len_now HL3.out)
  have HL4 := hid (len_step HL3.out)
  go_upto_region 5 with (first | (go_at_call 52; refine (wwholeE H3.out E3.out HN3.out).mono ?_; rintro en w4 ⟨rfl, h4⟩; have H4 := hid h4; clear h4))
  clear x3
  have x4 := box_cell H4.out 4 v4 rfl
  go_wp2_with (first | (go_at_call 49; refine (wdataE H4.out E4.out HL4.out).mono ?_; rintro en w5 ⟨rfl, h5⟩; have H5 := hid h5; clear h5))
  clear x4
  go_end0
  exact ⟨rfl, by simpa only [List.append_assoc] using H5.out.drop⟩

set_option maxHeartbeats 4000000 in
theorem wlist_num {W0 w : World} {KK : List (Nat × Obj)} {a : Nat} {l : List UInt8} {v : Value} {b : List UInt8} (h : St 69 W0 KK a w l) (e : Enc W0 (.list .num) [v] b) (hl : l.length + b.length ≤ 1000000000000) :
    Calls Try.prog 68 #[.pointer (some ⟨a, 0, none⟩), v, (.func (.func 48) #[.pointer (some ⟨a, 0, none⟩)] #[])] w (Wrote 69 W0 KK a l b) := by
  obtain ⟨ao, n, c, M, rfl, hL, rfl⟩ := list_open e
  obtain ⟨hcap, hn6, hn64, hw⟩ := hL.cap
  have HLst := hid hL
  have HL := hid hl
  have C0 := hid (wnum_any h n hn64 (by have := HL.out; simp only [List.length_append] at this ⊢; omega))
  clear h e hl hL hn64
  go_enter Try.func68, Try.ntmps68
  go_wp2_with (first | (go_at_call 48; refine C0.out.mono ?_; rintro en w1 ⟨rfl, h1⟩; have H1 := hid h1; clear h1))
  clear hw C0
  go_loopw [15] (fun i wr => ∃ k, k ≤ n ∧ i = .int .i64 (k : Int) ∧ St 69 W0 KK a wr ((l ++ numL n) ++ takeB M k)) (fun i _ => n - (intOf i).toNat)
  case atStart => exact ⟨0, by omega, rfl, by rw [takeB_zero, List.append_nil]; exact H1.out⟩
  case round =>
    obtain ⟨k, hk, rfl, hst⟩ := hrel
    have HS := hid hst
    clear hst
    by_cases hlt : k < n
    · obtain ⟨⟨mc, mb⟩, bk, off, hm, rfl, hcell, htk, hle⟩ := HLst.out.get (by decide) hlt
      simp only at hm hcell htk hle
      obtain ⟨v0, rfl⟩ := one_of hm rfl
      have d0 : wr.cell? ⟨bk, off + k, none⟩ = some v0 := by have := hcell _ HS.out.below 0 v0 rfl; rw [show Sh.wid .num = 1 from rfl, Nat.mul_one] at this; exact this
      have HX := hid hle
      have C := hid (wnumE HS.out hm (by have := HL.out; have := HX.out; simp only [List.length_append] at *; omega))
      have HT := hid htk
      clear htk hle hcell hm
      have hki : (k : Int) < (n : Int) := by omega
      go_wp2_with (first | (go_at_call 48; refine C.out.mono ?_; rintro en w2 ⟨rfl, h2⟩; have H2 := hid h2; clear h2))
      go_roundw
      case rel => exact ⟨k + 1, by omega, by go_num, by rw [HT.out, ← List.append_assoc]; exact H2.out⟩
      case measure => simp [intOf]; omega
    · obtain rfl : k = n := by omega
      have hki : ¬ (k : Int) < (k : Int) := by omega
      go_wp2_with fail
      go_end0
      exact ⟨rfl, by rw [← List.append_assoc]; exact HS.out⟩

set_option maxHeartbeats 8000000 in
theorem wReply_any {W0 w : World} {KK : List (Nat × Obj)} {a : Nat} {l : List UInt8} {v0 v1 v2 v3 v4 v5 v6 v7 v8 v9 v10 v11 v12 v13 v14 : Value} {b0 b1 b2 b3 b4 b5 b6 b7 b8 b9 b10 b11 b12 b13 b14 : List UInt8} (h : St 69 W0 KK a w l) (e0 : Enc W0 .int [v0] b0) (e1 : Enc W0 .num [v1] b1) (e2 : Enc W0 .int [v2] b2) (e3 : Enc W0 .bool [v3] b3) (e4 : Enc W0 (.list sPair) [v4] b4) (e5 : Enc W0 (.list .num) [v5] b5) (e6 : Enc W0 .int [v6] b6) (e7 : Enc W0 .int [v7] b7) (e8 : Enc W0 (.list sTable) [v8] b8) (e9 : Enc W0 (.list sIndex) [v9] b9) (e10 : Enc W0 .int [v10] b10) (e11 : Enc W0 .int [v11] b11) (e12 : Enc W0 (.list sOwner) [v12] b12) (e13 : Enc W0 .int [v13] b13) (e14 : Enc W0 .data [v14] b14) (hl : l.length + (b0 ++ (b1 ++ (b2 ++ (b3 ++ (b4 ++ (b5 ++ (b6 ++ (b7 ++ (b8 ++ (b9 ++ (b10 ++ (b11 ++ (b12 ++ (b13 ++ b14)))))))))))))).length ≤ 1000000000000) :
    Calls Try.prog 35 #[.pointer (some ⟨a, 0, none⟩), .agg #[v0, v1, v2, v3, v4, v5, v6, v7, v8, v9, v10, v11, v12, v13, v14]] w (Wrote 69 W0 KK a l (b0 ++ (b1 ++ (b2 ++ (b3 ++ (b4 ++ (b5 ++ (b6 ++ (b7 ++ (b8 ++ (b9 ++ (b10 ++ (b11 ++ (b12 ++ (b13 ++ b14))))))))))))))) := by
  have H0 := hid (h.box #[v0, v1, v2, v3, v4, v5, v6, v7, v8, v9, v10, v11, v12, v13, v14] 49)
  have HL0 := hid hl
  have E0 := hid e0
  have E1 := hid e1
  have E2 := hid e2
  have E3 := hid e3
  have E4 := hid e4
  have E5 := hid e5
  have E6 := hid e6
  have E7 := hid e7
  have E8 := hid e8
  have E9 := hid e9
  have E10 := hid e10
  have E11 := hid e11
  have E12 := hid e12
  have E13 := hid e13
  have E14 := hid e14
  clear h hl e0 e1 e2 e3 e4 e5 e6 e7 e8 e9 e10 e11 e12 e13 e14
  go_enter Try.func35, Try.ntmps35
  go_upto_region 1 with fail
  generalize w.alloc (.cells #[v0, v1, v2, v3, v4, v5, v6, v7, v8, v9, v10, v11, v12, v13, v14] 49) = w0 at *
  generalize w.heap.size = B at *
  have x0 := box_cell H0.out 0 v0 rfl
  have HN0 := hid (len_now HL0.out)
  have HL1 := hid (len_step HL0.out)
  go_upto_region 2 with (first | (go_at_call 67; refine (werrnoE H0.out E0.out HN0.out).mono ?_; rintro en w1 ⟨rfl, h1⟩; have H1 := hid h1; clear h1))
  clear x0
  have x1 := box_cell H1.out 1 v1 rfl
  have HN1 := hid (len_now HL1.out)
  have HL2 := hid (len_step HL1.out)
  go_upto_region 3 with (first | (go_at_call 48; refine (wnumE H1.out E1.out HN1.out).mono ?_; rintro en w2 ⟨rfl, h2⟩; have H2 := hid h2; clear h2))
  clear x1
  have x2 := box_cell H2.out 2 v2 rfl
  have HN2 := hid (len_now HL2.out)
  have HL3 := hid (len_step HL2.out)
  go_upto_region 4 with (first | (go_at_call 52; refine (wwholeE H2.out E2.out HN2.out).mono ?_; rintro en w3 ⟨rfl, h3⟩; have H3 := hid h3; clear h3))
  clear x2
  have x3 := box_cell H3.out 3 v3 rfl
  have HN3 := hid (len_now HL3.out)
  have HL4 := hid (len_step HL3.out)
  go_upto_region 5 with (first | (go_at_call 53; refine (wflagE H3.out E3.out HN3.out).mono ?_; rintro en w4 ⟨rfl, h4⟩; have H4 := hid h4; clear h4))
  clear x3
  have x4 := box_cell H4.out 4 v4 rfl
  have HN4 := hid (len_now HL4.out)
  have HL5 := hid (len_step HL4.out)
  go_upto_region 6 with (first | (go_at_call 55; refine (wlist_Pair H4.out E4.out HN4.out).mono ?_; rintro en w5 ⟨rfl, h5⟩; have H5 := hid h5; clear h5))
  clear x4
  have x5 := box_cell H5.out 5 v5 rfl
  have HN5 := hid (len_now HL5.out)
  have HL6 := hid (len_step HL5.out)
  go_upto_region 7 with (first | (go_at_call 68; refine (wlist_num H5.out E5.out HN5.out).mono ?_; rintro en w6 ⟨rfl, h6⟩; have H6 := hid h6; clear h6))
  clear x5
  have x6 := box_cell H6.out 6 v6 rfl
  have x7 := box_cell H6.out 7 v7 rfl
  have x8 := box_cell H6.out 8 v8 rfl
  have x9 := box_cell H6.out 9 v9 rfl
  have HG6 : Hid (((((((l ++ b0) ++ b1) ++ b2) ++ b3) ++ b4) ++ b5).length + ((b6 ++ (b7 ++ (b8 ++ b9))) ++ (b10 ++ (b11 ++ (b12 ++ (b13 ++ b14))))).length ≤ 1000000000000) := hid (by simpa only [List.append_assoc] using HL6.out)
  have HN6 := hid (len_now HG6.out)
  have HL7 := hid (len_step HG6.out)
  go_upto_region 8 with (first | (go_at_call 38; refine (wCatalog_any H6.out E6.out E7.out E8.out E9.out HN6.out).mono ?_; rintro en w7 ⟨rfl, h7⟩; have H7 := hid h7; clear h7))
  clear x6 x7 x8 x9
  have x10 := box_cell H7.out 10 v10 rfl
  have x11 := box_cell H7.out 11 v11 rfl
  have x12 := box_cell H7.out 12 v12 rfl
  have x13 := box_cell H7.out 13 v13 rfl
  have x14 := box_cell H7.out 14 v14 rfl
  go_wp2_with (first | (go_at_call 69; refine (wRoutes_any H7.out E10.out E11.out E12.out E13.out E14.out HL7.out).mono ?_; rintro en w8 ⟨rfl, h8⟩; have H8 := hid h8; clear h8))
  clear x10 x11 x12 x13 x14
  go_end0
  exact ⟨rfl, by simpa only [List.append_assoc] using H8.out.drop⟩

end Go.Proofs.Ytiblambiebojmaa

set_option linter.unusedVariables false
set_option linter.unusedSimpArgs false
set_option maxRecDepth 100000
namespace Go.Proofs.Ytiblambiebojmaa
open Go.RowKit Go.Deep

set_option maxHeartbeats 8000000 in
theorem oRoutes_any {W0 w : World} {KK : List (Nat × Obj)} {a : Nat} {l : List UInt8} {v0 v1 v2 v3 v4 : Value} {b0 b1 b2 b3 b4 : List UInt8} (h : St 73 W0 KK a w l) (e0 : Enc W0 .int [v0] b0) (e1 : Enc W0 .int [v1] b1) (e2 : Enc W0 (.list sOwner) [v2] b2) (e3 : Enc W0 .int [v3] b3) (e4 : Enc W0 .data [v4] b4) (hl : l.length + (b0 ++ (b1 ++ (b2 ++ (b3 ++ b4)))).length ≤ 1000000000000) :
    Calls Try.prog 37 #[.pointer (some ⟨a, 0, none⟩), .agg #[v0, v1, v2, v3, v4]] w (Wrote 73 W0 KK a l (b0 ++ (b1 ++ (b2 ++ (b3 ++ b4))))) := by
  obtain ⟨ao2, n2, cc2, M2, rfl, hL2, rfl⟩ := list_open e2
  have HLst2 := hid hL2
  clear hL2
  have H0 := hid (h.box #[v0, v1, (.slice ao2 n2 cc2), v3, v4] 47)
  have HL0 : Hid (l.length + (b0 ++ (b1 ++ (numL n2 ++ (takeB M2 n2 ++ (b3 ++ b4))))).length ≤ 1000000000000) := hid (by simpa only [List.append_assoc] using hl)
  have E0 := hid e0
  have E1 := hid e1
  have E3 := hid e3
  have E4 := hid e4
  clear h hl e0 e1 e2 e3 e4
  go_enter Try.func37, Try.ntmps37
  go_upto_region 1 with fail
  generalize w.alloc (.cells #[v0, v1, (.slice ao2 n2 cc2), v3, v4] 47) = w0 at *
  obtain ⟨B, hB⟩ : ∃ B, B = w.heap.size := ⟨_, rfl⟩
  rw [← hB] at H0 ⊢
  clear hB
  have x0 := box_cell H0.out 0 v0 rfl
  have HN0 := hid (len_now HL0.out)
  have HL1 := hid (len_step HL0.out)
  go_upto_region 2 with (first | (go_at_call 26; refine (ointE H0.out E0.out HN0.out).mono ?_; rintro en w1 ⟨rfl, h1⟩; have H1 := hid h1; clear h1))
  clear x0
  have x1 := box_cell H1.out 1 v1 rfl
  have HN1 := hid (len_now HL1.out)
  have HL2 := hid (len_step HL1.out)
  go_upto_region 3 with (first | (go_at_call 26; refine (ointE H1.out E1.out HN1.out).mono ?_; rintro en w2 ⟨rfl, h2⟩; have H2 := hid h2; clear h2))
  clear x1
  have x2 := box_cell H2.out 2 (.slice ao2 n2 cc2) rfl
  obtain ⟨hcap, hn6, hn64, hw⟩ := HLst2.out.cap
  have HN2 := hid (len_now HL2.out)
  have HL3 := hid (len_step HL2.out)
  have C0 := hid (onum_any H2.out n2 hn64 HN2.out)
  clear hn64
  go_wp2_with (first | (go_at_call 23; refine C0.out.mono ?_; rintro en w3 ⟨rfl, h3⟩; have H3 := hid h3; clear h3))
  clear hw C0 x2
  have HN3 := hid (len_now HL3.out)
  have HL4 := hid (len_step HL3.out)
  have HL := hid (HN3.out)
  go_loopw [4] (fun i wr => ∃ k, k ≤ n2 ∧ i = .int .i64 (k : Int) ∧ St 73 W0 ((B, .cells #[v0, v1, (.slice ao2 n2 cc2), v3, v4] 47 (0, 0)) :: KK) a wr ((((l ++ b0) ++ b1) ++ numL n2) ++ takeB M2 k)) (fun i _ => n2 - (intOf i).toNat)
  case atStart => exact ⟨0, by omega, rfl, by rw [takeB_zero, List.append_nil]; exact H3.out⟩
  case round =>
    obtain ⟨k, hk, rfl, hst⟩ := hrel
    have HS := hid hst
    clear hst
    by_cases hlt : k < n2
    · obtain ⟨⟨mc, mb⟩, bk, off, hm, rfl, hcell, htk, hle⟩ := HLst2.out.get (by decide) hlt
      simp only at hm hcell htk hle
      have xs := box_cell HS.out 2 _ rfl
      obtain ⟨u0, u1, p0, p1, rfl, rfl, f0, f1⟩ := Owner_cells hm
      have HX := hid hle
      have HT := hid htk
      have hki : (k : Int) < (n2 : Int) := by omega
      have d0 := hcell _ HS.out.below 0 u0 rfl
      rw [show Sh.wid sOwner = 2 from rfl, Nat.add_zero] at d0
      have C := hid (ointE HS.out f0 (by have := HL.out; have := HX.out; simp only [List.length_append] at *; omega))
      go_upto_region 8 with (first | (go_at_call 26; refine C.out.mono ?_; rintro en w2 ⟨rfl, h2⟩; have H2x := hid h2; clear h2))
      clear C
      have xs := box_cell H2x.out 2 _ rfl
      have d1 := hcell _ H2x.out.below 1 u1 rfl
      rw [show Sh.wid sOwner = 2 from rfl] at d1
      have C := hid (obytesE H2x.out f1 (by have := HL.out; have := HX.out; simp only [List.length_append] at *; omega))
      clear htk hle hcell hm
      go_wp2_with (first | (go_at_call 24; refine C.out.mono ?_; rintro en w3 ⟨rfl, h3⟩; have H3x := hid h3; clear h3))
      go_roundw
      case rel => exact ⟨k + 1, by omega, by go_num, by rw [HT.out]; simpa only [List.append_assoc] using H3x.out⟩
      case measure => simp [intOf]; omega
    · obtain rfl : n2 = k := by omega
      have hki : ¬ (n2 : Int) < (n2 : Int) := by omega
      have xs := box_cell HS.out 2 _ rfl
      have H4 := HS
      clear HS hlt hk HL
      go_upto_region 9 with fail
      clear xs hki hcap hn6
      have x3 := box_cell H4.out 3 v3 rfl
      have HN4 := hid (len_now HL4.out)
      have HL5 := hid (len_step HL4.out)
      go_upto_region 10 with (first | (go_at_call 26; refine (ointE H4.out E3.out HN4.out).mono ?_; rintro en w5 ⟨rfl, h5⟩; have H5 := hid h5; clear h5))
      clear x3
      have x4 := box_cell H5.out 4 v4 rfl
      go_wp2_with (first | (go_at_call 24; refine (obytesE H5.out E4.out HL5.out).mono ?_; rintro en w6 ⟨rfl, h6⟩; have H6 := hid h6; clear h6))
      clear x4
      go_end0
      exact ⟨rfl, by simpa only [List.append_assoc] using H6.out.drop⟩

end Go.Proofs.Ytiblambiebojmaa

set_option linter.unusedVariables false
set_option linter.unusedSimpArgs false
set_option maxRecDepth 100000
namespace Go.Proofs.Ytiblambiebojmaa
open Go.RowKit Go.Deep

set_option maxHeartbeats 8000000 in
theorem wtopReply_any {W0 : World} {v0 v1 v2 v3 v4 v5 v6 v7 v8 v9 v10 v11 v12 v13 v14 : Value} {b0 b1 b2 b3 b4 b5 b6 b7 b8 b9 b10 b11 b12 b13 b14 : List UInt8} (e0 : Enc W0 .int [v0] b0) (e1 : Enc W0 .num [v1] b1) (e2 : Enc W0 .int [v2] b2) (e3 : Enc W0 .bool [v3] b3) (e4 : Enc W0 (.list sPair) [v4] b4) (e5 : Enc W0 (.list .num) [v5] b5) (e6 : Enc W0 .int [v6] b6) (e7 : Enc W0 .int [v7] b7) (e8 : Enc W0 (.list sTable) [v8] b8) (e9 : Enc W0 (.list sIndex) [v9] b9) (e10 : Enc W0 .int [v10] b10) (e11 : Enc W0 .int [v11] b11) (e12 : Enc W0 (.list sOwner) [v12] b12) (e13 : Enc W0 .int [v13] b13) (e14 : Enc W0 .data [v14] b14) (hl : (b0 ++ (b1 ++ (b2 ++ (b3 ++ (b4 ++ (b5 ++ (b6 ++ (b7 ++ (b8 ++ (b9 ++ (b10 ++ (b11 ++ (b12 ++ (b13 ++ b14)))))))))))))).length ≤ 1000000000000) :
    Calls Try.prog 13 #[.agg #[v0, v1, v2, v3, v4, v5, v6, v7, v8, v9, v10, v11, v12, v13, v14]] W0 (Gives 5 W0 (b0 ++ (b1 ++ (b2 ++ (b3 ++ (b4 ++ (b5 ++ (b6 ++ (b7 ++ (b8 ++ (b9 ++ (b10 ++ (b11 ++ (b12 ++ (b13 ++ b14))))))))))))))) := by
  have H0 := hid (St.begin W0 #[v0, v1, v2, v3, v4, v5, v6, v7, v8, v9, v10, v11, v12, v13, v14] 49 69)
  have C := fun (w0 : World) (a B : Nat) (h : St 69 W0 [(B, .cells #[v0, v1, v2, v3, v4, v5, v6, v7, v8, v9, v10, v11, v12, v13, v14] 49 (0, 0))] a w0 []) => wReply_any h e0 e1 e2 e3 e4 e5 e6 e7 e8 e9 e10 e11 e12 e13 e14 (by rw [List.length_nil, Nat.zero_add]; exact hl)
  have CH := hid C
  clear C hl e0 e1 e2 e3 e4 e5 e6 e7 e8 e9 e10 e11 e12 e13 e14
  go_enter Try.func13, Try.ntmps13
  go_upto_region 2 with fail
  generalize (W0.alloc (.cells #[v0, v1, v2, v3, v4, v5, v6, v7, v8, v9, v10, v11, v12, v13, v14] 49)).alloc (.cells #[.slice none 0 0] 69) = w0 at *
  obtain ⟨B, hB⟩ : ∃ B, B = W0.heap.size := ⟨_, rfl⟩
  obtain ⟨a, ha⟩ : ∃ a, a = W0.heap.size + 1 := ⟨_, rfl⟩
  rw [← ha, ← hB] at H0
  try rw [← ha]
  try rw [← hB]
  clear hB ha
  have CC := hid (CH.out _ _ _ H0.out)
  have LD := cells_load (box_cell H0.out) Try.underlying49 rfl (by kernel_rfl)
  have HLD := hid LD
  clear LD
  apply wp_region_lit
  refine Great.wpList_readTo rfl (some 4) rfl (.agg #[v0, v1, v2, v3, v4, v5, v6, v7, v8, v9, v10, v11, v12, v13, v14]) (exec_load rfl HLD.out) ?_
  simp only [Act.put, List.getElem_toArray, List.getElem_cons_succ, List.getElem_cons_zero, List.setIfInBounds_toArray, List.set_cons_succ, List.set_cons_zero]
  go_upto_region 3 with (first | (go_at_call 35; refine CC.out.mono ?_; rintro en w1 ⟨rfl, h1⟩; have H1 := hid h1; clear h1))
  obtain ⟨cx, hx, hg⟩ := St.ends (show St 69 W0 _ a _ (b0 ++ (b1 ++ (b2 ++ (b3 ++ (b4 ++ (b5 ++ (b6 ++ (b7 ++ (b8 ++ (b9 ++ (b10 ++ (b11 ++ (b12 ++ (b13 ++ b14)))))))))))))) from H1.out)
  obtain ⟨z0, z1⟩ := one_cell hx
  have HG := hid hg
  clear hx hg 
  go_wp2_with fail
  go_ret
  exact HG.out

set_option maxHeartbeats 8000000 in
theorem rtopReply_any {W0 : World} {v0 v1 v2 v3 v4 v5 v6 v7 v8 v9 v10 v11 v12 v13 v14 : Value} {b0 b1 b2 b3 b4 b5 b6 b7 b8 b9 b10 b11 b12 b13 b14 : List UInt8} (e0 : Enc W0 .int [v0] b0) (e1 : Enc W0 .num [v1] b1) (e2 : Enc W0 .int [v2] b2) (e3 : Enc W0 .bool [v3] b3) (e4 : Enc W0 (.list sPair) [v4] b4) (e5 : Enc W0 (.list .num) [v5] b5) (e6 : Enc W0 .int [v6] b6) (e7 : Enc W0 .int [v7] b7) (e8 : Enc W0 (.list sTable) [v8] b8) (e9 : Enc W0 (.list sIndex) [v9] b9) (e10 : Enc W0 .int [v10] b10) (e11 : Enc W0 .int [v11] b11) (e12 : Enc W0 (.list sOwner) [v12] b12) (e13 : Enc W0 .int [v13] b13) (e14 : Enc W0 .data [v14] b14) (hl : (b0 ++ (b1 ++ (b2 ++ (b3 ++ (b4 ++ (b5 ++ (b6 ++ (b7 ++ (b8 ++ (b9 ++ (b10 ++ (b11 ++ (b12 ++ (b13 ++ b14)))))))))))))).length ≤ 1000000000000) :
    Calls Try.prog 14 #[.agg #[v0, v1, v2, v3, v4, v5, v6, v7, v8, v9, v10, v11, v12, v13, v14]] W0 (Gives 5 W0 (b0 ++ (b1 ++ (b2 ++ (b3 ++ (b4 ++ (b5 ++ (b6 ++ (b7 ++ (b8 ++ (b9 ++ (b10 ++ (b11 ++ (b12 ++ (b13 ++ b14))))))))))))))) := by
  obtain ⟨ao4, n4, cc4, M4, rfl, hL4, rfl⟩ := list_open e4
  have HLst4 := hid hL4
  clear hL4
  obtain ⟨ao5, n5, cc5, M5, rfl, hL5, rfl⟩ := list_open e5
  have HLst5 := hid hL5
  clear hL5
  have H0 := hid (St.begin W0 #[v0, v1, v2, v3, (.slice ao4 n4 cc4), (.slice ao5 n5 cc5), v6, v7, v8, v9, v10, v11, v12, v13, v14] 49 73)
  have HL0 : Hid (([] : List UInt8).length + (b0 ++ (b1 ++ (b2 ++ (b3 ++ (numL n4 ++ (takeB M4 n4 ++ (numL n5 ++ (takeB M5 n5 ++ (b6 ++ (b7 ++ (b8 ++ (b9 ++ (b10 ++ (b11 ++ (b12 ++ (b13 ++ b14)))))))))))))))).length ≤ 1000000000000) := hid (by rw [List.length_nil, Nat.zero_add]; simpa only [List.append_assoc] using hl)
  have E0 := hid e0
  have E1 := hid e1
  have E2 := hid e2
  have E3 := hid e3
  have E6 := hid e6
  have E7 := hid e7
  have E8 := hid e8
  have E9 := hid e9
  have E10 := hid e10
  have E11 := hid e11
  have E12 := hid e12
  have E13 := hid e13
  have E14 := hid e14
  clear hl e0 e1 e2 e3 e4 e5 e6 e7 e8 e9 e10 e11 e12 e13 e14
  go_enter Try.func14, Try.ntmps14
  go_upto_region 2 with fail
  generalize (W0.alloc (.cells #[v0, v1, v2, v3, (.slice ao4 n4 cc4), (.slice ao5 n5 cc5), v6, v7, v8, v9, v10, v11, v12, v13, v14] 49)).alloc (.cells #[.slice none 0 0] 73) = w0 at *
  obtain ⟨B, hB⟩ : ∃ B, B = W0.heap.size := ⟨_, rfl⟩
  obtain ⟨a, ha⟩ : ∃ a, a = W0.heap.size + 1 := ⟨_, rfl⟩
  rw [← ha, ← hB] at H0
  try rw [← ha]
  try rw [← hB]
  clear hB ha
  have x0 := box_cell H0.out 0 v0 rfl
  have HN0 := hid (len_now HL0.out)
  have HL1 := hid (len_step HL0.out)
  go_upto_region 3 with (first | (go_at_call 26; refine (ointE H0.out E0.out HN0.out).mono ?_; rintro en w1 ⟨rfl, h1⟩; have H1 := hid h1; clear h1))
  clear x0
  have x1 := box_cell H1.out 1 v1 rfl
  have HN1 := hid (len_now HL1.out)
  have HL2 := hid (len_step HL1.out)
  go_upto_region 4 with (first | (go_at_call 23; refine (onumE H1.out E1.out HN1.out).mono ?_; rintro en w2 ⟨rfl, h2⟩; have H2 := hid h2; clear h2))
  clear x1
  have x2 := box_cell H2.out 2 v2 rfl
  have HN2 := hid (len_now HL2.out)
  have HL3 := hid (len_step HL2.out)
  go_upto_region 5 with (first | (go_at_call 26; refine (ointE H2.out E2.out HN2.out).mono ?_; rintro en w3 ⟨rfl, h3⟩; have H3 := hid h3; clear h3))
  clear x2
  have x3 := box_cell H3.out 3 v3 rfl
  have HN3 := hid (len_now HL3.out)
  have HL4 := hid (len_step HL3.out)
  go_upto_region 6 with (first | (go_at_call 27; refine (oboolE H3.out E3.out HN3.out).mono ?_; rintro en w4 ⟨rfl, h4⟩; have H4 := hid h4; clear h4))
  clear x3
  have x4 := box_cell H4.out 4 (.slice ao4 n4 cc4) rfl
  obtain ⟨hcap, hn6, hn64, hw⟩ := HLst4.out.cap
  have HN4 := hid (len_now HL4.out)
  have HL5 := hid (len_step HL4.out)
  have C0 := hid (onum_any H4.out n4 hn64 HN4.out)
  clear hn64
  go_wp2_with (first | (go_at_call 23; refine C0.out.mono ?_; rintro en w5 ⟨rfl, h5⟩; have H5 := hid h5; clear h5))
  clear hw C0 x4
  have HN5 := hid (len_now HL5.out)
  have HL6 := hid (len_step HL5.out)
  have HL := hid (HN5.out)
  go_loopw [4] (fun i wr => ∃ k, k ≤ n4 ∧ i = .int .i64 (k : Int) ∧ St 73 W0 [(B, .cells #[v0, v1, v2, v3, (.slice ao4 n4 cc4), (.slice ao5 n5 cc5), v6, v7, v8, v9, v10, v11, v12, v13, v14] 49 (0, 0))] a wr ((((((([] : List UInt8) ++ b0) ++ b1) ++ b2) ++ b3) ++ numL n4) ++ takeB M4 k)) (fun i _ => n4 - (intOf i).toNat)
  case atStart => exact ⟨0, by omega, rfl, by rw [takeB_zero, List.append_nil]; exact H5.out⟩
  case round =>
    obtain ⟨k, hk, rfl, hst⟩ := hrel
    have HS := hid hst
    clear hst
    by_cases hlt : k < n4
    · obtain ⟨⟨mc, mb⟩, bk, off, hm, rfl, hcell, htk, hle⟩ := HLst4.out.get (by decide) hlt
      simp only at hm hcell htk hle
      have xs := box_cell HS.out 4 _ rfl
      obtain ⟨u0, u1, u2, p0, p1, p2, rfl, rfl, f0, f1, f2⟩ := Pair_cells hm
      have HX := hid hle
      have HT := hid htk
      have hki : (k : Int) < (n4 : Int) := by omega
      have d0 := hcell _ HS.out.below 0 u0 rfl
      rw [show Sh.wid sPair = 3 from rfl, Nat.add_zero] at d0
      have d1 := hcell _ HS.out.below 1 u1 rfl
      rw [show Sh.wid sPair = 3 from rfl] at d1
      have d2 := hcell _ HS.out.below 2 u2 rfl
      rw [show Sh.wid sPair = 3 from rfl] at d2
      have C := hid (oPair_any HS.out f0 f1 f2 (by have := HL.out; have := HX.out; simp only [List.length_append] at *; omega))
      clear htk hle hcell hm
      go_wp2_with (first | (go_at_call 29; refine C.out.mono ?_; rintro en w2 ⟨rfl, h2⟩; have H2x := hid h2; clear h2))
      go_roundw
      case rel => exact ⟨k + 1, by omega, by go_num, by rw [HT.out, ← List.append_assoc]; exact H2x.out⟩
      case measure => simp [intOf]; omega
    · obtain rfl : n4 = k := by omega
      have hki : ¬ (n4 : Int) < (n4 : Int) := by omega
      have xs := box_cell HS.out 4 _ rfl
      have H6 := HS
      clear HS hlt hk HL
      go_upto_region 11 with fail
      clear xs hki hcap hn6
      have x5 := box_cell H6.out 5 (.slice ao5 n5 cc5) rfl
      obtain ⟨hcap, hn6, hn64, hw⟩ := HLst5.out.cap
      have HN6 := hid (len_now HL6.out)
      have HL7 := hid (len_step HL6.out)
      have C0 := hid (onum_any H6.out n5 hn64 HN6.out)
      clear hn64
      go_wp2_with (first | (go_at_call 23; refine C0.out.mono ?_; rintro en w7 ⟨rfl, h7⟩; have H7 := hid h7; clear h7))
      clear hw C0 x5
      have HN7 := hid (len_now HL7.out)
      have HL8 := hid (len_step HL7.out)
      have HL := hid (HN7.out)
      go_loopw [5] (fun i wr => ∃ k, k ≤ n5 ∧ i = .int .i64 (k : Int) ∧ St 73 W0 [(B, .cells #[v0, v1, v2, v3, (.slice ao4 n4 cc4), (.slice ao5 n5 cc5), v6, v7, v8, v9, v10, v11, v12, v13, v14] 49 (0, 0))] a wr ((((((((([] : List UInt8) ++ b0) ++ b1) ++ b2) ++ b3) ++ numL n4) ++ takeB M4 n4) ++ numL n5) ++ takeB M5 k)) (fun i _ => n5 - (intOf i).toNat)
      case atStart => exact ⟨0, by omega, rfl, by rw [takeB_zero, List.append_nil]; exact H7.out⟩
      case round =>
        obtain ⟨k, hk, rfl, hst⟩ := hrel
        have HS := hid hst
        clear hst
        by_cases hlt : k < n5
        · obtain ⟨⟨mc, mb⟩, bk, off, hm, rfl, hcell, htk, hle⟩ := HLst5.out.get (by decide) hlt
          simp only at hm hcell htk hle
          have xs := box_cell HS.out 5 _ rfl
          obtain ⟨u0, rfl⟩ := one_of hm rfl
          have f0 := hm
          have HX := hid hle
          have HT := hid htk
          have hki : (k : Int) < (n5 : Int) := by omega
          have d0 := hcell _ HS.out.below 0 u0 rfl
          rw [show Sh.wid .num = 1 from rfl, Nat.mul_one, Nat.add_zero] at d0
          have C := hid (onumE HS.out f0 (by have := HL.out; have := HX.out; simp only [List.length_append] at *; omega))
          clear htk hle hcell hm
          go_wp2_with (first | (go_at_call 23; refine C.out.mono ?_; rintro en w2 ⟨rfl, h2⟩; have H2x := hid h2; clear h2))
          go_roundw
          case rel => exact ⟨k + 1, by omega, by go_num, by rw [HT.out, ← List.append_assoc]; exact H2x.out⟩
          case measure => simp [intOf]; omega
        · obtain rfl : n5 = k := by omega
          have hki : ¬ (n5 : Int) < (n5 : Int) := by omega
          have xs := box_cell HS.out 5 _ rfl
          have H8 := HS
          clear HS hlt hk HL
          go_upto_region 16 with fail
          clear xs hki hcap hn6
          have x6 := box_cell H8.out 6 v6 rfl
          have x7 := box_cell H8.out 7 v7 rfl
          have x8 := box_cell H8.out 8 v8 rfl
          have x9 := box_cell H8.out 9 v9 rfl
          have HG8 : Hid (((((((((([] : List UInt8) ++ b0) ++ b1) ++ b2) ++ b3) ++ numL n4) ++ takeB M4 n4) ++ numL n5) ++ takeB M5 n5).length + ((b6 ++ (b7 ++ (b8 ++ b9))) ++ (b10 ++ (b11 ++ (b12 ++ (b13 ++ b14))))).length ≤ 1000000000000) := hid (by simpa only [List.append_assoc] using HL8.out)
          have HN8 := hid (len_now HG8.out)
          have HL9 := hid (len_step HG8.out)
          go_upto_region 17 with (first | (go_at_call 36; refine (oCatalog_any H8.out E6.out E7.out E8.out E9.out HN8.out).mono ?_; rintro en w9 ⟨rfl, h9⟩; have H9 := hid h9; clear h9))
          clear x6 x7 x8 x9
          have x10 := box_cell H9.out 10 v10 rfl
          have x11 := box_cell H9.out 11 v11 rfl
          have x12 := box_cell H9.out 12 v12 rfl
          have x13 := box_cell H9.out 13 v13 rfl
          have x14 := box_cell H9.out 14 v14 rfl
          go_upto_region 18 with (first | (go_at_call 37; refine (oRoutes_any H9.out E10.out E11.out E12.out E13.out E14.out HL9.out).mono ?_; rintro en w10 ⟨rfl, h10⟩; have H10 := hid h10; clear h10))
          clear x10 x11 x12 x13 x14
          obtain ⟨cx, hx, hg⟩ := St.ends (show St 73 W0 _ a _ (b0 ++ (b1 ++ (b2 ++ (b3 ++ ((numL n4 ++ takeB M4 n4) ++ ((numL n5 ++ takeB M5 n5) ++ (b6 ++ (b7 ++ (b8 ++ (b9 ++ (b10 ++ (b11 ++ (b12 ++ (b13 ++ b14)))))))))))))) by simpa only [List.append_assoc, List.nil_append] using H10.out)
          obtain ⟨z0, z1⟩ := one_cell hx
          have HG := hid hg
          clear hx hg
          go_wp2_with fail
          go_ret
          exact HG.out

end Go.Proofs.Ytiblambiebojmaa

