import Derived.WalkKit
import Derived.OpenShut
import Derived.Test.YtiblambiebojmaaRows
import Derived.WalkSpells
import Derived.WalkLawsBesides
import Derived.Laws.AppendOwnNone
import Derived.ProofKit
import Derived.ShutString
import Derived.ChangeOld
import Derived.Below
import Derived.SizedLaws
import Derived.Deep.Slices
import Derived.Deep.AppendLies
import Derived.Deep.Strs
import Derived.Deep.RegionHeld3
import Derived.Lib.ConvBytes
import Derived.Laws.AppendOwn
import Derived.Deep.CutRange
import Derived.Lib.SlBytesConst
import Derived.Test.YtiblambiebojmaaWG1
import Derived.Test.YtiblambiebojmaaWG2
import Derived.Test.YtiblambiebojmaaWG3
import Derived.Test.YtiblambiebojmaaWG4
import Derived.Test.YtiblambiebojmaaWG5
set_option linter.unusedVariables false
set_option linter.unusedSimpArgs false
set_option linter.unusedVariables false
set_option linter.unusedSimpArgs false
set_option maxRecDepth 100000
namespace Go.Proofs.Ytiblambiebojmaa
open Go.RowKit Go.Deep

set_option maxHeartbeats 4000000 in
theorem ovalues_any {W0 w : World} {KK : List (Nat × Obj)} {a : Nat} {l : List UInt8} {v : Value} {b : List UInt8} (h : St 73 W0 KK a w l) (e : Enc W0 (.list sValue) [v] b) (hl : l.length + b.length ≤ 1000000000000) :
    Calls Try.prog 74 #[.pointer (some ⟨a, 0, none⟩), v] w (Wrote 73 W0 KK a l b) := by
  obtain ⟨ao, n, c, M, rfl, hL, rfl⟩ := list_open e
  obtain ⟨hcap, hn6, hn64, hw⟩ := hL.cap
  have HLst := hid hL
  have HL := hid hl
  have C0 := hid (onum_any h n hn64 (by have := HL.out; simp only [List.length_append] at this ⊢; omega))
  clear h e hl hL hn64
  go_enter Try.func74, Try.ntmps74
  go_wp2_with (first | (go_at_call 23; refine C0.out.mono ?_; rintro en w1 ⟨rfl, h1⟩; have H1 := hid h1; clear h1))
  clear hw C0
  go_loopw [4] (fun i wr => ∃ k, k ≤ n ∧ i = .int .i64 (k : Int) ∧ St 73 W0 KK a wr ((l ++ numL n) ++ takeB M k)) (fun i _ => n - (intOf i).toNat)
  case atStart => exact ⟨0, by omega, rfl, by rw [takeB_zero, List.append_nil]; exact H1.out⟩
  case round =>
    obtain ⟨k, hk, rfl, hst⟩ := hrel
    have HS := hid hst
    clear hst
    by_cases hlt : k < n
    · obtain ⟨⟨mc, mb⟩, bk, off, hm, rfl, hcell, htk, hle⟩ := HLst.out.get (by decide) hlt
      simp only at hm hcell htk hle
      obtain ⟨u0, u1, u2, p0, p1, p2, rfl, rfl, f0, f1, f2⟩ := Value_cells hm
      have HX := hid hle
      have HT := hid htk
      have hki : (k : Int) < (n : Int) := by omega
      have d0 := hcell _ HS.out.below 0 u0 rfl
      rw [show Sh.wid sValue = 3 from rfl, Nat.add_zero] at d0
      have d1 := hcell _ HS.out.below 1 u1 rfl
      rw [show Sh.wid sValue = 3 from rfl] at d1
      have d2 := hcell _ HS.out.below 2 u2 rfl
      rw [show Sh.wid sValue = 3 from rfl] at d2
      have C := hid (oValue_any HS.out f0 f1 f2 (by have := HL.out; have := HX.out; simp only [List.length_append] at *; omega))
      clear htk hle hcell hm
      go_wp2_with (first | (go_at_call 75; refine C.out.mono ?_; rintro en w2 ⟨rfl, h2⟩; have H2x := hid h2; clear h2))
      go_roundw
      case rel => exact ⟨k + 1, by omega, by go_num, by rw [HT.out, ← List.append_assoc]; exact H2x.out⟩
      case measure => simp [intOf]; omega
    · obtain rfl : n = k := by omega
      have hki : ¬ (n : Int) < (n : Int) := by omega
      go_wp2_with fail
      go_end0
      exact ⟨rfl, by rw [← List.append_assoc]; exact HS.out⟩

set_option maxHeartbeats 8000000 in
theorem oOp_any {W0 w : World} {KK : List (Nat × Obj)} {a : Nat} {l : List UInt8} {v0 v1 v2 v3 v4 v5 v6 v7 v8 v9 v10 : Value} {b0 b1 b2 b3 b4 b5 b6 b7 b8 b9 b10 : List UInt8} (h : St 73 W0 KK a w l) (e0 : Enc W0 .int [v0] b0) (e1 : Enc W0 .name [v1] b1) (e2 : Enc W0 .name [v2] b2) (e3 : Enc W0 (.list sValue) [v3] b3) (e4 : Enc W0 (.list sValue) [v4] b4) (e5 : Enc W0 (.list sSet) [v5] b5) (e6 : Enc W0 (.list sValue) [v6] b6) (e7 : Enc W0 (.list sValue) [v7] b7) (e8 : Enc W0 .int [v8] b8) (e9 : Enc W0 .bool [v9] b9) (e10 : Enc W0 (.list .data) [v10] b10) (hl : l.length + (b0 ++ (b1 ++ (b2 ++ (b3 ++ (b4 ++ (b5 ++ (b6 ++ (b7 ++ (b8 ++ (b9 ++ b10)))))))))).length ≤ 1000000000000) :
    Calls Try.prog 40 #[.pointer (some ⟨a, 0, none⟩), .agg #[v0, v1, v2, v3, v4, v5, v6, v7, v8, v9, v10]] w (Wrote 73 W0 KK a l (b0 ++ (b1 ++ (b2 ++ (b3 ++ (b4 ++ (b5 ++ (b6 ++ (b7 ++ (b8 ++ (b9 ++ b10))))))))))) := by
  obtain ⟨ao5, n5, cc5, M5, rfl, hL5, rfl⟩ := list_open e5
  have HLst5 := hid hL5
  clear hL5
  obtain ⟨ao10, n10, cc10, M10, rfl, hL10, rfl⟩ := list_open e10
  have HLst10 := hid hL10
  clear hL10
  have H0 := hid (h.box #[v0, v1, v2, v3, v4, (.slice ao5 n5 cc5), v6, v7, v8, v9, (.slice ao10 n10 cc10)] 101)
  have HL0 : Hid (l.length + (b0 ++ (b1 ++ (b2 ++ (b3 ++ (b4 ++ (numL n5 ++ (takeB M5 n5 ++ (b6 ++ (b7 ++ (b8 ++ (b9 ++ (numL n10 ++ takeB M10 n10)))))))))))).length ≤ 1000000000000) := hid (by simpa only [List.append_assoc] using hl)
  have E0 := hid e0
  have E1 := hid e1
  have E2 := hid e2
  have E3 := hid e3
  have E4 := hid e4
  have E6 := hid e6
  have E7 := hid e7
  have E8 := hid e8
  have E9 := hid e9
  clear h hl e0 e1 e2 e3 e4 e5 e6 e7 e8 e9 e10
  go_enter Try.func40, Try.ntmps40
  go_upto_region 1 with fail
  generalize w.alloc (.cells #[v0, v1, v2, v3, v4, (.slice ao5 n5 cc5), v6, v7, v8, v9, (.slice ao10 n10 cc10)] 101) = w0 at *
  obtain ⟨B, hB⟩ : ∃ B, B = w.heap.size := ⟨_, rfl⟩
  rw [← hB] at H0 ⊢
  clear hB
  have x0 := box_cell H0.out 0 v0 rfl
  have HN0 := hid (len_now HL0.out)
  have HL1 := hid (len_step HL0.out)
  go_upto_region 2 with (first | (go_at_call 26; refine (ointE H0.out E0.out HN0.out).mono ?_; rintro en w1 ⟨rfl, h1⟩; have H1 := hid h1; clear h1))
  clear x0
  have x1 := box_cell H1.out 1 v1 rfl
  have HN1 := hid (len_now HL1.out)
  have HL2 := hid (len_step HL1.out)
  go_upto_region 3 with (first | (go_at_call 34; refine (otextE H1.out E1.out HN1.out).mono ?_; rintro en w2 ⟨rfl, h2⟩; have H2 := hid h2; clear h2))
  clear x1
  have x2 := box_cell H2.out 2 v2 rfl
  have HN2 := hid (len_now HL2.out)
  have HL3 := hid (len_step HL2.out)
  go_upto_region 4 with (first | (go_at_call 34; refine (otextE H2.out E2.out HN2.out).mono ?_; rintro en w3 ⟨rfl, h3⟩; have H3 := hid h3; clear h3))
  clear x2
  have x3 := box_cell H3.out 3 v3 rfl
  have HN3 := hid (len_now HL3.out)
  have HL4 := hid (len_step HL3.out)
  go_upto_region 5 with (first | (go_at_call 74; refine (ovalues_any H3.out E3.out HN3.out).mono ?_; rintro en w4 ⟨rfl, h4⟩; have H4 := hid h4; clear h4))
  clear x3
  have x4 := box_cell H4.out 4 v4 rfl
  have HN4 := hid (len_now HL4.out)
  have HL5 := hid (len_step HL4.out)
  go_upto_region 6 with (first | (go_at_call 74; refine (ovalues_any H4.out E4.out HN4.out).mono ?_; rintro en w5 ⟨rfl, h5⟩; have H5 := hid h5; clear h5))
  clear x4
  have x5 := box_cell H5.out 5 (.slice ao5 n5 cc5) rfl
  obtain ⟨hcap, hn6, hn64, hw⟩ := HLst5.out.cap
  have HN5 := hid (len_now HL5.out)
  have HL6 := hid (len_step HL5.out)
  have C0 := hid (onum_any H5.out n5 hn64 HN5.out)
  clear hn64
  go_wp2_with (first | (go_at_call 23; refine C0.out.mono ?_; rintro en w6 ⟨rfl, h6⟩; have H6 := hid h6; clear h6))
  clear hw C0 x5
  have HN6 := hid (len_now HL6.out)
  have HL7 := hid (len_step HL6.out)
  have HL := hid (HN6.out)
  go_loopw [4] (fun i wr => ∃ k, k ≤ n5 ∧ i = .int .i64 (k : Int) ∧ St 73 W0 ((B, .cells #[v0, v1, v2, v3, v4, (.slice ao5 n5 cc5), v6, v7, v8, v9, (.slice ao10 n10 cc10)] 101 (0, 0)) :: KK) a wr (((((((l ++ b0) ++ b1) ++ b2) ++ b3) ++ b4) ++ numL n5) ++ takeB M5 k)) (fun i _ => n5 - (intOf i).toNat)
  case atStart => exact ⟨0, by omega, rfl, by rw [takeB_zero, List.append_nil]; exact H6.out⟩
  case round =>
    obtain ⟨k, hk, rfl, hst⟩ := hrel
    have HS := hid hst
    clear hst
    by_cases hlt : k < n5
    · obtain ⟨⟨mc, mb⟩, bk, off, hm, rfl, hcell, htk, hle⟩ := HLst5.out.get (by decide) hlt
      simp only at hm hcell htk hle
      have xs := box_cell HS.out 5 _ rfl
      obtain ⟨u0, u1, u2, u3, p0, p1, p2, p3, rfl, rfl, f0, f1, f2, f3⟩ := Set_cells hm
      have HX := hid hle
      have HT := hid htk
      have hki : (k : Int) < (n5 : Int) := by omega
      have d0 := hcell _ HS.out.below 0 u0 rfl
      rw [show Sh.wid sSet = 4 from rfl, Nat.add_zero] at d0
      have C := hid (ointE HS.out f0 (by have := HL.out; have := HX.out; simp only [List.length_append] at *; omega))
      go_upto_region 11 with (first | (go_at_call 26; refine C.out.mono ?_; rintro en w2 ⟨rfl, h2⟩; have H2x := hid h2; clear h2))
      clear C
      have xs := box_cell H2x.out 5 _ rfl
      have d1 := hcell _ H2x.out.below 1 u1 rfl
      rw [show Sh.wid sSet = 4 from rfl] at d1
      have d2 := hcell _ H2x.out.below 2 u2 rfl
      rw [show Sh.wid sSet = 4 from rfl] at d2
      have d3 := hcell _ H2x.out.below 3 u3 rfl
      rw [show Sh.wid sSet = 4 from rfl] at d3
      have C := hid (oValue_any H2x.out f1 f2 f3 (by have := HL.out; have := HX.out; simp only [List.length_append] at *; omega))
      clear htk hle hcell hm
      go_wp2_with (first | (go_at_call 75; refine C.out.mono ?_; rintro en w3 ⟨rfl, h3⟩; have H3x := hid h3; clear h3))
      go_roundw
      case rel => exact ⟨k + 1, by omega, by go_num, by rw [HT.out]; simpa only [List.append_assoc] using H3x.out⟩
      case measure => simp [intOf]; omega
    · obtain rfl : n5 = k := by omega
      have hki : ¬ (n5 : Int) < (n5 : Int) := by omega
      have xs := box_cell HS.out 5 _ rfl
      have H7 := HS
      clear HS hlt hk HL
      go_upto_region 12 with fail
      clear xs hki hcap hn6
      have x6 := box_cell H7.out 6 v6 rfl
      have HN7 := hid (len_now HL7.out)
      have HL8 := hid (len_step HL7.out)
      go_upto_region 13 with (first | (go_at_call 74; refine (ovalues_any H7.out E6.out HN7.out).mono ?_; rintro en w8 ⟨rfl, h8⟩; have H8 := hid h8; clear h8))
      clear x6
      have x7 := box_cell H8.out 7 v7 rfl
      have HN8 := hid (len_now HL8.out)
      have HL9 := hid (len_step HL8.out)
      go_upto_region 14 with (first | (go_at_call 74; refine (ovalues_any H8.out E7.out HN8.out).mono ?_; rintro en w9 ⟨rfl, h9⟩; have H9 := hid h9; clear h9))
      clear x7
      have x8 := box_cell H9.out 8 v8 rfl
      have HN9 := hid (len_now HL9.out)
      have HL10 := hid (len_step HL9.out)
      go_upto_region 15 with (first | (go_at_call 26; refine (ointE H9.out E8.out HN9.out).mono ?_; rintro en w10 ⟨rfl, h10⟩; have H10 := hid h10; clear h10))
      clear x8
      have x9 := box_cell H10.out 9 v9 rfl
      have HN10 := hid (len_now HL10.out)
      have HL11 := hid (len_step HL10.out)
      go_upto_region 16 with (first | (go_at_call 27; refine (oboolE H10.out E9.out HN10.out).mono ?_; rintro en w11 ⟨rfl, h11⟩; have H11 := hid h11; clear h11))
      clear x9
      have x10 := box_cell H11.out 10 (.slice ao10 n10 cc10) rfl
      obtain ⟨hcap, hn6, hn64, hw⟩ := HLst10.out.cap
      have HN11 := hid (len_now HL11.out)
      have HL12 := hid (len_step HL11.out)
      have C0 := hid (onum_any H11.out n10 hn64 HN11.out)
      clear hn64
      go_wp2_with (first | (go_at_call 23; refine C0.out.mono ?_; rintro en w12 ⟨rfl, h12⟩; have H12 := hid h12; clear h12))
      clear hw C0 x10
      have HL := hid (HL12.out)
      go_loopw [5] (fun i wr => ∃ k, k ≤ n10 ∧ i = .int .i64 (k : Int) ∧ St 73 W0 ((B, .cells #[v0, v1, v2, v3, v4, (.slice ao5 n5 cc5), v6, v7, v8, v9, (.slice ao10 n10 cc10)] 101 (0, 0)) :: KK) a wr (((((((((((((l ++ b0) ++ b1) ++ b2) ++ b3) ++ b4) ++ numL n5) ++ takeB M5 n5) ++ b6) ++ b7) ++ b8) ++ b9) ++ numL n10) ++ takeB M10 k)) (fun i _ => n10 - (intOf i).toNat)
      case atStart => exact ⟨0, by omega, rfl, by rw [takeB_zero, List.append_nil]; exact H12.out⟩
      case round =>
        obtain ⟨k, hk, rfl, hst⟩ := hrel
        have HS := hid hst
        clear hst
        by_cases hlt : k < n10
        · obtain ⟨⟨mc, mb⟩, bk, off, hm, rfl, hcell, htk, hle⟩ := HLst10.out.get (by decide) hlt
          simp only at hm hcell htk hle
          have xs := box_cell HS.out 10 _ rfl
          obtain ⟨u0, rfl⟩ := one_of hm rfl
          have f0 := hm
          have HX := hid hle
          have HT := hid htk
          have hki : (k : Int) < (n10 : Int) := by omega
          have d0 := hcell _ HS.out.below 0 u0 rfl
          rw [show Sh.wid .data = 1 from rfl, Nat.mul_one, Nat.add_zero] at d0
          have C := hid (obytesE HS.out f0 (by have := HL.out; have := HX.out; simp only [List.length_append] at *; omega))
          clear htk hle hcell hm
          go_wp2_with (first | (go_at_call 24; refine C.out.mono ?_; rintro en w2 ⟨rfl, h2⟩; have H2x := hid h2; clear h2))
          go_roundw
          case rel => exact ⟨k + 1, by omega, by go_num, by rw [HT.out, ← List.append_assoc]; exact H2x.out⟩
          case measure => simp [intOf]; omega
        · obtain rfl : n10 = k := by omega
          have hki : ¬ (n10 : Int) < (n10 : Int) := by omega
          have xs := box_cell HS.out 10 _ rfl
          have H13 := HS
          clear HS hlt hk HL
          go_wp2_with fail
          go_end0
          exact ⟨rfl, by simpa only [List.append_assoc] using H13.out.drop⟩

end Go.Proofs.Ytiblambiebojmaa

set_option linter.unusedVariables false
set_option linter.unusedSimpArgs false
set_option maxRecDepth 100000
namespace Go.Proofs.Ytiblambiebojmaa
open Go.RowKit Go.Deep

set_option maxHeartbeats 8000000 in
theorem wtopAsk_any {W0 : World} {v0 v1 v2 v3 v4 v5 v6 v7 v8 v9 v10 v11 v12 v13 v14 v15 : Value} {b0 b1 b2 b3 b4 b5 b6 b7 b8 b9 b10 b11 b12 b13 b14 b15 : List UInt8} (e0 : Enc W0 .int [v0] b0) (e1 : Enc W0 (.list sOp) [v1] b1) (e2 : Enc W0 .int [v2] b2) (e3 : Enc W0 .name [v3] b3) (e4 : Enc W0 (.list sColumn) [v4] b4) (e5 : Enc W0 (.list .int) [v5] b5) (e6 : Enc W0 .int [v6] b6) (e7 : Enc W0 .int [v7] b7) (e8 : Enc W0 .name [v8] b8) (e9 : Enc W0 (.list .int) [v9] b9) (e10 : Enc W0 .bool [v10] b10) (e11 : Enc W0 .int [v11] b11) (e12 : Enc W0 .bool [v12] b12) (e13 : Enc W0 .name [v13] b13) (e14 : Enc W0 .int [v14] b14) (e15 : Enc W0 .data [v15] b15) (hl : (b0 ++ (b1 ++ (b2 ++ (b3 ++ (b4 ++ (b5 ++ (b6 ++ (b7 ++ (b8 ++ (b9 ++ (b10 ++ (b11 ++ (b12 ++ (b13 ++ (b14 ++ b15))))))))))))))).length ≤ 1000000000000) :
    Calls Try.prog 17 #[.agg #[v0, v1, v2, v3, v4, v5, v6, v7, v8, v9, v10, v11, v12, v13, v14, v15]] W0 (Gives 5 W0 (b0 ++ (b1 ++ (b2 ++ (b3 ++ (b4 ++ (b5 ++ (b6 ++ (b7 ++ (b8 ++ (b9 ++ (b10 ++ (b11 ++ (b12 ++ (b13 ++ (b14 ++ b15)))))))))))))))) := by
  have H0 := hid (St.begin W0 #[v0, v1, v2, v3, v4, v5, v6, v7, v8, v9, v10, v11, v12, v13, v14, v15] 59 69)
  have C := fun (w0 : World) (a B : Nat) (h : St 69 W0 [(B, .cells #[v0, v1, v2, v3, v4, v5, v6, v7, v8, v9, v10, v11, v12, v13, v14, v15] 59 (0, 0))] a w0 []) => wAsk_any h e0 e1 e2 e3 e4 e5 e6 e7 e8 e9 e10 e11 e12 e13 e14 e15 (by rw [List.length_nil, Nat.zero_add]; exact hl)
  have CH := hid C
  clear C hl e0 e1 e2 e3 e4 e5 e6 e7 e8 e9 e10 e11 e12 e13 e14 e15
  go_enter Try.func17, Try.ntmps17
  go_upto_region 2 with fail
  generalize (W0.alloc (.cells #[v0, v1, v2, v3, v4, v5, v6, v7, v8, v9, v10, v11, v12, v13, v14, v15] 59)).alloc (.cells #[.slice none 0 0] 69) = w0 at *
  obtain ⟨B, hB⟩ : ∃ B, B = W0.heap.size := ⟨_, rfl⟩
  obtain ⟨a, ha⟩ : ∃ a, a = W0.heap.size + 1 := ⟨_, rfl⟩
  rw [← ha, ← hB] at H0
  try rw [← ha]
  try rw [← hB]
  clear hB ha
  have x0 := box_cell H0.out 0 v0 rfl
  have x1 := box_cell H0.out 1 v1 rfl
  have x2 := box_cell H0.out 2 v2 rfl
  have x3 := box_cell H0.out 3 v3 rfl
  have x4 := box_cell H0.out 4 v4 rfl
  have x5 := box_cell H0.out 5 v5 rfl
  have x6 := box_cell H0.out 6 v6 rfl
  have x7 := box_cell H0.out 7 v7 rfl
  have x8 := box_cell H0.out 8 v8 rfl
  have x9 := box_cell H0.out 9 v9 rfl
  have x10 := box_cell H0.out 10 v10 rfl
  have x11 := box_cell H0.out 11 v11 rfl
  have x12 := box_cell H0.out 12 v12 rfl
  have x13 := box_cell H0.out 13 v13 rfl
  have x14 := box_cell H0.out 14 v14 rfl
  have x15 := box_cell H0.out 15 v15 rfl
  have CC := hid (CH.out _ _ _ H0.out)
  go_upto_region 3 with (first | (go_at_call 39; refine CC.out.mono ?_; rintro en w1 ⟨rfl, h1⟩; have H1 := hid h1; clear h1))
  obtain ⟨cx, hx, hg⟩ := St.ends (show St 69 W0 _ a _ (b0 ++ (b1 ++ (b2 ++ (b3 ++ (b4 ++ (b5 ++ (b6 ++ (b7 ++ (b8 ++ (b9 ++ (b10 ++ (b11 ++ (b12 ++ (b13 ++ (b14 ++ b15))))))))))))))) from H1.out)
  obtain ⟨z0, z1⟩ := one_cell hx
  have HG := hid hg
  clear hx hg x0 x1 x2 x3 x4 x5 x6 x7 x8 x9 x10 x11 x12 x13 x14 x15
  go_wp2_with fail
  go_ret
  exact HG.out

set_option maxHeartbeats 8000000 in
theorem rtopAsk_any {W0 : World} {v0 v1 v2 v3 v4 v5 v6 v7 v8 v9 v10 v11 v12 v13 v14 v15 : Value} {b0 b1 b2 b3 b4 b5 b6 b7 b8 b9 b10 b11 b12 b13 b14 b15 : List UInt8} (e0 : Enc W0 .int [v0] b0) (e1 : Enc W0 (.list sOp) [v1] b1) (e2 : Enc W0 .int [v2] b2) (e3 : Enc W0 .name [v3] b3) (e4 : Enc W0 (.list sColumn) [v4] b4) (e5 : Enc W0 (.list .int) [v5] b5) (e6 : Enc W0 .int [v6] b6) (e7 : Enc W0 .int [v7] b7) (e8 : Enc W0 .name [v8] b8) (e9 : Enc W0 (.list .int) [v9] b9) (e10 : Enc W0 .bool [v10] b10) (e11 : Enc W0 .int [v11] b11) (e12 : Enc W0 .bool [v12] b12) (e13 : Enc W0 .name [v13] b13) (e14 : Enc W0 .int [v14] b14) (e15 : Enc W0 .data [v15] b15) (hl : (b0 ++ (b1 ++ (b2 ++ (b3 ++ (b4 ++ (b5 ++ (b6 ++ (b7 ++ (b8 ++ (b9 ++ (b10 ++ (b11 ++ (b12 ++ (b13 ++ (b14 ++ b15))))))))))))))).length ≤ 1000000000000) :
    Calls Try.prog 18 #[.agg #[v0, v1, v2, v3, v4, v5, v6, v7, v8, v9, v10, v11, v12, v13, v14, v15]] W0 (Gives 5 W0 (b0 ++ (b1 ++ (b2 ++ (b3 ++ (b4 ++ (b5 ++ (b6 ++ (b7 ++ (b8 ++ (b9 ++ (b10 ++ (b11 ++ (b12 ++ (b13 ++ (b14 ++ b15)))))))))))))))) := by
  obtain ⟨ao1, n1, cc1, M1, rfl, hL1, rfl⟩ := list_open e1
  have HLst1 := hid hL1
  clear hL1
  have H0 := hid (St.begin W0 #[v0, (.slice ao1 n1 cc1), v2, v3, v4, v5, v6, v7, v8, v9, v10, v11, v12, v13, v14, v15] 59 73)
  have HL0 : Hid (([] : List UInt8).length + (b0 ++ (numL n1 ++ (takeB M1 n1 ++ (b2 ++ (b3 ++ (b4 ++ (b5 ++ (b6 ++ (b7 ++ (b8 ++ (b9 ++ (b10 ++ (b11 ++ (b12 ++ (b13 ++ (b14 ++ b15)))))))))))))))).length ≤ 1000000000000) := hid (by rw [List.length_nil, Nat.zero_add]; simpa only [List.append_assoc] using hl)
  have E0 := hid e0
  have E2 := hid e2
  have E3 := hid e3
  have E4 := hid e4
  have E5 := hid e5
  have E6 := hid e6
  have E7 := hid e7
  have E8 := hid e8
  have E9 := hid e9
  have E10 := hid e10
  have E11 := hid e11
  have E12 := hid e12
  have E13 := hid e13
  have E14 := hid e14
  have E15 := hid e15
  clear hl e0 e1 e2 e3 e4 e5 e6 e7 e8 e9 e10 e11 e12 e13 e14 e15
  go_enter Try.func18, Try.ntmps18
  go_upto_region 2 with fail
  generalize (W0.alloc (.cells #[v0, (.slice ao1 n1 cc1), v2, v3, v4, v5, v6, v7, v8, v9, v10, v11, v12, v13, v14, v15] 59)).alloc (.cells #[.slice none 0 0] 73) = w0 at *
  obtain ⟨B, hB⟩ : ∃ B, B = W0.heap.size := ⟨_, rfl⟩
  obtain ⟨a, ha⟩ : ∃ a, a = W0.heap.size + 1 := ⟨_, rfl⟩
  rw [← ha, ← hB] at H0
  try rw [← ha]
  try rw [← hB]
  clear hB ha
  have x0 := box_cell H0.out 0 v0 rfl
  have HN0 := hid (len_now HL0.out)
  have HL1 := hid (len_step HL0.out)
  go_upto_region 3 with (first | (go_at_call 26; refine (ointE H0.out E0.out HN0.out).mono ?_; rintro en w1 ⟨rfl, h1⟩; have H1 := hid h1; clear h1))
  clear x0
  have x1 := box_cell H1.out 1 (.slice ao1 n1 cc1) rfl
  obtain ⟨hcap, hn6, hn64, hw⟩ := HLst1.out.cap
  have HN1 := hid (len_now HL1.out)
  have HL2 := hid (len_step HL1.out)
  have C0 := hid (onum_any H1.out n1 hn64 HN1.out)
  clear hn64
  go_wp2_with (first | (go_at_call 23; refine C0.out.mono ?_; rintro en w2 ⟨rfl, h2⟩; have H2 := hid h2; clear h2))
  clear hw C0 x1
  have HN2 := hid (len_now HL2.out)
  have HL3 := hid (len_step HL2.out)
  have HL := hid (HN2.out)
  go_loopw [4] (fun i wr => ∃ k, k ≤ n1 ∧ i = .int .i64 (k : Int) ∧ St 73 W0 [(B, .cells #[v0, (.slice ao1 n1 cc1), v2, v3, v4, v5, v6, v7, v8, v9, v10, v11, v12, v13, v14, v15] 59 (0, 0))] a wr (((([] : List UInt8) ++ b0) ++ numL n1) ++ takeB M1 k)) (fun i _ => n1 - (intOf i).toNat)
  case atStart => exact ⟨0, by omega, rfl, by rw [takeB_zero, List.append_nil]; exact H2.out⟩
  case round =>
    obtain ⟨k, hk, rfl, hst⟩ := hrel
    have HS := hid hst
    clear hst
    by_cases hlt : k < n1
    · obtain ⟨⟨mc, mb⟩, bk, off, hm, rfl, hcell, htk, hle⟩ := HLst1.out.get (by decide) hlt
      simp only at hm hcell htk hle
      have xs := box_cell HS.out 1 _ rfl
      obtain ⟨u0, u1, u2, u3, u4, u5, u6, u7, u8, u9, u10, p0, p1, p2, p3, p4, p5, p6, p7, p8, p9, p10, rfl, rfl, f0, f1, f2, f3, f4, f5, f6, f7, f8, f9, f10⟩ := Op_cells hm
      have HX := hid hle
      have HT := hid htk
      have hki : (k : Int) < (n1 : Int) := by omega
      have d0 := hcell _ HS.out.below 0 u0 rfl
      rw [show Sh.wid sOp = 11 from rfl, Nat.add_zero] at d0
      have d1 := hcell _ HS.out.below 1 u1 rfl
      rw [show Sh.wid sOp = 11 from rfl] at d1
      have d2 := hcell _ HS.out.below 2 u2 rfl
      rw [show Sh.wid sOp = 11 from rfl] at d2
      have d3 := hcell _ HS.out.below 3 u3 rfl
      rw [show Sh.wid sOp = 11 from rfl] at d3
      have d4 := hcell _ HS.out.below 4 u4 rfl
      rw [show Sh.wid sOp = 11 from rfl] at d4
      have d5 := hcell _ HS.out.below 5 u5 rfl
      rw [show Sh.wid sOp = 11 from rfl] at d5
      have d6 := hcell _ HS.out.below 6 u6 rfl
      rw [show Sh.wid sOp = 11 from rfl] at d6
      have d7 := hcell _ HS.out.below 7 u7 rfl
      rw [show Sh.wid sOp = 11 from rfl] at d7
      have d8 := hcell _ HS.out.below 8 u8 rfl
      rw [show Sh.wid sOp = 11 from rfl] at d8
      have d9 := hcell _ HS.out.below 9 u9 rfl
      rw [show Sh.wid sOp = 11 from rfl] at d9
      have d10 := hcell _ HS.out.below 10 u10 rfl
      rw [show Sh.wid sOp = 11 from rfl] at d10
      have C := hid (oOp_any HS.out f0 f1 f2 f3 f4 f5 f6 f7 f8 f9 f10 (by have := HL.out; have := HX.out; simp only [List.length_append] at *; omega))
      clear htk hle hcell hm
      go_wp2_with (first | (go_at_call 40; refine C.out.mono ?_; rintro en w2 ⟨rfl, h2⟩; have H2x := hid h2; clear h2))
      go_roundw
      case rel => exact ⟨k + 1, by omega, by go_num, by rw [HT.out, ← List.append_assoc]; exact H2x.out⟩
      case measure => simp [intOf]; omega
    · obtain rfl : n1 = k := by omega
      have hki : ¬ (n1 : Int) < (n1 : Int) := by omega
      have xs := box_cell HS.out 1 _ rfl
      have H3 := HS
      clear HS hlt hk HL
      go_upto_region 8 with fail
      clear xs hki hcap hn6
      have x2 := box_cell H3.out 2 v2 rfl
      have x3 := box_cell H3.out 3 v3 rfl
      have x4 := box_cell H3.out 4 v4 rfl
      have x5 := box_cell H3.out 5 v5 rfl
      have HG3 : Hid ((((([] : List UInt8) ++ b0) ++ numL n1) ++ takeB M1 n1).length + ((b2 ++ (b3 ++ (b4 ++ b5))) ++ (b6 ++ (b7 ++ (b8 ++ (b9 ++ (b10 ++ (b11 ++ (b12 ++ (b13 ++ (b14 ++ b15)))))))))).length ≤ 1000000000000) := hid (by simpa only [List.append_assoc] using HL3.out)
      have HN3 := hid (len_now HG3.out)
      have HL4 := hid (len_step HG3.out)
      go_upto_region 9 with (first | (go_at_call 32; refine (oTable_any H3.out E2.out E3.out E4.out E5.out HN3.out).mono ?_; rintro en w4 ⟨rfl, h4⟩; have H4 := hid h4; clear h4))
      clear x2 x3 x4 x5
      have x6 := box_cell H4.out 6 v6 rfl
      have x7 := box_cell H4.out 7 v7 rfl
      have x8 := box_cell H4.out 8 v8 rfl
      have x9 := box_cell H4.out 9 v9 rfl
      have x10 := box_cell H4.out 10 v10 rfl
      have x11 := box_cell H4.out 11 v11 rfl
      have x12 := box_cell H4.out 12 v12 rfl
      have HG4 : Hid (((((([] : List UInt8) ++ b0) ++ numL n1) ++ takeB M1 n1) ++ (b2 ++ (b3 ++ (b4 ++ b5)))).length + ((b6 ++ (b7 ++ (b8 ++ (b9 ++ (b10 ++ (b11 ++ b12)))))) ++ (b13 ++ (b14 ++ b15))).length ≤ 1000000000000) := hid (by simpa only [List.append_assoc] using HL4.out)
      have HN4 := hid (len_now HG4.out)
      have HL5 := hid (len_step HG4.out)
      go_upto_region 10 with (first | (go_at_call 33; refine (oIndex_any H4.out E6.out E7.out E8.out E9.out E10.out E11.out E12.out HN4.out).mono ?_; rintro en w5 ⟨rfl, h5⟩; have H5 := hid h5; clear h5))
      clear x6 x7 x8 x9 x10 x11 x12
      have x13 := box_cell H5.out 13 v13 rfl
      have HN5 := hid (len_now HL5.out)
      have HL6 := hid (len_step HL5.out)
      go_upto_region 11 with (first | (go_at_call 34; refine (otextE H5.out E13.out HN5.out).mono ?_; rintro en w6 ⟨rfl, h6⟩; have H6 := hid h6; clear h6))
      clear x13
      have x14 := box_cell H6.out 14 v14 rfl
      have HN6 := hid (len_now HL6.out)
      have HL7 := hid (len_step HL6.out)
      go_upto_region 12 with (first | (go_at_call 26; refine (ointE H6.out E14.out HN6.out).mono ?_; rintro en w7 ⟨rfl, h7⟩; have H7 := hid h7; clear h7))
      clear x14
      have x15 := box_cell H7.out 15 v15 rfl
      go_upto_region 13 with (first | (go_at_call 24; refine (obytesE H7.out E15.out HL7.out).mono ?_; rintro en w8 ⟨rfl, h8⟩; have H8 := hid h8; clear h8))
      clear x15
      obtain ⟨cx, hx, hg⟩ := St.ends (show St 73 W0 _ a _ (b0 ++ ((numL n1 ++ takeB M1 n1) ++ (b2 ++ (b3 ++ (b4 ++ (b5 ++ (b6 ++ (b7 ++ (b8 ++ (b9 ++ (b10 ++ (b11 ++ (b12 ++ (b13 ++ (b14 ++ b15))))))))))))))) by simpa only [List.append_assoc, List.nil_append] using H8.out)
      obtain ⟨z0, z1⟩ := one_cell hx
      have HG := hid hg
      clear hx hg
      go_wp2_with fail
      go_ret
      exact HG.out

end Go.Proofs.Ytiblambiebojmaa

set_option linter.unusedVariables false
set_option linter.unusedSimpArgs false
set_option maxRecDepth 100000
namespace Go.Proofs.Ytiblambiebojmaa
open Go.RowKit Go.Deep

set_option maxHeartbeats 8000000 in
theorem command_any {W0 : World} {v0 v1 v2 v3 v4 v5 v6 v7 v8 v9 v10 v11 v12 v13 v14 v15 v16 v17 v18 v19 v20 v21 v22 v23 v24 : Value} {b0 b1 b2 b3 b4 b5 b6 b7 b8 b9 b10 b11 b12 b13 b14 b15 b16 b17 b18 b19 b20 b21 b22 b23 b24 : List UInt8} (e0 : Enc W0 .int [v0] b0) (e1 : Enc W0 .int [v1] b1) (e2 : Enc W0 .num [v2] b2) (e3 : Enc W0 .int [v3] b3) (e4 : Enc W0 .int [v4] b4) (e5 : Enc W0 .int [v5] b5) (e6 : Enc W0 .bool [v6] b6) (e7 : Enc W0 .data [v7] b7) (e8 : Enc W0 .data [v8] b8) (e9 : Enc W0 .data [v9] b9) (e10 : Enc W0 (.list sPair) [v10] b10) (e11 : Enc W0 (.list sSeen) [v11] b11) (e12 : Enc W0 (.list sWrite) [v12] b12) (e13 : Enc W0 .int [v13] b13) (e14 : Enc W0 .name [v14] b14) (e15 : Enc W0 (.list sColumn) [v15] b15) (e16 : Enc W0 (.list .int) [v16] b16) (e17 : Enc W0 .int [v17] b17) (e18 : Enc W0 .int [v18] b18) (e19 : Enc W0 .name [v19] b19) (e20 : Enc W0 (.list .int) [v20] b20) (e21 : Enc W0 .bool [v21] b21) (e22 : Enc W0 .int [v22] b22) (e23 : Enc W0 .bool [v23] b23) (e24 : Enc W0 .name [v24] b24) : ∃ q : Bool, ∀ w, Calls Try.prog 6 #[.agg #[v0, v1, v2, v3, v4, v5, v6, v7, v8, v9, v10, v11, v12, v13, v14, v15, v16, v17, v18, v19, v20, v21, v22, v23, v24]] w (fun e w' => e = .returned (.bool q) ∧ Below w.heap.size w w') := by
  obtain ⟨a10, n10, c10, rfl⟩ := form_list e10
  obtain ⟨hc10, hn10⟩ := list_len e10
  obtain ⟨a11, n11, c11, rfl⟩ := form_list e11
  obtain ⟨hc11, hn11⟩ := list_len e11
  obtain ⟨a12, n12, c12, rfl⟩ := form_list e12
  obtain ⟨hc12, hn12⟩ := list_len e12
  obtain ⟨a15, n15, c15, rfl⟩ := form_list e15
  obtain ⟨hc15, hn15⟩ := list_len e15
  obtain ⟨a16, n16, c16, rfl⟩ := form_list e16
  obtain ⟨hc16, hn16⟩ := list_len e16
  obtain ⟨a20, n20, c20, rfl⟩ := form_list e20
  obtain ⟨hc20, hn20⟩ := list_len e20
  clear e0 e1 e2 e3 e4 e5 e6 e7 e8 e9 e10 e11 e12 e13 e14 e15 e16 e17 e18 e19 e20 e21 e22 e23 e24
  by_cases q0 : (n10 : Int) < 300
  rotate_left
  · skip
    refine ⟨false, fun w => ?_⟩
    have hb : Below w.heap.size w (w.alloc (.cells #[v0, v1, v2, v3, v4, v5, v6, v7, v8, v9, .slice a10 n10 c10, .slice a11 n11 c11, .slice a12 n12 c12, v13, v14, .slice a15 n15 c15, .slice a16 n16 c16, v17, v18, v19, .slice a20 n20 c20, v21, v22, v23, v24] 38)) := (Below.refl _ _).alloc (Nat.le_refl _) _
    have hz := heap_alloc_new w (.cells #[v0, v1, v2, v3, v4, v5, v6, v7, v8, v9, .slice a10 n10 c10, .slice a11 n11 c11, .slice a12 n12 c12, v13, v14, .slice a15 n15 c15, .slice a16 n16 c16, v17, v18, v19, .slice a20 n20 c20, v21, v22, v23, v24] 38)
    have z10 : (w.alloc (.cells #[v0, v1, v2, v3, v4, v5, v6, v7, v8, v9, .slice a10 n10 c10, .slice a11 n11 c11, .slice a12 n12 c12, v13, v14, .slice a15 n15 c15, .slice a16 n16 c16, v17, v18, v19, .slice a20 n20 c20, v21, v22, v23, v24] 38)).cell? ⟨w.heap.size, 10, none⟩ = some (.slice a10 n10 c10) := by simp only [World.cell?, hz]; rfl
    have z11 : (w.alloc (.cells #[v0, v1, v2, v3, v4, v5, v6, v7, v8, v9, .slice a10 n10 c10, .slice a11 n11 c11, .slice a12 n12 c12, v13, v14, .slice a15 n15 c15, .slice a16 n16 c16, v17, v18, v19, .slice a20 n20 c20, v21, v22, v23, v24] 38)).cell? ⟨w.heap.size, 11, none⟩ = some (.slice a11 n11 c11) := by simp only [World.cell?, hz]; rfl
    have z12 : (w.alloc (.cells #[v0, v1, v2, v3, v4, v5, v6, v7, v8, v9, .slice a10 n10 c10, .slice a11 n11 c11, .slice a12 n12 c12, v13, v14, .slice a15 n15 c15, .slice a16 n16 c16, v17, v18, v19, .slice a20 n20 c20, v21, v22, v23, v24] 38)).cell? ⟨w.heap.size, 12, none⟩ = some (.slice a12 n12 c12) := by simp only [World.cell?, hz]; rfl
    have z15 : (w.alloc (.cells #[v0, v1, v2, v3, v4, v5, v6, v7, v8, v9, .slice a10 n10 c10, .slice a11 n11 c11, .slice a12 n12 c12, v13, v14, .slice a15 n15 c15, .slice a16 n16 c16, v17, v18, v19, .slice a20 n20 c20, v21, v22, v23, v24] 38)).cell? ⟨w.heap.size, 15, none⟩ = some (.slice a15 n15 c15) := by simp only [World.cell?, hz]; rfl
    have z16 : (w.alloc (.cells #[v0, v1, v2, v3, v4, v5, v6, v7, v8, v9, .slice a10 n10 c10, .slice a11 n11 c11, .slice a12 n12 c12, v13, v14, .slice a15 n15 c15, .slice a16 n16 c16, v17, v18, v19, .slice a20 n20 c20, v21, v22, v23, v24] 38)).cell? ⟨w.heap.size, 16, none⟩ = some (.slice a16 n16 c16) := by simp only [World.cell?, hz]; rfl
    have z20 : (w.alloc (.cells #[v0, v1, v2, v3, v4, v5, v6, v7, v8, v9, .slice a10 n10 c10, .slice a11 n11 c11, .slice a12 n12 c12, v13, v14, .slice a15 n15 c15, .slice a16 n16 c16, v17, v18, v19, .slice a20 n20 c20, v21, v22, v23, v24] 38)).cell? ⟨w.heap.size, 20, none⟩ = some (.slice a20 n20 c20) := by simp only [World.cell?, hz]; rfl
    clear hz
    go_enter Try.func6, Try.ntmps6
    go_upto_region 1 with fail
    generalize w.alloc (.cells #[v0, v1, v2, v3, v4, v5, v6, v7, v8, v9, .slice a10 n10 c10, .slice a11 n11 c11, .slice a12 n12 c12, v13, v14, .slice a15 n15 c15, .slice a16 n16 c16, v17, v18, v19, .slice a20 n20 c20, v21, v22, v23, v24] 38) = w1 at *
    go_wp2_with fail
    go_ret
    exact ⟨rfl, hb⟩
  · skip
    by_cases q1 : (n11 : Int) < 60
    rotate_left
    · skip
      refine ⟨false, fun w => ?_⟩
      have hb : Below w.heap.size w (w.alloc (.cells #[v0, v1, v2, v3, v4, v5, v6, v7, v8, v9, .slice a10 n10 c10, .slice a11 n11 c11, .slice a12 n12 c12, v13, v14, .slice a15 n15 c15, .slice a16 n16 c16, v17, v18, v19, .slice a20 n20 c20, v21, v22, v23, v24] 38)) := (Below.refl _ _).alloc (Nat.le_refl _) _
      have hz := heap_alloc_new w (.cells #[v0, v1, v2, v3, v4, v5, v6, v7, v8, v9, .slice a10 n10 c10, .slice a11 n11 c11, .slice a12 n12 c12, v13, v14, .slice a15 n15 c15, .slice a16 n16 c16, v17, v18, v19, .slice a20 n20 c20, v21, v22, v23, v24] 38)
      have z10 : (w.alloc (.cells #[v0, v1, v2, v3, v4, v5, v6, v7, v8, v9, .slice a10 n10 c10, .slice a11 n11 c11, .slice a12 n12 c12, v13, v14, .slice a15 n15 c15, .slice a16 n16 c16, v17, v18, v19, .slice a20 n20 c20, v21, v22, v23, v24] 38)).cell? ⟨w.heap.size, 10, none⟩ = some (.slice a10 n10 c10) := by simp only [World.cell?, hz]; rfl
      have z11 : (w.alloc (.cells #[v0, v1, v2, v3, v4, v5, v6, v7, v8, v9, .slice a10 n10 c10, .slice a11 n11 c11, .slice a12 n12 c12, v13, v14, .slice a15 n15 c15, .slice a16 n16 c16, v17, v18, v19, .slice a20 n20 c20, v21, v22, v23, v24] 38)).cell? ⟨w.heap.size, 11, none⟩ = some (.slice a11 n11 c11) := by simp only [World.cell?, hz]; rfl
      have z12 : (w.alloc (.cells #[v0, v1, v2, v3, v4, v5, v6, v7, v8, v9, .slice a10 n10 c10, .slice a11 n11 c11, .slice a12 n12 c12, v13, v14, .slice a15 n15 c15, .slice a16 n16 c16, v17, v18, v19, .slice a20 n20 c20, v21, v22, v23, v24] 38)).cell? ⟨w.heap.size, 12, none⟩ = some (.slice a12 n12 c12) := by simp only [World.cell?, hz]; rfl
      have z15 : (w.alloc (.cells #[v0, v1, v2, v3, v4, v5, v6, v7, v8, v9, .slice a10 n10 c10, .slice a11 n11 c11, .slice a12 n12 c12, v13, v14, .slice a15 n15 c15, .slice a16 n16 c16, v17, v18, v19, .slice a20 n20 c20, v21, v22, v23, v24] 38)).cell? ⟨w.heap.size, 15, none⟩ = some (.slice a15 n15 c15) := by simp only [World.cell?, hz]; rfl
      have z16 : (w.alloc (.cells #[v0, v1, v2, v3, v4, v5, v6, v7, v8, v9, .slice a10 n10 c10, .slice a11 n11 c11, .slice a12 n12 c12, v13, v14, .slice a15 n15 c15, .slice a16 n16 c16, v17, v18, v19, .slice a20 n20 c20, v21, v22, v23, v24] 38)).cell? ⟨w.heap.size, 16, none⟩ = some (.slice a16 n16 c16) := by simp only [World.cell?, hz]; rfl
      have z20 : (w.alloc (.cells #[v0, v1, v2, v3, v4, v5, v6, v7, v8, v9, .slice a10 n10 c10, .slice a11 n11 c11, .slice a12 n12 c12, v13, v14, .slice a15 n15 c15, .slice a16 n16 c16, v17, v18, v19, .slice a20 n20 c20, v21, v22, v23, v24] 38)).cell? ⟨w.heap.size, 20, none⟩ = some (.slice a20 n20 c20) := by simp only [World.cell?, hz]; rfl
      clear hz
      go_enter Try.func6, Try.ntmps6
      go_upto_region 1 with fail
      generalize w.alloc (.cells #[v0, v1, v2, v3, v4, v5, v6, v7, v8, v9, .slice a10 n10 c10, .slice a11 n11 c11, .slice a12 n12 c12, v13, v14, .slice a15 n15 c15, .slice a16 n16 c16, v17, v18, v19, .slice a20 n20 c20, v21, v22, v23, v24] 38) = w1 at *
      go_wp2_with fail
      go_ret
      exact ⟨rfl, hb⟩
    · skip
      by_cases q2 : (n12 : Int) < 300
      rotate_left
      · skip
        refine ⟨false, fun w => ?_⟩
        have hb : Below w.heap.size w (w.alloc (.cells #[v0, v1, v2, v3, v4, v5, v6, v7, v8, v9, .slice a10 n10 c10, .slice a11 n11 c11, .slice a12 n12 c12, v13, v14, .slice a15 n15 c15, .slice a16 n16 c16, v17, v18, v19, .slice a20 n20 c20, v21, v22, v23, v24] 38)) := (Below.refl _ _).alloc (Nat.le_refl _) _
        have hz := heap_alloc_new w (.cells #[v0, v1, v2, v3, v4, v5, v6, v7, v8, v9, .slice a10 n10 c10, .slice a11 n11 c11, .slice a12 n12 c12, v13, v14, .slice a15 n15 c15, .slice a16 n16 c16, v17, v18, v19, .slice a20 n20 c20, v21, v22, v23, v24] 38)
        have z10 : (w.alloc (.cells #[v0, v1, v2, v3, v4, v5, v6, v7, v8, v9, .slice a10 n10 c10, .slice a11 n11 c11, .slice a12 n12 c12, v13, v14, .slice a15 n15 c15, .slice a16 n16 c16, v17, v18, v19, .slice a20 n20 c20, v21, v22, v23, v24] 38)).cell? ⟨w.heap.size, 10, none⟩ = some (.slice a10 n10 c10) := by simp only [World.cell?, hz]; rfl
        have z11 : (w.alloc (.cells #[v0, v1, v2, v3, v4, v5, v6, v7, v8, v9, .slice a10 n10 c10, .slice a11 n11 c11, .slice a12 n12 c12, v13, v14, .slice a15 n15 c15, .slice a16 n16 c16, v17, v18, v19, .slice a20 n20 c20, v21, v22, v23, v24] 38)).cell? ⟨w.heap.size, 11, none⟩ = some (.slice a11 n11 c11) := by simp only [World.cell?, hz]; rfl
        have z12 : (w.alloc (.cells #[v0, v1, v2, v3, v4, v5, v6, v7, v8, v9, .slice a10 n10 c10, .slice a11 n11 c11, .slice a12 n12 c12, v13, v14, .slice a15 n15 c15, .slice a16 n16 c16, v17, v18, v19, .slice a20 n20 c20, v21, v22, v23, v24] 38)).cell? ⟨w.heap.size, 12, none⟩ = some (.slice a12 n12 c12) := by simp only [World.cell?, hz]; rfl
        have z15 : (w.alloc (.cells #[v0, v1, v2, v3, v4, v5, v6, v7, v8, v9, .slice a10 n10 c10, .slice a11 n11 c11, .slice a12 n12 c12, v13, v14, .slice a15 n15 c15, .slice a16 n16 c16, v17, v18, v19, .slice a20 n20 c20, v21, v22, v23, v24] 38)).cell? ⟨w.heap.size, 15, none⟩ = some (.slice a15 n15 c15) := by simp only [World.cell?, hz]; rfl
        have z16 : (w.alloc (.cells #[v0, v1, v2, v3, v4, v5, v6, v7, v8, v9, .slice a10 n10 c10, .slice a11 n11 c11, .slice a12 n12 c12, v13, v14, .slice a15 n15 c15, .slice a16 n16 c16, v17, v18, v19, .slice a20 n20 c20, v21, v22, v23, v24] 38)).cell? ⟨w.heap.size, 16, none⟩ = some (.slice a16 n16 c16) := by simp only [World.cell?, hz]; rfl
        have z20 : (w.alloc (.cells #[v0, v1, v2, v3, v4, v5, v6, v7, v8, v9, .slice a10 n10 c10, .slice a11 n11 c11, .slice a12 n12 c12, v13, v14, .slice a15 n15 c15, .slice a16 n16 c16, v17, v18, v19, .slice a20 n20 c20, v21, v22, v23, v24] 38)).cell? ⟨w.heap.size, 20, none⟩ = some (.slice a20 n20 c20) := by simp only [World.cell?, hz]; rfl
        clear hz
        go_enter Try.func6, Try.ntmps6
        go_upto_region 1 with fail
        generalize w.alloc (.cells #[v0, v1, v2, v3, v4, v5, v6, v7, v8, v9, .slice a10 n10 c10, .slice a11 n11 c11, .slice a12 n12 c12, v13, v14, .slice a15 n15 c15, .slice a16 n16 c16, v17, v18, v19, .slice a20 n20 c20, v21, v22, v23, v24] 38) = w1 at *
        go_wp2_with fail
        go_ret
        exact ⟨rfl, hb⟩
      · skip
        by_cases q3 : (n15 : Int) < 60
        rotate_left
        · skip
          refine ⟨false, fun w => ?_⟩
          have hb : Below w.heap.size w (w.alloc (.cells #[v0, v1, v2, v3, v4, v5, v6, v7, v8, v9, .slice a10 n10 c10, .slice a11 n11 c11, .slice a12 n12 c12, v13, v14, .slice a15 n15 c15, .slice a16 n16 c16, v17, v18, v19, .slice a20 n20 c20, v21, v22, v23, v24] 38)) := (Below.refl _ _).alloc (Nat.le_refl _) _
          have hz := heap_alloc_new w (.cells #[v0, v1, v2, v3, v4, v5, v6, v7, v8, v9, .slice a10 n10 c10, .slice a11 n11 c11, .slice a12 n12 c12, v13, v14, .slice a15 n15 c15, .slice a16 n16 c16, v17, v18, v19, .slice a20 n20 c20, v21, v22, v23, v24] 38)
          have z10 : (w.alloc (.cells #[v0, v1, v2, v3, v4, v5, v6, v7, v8, v9, .slice a10 n10 c10, .slice a11 n11 c11, .slice a12 n12 c12, v13, v14, .slice a15 n15 c15, .slice a16 n16 c16, v17, v18, v19, .slice a20 n20 c20, v21, v22, v23, v24] 38)).cell? ⟨w.heap.size, 10, none⟩ = some (.slice a10 n10 c10) := by simp only [World.cell?, hz]; rfl
          have z11 : (w.alloc (.cells #[v0, v1, v2, v3, v4, v5, v6, v7, v8, v9, .slice a10 n10 c10, .slice a11 n11 c11, .slice a12 n12 c12, v13, v14, .slice a15 n15 c15, .slice a16 n16 c16, v17, v18, v19, .slice a20 n20 c20, v21, v22, v23, v24] 38)).cell? ⟨w.heap.size, 11, none⟩ = some (.slice a11 n11 c11) := by simp only [World.cell?, hz]; rfl
          have z12 : (w.alloc (.cells #[v0, v1, v2, v3, v4, v5, v6, v7, v8, v9, .slice a10 n10 c10, .slice a11 n11 c11, .slice a12 n12 c12, v13, v14, .slice a15 n15 c15, .slice a16 n16 c16, v17, v18, v19, .slice a20 n20 c20, v21, v22, v23, v24] 38)).cell? ⟨w.heap.size, 12, none⟩ = some (.slice a12 n12 c12) := by simp only [World.cell?, hz]; rfl
          have z15 : (w.alloc (.cells #[v0, v1, v2, v3, v4, v5, v6, v7, v8, v9, .slice a10 n10 c10, .slice a11 n11 c11, .slice a12 n12 c12, v13, v14, .slice a15 n15 c15, .slice a16 n16 c16, v17, v18, v19, .slice a20 n20 c20, v21, v22, v23, v24] 38)).cell? ⟨w.heap.size, 15, none⟩ = some (.slice a15 n15 c15) := by simp only [World.cell?, hz]; rfl
          have z16 : (w.alloc (.cells #[v0, v1, v2, v3, v4, v5, v6, v7, v8, v9, .slice a10 n10 c10, .slice a11 n11 c11, .slice a12 n12 c12, v13, v14, .slice a15 n15 c15, .slice a16 n16 c16, v17, v18, v19, .slice a20 n20 c20, v21, v22, v23, v24] 38)).cell? ⟨w.heap.size, 16, none⟩ = some (.slice a16 n16 c16) := by simp only [World.cell?, hz]; rfl
          have z20 : (w.alloc (.cells #[v0, v1, v2, v3, v4, v5, v6, v7, v8, v9, .slice a10 n10 c10, .slice a11 n11 c11, .slice a12 n12 c12, v13, v14, .slice a15 n15 c15, .slice a16 n16 c16, v17, v18, v19, .slice a20 n20 c20, v21, v22, v23, v24] 38)).cell? ⟨w.heap.size, 20, none⟩ = some (.slice a20 n20 c20) := by simp only [World.cell?, hz]; rfl
          clear hz
          go_enter Try.func6, Try.ntmps6
          go_upto_region 1 with fail
          generalize w.alloc (.cells #[v0, v1, v2, v3, v4, v5, v6, v7, v8, v9, .slice a10 n10 c10, .slice a11 n11 c11, .slice a12 n12 c12, v13, v14, .slice a15 n15 c15, .slice a16 n16 c16, v17, v18, v19, .slice a20 n20 c20, v21, v22, v23, v24] 38) = w1 at *
          go_wp2_with fail
          go_ret
          exact ⟨rfl, hb⟩
        · skip
          by_cases q4 : (n16 : Int) < 60
          rotate_left
          · skip
            refine ⟨false, fun w => ?_⟩
            have hb : Below w.heap.size w (w.alloc (.cells #[v0, v1, v2, v3, v4, v5, v6, v7, v8, v9, .slice a10 n10 c10, .slice a11 n11 c11, .slice a12 n12 c12, v13, v14, .slice a15 n15 c15, .slice a16 n16 c16, v17, v18, v19, .slice a20 n20 c20, v21, v22, v23, v24] 38)) := (Below.refl _ _).alloc (Nat.le_refl _) _
            have hz := heap_alloc_new w (.cells #[v0, v1, v2, v3, v4, v5, v6, v7, v8, v9, .slice a10 n10 c10, .slice a11 n11 c11, .slice a12 n12 c12, v13, v14, .slice a15 n15 c15, .slice a16 n16 c16, v17, v18, v19, .slice a20 n20 c20, v21, v22, v23, v24] 38)
            have z10 : (w.alloc (.cells #[v0, v1, v2, v3, v4, v5, v6, v7, v8, v9, .slice a10 n10 c10, .slice a11 n11 c11, .slice a12 n12 c12, v13, v14, .slice a15 n15 c15, .slice a16 n16 c16, v17, v18, v19, .slice a20 n20 c20, v21, v22, v23, v24] 38)).cell? ⟨w.heap.size, 10, none⟩ = some (.slice a10 n10 c10) := by simp only [World.cell?, hz]; rfl
            have z11 : (w.alloc (.cells #[v0, v1, v2, v3, v4, v5, v6, v7, v8, v9, .slice a10 n10 c10, .slice a11 n11 c11, .slice a12 n12 c12, v13, v14, .slice a15 n15 c15, .slice a16 n16 c16, v17, v18, v19, .slice a20 n20 c20, v21, v22, v23, v24] 38)).cell? ⟨w.heap.size, 11, none⟩ = some (.slice a11 n11 c11) := by simp only [World.cell?, hz]; rfl
            have z12 : (w.alloc (.cells #[v0, v1, v2, v3, v4, v5, v6, v7, v8, v9, .slice a10 n10 c10, .slice a11 n11 c11, .slice a12 n12 c12, v13, v14, .slice a15 n15 c15, .slice a16 n16 c16, v17, v18, v19, .slice a20 n20 c20, v21, v22, v23, v24] 38)).cell? ⟨w.heap.size, 12, none⟩ = some (.slice a12 n12 c12) := by simp only [World.cell?, hz]; rfl
            have z15 : (w.alloc (.cells #[v0, v1, v2, v3, v4, v5, v6, v7, v8, v9, .slice a10 n10 c10, .slice a11 n11 c11, .slice a12 n12 c12, v13, v14, .slice a15 n15 c15, .slice a16 n16 c16, v17, v18, v19, .slice a20 n20 c20, v21, v22, v23, v24] 38)).cell? ⟨w.heap.size, 15, none⟩ = some (.slice a15 n15 c15) := by simp only [World.cell?, hz]; rfl
            have z16 : (w.alloc (.cells #[v0, v1, v2, v3, v4, v5, v6, v7, v8, v9, .slice a10 n10 c10, .slice a11 n11 c11, .slice a12 n12 c12, v13, v14, .slice a15 n15 c15, .slice a16 n16 c16, v17, v18, v19, .slice a20 n20 c20, v21, v22, v23, v24] 38)).cell? ⟨w.heap.size, 16, none⟩ = some (.slice a16 n16 c16) := by simp only [World.cell?, hz]; rfl
            have z20 : (w.alloc (.cells #[v0, v1, v2, v3, v4, v5, v6, v7, v8, v9, .slice a10 n10 c10, .slice a11 n11 c11, .slice a12 n12 c12, v13, v14, .slice a15 n15 c15, .slice a16 n16 c16, v17, v18, v19, .slice a20 n20 c20, v21, v22, v23, v24] 38)).cell? ⟨w.heap.size, 20, none⟩ = some (.slice a20 n20 c20) := by simp only [World.cell?, hz]; rfl
            clear hz
            go_enter Try.func6, Try.ntmps6
            go_upto_region 1 with fail
            generalize w.alloc (.cells #[v0, v1, v2, v3, v4, v5, v6, v7, v8, v9, .slice a10 n10 c10, .slice a11 n11 c11, .slice a12 n12 c12, v13, v14, .slice a15 n15 c15, .slice a16 n16 c16, v17, v18, v19, .slice a20 n20 c20, v21, v22, v23, v24] 38) = w1 at *
            go_wp2_with fail
            go_ret
            exact ⟨rfl, hb⟩
          · skip
            by_cases q5 : (n20 : Int) < 60
            rotate_left
            · skip
              refine ⟨false, fun w => ?_⟩
              have hb : Below w.heap.size w (w.alloc (.cells #[v0, v1, v2, v3, v4, v5, v6, v7, v8, v9, .slice a10 n10 c10, .slice a11 n11 c11, .slice a12 n12 c12, v13, v14, .slice a15 n15 c15, .slice a16 n16 c16, v17, v18, v19, .slice a20 n20 c20, v21, v22, v23, v24] 38)) := (Below.refl _ _).alloc (Nat.le_refl _) _
              have hz := heap_alloc_new w (.cells #[v0, v1, v2, v3, v4, v5, v6, v7, v8, v9, .slice a10 n10 c10, .slice a11 n11 c11, .slice a12 n12 c12, v13, v14, .slice a15 n15 c15, .slice a16 n16 c16, v17, v18, v19, .slice a20 n20 c20, v21, v22, v23, v24] 38)
              have z10 : (w.alloc (.cells #[v0, v1, v2, v3, v4, v5, v6, v7, v8, v9, .slice a10 n10 c10, .slice a11 n11 c11, .slice a12 n12 c12, v13, v14, .slice a15 n15 c15, .slice a16 n16 c16, v17, v18, v19, .slice a20 n20 c20, v21, v22, v23, v24] 38)).cell? ⟨w.heap.size, 10, none⟩ = some (.slice a10 n10 c10) := by simp only [World.cell?, hz]; rfl
              have z11 : (w.alloc (.cells #[v0, v1, v2, v3, v4, v5, v6, v7, v8, v9, .slice a10 n10 c10, .slice a11 n11 c11, .slice a12 n12 c12, v13, v14, .slice a15 n15 c15, .slice a16 n16 c16, v17, v18, v19, .slice a20 n20 c20, v21, v22, v23, v24] 38)).cell? ⟨w.heap.size, 11, none⟩ = some (.slice a11 n11 c11) := by simp only [World.cell?, hz]; rfl
              have z12 : (w.alloc (.cells #[v0, v1, v2, v3, v4, v5, v6, v7, v8, v9, .slice a10 n10 c10, .slice a11 n11 c11, .slice a12 n12 c12, v13, v14, .slice a15 n15 c15, .slice a16 n16 c16, v17, v18, v19, .slice a20 n20 c20, v21, v22, v23, v24] 38)).cell? ⟨w.heap.size, 12, none⟩ = some (.slice a12 n12 c12) := by simp only [World.cell?, hz]; rfl
              have z15 : (w.alloc (.cells #[v0, v1, v2, v3, v4, v5, v6, v7, v8, v9, .slice a10 n10 c10, .slice a11 n11 c11, .slice a12 n12 c12, v13, v14, .slice a15 n15 c15, .slice a16 n16 c16, v17, v18, v19, .slice a20 n20 c20, v21, v22, v23, v24] 38)).cell? ⟨w.heap.size, 15, none⟩ = some (.slice a15 n15 c15) := by simp only [World.cell?, hz]; rfl
              have z16 : (w.alloc (.cells #[v0, v1, v2, v3, v4, v5, v6, v7, v8, v9, .slice a10 n10 c10, .slice a11 n11 c11, .slice a12 n12 c12, v13, v14, .slice a15 n15 c15, .slice a16 n16 c16, v17, v18, v19, .slice a20 n20 c20, v21, v22, v23, v24] 38)).cell? ⟨w.heap.size, 16, none⟩ = some (.slice a16 n16 c16) := by simp only [World.cell?, hz]; rfl
              have z20 : (w.alloc (.cells #[v0, v1, v2, v3, v4, v5, v6, v7, v8, v9, .slice a10 n10 c10, .slice a11 n11 c11, .slice a12 n12 c12, v13, v14, .slice a15 n15 c15, .slice a16 n16 c16, v17, v18, v19, .slice a20 n20 c20, v21, v22, v23, v24] 38)).cell? ⟨w.heap.size, 20, none⟩ = some (.slice a20 n20 c20) := by simp only [World.cell?, hz]; rfl
              clear hz
              go_enter Try.func6, Try.ntmps6
              go_upto_region 1 with fail
              generalize w.alloc (.cells #[v0, v1, v2, v3, v4, v5, v6, v7, v8, v9, .slice a10 n10 c10, .slice a11 n11 c11, .slice a12 n12 c12, v13, v14, .slice a15 n15 c15, .slice a16 n16 c16, v17, v18, v19, .slice a20 n20 c20, v21, v22, v23, v24] 38) = w1 at *
              go_wp2_with fail
              go_ret
              exact ⟨rfl, hb⟩
            · skip
              refine ⟨true, fun w => ?_⟩
              have hb : Below w.heap.size w (w.alloc (.cells #[v0, v1, v2, v3, v4, v5, v6, v7, v8, v9, .slice a10 n10 c10, .slice a11 n11 c11, .slice a12 n12 c12, v13, v14, .slice a15 n15 c15, .slice a16 n16 c16, v17, v18, v19, .slice a20 n20 c20, v21, v22, v23, v24] 38)) := (Below.refl _ _).alloc (Nat.le_refl _) _
              have hz := heap_alloc_new w (.cells #[v0, v1, v2, v3, v4, v5, v6, v7, v8, v9, .slice a10 n10 c10, .slice a11 n11 c11, .slice a12 n12 c12, v13, v14, .slice a15 n15 c15, .slice a16 n16 c16, v17, v18, v19, .slice a20 n20 c20, v21, v22, v23, v24] 38)
              have z10 : (w.alloc (.cells #[v0, v1, v2, v3, v4, v5, v6, v7, v8, v9, .slice a10 n10 c10, .slice a11 n11 c11, .slice a12 n12 c12, v13, v14, .slice a15 n15 c15, .slice a16 n16 c16, v17, v18, v19, .slice a20 n20 c20, v21, v22, v23, v24] 38)).cell? ⟨w.heap.size, 10, none⟩ = some (.slice a10 n10 c10) := by simp only [World.cell?, hz]; rfl
              have z11 : (w.alloc (.cells #[v0, v1, v2, v3, v4, v5, v6, v7, v8, v9, .slice a10 n10 c10, .slice a11 n11 c11, .slice a12 n12 c12, v13, v14, .slice a15 n15 c15, .slice a16 n16 c16, v17, v18, v19, .slice a20 n20 c20, v21, v22, v23, v24] 38)).cell? ⟨w.heap.size, 11, none⟩ = some (.slice a11 n11 c11) := by simp only [World.cell?, hz]; rfl
              have z12 : (w.alloc (.cells #[v0, v1, v2, v3, v4, v5, v6, v7, v8, v9, .slice a10 n10 c10, .slice a11 n11 c11, .slice a12 n12 c12, v13, v14, .slice a15 n15 c15, .slice a16 n16 c16, v17, v18, v19, .slice a20 n20 c20, v21, v22, v23, v24] 38)).cell? ⟨w.heap.size, 12, none⟩ = some (.slice a12 n12 c12) := by simp only [World.cell?, hz]; rfl
              have z15 : (w.alloc (.cells #[v0, v1, v2, v3, v4, v5, v6, v7, v8, v9, .slice a10 n10 c10, .slice a11 n11 c11, .slice a12 n12 c12, v13, v14, .slice a15 n15 c15, .slice a16 n16 c16, v17, v18, v19, .slice a20 n20 c20, v21, v22, v23, v24] 38)).cell? ⟨w.heap.size, 15, none⟩ = some (.slice a15 n15 c15) := by simp only [World.cell?, hz]; rfl
              have z16 : (w.alloc (.cells #[v0, v1, v2, v3, v4, v5, v6, v7, v8, v9, .slice a10 n10 c10, .slice a11 n11 c11, .slice a12 n12 c12, v13, v14, .slice a15 n15 c15, .slice a16 n16 c16, v17, v18, v19, .slice a20 n20 c20, v21, v22, v23, v24] 38)).cell? ⟨w.heap.size, 16, none⟩ = some (.slice a16 n16 c16) := by simp only [World.cell?, hz]; rfl
              have z20 : (w.alloc (.cells #[v0, v1, v2, v3, v4, v5, v6, v7, v8, v9, .slice a10 n10 c10, .slice a11 n11 c11, .slice a12 n12 c12, v13, v14, .slice a15 n15 c15, .slice a16 n16 c16, v17, v18, v19, .slice a20 n20 c20, v21, v22, v23, v24] 38)).cell? ⟨w.heap.size, 20, none⟩ = some (.slice a20 n20 c20) := by simp only [World.cell?, hz]; rfl
              clear hz
              go_enter Try.func6, Try.ntmps6
              go_upto_region 1 with fail
              generalize w.alloc (.cells #[v0, v1, v2, v3, v4, v5, v6, v7, v8, v9, .slice a10 n10 c10, .slice a11 n11 c11, .slice a12 n12 c12, v13, v14, .slice a15 n15 c15, .slice a16 n16 c16, v17, v18, v19, .slice a20 n20 c20, v21, v22, v23, v24] 38) = w1 at *
              go_wp2_with fail
              go_ret
              exact ⟨rfl, hb⟩
end Go.Proofs.Ytiblambiebojmaa

