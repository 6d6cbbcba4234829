import Derived.WalkKit
import Derived.OpenShut
import Derived.Test.YtiblambiebojmaaRows
import Derived.WalkSpells
import Derived.WalkLawsBesides
import Derived.Laws.AppendOwnNone
import Derived.ProofKit
import Derived.ShutString
import Derived.ChangeOld
import Derived.Below
import Derived.SizedLaws
import Derived.Deep.Slices
import Derived.Deep.AppendLies
import Derived.Deep.Strs
import Derived.Deep.RegionHeld3
import Derived.Lib.ConvBytes
import Derived.Laws.AppendOwn
import Derived.Deep.CutRange
import Derived.Lib.SlBytesConst
import Derived.Test.YtiblambiebojmaaWG1
import Derived.Test.YtiblambiebojmaaWG2
import Derived.Test.YtiblambiebojmaaWG3
import Derived.Test.YtiblambiebojmaaWG4
set_option linter.unusedVariables false
set_option linter.unusedSimpArgs false
set_option linter.unusedVariables false
set_option linter.unusedSimpArgs false
set_option maxRecDepth 100000
namespace Go.Proofs.Ytiblambiebojmaa
open Go.RowKit Go.Deep

set_option maxHeartbeats 8000000 in
theorem oValue_any {W0 w : World} {KK : List (Nat × Obj)} {a : Nat} {l : List UInt8} {v0 v1 v2 : Value} {b0 b1 b2 : List UInt8} (h : St 73 W0 KK a w l) (e0 : Enc W0 .int [v0] b0) (e1 : Enc W0 .int [v1] b1) (e2 : Enc W0 .name [v2] b2) (hl : l.length + (b0 ++ (b1 ++ b2)).length ≤ 1000000000000) :
    Calls Try.prog 75 #[.pointer (some ⟨a, 0, none⟩), .agg #[v0, v1, v2]] w (Wrote 73 W0 KK a l (b0 ++ (b1 ++ b2))) := by
  have H0 := hid (h.box #[v0, v1, v2] 131)
  have HL0 : Hid (l.length + (b0 ++ (b1 ++ b2)).length ≤ 1000000000000) := hid (by simpa only [List.append_assoc] using hl)
  have E0 := hid e0
  have E1 := hid e1
  have E2 := hid e2
  clear h hl e0 e1 e2
  go_enter Try.func75, Try.ntmps75
  go_upto_region 1 with fail
  generalize w.alloc (.cells #[v0, v1, v2] 131) = w0 at *
  obtain ⟨B, hB⟩ : ∃ B, B = w.heap.size := ⟨_, rfl⟩
  rw [← hB] at H0 ⊢
  clear hB
  have x0 := box_cell H0.out 0 v0 rfl
  have HN0 := hid (len_now HL0.out)
  have HL1 := hid (len_step HL0.out)
  go_upto_region 2 with (first | (go_at_call 26; refine (ointE H0.out E0.out HN0.out).mono ?_; rintro en w1 ⟨rfl, h1⟩; have H1 := hid h1; clear h1))
  clear x0
  have x1 := box_cell H1.out 1 v1 rfl
  have HN1 := hid (len_now HL1.out)
  have HL2 := hid (len_step HL1.out)
  go_upto_region 3 with (first | (go_at_call 99; refine (owideE H1.out E1.out HN1.out).mono ?_; rintro en w2 ⟨rfl, h2⟩; have H2 := hid h2; clear h2))
  clear x1
  have x2 := box_cell H2.out 2 v2 rfl
  go_wp2_with (first | (go_at_call 34; refine (otextE H2.out E2.out HL2.out).mono ?_; rintro en w3 ⟨rfl, h3⟩; have H3 := hid h3; clear h3))
  clear x2
  go_end0
  exact ⟨rfl, by simpa only [List.append_assoc] using H3.out.drop⟩

set_option maxHeartbeats 4000000 in
theorem oints_any {W0 w : World} {KK : List (Nat × Obj)} {a : Nat} {l : List UInt8} {v : Value} {b : List UInt8} (h : St 73 W0 KK a w l) (e : Enc W0 (.list .int) [v] b) (hl : l.length + b.length ≤ 1000000000000) :
    Calls Try.prog 66 #[.pointer (some ⟨a, 0, none⟩), v] w (Wrote 73 W0 KK a l b) := by
  obtain ⟨ao, n, c, M, rfl, hL, rfl⟩ := list_open e
  obtain ⟨hcap, hn6, hn64, hw⟩ := hL.cap
  have HLst := hid hL
  have HL := hid hl
  have C0 := hid (onum_any h n hn64 (by have := HL.out; simp only [List.length_append] at this ⊢; omega))
  clear h e hl hL hn64
  go_enter Try.func66, Try.ntmps66
  go_wp2_with (first | (go_at_call 23; refine C0.out.mono ?_; rintro en w1 ⟨rfl, h1⟩; have H1 := hid h1; clear h1))
  clear hw C0
  go_loopw [4] (fun i wr => ∃ k, k ≤ n ∧ i = .int .i64 (k : Int) ∧ St 73 W0 KK a wr ((l ++ numL n) ++ takeB M k)) (fun i _ => n - (intOf i).toNat)
  case atStart => exact ⟨0, by omega, rfl, by rw [takeB_zero, List.append_nil]; exact H1.out⟩
  case round =>
    obtain ⟨k, hk, rfl, hst⟩ := hrel
    have HS := hid hst
    clear hst
    by_cases hlt : k < n
    · obtain ⟨⟨mc, mb⟩, bk, off, hm, rfl, hcell, htk, hle⟩ := HLst.out.get (by decide) hlt
      simp only at hm hcell htk hle
      obtain ⟨u0, rfl⟩ := one_of hm rfl
      have f0 := hm
      have HX := hid hle
      have HT := hid htk
      have hki : (k : Int) < (n : Int) := by omega
      have d0 := hcell _ HS.out.below 0 u0 rfl
      rw [show Sh.wid .int = 1 from rfl, Nat.mul_one, Nat.add_zero] at d0
      have C := hid (ointE HS.out f0 (by have := HL.out; have := HX.out; simp only [List.length_append] at *; omega))
      clear htk hle hcell hm
      go_wp2_with (first | (go_at_call 26; refine C.out.mono ?_; rintro en w2 ⟨rfl, h2⟩; have H2x := hid h2; clear h2))
      go_roundw
      case rel => exact ⟨k + 1, by omega, by go_num, by rw [HT.out, ← List.append_assoc]; exact H2x.out⟩
      case measure => simp [intOf]; omega
    · obtain rfl : n = k := by omega
      have hki : ¬ (n : Int) < (n : Int) := by omega
      go_wp2_with fail
      go_end0
      exact ⟨rfl, by rw [← List.append_assoc]; exact HS.out⟩

set_option maxHeartbeats 8000000 in
theorem oColumn_any {W0 w : World} {KK : List (Nat × Obj)} {a : Nat} {l : List UInt8} {v0 v1 v2 : Value} {b0 b1 b2 : List UInt8} (h : St 73 W0 KK a w l) (e0 : Enc W0 .name [v0] b0) (e1 : Enc W0 .int [v1] b1) (e2 : Enc W0 .bool [v2] b2) (hl : l.length + (b0 ++ (b1 ++ b2)).length ≤ 1000000000000) :
    Calls Try.prog 65 #[.pointer (some ⟨a, 0, none⟩), .agg #[v0, v1, v2]] w (Wrote 73 W0 KK a l (b0 ++ (b1 ++ b2))) := by
  have H0 := hid (h.box #[v0, v1, v2] 120)
  have HL0 : Hid (l.length + (b0 ++ (b1 ++ b2)).length ≤ 1000000000000) := hid (by simpa only [List.append_assoc] using hl)
  have E0 := hid e0
  have E1 := hid e1
  have E2 := hid e2
  clear h hl e0 e1 e2
  go_enter Try.func65, Try.ntmps65
  go_upto_region 1 with fail
  generalize w.alloc (.cells #[v0, v1, v2] 120) = w0 at *
  obtain ⟨B, hB⟩ : ∃ B, B = w.heap.size := ⟨_, rfl⟩
  rw [← hB] at H0 ⊢
  clear hB
  have x0 := box_cell H0.out 0 v0 rfl
  have HN0 := hid (len_now HL0.out)
  have HL1 := hid (len_step HL0.out)
  go_upto_region 2 with (first | (go_at_call 34; refine (otextE H0.out E0.out HN0.out).mono ?_; rintro en w1 ⟨rfl, h1⟩; have H1 := hid h1; clear h1))
  clear x0
  have x1 := box_cell H1.out 1 v1 rfl
  have HN1 := hid (len_now HL1.out)
  have HL2 := hid (len_step HL1.out)
  go_upto_region 3 with (first | (go_at_call 26; refine (ointE H1.out E1.out HN1.out).mono ?_; rintro en w2 ⟨rfl, h2⟩; have H2 := hid h2; clear h2))
  clear x1
  have x2 := box_cell H2.out 2 v2 rfl
  go_wp2_with (first | (go_at_call 27; refine (oboolE H2.out E2.out HL2.out).mono ?_; rintro en w3 ⟨rfl, h3⟩; have H3 := hid h3; clear h3))
  clear x2
  go_end0
  exact ⟨rfl, by simpa only [List.append_assoc] using H3.out.drop⟩

set_option maxHeartbeats 8000000 in
theorem oTable_any {W0 w : World} {KK : List (Nat × Obj)} {a : Nat} {l : List UInt8} {v0 v1 v2 v3 : Value} {b0 b1 b2 b3 : List UInt8} (h : St 73 W0 KK a w l) (e0 : Enc W0 .int [v0] b0) (e1 : Enc W0 .name [v1] b1) (e2 : Enc W0 (.list sColumn) [v2] b2) (e3 : Enc W0 (.list .int) [v3] b3) (hl : l.length + (b0 ++ (b1 ++ (b2 ++ b3))).length ≤ 1000000000000) :
    Calls Try.prog 32 #[.pointer (some ⟨a, 0, none⟩), .agg #[v0, v1, v2, v3]] w (Wrote 73 W0 KK a l (b0 ++ (b1 ++ (b2 ++ b3)))) := by
  obtain ⟨ao2, n2, cc2, M2, rfl, hL2, rfl⟩ := list_open e2
  have HLst2 := hid hL2
  clear hL2
  have H0 := hid (h.box #[v0, v1, (.slice ao2 n2 cc2), v3] 34)
  have HL0 : Hid (l.length + (b0 ++ (b1 ++ (numL n2 ++ (takeB M2 n2 ++ b3)))).length ≤ 1000000000000) := hid (by simpa only [List.append_assoc] using hl)
  have E0 := hid e0
  have E1 := hid e1
  have E3 := hid e3
  clear h hl e0 e1 e2 e3
  go_enter Try.func32, Try.ntmps32
  go_upto_region 1 with fail
  generalize w.alloc (.cells #[v0, v1, (.slice ao2 n2 cc2), v3] 34) = w0 at *
  obtain ⟨B, hB⟩ : ∃ B, B = w.heap.size := ⟨_, rfl⟩
  rw [← hB] at H0 ⊢
  clear hB
  have x0 := box_cell H0.out 0 v0 rfl
  have HN0 := hid (len_now HL0.out)
  have HL1 := hid (len_step HL0.out)
  go_upto_region 2 with (first | (go_at_call 26; refine (ointE H0.out E0.out HN0.out).mono ?_; rintro en w1 ⟨rfl, h1⟩; have H1 := hid h1; clear h1))
  clear x0
  have x1 := box_cell H1.out 1 v1 rfl
  have HN1 := hid (len_now HL1.out)
  have HL2 := hid (len_step HL1.out)
  go_upto_region 3 with (first | (go_at_call 34; refine (otextE H1.out E1.out HN1.out).mono ?_; rintro en w2 ⟨rfl, h2⟩; have H2 := hid h2; clear h2))
  clear x1
  have x2 := box_cell H2.out 2 (.slice ao2 n2 cc2) rfl
  obtain ⟨hcap, hn6, hn64, hw⟩ := HLst2.out.cap
  have HN2 := hid (len_now HL2.out)
  have HL3 := hid (len_step HL2.out)
  have C0 := hid (onum_any H2.out n2 hn64 HN2.out)
  clear hn64
  go_wp2_with (first | (go_at_call 23; refine C0.out.mono ?_; rintro en w3 ⟨rfl, h3⟩; have H3 := hid h3; clear h3))
  clear hw C0 x2
  have HN3 := hid (len_now HL3.out)
  have HL4 := hid (len_step HL3.out)
  have HL := hid (HN3.out)
  go_loopw [4] (fun i wr => ∃ k, k ≤ n2 ∧ i = .int .i64 (k : Int) ∧ St 73 W0 ((B, .cells #[v0, v1, (.slice ao2 n2 cc2), v3] 34 (0, 0)) :: KK) a wr ((((l ++ b0) ++ b1) ++ numL n2) ++ takeB M2 k)) (fun i _ => n2 - (intOf i).toNat)
  case atStart => exact ⟨0, by omega, rfl, by rw [takeB_zero, List.append_nil]; exact H3.out⟩
  case round =>
    obtain ⟨k, hk, rfl, hst⟩ := hrel
    have HS := hid hst
    clear hst
    by_cases hlt : k < n2
    · obtain ⟨⟨mc, mb⟩, bk, off, hm, rfl, hcell, htk, hle⟩ := HLst2.out.get (by decide) hlt
      simp only at hm hcell htk hle
      have xs := box_cell HS.out 2 _ rfl
      obtain ⟨u0, u1, u2, p0, p1, p2, rfl, rfl, f0, f1, f2⟩ := Column_cells hm
      have HX := hid hle
      have HT := hid htk
      have hki : (k : Int) < (n2 : Int) := by omega
      have d0 := hcell _ HS.out.below 0 u0 rfl
      rw [show Sh.wid sColumn = 3 from rfl, Nat.add_zero] at d0
      have d1 := hcell _ HS.out.below 1 u1 rfl
      rw [show Sh.wid sColumn = 3 from rfl] at d1
      have d2 := hcell _ HS.out.below 2 u2 rfl
      rw [show Sh.wid sColumn = 3 from rfl] at d2
      have C := hid (oColumn_any HS.out f0 f1 f2 (by have := HL.out; have := HX.out; simp only [List.length_append] at *; omega))
      clear htk hle hcell hm
      go_wp2_with (first | (go_at_call 65; refine C.out.mono ?_; rintro en w2 ⟨rfl, h2⟩; have H2x := hid h2; clear h2))
      go_roundw
      case rel => exact ⟨k + 1, by omega, by go_num, by rw [HT.out, ← List.append_assoc]; exact H2x.out⟩
      case measure => simp [intOf]; omega
    · obtain rfl : n2 = k := by omega
      have hki : ¬ (n2 : Int) < (n2 : Int) := by omega
      have xs := box_cell HS.out 2 _ rfl
      have H4 := HS
      clear HS hlt hk HL
      go_upto_region 8 with fail
      clear xs hki hcap hn6
      have x3 := box_cell H4.out 3 v3 rfl
      go_wp2_with (first | (go_at_call 66; refine (oints_any H4.out E3.out HL4.out).mono ?_; rintro en w5 ⟨rfl, h5⟩; have H5 := hid h5; clear h5))
      clear x3
      go_end0
      exact ⟨rfl, by simpa only [List.append_assoc] using H5.out.drop⟩

end Go.Proofs.Ytiblambiebojmaa

set_option linter.unusedVariables false
set_option linter.unusedSimpArgs false
set_option maxRecDepth 100000
namespace Go.Proofs.Ytiblambiebojmaa
open Go.RowKit Go.Deep

set_option maxHeartbeats 8000000 in
theorem oIndex_any {W0 w : World} {KK : List (Nat × Obj)} {a : Nat} {l : List UInt8} {v0 v1 v2 v3 v4 v5 v6 : Value} {b0 b1 b2 b3 b4 b5 b6 : List UInt8} (h : St 73 W0 KK a w l) (e0 : Enc W0 .int [v0] b0) (e1 : Enc W0 .int [v1] b1) (e2 : Enc W0 .name [v2] b2) (e3 : Enc W0 (.list .int) [v3] b3) (e4 : Enc W0 .bool [v4] b4) (e5 : Enc W0 .int [v5] b5) (e6 : Enc W0 .bool [v6] b6) (hl : l.length + (b0 ++ (b1 ++ (b2 ++ (b3 ++ (b4 ++ (b5 ++ b6)))))).length ≤ 1000000000000) :
    Calls Try.prog 33 #[.pointer (some ⟨a, 0, none⟩), .agg #[v0, v1, v2, v3, v4, v5, v6]] w (Wrote 73 W0 KK a l (b0 ++ (b1 ++ (b2 ++ (b3 ++ (b4 ++ (b5 ++ b6))))))) := by
  have H0 := hid (h.box #[v0, v1, v2, v3, v4, v5, v6] 36)
  have HL0 : Hid (l.length + (b0 ++ (b1 ++ (b2 ++ (b3 ++ (b4 ++ (b5 ++ b6)))))).length ≤ 1000000000000) := hid (by simpa only [List.append_assoc] using hl)
  have E0 := hid e0
  have E1 := hid e1
  have E2 := hid e2
  have E3 := hid e3
  have E4 := hid e4
  have E5 := hid e5
  have E6 := hid e6
  clear h hl e0 e1 e2 e3 e4 e5 e6
  go_enter Try.func33, Try.ntmps33
  go_upto_region 1 with fail
  generalize w.alloc (.cells #[v0, v1, v2, v3, v4, v5, v6] 36) = w0 at *
  obtain ⟨B, hB⟩ : ∃ B, B = w.heap.size := ⟨_, rfl⟩
  rw [← hB] at H0 ⊢
  clear hB
  have x0 := box_cell H0.out 0 v0 rfl
  have HN0 := hid (len_now HL0.out)
  have HL1 := hid (len_step HL0.out)
  go_upto_region 2 with (first | (go_at_call 26; refine (ointE H0.out E0.out HN0.out).mono ?_; rintro en w1 ⟨rfl, h1⟩; have H1 := hid h1; clear h1))
  clear x0
  have x1 := box_cell H1.out 1 v1 rfl
  have HN1 := hid (len_now HL1.out)
  have HL2 := hid (len_step HL1.out)
  go_upto_region 3 with (first | (go_at_call 26; refine (ointE H1.out E1.out HN1.out).mono ?_; rintro en w2 ⟨rfl, h2⟩; have H2 := hid h2; clear h2))
  clear x1
  have x2 := box_cell H2.out 2 v2 rfl
  have HN2 := hid (len_now HL2.out)
  have HL3 := hid (len_step HL2.out)
  go_upto_region 4 with (first | (go_at_call 34; refine (otextE H2.out E2.out HN2.out).mono ?_; rintro en w3 ⟨rfl, h3⟩; have H3 := hid h3; clear h3))
  clear x2
  have x3 := box_cell H3.out 3 v3 rfl
  have HN3 := hid (len_now HL3.out)
  have HL4 := hid (len_step HL3.out)
  go_upto_region 5 with (first | (go_at_call 66; refine (oints_any H3.out E3.out HN3.out).mono ?_; rintro en w4 ⟨rfl, h4⟩; have H4 := hid h4; clear h4))
  clear x3
  have x4 := box_cell H4.out 4 v4 rfl
  have HN4 := hid (len_now HL4.out)
  have HL5 := hid (len_step HL4.out)
  go_upto_region 6 with (first | (go_at_call 27; refine (oboolE H4.out E4.out HN4.out).mono ?_; rintro en w5 ⟨rfl, h5⟩; have H5 := hid h5; clear h5))
  clear x4
  have x5 := box_cell H5.out 5 v5 rfl
  have HN5 := hid (len_now HL5.out)
  have HL6 := hid (len_step HL5.out)
  go_upto_region 7 with (first | (go_at_call 26; refine (ointE H5.out E5.out HN5.out).mono ?_; rintro en w6 ⟨rfl, h6⟩; have H6 := hid h6; clear h6))
  clear x5
  have x6 := box_cell H6.out 6 v6 rfl
  go_wp2_with (first | (go_at_call 27; refine (oboolE H6.out E6.out HL6.out).mono ?_; rintro en w7 ⟨rfl, h7⟩; have H7 := hid h7; clear h7))
  clear x6
  go_end0
  exact ⟨rfl, by simpa only [List.append_assoc] using H7.out.drop⟩

set_option maxHeartbeats 8000000 in
theorem oCatalog_any {W0 w : World} {KK : List (Nat × Obj)} {a : Nat} {l : List UInt8} {v0 v1 v2 v3 : Value} {b0 b1 b2 b3 : List UInt8} (h : St 73 W0 KK a w l) (e0 : Enc W0 .int [v0] b0) (e1 : Enc W0 .int [v1] b1) (e2 : Enc W0 (.list sTable) [v2] b2) (e3 : Enc W0 (.list sIndex) [v3] b3) (hl : l.length + (b0 ++ (b1 ++ (b2 ++ b3))).length ≤ 1000000000000) :
    Calls Try.prog 36 #[.pointer (some ⟨a, 0, none⟩), .agg #[v0, v1, v2, v3]] w (Wrote 73 W0 KK a l (b0 ++ (b1 ++ (b2 ++ b3)))) := by
  obtain ⟨ao2, n2, cc2, M2, rfl, hL2, rfl⟩ := list_open e2
  have HLst2 := hid hL2
  clear hL2
  obtain ⟨ao3, n3, cc3, M3, rfl, hL3, rfl⟩ := list_open e3
  have HLst3 := hid hL3
  clear hL3
  have H0 := hid (h.box #[v0, v1, (.slice ao2 n2 cc2), (.slice ao3 n3 cc3)] 44)
  have HL0 : Hid (l.length + (b0 ++ (b1 ++ (numL n2 ++ (takeB M2 n2 ++ (numL n3 ++ takeB M3 n3))))).length ≤ 1000000000000) := hid (by simpa only [List.append_assoc] using hl)
  have E0 := hid e0
  have E1 := hid e1
  clear h hl e0 e1 e2 e3
  go_enter Try.func36, Try.ntmps36
  go_upto_region 1 with fail
  generalize w.alloc (.cells #[v0, v1, (.slice ao2 n2 cc2), (.slice ao3 n3 cc3)] 44) = w0 at *
  obtain ⟨B, hB⟩ : ∃ B, B = w.heap.size := ⟨_, rfl⟩
  rw [← hB] at H0 ⊢
  clear hB
  have x0 := box_cell H0.out 0 v0 rfl
  have HN0 := hid (len_now HL0.out)
  have HL1 := hid (len_step HL0.out)
  go_upto_region 2 with (first | (go_at_call 26; refine (ointE H0.out E0.out HN0.out).mono ?_; rintro en w1 ⟨rfl, h1⟩; have H1 := hid h1; clear h1))
  clear x0
  have x1 := box_cell H1.out 1 v1 rfl
  have HN1 := hid (len_now HL1.out)
  have HL2 := hid (len_step HL1.out)
  go_upto_region 3 with (first | (go_at_call 26; refine (ointE H1.out E1.out HN1.out).mono ?_; rintro en w2 ⟨rfl, h2⟩; have H2 := hid h2; clear h2))
  clear x1
  have x2 := box_cell H2.out 2 (.slice ao2 n2 cc2) rfl
  obtain ⟨hcap, hn6, hn64, hw⟩ := HLst2.out.cap
  have HN2 := hid (len_now HL2.out)
  have HL3 := hid (len_step HL2.out)
  have C0 := hid (onum_any H2.out n2 hn64 HN2.out)
  clear hn64
  go_wp2_with (first | (go_at_call 23; refine C0.out.mono ?_; rintro en w3 ⟨rfl, h3⟩; have H3 := hid h3; clear h3))
  clear hw C0 x2
  have HN3 := hid (len_now HL3.out)
  have HL4 := hid (len_step HL3.out)
  have HL := hid (HN3.out)
  go_loopw [4] (fun i wr => ∃ k, k ≤ n2 ∧ i = .int .i64 (k : Int) ∧ St 73 W0 ((B, .cells #[v0, v1, (.slice ao2 n2 cc2), (.slice ao3 n3 cc3)] 44 (0, 0)) :: KK) a wr ((((l ++ b0) ++ b1) ++ numL n2) ++ takeB M2 k)) (fun i _ => n2 - (intOf i).toNat)
  case atStart => exact ⟨0, by omega, rfl, by rw [takeB_zero, List.append_nil]; exact H3.out⟩
  case round =>
    obtain ⟨k, hk, rfl, hst⟩ := hrel
    have HS := hid hst
    clear hst
    by_cases hlt : k < n2
    · obtain ⟨⟨mc, mb⟩, bk, off, hm, rfl, hcell, htk, hle⟩ := HLst2.out.get (by decide) hlt
      simp only at hm hcell htk hle
      have xs := box_cell HS.out 2 _ rfl
      obtain ⟨u0, u1, u2, u3, p0, p1, p2, p3, rfl, rfl, f0, f1, f2, f3⟩ := Table_cells hm
      have HX := hid hle
      have HT := hid htk
      have hki : (k : Int) < (n2 : Int) := by omega
      have d0 := hcell _ HS.out.below 0 u0 rfl
      rw [show Sh.wid sTable = 4 from rfl, Nat.add_zero] at d0
      have d1 := hcell _ HS.out.below 1 u1 rfl
      rw [show Sh.wid sTable = 4 from rfl] at d1
      have d2 := hcell _ HS.out.below 2 u2 rfl
      rw [show Sh.wid sTable = 4 from rfl] at d2
      have d3 := hcell _ HS.out.below 3 u3 rfl
      rw [show Sh.wid sTable = 4 from rfl] at d3
      have C := hid (oTable_any HS.out f0 f1 f2 f3 (by have := HL.out; have := HX.out; simp only [List.length_append] at *; omega))
      clear htk hle hcell hm
      go_wp2_with (first | (go_at_call 32; refine C.out.mono ?_; rintro en w2 ⟨rfl, h2⟩; have H2x := hid h2; clear h2))
      go_roundw
      case rel => exact ⟨k + 1, by omega, by go_num, by rw [HT.out, ← List.append_assoc]; exact H2x.out⟩
      case measure => simp [intOf]; omega
    · obtain rfl : n2 = k := by omega
      have hki : ¬ (n2 : Int) < (n2 : Int) := by omega
      have xs := box_cell HS.out 2 _ rfl
      have H4 := HS
      clear HS hlt hk HL
      go_upto_region 8 with fail
      clear xs hki hcap hn6
      have x3 := box_cell H4.out 3 (.slice ao3 n3 cc3) rfl
      obtain ⟨hcap, hn6, hn64, hw⟩ := HLst3.out.cap
      have HN4 := hid (len_now HL4.out)
      have HL5 := hid (len_step HL4.out)
      have C0 := hid (onum_any H4.out n3 hn64 HN4.out)
      clear hn64
      go_wp2_with (first | (go_at_call 23; refine C0.out.mono ?_; rintro en w5 ⟨rfl, h5⟩; have H5 := hid h5; clear h5))
      clear hw C0 x3
      have HL := hid (HL5.out)
      go_loopw [5] (fun i wr => ∃ k, k ≤ n3 ∧ i = .int .i64 (k : Int) ∧ St 73 W0 ((B, .cells #[v0, v1, (.slice ao2 n2 cc2), (.slice ao3 n3 cc3)] 44 (0, 0)) :: KK) a wr ((((((l ++ b0) ++ b1) ++ numL n2) ++ takeB M2 n2) ++ numL n3) ++ takeB M3 k)) (fun i _ => n3 - (intOf i).toNat)
      case atStart => exact ⟨0, by omega, rfl, by rw [takeB_zero, List.append_nil]; exact H5.out⟩
      case round =>
        obtain ⟨k, hk, rfl, hst⟩ := hrel
        have HS := hid hst
        clear hst
        by_cases hlt : k < n3
        · obtain ⟨⟨mc, mb⟩, bk, off, hm, rfl, hcell, htk, hle⟩ := HLst3.out.get (by decide) hlt
          simp only at hm hcell htk hle
          have xs := box_cell HS.out 3 _ rfl
          obtain ⟨u0, u1, u2, u3, u4, u5, u6, p0, p1, p2, p3, p4, p5, p6, rfl, rfl, f0, f1, f2, f3, f4, f5, f6⟩ := Index_cells hm
          have HX := hid hle
          have HT := hid htk
          have hki : (k : Int) < (n3 : Int) := by omega
          have d0 := hcell _ HS.out.below 0 u0 rfl
          rw [show Sh.wid sIndex = 7 from rfl, Nat.add_zero] at d0
          have d1 := hcell _ HS.out.below 1 u1 rfl
          rw [show Sh.wid sIndex = 7 from rfl] at d1
          have d2 := hcell _ HS.out.below 2 u2 rfl
          rw [show Sh.wid sIndex = 7 from rfl] at d2
          have d3 := hcell _ HS.out.below 3 u3 rfl
          rw [show Sh.wid sIndex = 7 from rfl] at d3
          have d4 := hcell _ HS.out.below 4 u4 rfl
          rw [show Sh.wid sIndex = 7 from rfl] at d4
          have d5 := hcell _ HS.out.below 5 u5 rfl
          rw [show Sh.wid sIndex = 7 from rfl] at d5
          have d6 := hcell _ HS.out.below 6 u6 rfl
          rw [show Sh.wid sIndex = 7 from rfl] at d6
          have C := hid (oIndex_any HS.out f0 f1 f2 f3 f4 f5 f6 (by have := HL.out; have := HX.out; simp only [List.length_append] at *; omega))
          clear htk hle hcell hm
          go_wp2_with (first | (go_at_call 33; refine C.out.mono ?_; rintro en w2 ⟨rfl, h2⟩; have H2x := hid h2; clear h2))
          go_roundw
          case rel => exact ⟨k + 1, by omega, by go_num, by rw [HT.out, ← List.append_assoc]; exact H2x.out⟩
          case measure => simp [intOf]; omega
        · obtain rfl : n3 = k := by omega
          have hki : ¬ (n3 : Int) < (n3 : Int) := by omega
          have xs := box_cell HS.out 3 _ rfl
          have H6 := HS
          clear HS hlt hk HL
          go_wp2_with fail
          go_end0
          exact ⟨rfl, by simpa only [List.append_assoc] using H6.out.drop⟩

end Go.Proofs.Ytiblambiebojmaa

set_option linter.unusedVariables false
set_option linter.unusedSimpArgs false
set_option maxRecDepth 100000
namespace Go.Proofs.Ytiblambiebojmaa
open Go.RowKit Go.Deep

set_option maxHeartbeats 8000000 in
theorem oPair_any {W0 w : World} {KK : List (Nat × Obj)} {a : Nat} {l : List UInt8} {v0 v1 v2 : Value} {b0 b1 b2 : List UInt8} (h : St 73 W0 KK a w l) (e0 : Enc W0 .data [v0] b0) (e1 : Enc W0 .data [v1] b1) (e2 : Enc W0 .int [v2] b2) (hl : l.length + (b0 ++ (b1 ++ b2)).length ≤ 1000000000000) :
    Calls Try.prog 29 #[.pointer (some ⟨a, 0, none⟩), .agg #[v0, v1, v2]] w (Wrote 73 W0 KK a l (b0 ++ (b1 ++ b2))) := by
  have H0 := hid (h.box #[v0, v1, v2] 82)
  have HL0 : Hid (l.length + (b0 ++ (b1 ++ b2)).length ≤ 1000000000000) := hid (by simpa only [List.append_assoc] using hl)
  have E0 := hid e0
  have E1 := hid e1
  have E2 := hid e2
  clear h hl e0 e1 e2
  go_enter Try.func29, Try.ntmps29
  go_upto_region 1 with fail
  generalize w.alloc (.cells #[v0, v1, v2] 82) = w0 at *
  obtain ⟨B, hB⟩ : ∃ B, B = w.heap.size := ⟨_, rfl⟩
  rw [← hB] at H0 ⊢
  clear hB
  have x0 := box_cell H0.out 0 v0 rfl
  have HN0 := hid (len_now HL0.out)
  have HL1 := hid (len_step HL0.out)
  go_upto_region 2 with (first | (go_at_call 24; refine (obytesE H0.out E0.out HN0.out).mono ?_; rintro en w1 ⟨rfl, h1⟩; have H1 := hid h1; clear h1))
  clear x0
  have x1 := box_cell H1.out 1 v1 rfl
  have HN1 := hid (len_now HL1.out)
  have HL2 := hid (len_step HL1.out)
  go_upto_region 3 with (first | (go_at_call 24; refine (obytesE H1.out E1.out HN1.out).mono ?_; rintro en w2 ⟨rfl, h2⟩; have H2 := hid h2; clear h2))
  clear x1
  have x2 := box_cell H2.out 2 v2 rfl
  go_wp2_with (first | (go_at_call 26; refine (ointE H2.out E2.out HL2.out).mono ?_; rintro en w3 ⟨rfl, h3⟩; have H3 := hid h3; clear h3))
  clear x2
  go_end0
  exact ⟨rfl, by simpa only [List.append_assoc] using H3.out.drop⟩

set_option maxHeartbeats 8000000 in
theorem oWrite_any {W0 w : World} {KK : List (Nat × Obj)} {a : Nat} {l : List UInt8} {v0 v1 v2 : Value} {b0 b1 b2 : List UInt8} (h : St 73 W0 KK a w l) (e0 : Enc W0 .data [v0] b0) (e1 : Enc W0 .data [v1] b1) (e2 : Enc W0 .bool [v2] b2) (hl : l.length + (b0 ++ (b1 ++ b2)).length ≤ 1000000000000) :
    Calls Try.prog 31 #[.pointer (some ⟨a, 0, none⟩), .agg #[v0, v1, v2]] w (Wrote 73 W0 KK a l (b0 ++ (b1 ++ b2))) := by
  have H0 := hid (h.box #[v0, v1, v2] 88)
  have HL0 : Hid (l.length + (b0 ++ (b1 ++ b2)).length ≤ 1000000000000) := hid (by simpa only [List.append_assoc] using hl)
  have E0 := hid e0
  have E1 := hid e1
  have E2 := hid e2
  clear h hl e0 e1 e2
  go_enter Try.func31, Try.ntmps31
  go_upto_region 1 with fail
  generalize w.alloc (.cells #[v0, v1, v2] 88) = w0 at *
  obtain ⟨B, hB⟩ : ∃ B, B = w.heap.size := ⟨_, rfl⟩
  rw [← hB] at H0 ⊢
  clear hB
  have x0 := box_cell H0.out 0 v0 rfl
  have HN0 := hid (len_now HL0.out)
  have HL1 := hid (len_step HL0.out)
  go_upto_region 2 with (first | (go_at_call 24; refine (obytesE H0.out E0.out HN0.out).mono ?_; rintro en w1 ⟨rfl, h1⟩; have H1 := hid h1; clear h1))
  clear x0
  have x1 := box_cell H1.out 1 v1 rfl
  have HN1 := hid (len_now HL1.out)
  have HL2 := hid (len_step HL1.out)
  go_upto_region 3 with (first | (go_at_call 24; refine (obytesE H1.out E1.out HN1.out).mono ?_; rintro en w2 ⟨rfl, h2⟩; have H2 := hid h2; clear h2))
  clear x1
  have x2 := box_cell H2.out 2 v2 rfl
  go_wp2_with (first | (go_at_call 27; refine (oboolE H2.out E2.out HL2.out).mono ?_; rintro en w3 ⟨rfl, h3⟩; have H3 := hid h3; clear h3))
  clear x2
  go_end0
  exact ⟨rfl, by simpa only [List.append_assoc] using H3.out.drop⟩

set_option maxHeartbeats 8000000 in
theorem oSpan_any {W0 w : World} {KK : List (Nat × Obj)} {a : Nat} {l : List UInt8} {v0 v1 : Value} {b0 b1 : List UInt8} (h : St 73 W0 KK a w l) (e0 : Enc W0 .data [v0] b0) (e1 : Enc W0 .data [v1] b1) (hl : l.length + (b0 ++ b1).length ≤ 1000000000000) :
    Calls Try.prog 28 #[.pointer (some ⟨a, 0, none⟩), .agg #[v0, v1]] w (Wrote 73 W0 KK a l (b0 ++ b1)) := by
  have H0 := hid (h.box #[v0, v1] 27)
  have HL0 : Hid (l.length + (b0 ++ b1).length ≤ 1000000000000) := hid (by simpa only [List.append_assoc] using hl)
  have E0 := hid e0
  have E1 := hid e1
  clear h hl e0 e1
  go_enter Try.func28, Try.ntmps28
  go_upto_region 1 with fail
  generalize w.alloc (.cells #[v0, v1] 27) = w0 at *
  obtain ⟨B, hB⟩ : ∃ B, B = w.heap.size := ⟨_, rfl⟩
  rw [← hB] at H0 ⊢
  clear hB
  have x0 := box_cell H0.out 0 v0 rfl
  have HN0 := hid (len_now HL0.out)
  have HL1 := hid (len_step HL0.out)
  go_upto_region 2 with (first | (go_at_call 24; refine (obytesE H0.out E0.out HN0.out).mono ?_; rintro en w1 ⟨rfl, h1⟩; have H1 := hid h1; clear h1))
  clear x0
  have x1 := box_cell H1.out 1 v1 rfl
  go_wp2_with (first | (go_at_call 24; refine (obytesE H1.out E1.out HL1.out).mono ?_; rintro en w2 ⟨rfl, h2⟩; have H2 := hid h2; clear h2))
  clear x1
  go_end0
  exact ⟨rfl, by simpa only [List.append_assoc] using H2.out.drop⟩

set_option maxHeartbeats 8000000 in
theorem oSeen_any {W0 w : World} {KK : List (Nat × Obj)} {a : Nat} {l : List UInt8} {v0 v1 v2 : Value} {b0 b1 b2 : List UInt8} (h : St 73 W0 KK a w l) (e0 : Enc W0 .data [v0] b0) (e1 : Enc W0 .data [v1] b1) (e2 : Enc W0 (.list sPair) [v2] b2) (hl : l.length + (b0 ++ (b1 ++ b2)).length ≤ 1000000000000) :
    Calls Try.prog 30 #[.pointer (some ⟨a, 0, none⟩), .agg #[v0, v1, v2]] w (Wrote 73 W0 KK a l (b0 ++ (b1 ++ b2))) := by
  obtain ⟨ao2, n2, cc2, M2, rfl, hL2, rfl⟩ := list_open e2
  have HLst2 := hid hL2
  clear hL2
  have H0 := hid (h.box #[v0, v1, (.slice ao2 n2 cc2)] 85)
  have HL0 : Hid (l.length + (b0 ++ (b1 ++ (numL n2 ++ takeB M2 n2))).length ≤ 1000000000000) := hid (by simpa only [List.append_assoc] using hl)
  have E0 := hid e0
  have E1 := hid e1
  clear h hl e0 e1 e2
  go_enter Try.func30, Try.ntmps30
  go_upto_region 1 with fail
  generalize w.alloc (.cells #[v0, v1, (.slice ao2 n2 cc2)] 85) = w0 at *
  obtain ⟨B, hB⟩ : ∃ B, B = w.heap.size := ⟨_, rfl⟩
  rw [← hB] at H0 ⊢
  clear hB
  have x0 := box_cell H0.out 0 v0 rfl
  have x1 := box_cell H0.out 1 v1 rfl
  have HG0 : Hid (l.length + ((b0 ++ b1) ++ (numL n2 ++ takeB M2 n2)).length ≤ 1000000000000) := hid (by simpa only [List.append_assoc] using HL0.out)
  have HN0 := hid (len_now HG0.out)
  have HL1 := hid (len_step HG0.out)
  go_upto_region 2 with (first | (go_at_call 28; refine (oSpan_any H0.out E0.out E1.out HN0.out).mono ?_; rintro en w1 ⟨rfl, h1⟩; have H1 := hid h1; clear h1))
  clear x0 x1
  have x2 := box_cell H1.out 2 (.slice ao2 n2 cc2) rfl
  obtain ⟨hcap, hn6, hn64, hw⟩ := HLst2.out.cap
  have HN1 := hid (len_now HL1.out)
  have HL2 := hid (len_step HL1.out)
  have C0 := hid (onum_any H1.out n2 hn64 HN1.out)
  clear hn64
  go_wp2_with (first | (go_at_call 23; refine C0.out.mono ?_; rintro en w2 ⟨rfl, h2⟩; have H2 := hid h2; clear h2))
  clear hw C0 x2
  have HL := hid (HL2.out)
  go_loopw [4] (fun i wr => ∃ k, k ≤ n2 ∧ i = .int .i64 (k : Int) ∧ St 73 W0 ((B, .cells #[v0, v1, (.slice ao2 n2 cc2)] 85 (0, 0)) :: KK) a wr (((l ++ (b0 ++ b1)) ++ numL n2) ++ takeB M2 k)) (fun i _ => n2 - (intOf i).toNat)
  case atStart => exact ⟨0, by omega, rfl, by rw [takeB_zero, List.append_nil]; exact H2.out⟩
  case round =>
    obtain ⟨k, hk, rfl, hst⟩ := hrel
    have HS := hid hst
    clear hst
    by_cases hlt : k < n2
    · obtain ⟨⟨mc, mb⟩, bk, off, hm, rfl, hcell, htk, hle⟩ := HLst2.out.get (by decide) hlt
      simp only at hm hcell htk hle
      have xs := box_cell HS.out 2 _ rfl
      obtain ⟨u0, u1, u2, p0, p1, p2, rfl, rfl, f0, f1, f2⟩ := Pair_cells hm
      have HX := hid hle
      have HT := hid htk
      have hki : (k : Int) < (n2 : Int) := by omega
      have d0 := hcell _ HS.out.below 0 u0 rfl
      rw [show Sh.wid sPair = 3 from rfl, Nat.add_zero] at d0
      have d1 := hcell _ HS.out.below 1 u1 rfl
      rw [show Sh.wid sPair = 3 from rfl] at d1
      have d2 := hcell _ HS.out.below 2 u2 rfl
      rw [show Sh.wid sPair = 3 from rfl] at d2
      have C := hid (oPair_any HS.out f0 f1 f2 (by have := HL.out; have := HX.out; simp only [List.length_append] at *; omega))
      clear htk hle hcell hm
      go_wp2_with (first | (go_at_call 29; refine C.out.mono ?_; rintro en w2 ⟨rfl, h2⟩; have H2x := hid h2; clear h2))
      go_roundw
      case rel => exact ⟨k + 1, by omega, by go_num, by rw [HT.out, ← List.append_assoc]; exact H2x.out⟩
      case measure => simp [intOf]; omega
    · obtain rfl : n2 = k := by omega
      have hki : ¬ (n2 : Int) < (n2 : Int) := by omega
      have xs := box_cell HS.out 2 _ rfl
      have H3 := HS
      clear HS hlt hk HL
      go_wp2_with fail
      go_end0
      exact ⟨rfl, by simpa only [List.append_assoc] using H3.out.drop⟩

end Go.Proofs.Ytiblambiebojmaa

set_option linter.unusedVariables false
set_option linter.unusedSimpArgs false
set_option maxRecDepth 100000
namespace Go.Proofs.Ytiblambiebojmaa
open Go.RowKit Go.Deep

set_option maxHeartbeats 8000000 in
theorem wtopCall_any {W0 : World} {v0 v1 v2 : Value} {b0 b1 b2 : List UInt8} (e0 : Enc W0 .num [v0] b0) (e1 : Enc W0 .num [v1] b1) (e2 : Enc W0 .data [v2] b2) (hl : (b0 ++ (b1 ++ b2)).length ≤ 1000000000000) :
    Calls Try.prog 9 #[.agg #[v0, v1, v2]] W0 (Gives 5 W0 (b0 ++ (b1 ++ b2))) := by
  have H0 := hid (St.begin W0 #[v0, v1, v2] 25 69)
  have C := fun (w0 : World) (a B : Nat) (h : St 69 W0 [(B, .cells #[v0, v1, v2] 25 (0, 0))] a w0 []) => wCall_any h e0 e1 e2 (by rw [List.length_nil, Nat.zero_add]; exact hl)
  have CH := hid C
  clear C hl e0 e1 e2
  go_enter Try.func9, Try.ntmps9
  go_upto_region 2 with fail
  generalize (W0.alloc (.cells #[v0, v1, v2] 25)).alloc (.cells #[.slice none 0 0] 69) = w0 at *
  obtain ⟨B, hB⟩ : ∃ B, B = W0.heap.size := ⟨_, rfl⟩
  obtain ⟨a, ha⟩ : ∃ a, a = W0.heap.size + 1 := ⟨_, rfl⟩
  rw [← ha, ← hB] at H0
  try rw [← ha]
  try rw [← hB]
  clear hB ha
  have CC := hid (CH.out _ _ _ H0.out)
  have x0 := box_cell H0.out 0 v0 rfl
  have x1 := box_cell H0.out 1 v1 rfl
  have x2 := box_cell H0.out 2 v2 rfl
  go_upto_region 3 with (first | (go_at_call 22; refine CC.out.mono ?_; rintro en w1 ⟨rfl, h1⟩; have H1 := hid h1; clear h1))
  obtain ⟨cx, hx, hg⟩ := St.ends (show St 69 W0 _ a _ (b0 ++ (b1 ++ b2)) from H1.out)
  obtain ⟨z0, z1⟩ := one_cell hx
  have HG := hid hg
  clear hx hg x0 x1 x2
  go_wp2_with fail
  go_ret
  exact HG.out

set_option maxHeartbeats 8000000 in
theorem rtopCall_any {W0 : World} {v0 v1 v2 : Value} {b0 b1 b2 : List UInt8} (e0 : Enc W0 .num [v0] b0) (e1 : Enc W0 .num [v1] b1) (e2 : Enc W0 .data [v2] b2) (hl : (b0 ++ (b1 ++ b2)).length ≤ 1000000000000) :
    Calls Try.prog 10 #[.agg #[v0, v1, v2]] W0 (Gives 5 W0 (b0 ++ (b1 ++ b2))) := by
  have H0 := hid (St.begin W0 #[v0, v1, v2] 25 73)
  have HL0 : Hid (([] : List UInt8).length + (b0 ++ (b1 ++ b2)).length ≤ 1000000000000) := hid (by rw [List.length_nil, Nat.zero_add]; simpa only [List.append_assoc] using hl)
  have E0 := hid e0
  have E1 := hid e1
  have E2 := hid e2
  clear hl e0 e1 e2
  go_enter Try.func10, Try.ntmps10
  go_upto_region 2 with fail
  generalize (W0.alloc (.cells #[v0, v1, v2] 25)).alloc (.cells #[.slice none 0 0] 73) = w0 at *
  obtain ⟨B, hB⟩ : ∃ B, B = W0.heap.size := ⟨_, rfl⟩
  obtain ⟨a, ha⟩ : ∃ a, a = W0.heap.size + 1 := ⟨_, rfl⟩
  rw [← ha, ← hB] at H0
  try rw [← ha]
  try rw [← hB]
  clear hB ha
  have x0 := box_cell H0.out 0 v0 rfl
  have HN0 := hid (len_now HL0.out)
  have HL1 := hid (len_step HL0.out)
  go_upto_region 3 with (first | (go_at_call 23; refine (onumE H0.out E0.out HN0.out).mono ?_; rintro en w1 ⟨rfl, h1⟩; have H1 := hid h1; clear h1))
  clear x0
  have x1 := box_cell H1.out 1 v1 rfl
  have HN1 := hid (len_now HL1.out)
  have HL2 := hid (len_step HL1.out)
  go_upto_region 4 with (first | (go_at_call 23; refine (onumE H1.out E1.out HN1.out).mono ?_; rintro en w2 ⟨rfl, h2⟩; have H2 := hid h2; clear h2))
  clear x1
  have x2 := box_cell H2.out 2 v2 rfl
  go_upto_region 5 with (first | (go_at_call 24; refine (obytesE H2.out E2.out HL2.out).mono ?_; rintro en w3 ⟨rfl, h3⟩; have H3 := hid h3; clear h3))
  clear x2
  obtain ⟨cx, hx, hg⟩ := St.ends (show St 73 W0 _ a _ (b0 ++ (b1 ++ b2)) by simpa only [List.append_assoc, List.nil_append] using H3.out)
  obtain ⟨z0, z1⟩ := one_cell hx
  have HG := hid hg
  clear hx hg
  go_wp2_with fail
  go_ret
  exact HG.out

set_option maxHeartbeats 8000000 in
theorem wtopCatalog_any {W0 : World} {v0 v1 v2 v3 : Value} {b0 b1 b2 b3 : List UInt8} (e0 : Enc W0 .int [v0] b0) (e1 : Enc W0 .int [v1] b1) (e2 : Enc W0 (.list sTable) [v2] b2) (e3 : Enc W0 (.list sIndex) [v3] b3) (hl : (b0 ++ (b1 ++ (b2 ++ b3))).length ≤ 1000000000000) :
    Calls Try.prog 15 #[.agg #[v0, v1, v2, v3]] W0 (Gives 5 W0 (b0 ++ (b1 ++ (b2 ++ b3)))) := by
  have H0 := hid (St.begin W0 #[v0, v1, v2, v3] 44 69)
  have C := fun (w0 : World) (a B : Nat) (h : St 69 W0 [(B, .cells #[v0, v1, v2, v3] 44 (0, 0))] a w0 []) => wCatalog_any h e0 e1 e2 e3 (by rw [List.length_nil, Nat.zero_add]; exact hl)
  have CH := hid C
  clear C hl e0 e1 e2 e3
  go_enter Try.func15, Try.ntmps15
  go_upto_region 2 with fail
  generalize (W0.alloc (.cells #[v0, v1, v2, v3] 44)).alloc (.cells #[.slice none 0 0] 69) = w0 at *
  obtain ⟨B, hB⟩ : ∃ B, B = W0.heap.size := ⟨_, rfl⟩
  obtain ⟨a, ha⟩ : ∃ a, a = W0.heap.size + 1 := ⟨_, rfl⟩
  rw [← ha, ← hB] at H0
  try rw [← ha]
  try rw [← hB]
  clear hB ha
  have CC := hid (CH.out _ _ _ H0.out)
  have x0 := box_cell H0.out 0 v0 rfl
  have x1 := box_cell H0.out 1 v1 rfl
  have x2 := box_cell H0.out 2 v2 rfl
  have x3 := box_cell H0.out 3 v3 rfl
  go_upto_region 3 with (first | (go_at_call 38; refine CC.out.mono ?_; rintro en w1 ⟨rfl, h1⟩; have H1 := hid h1; clear h1))
  obtain ⟨cx, hx, hg⟩ := St.ends (show St 69 W0 _ a _ (b0 ++ (b1 ++ (b2 ++ b3))) from H1.out)
  obtain ⟨z0, z1⟩ := one_cell hx
  have HG := hid hg
  clear hx hg x0 x1 x2 x3
  go_wp2_with fail
  go_ret
  exact HG.out

set_option maxHeartbeats 8000000 in
theorem rtopCatalog_any {W0 : World} {v0 v1 v2 v3 : Value} {b0 b1 b2 b3 : List UInt8} (e0 : Enc W0 .int [v0] b0) (e1 : Enc W0 .int [v1] b1) (e2 : Enc W0 (.list sTable) [v2] b2) (e3 : Enc W0 (.list sIndex) [v3] b3) (hl : (b0 ++ (b1 ++ (b2 ++ b3))).length ≤ 1000000000000) :
    Calls Try.prog 16 #[.agg #[v0, v1, v2, v3]] W0 (Gives 5 W0 (b0 ++ (b1 ++ (b2 ++ b3)))) := by
  have H0 := hid (St.begin W0 #[v0, v1, v2, v3] 44 73)
  have C := fun (w0 : World) (a B : Nat) (h : St 73 W0 [(B, .cells #[v0, v1, v2, v3] 44 (0, 0))] a w0 []) => oCatalog_any h e0 e1 e2 e3 (by rw [List.length_nil, Nat.zero_add]; exact hl)
  have CH := hid C
  clear C hl e0 e1 e2 e3
  go_enter Try.func16, Try.ntmps16
  go_upto_region 2 with fail
  generalize (W0.alloc (.cells #[v0, v1, v2, v3] 44)).alloc (.cells #[.slice none 0 0] 73) = w0 at *
  obtain ⟨B, hB⟩ : ∃ B, B = W0.heap.size := ⟨_, rfl⟩
  obtain ⟨a, ha⟩ : ∃ a, a = W0.heap.size + 1 := ⟨_, rfl⟩
  rw [← ha, ← hB] at H0
  try rw [← ha]
  try rw [← hB]
  clear hB ha
  have CC := hid (CH.out _ _ _ H0.out)
  have x0 := box_cell H0.out 0 v0 rfl
  have x1 := box_cell H0.out 1 v1 rfl
  have x2 := box_cell H0.out 2 v2 rfl
  have x3 := box_cell H0.out 3 v3 rfl
  go_upto_region 3 with (first | (go_at_call 36; refine CC.out.mono ?_; rintro en w1 ⟨rfl, h1⟩; have H1 := hid h1; clear h1))
  obtain ⟨cx, hx, hg⟩ := St.ends (show St 73 W0 _ a _ (b0 ++ (b1 ++ (b2 ++ b3))) from H1.out)
  obtain ⟨z0, z1⟩ := one_cell hx
  have HG := hid hg
  clear hx hg x0 x1 x2 x3
  go_wp2_with fail
  go_ret
  exact HG.out

end Go.Proofs.Ytiblambiebojmaa

set_option linter.unusedVariables false
set_option linter.unusedSimpArgs false
set_option maxRecDepth 100000
namespace Go.Proofs.Ytiblambiebojmaa
open Go.RowKit Go.Deep

theorem rd_new (W : World) (l : List UInt8) (t : TypeId) (z : Nat × Nat) (n : Nat) (hn : n = l.length) (hl : l.length ≤ 1000) : Rd (W.alloc (.cells (l.map bv).toArray t z)) (.slice (some ⟨W.heap.size, 0, none⟩) n n) l := by
  subst hn
  refine ⟨some ⟨W.heap.size, 0, none⟩, l.length, rfl, Nat.le_refl _, by unfold maxLen; omega, (fun h => by cases h), fun a ha j u hu => ?_⟩
  cases ha
  rw [show Addr.add ⟨W.heap.size, 0, none⟩ j = ⟨W.heap.size, j, none⟩ from by simp [Addr.add]; omega]
  unfold World.cell?
  rw [heap_alloc_new]
  show ((l.map bv).toArray)[j]? = _
  rw [List.getElem?_toArray]
  first | exact hu | (rw [List.getElem?_map, hu]; rfl)

theorem awakeB : numL 1 ++ (numL 2 ++ textL [97]) = [1, 2, 1, 97] := by
  unfold textL
  rw [numL_lt (by decide), numL_lt (by decide), numL_lt (by decide)]
  decide

set_option maxHeartbeats 1000000 in
theorem xawake_any (w : World) : Calls Try.prog 7 #[] w fun e w' => e = .returned (.bool true) ∧ Below w.heap.size w w' := by
  have cv := Lib.run_convert_bytes_const (P := Try.prog) w 23 5 #[.int .u8 97] 1 1 Try.underlying23 Try.underlying5
  simp only [List.size_toArray, List.length_cons, List.length_nil, Nat.reduceAdd] at cv
  have hb : Below w.heap.size w (w.alloc (.cells #[.int .u8 97] 5 (1, 2))) := (Below.refl _ _).alloc (Nat.le_refl _) _
  have hr : Rd (w.alloc (.cells #[.int .u8 97] 5 (1, 2))) (.slice (some ⟨w.heap.size, 0, none⟩) 1 1) [97] := rd_new w [97] 5 (1, 2) 1 rfl (by decide)
  have C : Hid (Calls Try.prog 9 #[.agg #[.int .u64 1, .int .u64 2, .slice (some ⟨w.heap.size, 0, none⟩) 1 1]] (w.alloc (.cells #[.int .u8 97] 5 (1, 2))) (Gives 5 (w.alloc (.cells #[.int .u8 97] 5 (1, 2))) [1, 2, 1, 97])) := hid (by
    have := wtopCall_any (W0 := w.alloc (.cells #[.int .u8 97] 5 (1, 2))) (v0 := .int .u64 1) (v1 := .int .u64 2) (v2 := .slice (some ⟨w.heap.size, 0, none⟩) 1 1) (b0 := numL 1) (b1 := numL 2) (b2 := textL [97])
      ⟨1, by decide, rfl, rfl⟩ ⟨2, by decide, rfl, rfl⟩ ⟨_, [97], rfl, rfl, hr, by decide, rfl⟩ (by rw [awakeB]; decide)
    rw [awakeB] at this
    exact this)
  have HB := hid hb
  clear hr hb
  go_enter Try.func7, Try.ntmps7
  go_upto_region 2 with (first | (go_at_call 9; refine C.out.mono ?_; rintro en w2 ⟨vT, rfl, hx, hb2⟩; have HX := hid hx; have HB2 := hid (HB.out.trans (hb2.mono HB.out.size)); clear hx hb2))
  have hx := HX.out
  rcases hx.2 with ⟨rfl, hn⟩ | ⟨g, cap, cur, rfl, hg1, hg, hn, hc, hs, ht⟩
  · simp at hn
  have hc0 := hx.cells rfl 0 _ rfl
  have hc1 := hx.cells rfl 1 _ rfl
  have hc2 := hx.cells rfl 2 _ rfl
  have hc3 := hx.cells rfl 3 _ rfl
  simp only [WideShapes.add_plain, bv] at hc0 hc1 hc2 hc3
  have hcap : 4 ≤ cap := hn
  clear hs ht hg hx hn HX cv
  go_wp2_with fail
  go_ret
  exact ⟨rfl, HB2.out⟩

open Go.ChangeShapes Go.WideShapes Go.ChangeAt
/-- A struct that came in. -/
theorem struct_in {H : Type} {enc : TypeId × Value → H} {W : World} {base : Nat} {v : Value} {d : DataW H} {p : List MemPlace} (n : Nat) (s : Sh) (t : TypeId) {fs : Array Field} (hu : Try.prog.underlying t = some (.struct fs)) (ho : ofT n s t = true)
    (hw : Value.okWide Try.prog W .any base t v) (h : DataW.Trod enc Try.prog W 0 (fun _ => true) true t v d p) (hb : Rows.uptoBulk d ≤ 1048576) : ∃ cs bs, v = .agg cs.toArray ∧ Enc W s cs bs ∧ bs.length ≤ 10485760 := by
  unfold Value.okWide at hw
  rw [hu] at hw
  obtain ⟨cs, rfl, hsz, -⟩ := hw
  obtain ⟨fuel, hf⟩ := h
  obtain ⟨bs, h1, h2⟩ := opens (enc := enc) (W := W) n s t fuel cs.toList (d, p) ho hf hb
  exact ⟨cs.toList, bs, by simp, h1, by simp only at h2; omega⟩
theorem bulk_at {H : Type} {ds : List (DataW H)} (hk : Rows.uptoSmall H ds = true) {d : DataW H} (h : d ∈ ds) : Rows.uptoBulk d ≤ 1048576 := Nat.le_trans (bulk_mem h) (of_decide_eq_true hk)
theorem list_len {W : World} {s : Sh} {a : Option Addr} {n c : Nat} {b : List UInt8} (h : Enc W (.list s) [.slice a n c] b) : n ≤ c ∧ n ≤ 1048576 := by
  obtain ⟨a', n', c', M, hv, hL, -⟩ := list_open h
  cases hv
  exact ⟨hL.cap.1, hL.cap.2.1⟩
end Go.Proofs.Ytiblambiebojmaa

set_option linter.unusedVariables false
set_option linter.unusedSimpArgs false
set_option maxRecDepth 100000
namespace Go.Proofs.Ytiblambiebojmaa
open Go.RowKit Go.Deep

set_option maxHeartbeats 4000000 in
theorem wlist_Seen {W0 w : World} {KK : List (Nat × Obj)} {a : Nat} {l : List UInt8} {v : Value} {b : List UInt8} (h : St 69 W0 KK a w l) (e : Enc W0 (.list sSeen) [v] b) (hl : l.length + b.length ≤ 1000000000000) :
    Calls Try.prog 57 #[.pointer (some ⟨a, 0, none⟩), v, (.func (.func 58) #[.pointer (some ⟨a, 0, none⟩)] #[])] w (Wrote 69 W0 KK a l b) := by
  obtain ⟨ao, n, c, M, rfl, hL, rfl⟩ := list_open e
  obtain ⟨hcap, hn6, hn64, hw⟩ := hL.cap
  have HLst := hid hL
  have HL := hid hl
  have C0 := hid (wnum_any h n hn64 (by have := HL.out; simp only [List.length_append] at this ⊢; omega))
  clear h e hl hL hn64
  go_enter Try.func57, Try.ntmps57
  go_wp2_with (first | (go_at_call 48; refine C0.out.mono ?_; rintro en w1 ⟨rfl, h1⟩; have H1 := hid h1; clear h1))
  clear hw C0
  go_loopw [15] (fun i wr => ∃ k, k ≤ n ∧ i = .int .i64 (k : Int) ∧ St 69 W0 KK a wr ((l ++ numL n) ++ takeB M k)) (fun i _ => n - (intOf i).toNat)
  case atStart => exact ⟨0, by omega, rfl, by rw [takeB_zero, List.append_nil]; exact H1.out⟩
  case round =>
    obtain ⟨k, hk, rfl, hst⟩ := hrel
    have HS := hid hst
    clear hst
    by_cases hlt : k < n
    · obtain ⟨⟨mc, mb⟩, bk, off, hm, rfl, hcell, htk, hle⟩ := HLst.out.get (by decide) hlt
      simp only at hm hcell htk hle
      obtain ⟨v0, v1, v2, b0, b1, b2, rfl, rfl, e0, e1, e2⟩ := Seen_cells hm
      obtain ⟨y0, j0, c0, rfl⟩ := form_data e0
      obtain ⟨y1, j1, c1, rfl⟩ := form_data e1
      obtain ⟨y2, j2, c2, rfl⟩ := form_list e2
      have d0 : wr.cell? ⟨bk, off + k * 3, none⟩ = some (.slice y0 j0 c0) := hcell _ HS.out.below 0 _ rfl
      have d1 : wr.cell? ⟨bk, off + k * 3 + 1, none⟩ = some (.slice y1 j1 c1) := hcell _ HS.out.below 1 _ rfl
      have d2 : wr.cell? ⟨bk, off + k * 3 + 2, none⟩ = some (.slice y2 j2 c2) := hcell _ HS.out.below 2 _ rfl
      have HB := hid (HS.out.box #[(.slice y0 j0 c0), (.slice y1 j1 c1), (.slice y2 j2 c2)] 85)
      have HX := hid hle
      have C := hid (wSeen_any HB.out e0 e1 e2 (by have := HL.out; have := HX.out; simp only [List.length_append] at *; omega))
      have HT := hid htk
      clear htk hle hcell hm e0 e1 e2
      have hki : (k : Int) < (n : Int) := by omega
      go_wp2_with (first | (go_at_call 58; refine C.out.mono ?_; rintro en w2 ⟨rfl, h2⟩; have H2 := hid h2.drop; clear h2))
      go_roundw
      case rel => exact ⟨k + 1, by omega, by go_num, by rw [HT.out, ← List.append_assoc]; exact H2.out⟩
      case measure => simp [intOf]; omega
    · obtain rfl : k = n := by omega
      have hki : ¬ (k : Int) < (k : Int) := by omega
      go_wp2_with fail
      go_end0
      exact ⟨rfl, by rw [← List.append_assoc]; exact HS.out⟩

set_option maxHeartbeats 4000000 in
theorem wlist_Write {W0 w : World} {KK : List (Nat × Obj)} {a : Nat} {l : List UInt8} {v : Value} {b : List UInt8} (h : St 69 W0 KK a w l) (e : Enc W0 (.list sWrite) [v] b) (hl : l.length + b.length ≤ 1000000000000) :
    Calls Try.prog 59 #[.pointer (some ⟨a, 0, none⟩), v, (.func (.func 60) #[.pointer (some ⟨a, 0, none⟩)] #[])] w (Wrote 69 W0 KK a l b) := by
  obtain ⟨ao, n, c, M, rfl, hL, rfl⟩ := list_open e
  obtain ⟨hcap, hn6, hn64, hw⟩ := hL.cap
  have HLst := hid hL
  have HL := hid hl
  have C0 := hid (wnum_any h n hn64 (by have := HL.out; simp only [List.length_append] at this ⊢; omega))
  clear h e hl hL hn64
  go_enter Try.func59, Try.ntmps59
  go_wp2_with (first | (go_at_call 48; refine C0.out.mono ?_; rintro en w1 ⟨rfl, h1⟩; have H1 := hid h1; clear h1))
  clear hw C0
  go_loopw [15] (fun i wr => ∃ k, k ≤ n ∧ i = .int .i64 (k : Int) ∧ St 69 W0 KK a wr ((l ++ numL n) ++ takeB M k)) (fun i _ => n - (intOf i).toNat)
  case atStart => exact ⟨0, by omega, rfl, by rw [takeB_zero, List.append_nil]; exact H1.out⟩
  case round =>
    obtain ⟨k, hk, rfl, hst⟩ := hrel
    have HS := hid hst
    clear hst
    by_cases hlt : k < n
    · obtain ⟨⟨mc, mb⟩, bk, off, hm, rfl, hcell, htk, hle⟩ := HLst.out.get (by decide) hlt
      simp only at hm hcell htk hle
      obtain ⟨v0, v1, v2, b0, b1, b2, rfl, rfl, e0, e1, e2⟩ := Write_cells hm
      obtain ⟨y0, j0, c0, rfl⟩ := form_data e0
      obtain ⟨y1, j1, c1, rfl⟩ := form_data e1
      obtain ⟨y2, rfl⟩ := form_bool e2
      have d0 : wr.cell? ⟨bk, off + k * 3, none⟩ = some (.slice y0 j0 c0) := hcell _ HS.out.below 0 _ rfl
      have d1 : wr.cell? ⟨bk, off + k * 3 + 1, none⟩ = some (.slice y1 j1 c1) := hcell _ HS.out.below 1 _ rfl
      have d2 : wr.cell? ⟨bk, off + k * 3 + 2, none⟩ = some (.bool y2) := hcell _ HS.out.below 2 _ rfl
      have HB := hid (HS.out.box #[(.slice y0 j0 c0), (.slice y1 j1 c1), (.bool y2)] 88)
      have HX := hid hle
      have C := hid (wWrite_any HB.out e0 e1 e2 (by have := HL.out; have := HX.out; simp only [List.length_append] at *; omega))
      have HT := hid htk
      clear htk hle hcell hm e0 e1 e2
      have hki : (k : Int) < (n : Int) := by omega
      go_wp2_with (first | (go_at_call 60; refine C.out.mono ?_; rintro en w2 ⟨rfl, h2⟩; have H2 := hid h2.drop; clear h2))
      go_roundw
      case rel => exact ⟨k + 1, by omega, by go_num, by rw [HT.out, ← List.append_assoc]; exact H2.out⟩
      case measure => simp [intOf]; omega
    · obtain rfl : k = n := by omega
      have hki : ¬ (k : Int) < (k : Int) := by omega
      go_wp2_with fail
      go_end0
      exact ⟨rfl, by rw [← List.append_assoc]; exact HS.out⟩

set_option maxHeartbeats 8000000 in
theorem wCommand_any {W0 w : World} {KK : List (Nat × Obj)} {a : Nat} {l : List UInt8} {v0 v1 v2 v3 v4 v5 v6 v7 v8 v9 v10 v11 v12 v13 v14 v15 v16 v17 v18 v19 v20 v21 v22 v23 v24 : Value} {b0 b1 b2 b3 b4 b5 b6 b7 b8 b9 b10 b11 b12 b13 b14 b15 b16 b17 b18 b19 b20 b21 b22 b23 b24 : List UInt8} (h : St 69 W0 KK a w l) (e0 : Enc W0 .int [v0] b0) (e1 : Enc W0 .int [v1] b1) (e2 : Enc W0 .num [v2] b2) (e3 : Enc W0 .int [v3] b3) (e4 : Enc W0 .int [v4] b4) (e5 : Enc W0 .int [v5] b5) (e6 : Enc W0 .bool [v6] b6) (e7 : Enc W0 .data [v7] b7) (e8 : Enc W0 .data [v8] b8) (e9 : Enc W0 .data [v9] b9) (e10 : Enc W0 (.list sPair) [v10] b10) (e11 : Enc W0 (.list sSeen) [v11] b11) (e12 : Enc W0 (.list sWrite) [v12] b12) (e13 : Enc W0 .int [v13] b13) (e14 : Enc W0 .name [v14] b14) (e15 : Enc W0 (.list sColumn) [v15] b15) (e16 : Enc W0 (.list .int) [v16] b16) (e17 : Enc W0 .int [v17] b17) (e18 : Enc W0 .int [v18] b18) (e19 : Enc W0 .name [v19] b19) (e20 : Enc W0 (.list .int) [v20] b20) (e21 : Enc W0 .bool [v21] b21) (e22 : Enc W0 .int [v22] b22) (e23 : Enc W0 .bool [v23] b23) (e24 : Enc W0 .name [v24] b24) (hl : l.length + (b0 ++ (b1 ++ (b2 ++ (b3 ++ (b4 ++ (b5 ++ (b6 ++ (b7 ++ (b8 ++ (b9 ++ (b10 ++ (b11 ++ (b12 ++ (b13 ++ (b14 ++ (b15 ++ (b16 ++ (b17 ++ (b18 ++ (b19 ++ (b20 ++ (b21 ++ (b22 ++ (b23 ++ b24)))))))))))))))))))))))).length ≤ 1000000000000) :
    Calls Try.prog 25 #[.pointer (some ⟨a, 0, none⟩), .agg #[v0, v1, v2, v3, v4, v5, v6, v7, v8, v9, v10, v11, v12, v13, v14, v15, v16, v17, v18, v19, v20, v21, v22, v23, v24]] w (Wrote 69 W0 KK a l (b0 ++ (b1 ++ (b2 ++ (b3 ++ (b4 ++ (b5 ++ (b6 ++ (b7 ++ (b8 ++ (b9 ++ (b10 ++ (b11 ++ (b12 ++ (b13 ++ (b14 ++ (b15 ++ (b16 ++ (b17 ++ (b18 ++ (b19 ++ (b20 ++ (b21 ++ (b22 ++ (b23 ++ b24))))))))))))))))))))))))) := by
  have H0 := hid (h.box #[v0, v1, v2, v3, v4, v5, v6, v7, v8, v9, v10, v11, v12, v13, v14, v15, v16, v17, v18, v19, v20, v21, v22, v23, v24] 38)
  have HL0 := hid hl
  have E0 := hid e0
  have E1 := hid e1
  have E2 := hid e2
  have E3 := hid e3
  have E4 := hid e4
  have E5 := hid e5
  have E6 := hid e6
  have E7 := hid e7
  have E8 := hid e8
  have E9 := hid e9
  have E10 := hid e10
  have E11 := hid e11
  have E12 := hid e12
  have E13 := hid e13
  have E14 := hid e14
  have E15 := hid e15
  have E16 := hid e16
  have E17 := hid e17
  have E18 := hid e18
  have E19 := hid e19
  have E20 := hid e20
  have E21 := hid e21
  have E22 := hid e22
  have E23 := hid e23
  have E24 := hid e24
  clear h hl e0 e1 e2 e3 e4 e5 e6 e7 e8 e9 e10 e11 e12 e13 e14 e15 e16 e17 e18 e19 e20 e21 e22 e23 e24
  go_enter Try.func25, Try.ntmps25
  go_upto_region 1 with fail
  generalize w.alloc (.cells #[v0, v1, v2, v3, v4, v5, v6, v7, v8, v9, v10, v11, v12, v13, v14, v15, v16, v17, v18, v19, v20, v21, v22, v23, v24] 38) = w0 at *
  generalize w.heap.size = B at *
  have x0 := box_cell H0.out 0 v0 rfl
  have HN0 := hid (len_now HL0.out)
  have HL1 := hid (len_step HL0.out)
  go_upto_region 2 with (first | (go_at_call 52; refine (wwholeE H0.out E0.out HN0.out).mono ?_; rintro en w1 ⟨rfl, h1⟩; have H1 := hid h1; clear h1))
  clear x0
  have x1 := box_cell H1.out 1 v1 rfl
  have HN1 := hid (len_now HL1.out)
  have HL2 := hid (len_step HL1.out)
  go_upto_region 3 with (first | (go_at_call 52; refine (wwholeE H1.out E1.out HN1.out).mono ?_; rintro en w2 ⟨rfl, h2⟩; have H2 := hid h2; clear h2))
  clear x1
  have x2 := box_cell H2.out 2 v2 rfl
  have HN2 := hid (len_now HL2.out)
  have HL3 := hid (len_step HL2.out)
  go_upto_region 4 with (first | (go_at_call 48; refine (wnumE H2.out E2.out HN2.out).mono ?_; rintro en w3 ⟨rfl, h3⟩; have H3 := hid h3; clear h3))
  clear x2
  have x3 := box_cell H3.out 3 v3 rfl
  have HN3 := hid (len_now HL3.out)
  have HL4 := hid (len_step HL3.out)
  go_upto_region 5 with (first | (go_at_call 52; refine (wwholeE H3.out E3.out HN3.out).mono ?_; rintro en w4 ⟨rfl, h4⟩; have H4 := hid h4; clear h4))
  clear x3
  have x4 := box_cell H4.out 4 v4 rfl
  have HN4 := hid (len_now HL4.out)
  have HL5 := hid (len_step HL4.out)
  go_upto_region 6 with (first | (go_at_call 52; refine (wwholeE H4.out E4.out HN4.out).mono ?_; rintro en w5 ⟨rfl, h5⟩; have H5 := hid h5; clear h5))
  clear x4
  have x5 := box_cell H5.out 5 v5 rfl
  have HN5 := hid (len_now HL5.out)
  have HL6 := hid (len_step HL5.out)
  go_upto_region 7 with (first | (go_at_call 52; refine (wwholeE H5.out E5.out HN5.out).mono ?_; rintro en w6 ⟨rfl, h6⟩; have H6 := hid h6; clear h6))
  clear x5
  have x6 := box_cell H6.out 6 v6 rfl
  have HN6 := hid (len_now HL6.out)
  have HL7 := hid (len_step HL6.out)
  go_upto_region 8 with (first | (go_at_call 53; refine (wflagE H6.out E6.out HN6.out).mono ?_; rintro en w7 ⟨rfl, h7⟩; have H7 := hid h7; clear h7))
  clear x6
  have x7 := box_cell H7.out 7 v7 rfl
  have HN7 := hid (len_now HL7.out)
  have HL8 := hid (len_step HL7.out)
  go_upto_region 9 with (first | (go_at_call 49; refine (wdataE H7.out E7.out HN7.out).mono ?_; rintro en w8 ⟨rfl, h8⟩; have H8 := hid h8; clear h8))
  clear x7
  have x8 := box_cell H8.out 8 v8 rfl
  have x9 := box_cell H8.out 9 v9 rfl
  have HG8 : Hid (((((((((l ++ b0) ++ b1) ++ b2) ++ b3) ++ b4) ++ b5) ++ b6) ++ b7).length + ((b8 ++ b9) ++ (b10 ++ (b11 ++ (b12 ++ (b13 ++ (b14 ++ (b15 ++ (b16 ++ (b17 ++ (b18 ++ (b19 ++ (b20 ++ (b21 ++ (b22 ++ (b23 ++ b24))))))))))))))).length ≤ 1000000000000) := hid (by simpa only [List.append_assoc] using HL8.out)
  have HN8 := hid (len_now HG8.out)
  have HL9 := hid (len_step HG8.out)
  go_upto_region 10 with (first | (go_at_call 54; refine (wSpan_any H8.out E8.out E9.out HN8.out).mono ?_; rintro en w9 ⟨rfl, h9⟩; have H9 := hid h9; clear h9))
  clear x8 x9
  have x10 := box_cell H9.out 10 v10 rfl
  have HN9 := hid (len_now HL9.out)
  have HL10 := hid (len_step HL9.out)
  go_upto_region 11 with (first | (go_at_call 55; refine (wlist_Pair H9.out E10.out HN9.out).mono ?_; rintro en w10 ⟨rfl, h10⟩; have H10 := hid h10; clear h10))
  clear x10
  have x11 := box_cell H10.out 11 v11 rfl
  have HN10 := hid (len_now HL10.out)
  have HL11 := hid (len_step HL10.out)
  go_upto_region 12 with (first | (go_at_call 57; refine (wlist_Seen H10.out E11.out HN10.out).mono ?_; rintro en w11 ⟨rfl, h11⟩; have H11 := hid h11; clear h11))
  clear x11
  have x12 := box_cell H11.out 12 v12 rfl
  have HN11 := hid (len_now HL11.out)
  have HL12 := hid (len_step HL11.out)
  go_upto_region 13 with (first | (go_at_call 59; refine (wlist_Write H11.out E12.out HN11.out).mono ?_; rintro en w12 ⟨rfl, h12⟩; have H12 := hid h12; clear h12))
  clear x12
  have x13 := box_cell H12.out 13 v13 rfl
  have x14 := box_cell H12.out 14 v14 rfl
  have x15 := box_cell H12.out 15 v15 rfl
  have x16 := box_cell H12.out 16 v16 rfl
  have HG12 : Hid (((((((((((((l ++ b0) ++ b1) ++ b2) ++ b3) ++ b4) ++ b5) ++ b6) ++ b7) ++ (b8 ++ b9)) ++ b10) ++ b11) ++ b12).length + ((b13 ++ (b14 ++ (b15 ++ b16))) ++ (b17 ++ (b18 ++ (b19 ++ (b20 ++ (b21 ++ (b22 ++ (b23 ++ b24)))))))).length ≤ 1000000000000) := hid (by simpa only [List.append_assoc] using HL12.out)
  have HN12 := hid (len_now HG12.out)
  have HL13 := hid (len_step HG12.out)
  go_upto_region 14 with (first | (go_at_call 61; refine (wTable_any H12.out E13.out E14.out E15.out E16.out HN12.out).mono ?_; rintro en w13 ⟨rfl, h13⟩; have H13 := hid h13; clear h13))
  clear x13 x14 x15 x16
  have x17 := box_cell H13.out 17 v17 rfl
  have x18 := box_cell H13.out 18 v18 rfl
  have x19 := box_cell H13.out 19 v19 rfl
  have x20 := box_cell H13.out 20 v20 rfl
  have x21 := box_cell H13.out 21 v21 rfl
  have x22 := box_cell H13.out 22 v22 rfl
  have x23 := box_cell H13.out 23 v23 rfl
  have HG13 : Hid ((((((((((((((l ++ b0) ++ b1) ++ b2) ++ b3) ++ b4) ++ b5) ++ b6) ++ b7) ++ (b8 ++ b9)) ++ b10) ++ b11) ++ b12) ++ (b13 ++ (b14 ++ (b15 ++ b16)))).length + ((b17 ++ (b18 ++ (b19 ++ (b20 ++ (b21 ++ (b22 ++ b23)))))) ++ (b24)).length ≤ 1000000000000) := hid (by simpa only [List.append_assoc] using HL13.out)
  have HN13 := hid (len_now HG13.out)
  have HL14 := hid (len_step HG13.out)
  go_upto_region 15 with (first | (go_at_call 62; refine (wIndex_any H13.out E17.out E18.out E19.out E20.out E21.out E22.out E23.out HN13.out).mono ?_; rintro en w14 ⟨rfl, h14⟩; have H14 := hid h14; clear h14))
  clear x17 x18 x19 x20 x21 x22 x23
  have x24 := box_cell H14.out 24 v24 rfl
  go_wp2_with (first | (go_at_call 63; refine (wnameE H14.out E24.out HL14.out).mono ?_; rintro en w15 ⟨rfl, h15⟩; have H15 := hid h15; clear h15))
  clear x24
  go_end0
  exact ⟨rfl, by simpa only [List.append_assoc] using H15.out.drop⟩

end Go.Proofs.Ytiblambiebojmaa

