import Derived.WalkKit
import Derived.OpenShut
import Derived.Test.YtdfccaehoodjhaaGreatRows
import Derived.WalkSpells
import Derived.WalkLawsBesides
import Derived.Laws.AppendOwnNone
import Derived.ProofKit
import Derived.ShutString
import Derived.ChangeOld
import Derived.Below
import Derived.SizedLaws
import Derived.Deep.Slices
import Derived.Deep.AppendLies
import Derived.Deep.Strs
import Derived.Deep.RegionHeld3
import Derived.Lib.ConvBytes
import Derived.Laws.AppendOwn
import Derived.Deep.CutRange
import Derived.Lib.SlBytesConst
import Derived.Deep.MidRow
import Derived.Great.Walk
import Derived.Test.YtdfccaehoodjhaaGreatWP1
import Derived.Test.YtdfccaehoodjhaaGreatWP2
import Derived.Test.YtdfccaehoodjhaaGreatWP3
import Derived.Test.YtdfccaehoodjhaaGreatWP4
import Derived.Test.YtdfccaehoodjhaaGreatWP15
set_option linter.unusedVariables false
set_option linter.unusedSimpArgs false
set_option linter.unusedVariables false
set_option linter.unusedSimpArgs false
set_option maxRecDepth 100000
namespace Go.Proofs.YtdfccaehoodjhaaGreat
open Go.RowKit Go.Deep

set_option maxHeartbeats 8000000 in
theorem wIndex_any {W0 w : World} {KK : List (Nat × Obj)} {a : Nat} {l : List UInt8} {v0 v1 v2 v3 v4 v5 v6 : Value} {b0 b1 b2 b3 b4 b5 b6 : List UInt8} (h : St 138 W0 KK a w l) (e0 : Enc W0 .int [v0] b0) (e1 : Enc W0 .int [v1] b1) (e2 : Enc W0 .name [v2] b2) (e3 : Enc W0 (.list .int) [v3] b3) (e4 : Enc W0 .bool [v4] b4) (e5 : Enc W0 .int [v5] b5) (e6 : Enc W0 .bool [v6] b6) (hl : l.length + (b0 ++ (b1 ++ (b2 ++ (b3 ++ (b4 ++ (b5 ++ b6)))))).length ≤ 1000000000000) :
    Calls Tryz.prog 150 #[.pointer (some ⟨a, 0, none⟩), .agg #[v0, v1, v2, v3, v4, v5, v6]] w (Wrote 138 W0 KK a l (b0 ++ (b1 ++ (b2 ++ (b3 ++ (b4 ++ (b5 ++ b6))))))) := by
  have H0 := hid (h.box #[v0, v1, v2, v3, v4, v5, v6] 41)
  have HL0 := hid hl
  have E0 := hid e0
  have E1 := hid e1
  have E2 := hid e2
  have E3 := hid e3
  have E4 := hid e4
  have E5 := hid e5
  have E6 := hid e6
  clear h hl e0 e1 e2 e3 e4 e5 e6
  go_enter Tryz.func150, Tryz.ntmps150
  go_upto_region 1 with fail
  generalize w.alloc (.cells #[v0, v1, v2, v3, v4, v5, v6] 41) = w0 at *
  generalize w.heap.size = B at *
  have x0 := box_cell H0.out 0 v0 rfl
  have HN0 := hid (len_now HL0.out)
  have HL1 := hid (len_step HL0.out)
  go_upto_region 2 with (first | (go_at_call 140; refine (wwholeE H0.out E0.out HN0.out).mono ?_; rintro en w1 ⟨rfl, h1⟩; have H1 := hid h1; clear h1))
  clear x0
  have x1 := box_cell H1.out 1 v1 rfl
  have HN1 := hid (len_now HL1.out)
  have HL2 := hid (len_step HL1.out)
  go_upto_region 3 with (first | (go_at_call 140; refine (wwholeE H1.out E1.out HN1.out).mono ?_; rintro en w2 ⟨rfl, h2⟩; have H2 := hid h2; clear h2))
  clear x1
  have x2 := box_cell H2.out 2 v2 rfl
  have HN2 := hid (len_now HL2.out)
  have HL3 := hid (len_step HL2.out)
  go_upto_region 4 with (first | (go_at_call 151; refine (wnameE H2.out E2.out HN2.out).mono ?_; rintro en w3 ⟨rfl, h3⟩; have H3 := hid h3; clear h3))
  clear x2
  have x3 := box_cell H3.out 3 v3 rfl
  have HN3 := hid (len_now HL3.out)
  have HL4 := hid (len_step HL3.out)
  go_upto_region 5 with (first | (go_at_call 196; refine (wlist_int H3.out E3.out HN3.out).mono ?_; rintro en w4 ⟨rfl, h4⟩; have H4 := hid h4; clear h4))
  clear x3
  have x4 := box_cell H4.out 4 v4 rfl
  have HN4 := hid (len_now HL4.out)
  have HL5 := hid (len_step HL4.out)
  go_upto_region 6 with (first | (go_at_call 141; refine (wflagE H4.out E4.out HN4.out).mono ?_; rintro en w5 ⟨rfl, h5⟩; have H5 := hid h5; clear h5))
  clear x4
  have x5 := box_cell H5.out 5 v5 rfl
  have HN5 := hid (len_now HL5.out)
  have HL6 := hid (len_step HL5.out)
  go_upto_region 7 with (first | (go_at_call 140; refine (wwholeE H5.out E5.out HN5.out).mono ?_; rintro en w6 ⟨rfl, h6⟩; have H6 := hid h6; clear h6))
  clear x5
  have x6 := box_cell H6.out 6 v6 rfl
  go_wp2_with (first | (go_at_call 141; refine (wflagE H6.out E6.out HL6.out).mono ?_; rintro en w7 ⟨rfl, h7⟩; have H7 := hid h7; clear h7))
  clear x6
  go_end0
  exact ⟨rfl, by simpa only [List.append_assoc] using H7.out.drop⟩

set_option maxHeartbeats 4000000 in
theorem wlist_Table {W0 w : World} {KK : List (Nat × Obj)} {a : Nat} {l : List UInt8} {v : Value} {b : List UInt8} (h : St 138 W0 KK a w l) (e : Enc W0 (.list sTable) [v] b) (hl : l.length + b.length ≤ 1000000000000) :
    Calls Tryz.prog 197 #[.pointer (some ⟨a, 0, none⟩), v, (.func (.func 149) #[.pointer (some ⟨a, 0, none⟩)] #[])] w (Wrote 138 W0 KK a l b) := by
  obtain ⟨ao, n, c, M, rfl, hL, rfl⟩ := list_open e
  obtain ⟨hcap, hn6, hn64, hw⟩ := hL.cap
  have HLst := hid hL
  have HL := hid hl
  have C0 := hid (wnum_any h n hn64 (by have := HL.out; simp only [List.length_append] at this ⊢; omega))
  clear h e hl hL hn64
  go_enter Tryz.func197, Tryz.ntmps197
  go_wp2_with (first | (go_at_call 138; refine C0.out.mono ?_; rintro en w1 ⟨rfl, h1⟩; have H1 := hid h1; clear h1))
  clear hw C0
  go_loopw [15] (fun i wr => ∃ k, k ≤ n ∧ i = .int .i64 (k : Int) ∧ St 138 W0 KK a wr ((l ++ numL n) ++ takeB M k)) (fun i _ => n - (intOf i).toNat)
  case atStart => exact ⟨0, by omega, rfl, by rw [takeB_zero, List.append_nil]; exact H1.out⟩
  case round =>
    obtain ⟨k, hk, rfl, hst⟩ := hrel
    have HS := hid hst
    clear hst
    by_cases hlt : k < n
    · obtain ⟨⟨mc, mb⟩, bk, off, hm, rfl, hcell, htk, hle⟩ := HLst.out.get (by decide) hlt
      simp only at hm hcell htk hle
      obtain ⟨v0, v1, v2, v3, b0, b1, b2, b3, rfl, rfl, e0, e1, e2, e3⟩ := Table_cells hm
      obtain ⟨y0, rfl⟩ := form_int e0
      obtain ⟨y1, rfl⟩ := form_name e1
      obtain ⟨y2, j2, c2, rfl⟩ := form_list e2
      obtain ⟨y3, j3, c3, rfl⟩ := form_list e3
      have d0 : wr.cell? ⟨bk, off + k * 4, none⟩ = some (.int .i64 y0) := hcell _ HS.out.below 0 _ rfl
      have d1 : wr.cell? ⟨bk, off + k * 4 + 1, none⟩ = some (.string y1) := hcell _ HS.out.below 1 _ rfl
      have d2 : wr.cell? ⟨bk, off + k * 4 + 2, none⟩ = some (.slice y2 j2 c2) := hcell _ HS.out.below 2 _ rfl
      have d3 : wr.cell? ⟨bk, off + k * 4 + 3, none⟩ = some (.slice y3 j3 c3) := hcell _ HS.out.below 3 _ rfl
      have HB := hid (HS.out.box #[(.int .i64 y0), (.string y1), (.slice y2 j2 c2), (.slice y3 j3 c3)] 39)
      have HX := hid hle
      have C := hid (wTable_any HB.out e0 e1 e2 e3 (by have := HL.out; have := HX.out; simp only [List.length_append] at *; omega))
      have HT := hid htk
      clear htk hle hcell hm e0 e1 e2 e3
      have hki : (k : Int) < (n : Int) := by omega
      go_wp2_with (first | (go_at_call 149; refine C.out.mono ?_; rintro en w2 ⟨rfl, h2⟩; have H2 := hid h2.drop; clear h2))
      go_roundw
      case rel => exact ⟨k + 1, by omega, by go_num, by rw [HT.out, ← List.append_assoc]; exact H2.out⟩
      case measure => simp [intOf]; omega
    · obtain rfl : k = n := by omega
      have hki : ¬ (k : Int) < (k : Int) := by omega
      go_wp2_with fail
      go_end0
      exact ⟨rfl, by rw [← List.append_assoc]; exact HS.out⟩

set_option maxHeartbeats 4000000 in
theorem wlist_Index {W0 w : World} {KK : List (Nat × Obj)} {a : Nat} {l : List UInt8} {v : Value} {b : List UInt8} (h : St 138 W0 KK a w l) (e : Enc W0 (.list sIndex) [v] b) (hl : l.length + b.length ≤ 1000000000000) :
    Calls Tryz.prog 198 #[.pointer (some ⟨a, 0, none⟩), v, (.func (.func 150) #[.pointer (some ⟨a, 0, none⟩)] #[])] w (Wrote 138 W0 KK a l b) := by
  obtain ⟨ao, n, c, M, rfl, hL, rfl⟩ := list_open e
  obtain ⟨hcap, hn6, hn64, hw⟩ := hL.cap
  have HLst := hid hL
  have HL := hid hl
  have C0 := hid (wnum_any h n hn64 (by have := HL.out; simp only [List.length_append] at this ⊢; omega))
  clear h e hl hL hn64
  go_enter Tryz.func198, Tryz.ntmps198
  go_wp2_with (first | (go_at_call 138; refine C0.out.mono ?_; rintro en w1 ⟨rfl, h1⟩; have H1 := hid h1; clear h1))
  clear hw C0
  go_loopw [15] (fun i wr => ∃ k, k ≤ n ∧ i = .int .i64 (k : Int) ∧ St 138 W0 KK a wr ((l ++ numL n) ++ takeB M k)) (fun i _ => n - (intOf i).toNat)
  case atStart => exact ⟨0, by omega, rfl, by rw [takeB_zero, List.append_nil]; exact H1.out⟩
  case round =>
    obtain ⟨k, hk, rfl, hst⟩ := hrel
    have HS := hid hst
    clear hst
    by_cases hlt : k < n
    · obtain ⟨⟨mc, mb⟩, bk, off, hm, rfl, hcell, htk, hle⟩ := HLst.out.get (by decide) hlt
      simp only at hm hcell htk hle
      obtain ⟨v0, v1, v2, v3, v4, v5, v6, b0, b1, b2, b3, b4, b5, b6, rfl, rfl, e0, e1, e2, e3, e4, e5, e6⟩ := Index_cells hm
      obtain ⟨y0, rfl⟩ := form_int e0
      obtain ⟨y1, rfl⟩ := form_int e1
      obtain ⟨y2, rfl⟩ := form_name e2
      obtain ⟨y3, j3, c3, rfl⟩ := form_list e3
      obtain ⟨y4, rfl⟩ := form_bool e4
      obtain ⟨y5, rfl⟩ := form_int e5
      obtain ⟨y6, rfl⟩ := form_bool e6
      have d0 : wr.cell? ⟨bk, off + k * 7, none⟩ = some (.int .i64 y0) := hcell _ HS.out.below 0 _ rfl
      have d1 : wr.cell? ⟨bk, off + k * 7 + 1, none⟩ = some (.int .i64 y1) := hcell _ HS.out.below 1 _ rfl
      have d2 : wr.cell? ⟨bk, off + k * 7 + 2, none⟩ = some (.string y2) := hcell _ HS.out.below 2 _ rfl
      have d3 : wr.cell? ⟨bk, off + k * 7 + 3, none⟩ = some (.slice y3 j3 c3) := hcell _ HS.out.below 3 _ rfl
      have d4 : wr.cell? ⟨bk, off + k * 7 + 4, none⟩ = some (.bool y4) := hcell _ HS.out.below 4 _ rfl
      have d5 : wr.cell? ⟨bk, off + k * 7 + 5, none⟩ = some (.int .i64 y5) := hcell _ HS.out.below 5 _ rfl
      have d6 : wr.cell? ⟨bk, off + k * 7 + 6, none⟩ = some (.bool y6) := hcell _ HS.out.below 6 _ rfl
      have HB := hid (HS.out.box #[(.int .i64 y0), (.int .i64 y1), (.string y2), (.slice y3 j3 c3), (.bool y4), (.int .i64 y5), (.bool y6)] 41)
      have HX := hid hle
      have C := hid (wIndex_any HB.out e0 e1 e2 e3 e4 e5 e6 (by have := HL.out; have := HX.out; simp only [List.length_append] at *; omega))
      have HT := hid htk
      clear htk hle hcell hm e0 e1 e2 e3 e4 e5 e6
      have hki : (k : Int) < (n : Int) := by omega
      go_wp2_with (first | (go_at_call 150; refine C.out.mono ?_; rintro en w2 ⟨rfl, h2⟩; have H2 := hid h2.drop; clear h2))
      go_roundw
      case rel => exact ⟨k + 1, by omega, by go_num, by rw [HT.out, ← List.append_assoc]; exact H2.out⟩
      case measure => simp [intOf]; omega
    · obtain rfl : k = n := by omega
      have hki : ¬ (k : Int) < (k : Int) := by omega
      go_wp2_with fail
      go_end0
      exact ⟨rfl, by rw [← List.append_assoc]; exact HS.out⟩

set_option maxHeartbeats 8000000 in
theorem wCatalog_any {W0 w : World} {KK : List (Nat × Obj)} {a : Nat} {l : List UInt8} {v0 v1 v2 v3 : Value} {b0 b1 b2 b3 : List UInt8} (h : St 138 W0 KK a w l) (e0 : Enc W0 .int [v0] b0) (e1 : Enc W0 .int [v1] b1) (e2 : Enc W0 (.list sTable) [v2] b2) (e3 : Enc W0 (.list sIndex) [v3] b3) (hl : l.length + (b0 ++ (b1 ++ (b2 ++ b3))).length ≤ 1000000000000) :
    Calls Tryz.prog 154 #[.pointer (some ⟨a, 0, none⟩), .agg #[v0, v1, v2, v3]] w (Wrote 138 W0 KK a l (b0 ++ (b1 ++ (b2 ++ b3)))) := by
  have H0 := hid (h.box #[v0, v1, v2, v3] 50)
  have HL0 := hid hl
  have E0 := hid e0
  have E1 := hid e1
  have E2 := hid e2
  have E3 := hid e3
  clear h hl e0 e1 e2 e3
  go_enter Tryz.func154, Tryz.ntmps154
  go_upto_region 1 with fail
  generalize w.alloc (.cells #[v0, v1, v2, v3] 50) = w0 at *
  generalize w.heap.size = B at *
  have x0 := box_cell H0.out 0 v0 rfl
  have HN0 := hid (len_now HL0.out)
  have HL1 := hid (len_step HL0.out)
  go_upto_region 2 with (first | (go_at_call 140; refine (wwholeE H0.out E0.out HN0.out).mono ?_; rintro en w1 ⟨rfl, h1⟩; have H1 := hid h1; clear h1))
  clear x0
  have x1 := box_cell H1.out 1 v1 rfl
  have HN1 := hid (len_now HL1.out)
  have HL2 := hid (len_step HL1.out)
  go_upto_region 3 with (first | (go_at_call 140; refine (wwholeE H1.out E1.out HN1.out).mono ?_; rintro en w2 ⟨rfl, h2⟩; have H2 := hid h2; clear h2))
  clear x1
  have x2 := box_cell H2.out 2 v2 rfl
  have HN2 := hid (len_now HL2.out)
  have HL3 := hid (len_step HL2.out)
  go_upto_region 4 with (first | (go_at_call 197; refine (wlist_Table H2.out E2.out HN2.out).mono ?_; rintro en w3 ⟨rfl, h3⟩; have H3 := hid h3; clear h3))
  clear x2
  have x3 := box_cell H3.out 3 v3 rfl
  go_wp2_with (first | (go_at_call 198; refine (wlist_Index H3.out E3.out HL3.out).mono ?_; rintro en w4 ⟨rfl, h4⟩; have H4 := hid h4; clear h4))
  clear x3
  go_end0
  exact ⟨rfl, by simpa only [List.append_assoc] using H4.out.drop⟩

end Go.Proofs.YtdfccaehoodjhaaGreat

set_option linter.unusedVariables false
set_option linter.unusedSimpArgs false
set_option maxRecDepth 100000
namespace Go.Proofs.YtdfccaehoodjhaaGreat
open Go.RowKit Go.Deep

set_option maxHeartbeats 8000000 in
theorem wPair_any {W0 w : World} {KK : List (Nat × Obj)} {a : Nat} {l : List UInt8} {v0 v1 v2 : Value} {b0 b1 b2 : List UInt8} (h : St 138 W0 KK a w l) (e0 : Enc W0 .data [v0] b0) (e1 : Enc W0 .data [v1] b1) (e2 : Enc W0 .int [v2] b2) (hl : l.length + (b0 ++ (b1 ++ b2)).length ≤ 1000000000000) :
    Calls Tryz.prog 144 #[.pointer (some ⟨a, 0, none⟩), .agg #[v0, v1, v2]] w (Wrote 138 W0 KK a l (b0 ++ (b1 ++ b2))) := by
  have H0 := hid (h.box #[v0, v1, v2] 72)
  have HL0 := hid hl
  have E0 := hid e0
  have E1 := hid e1
  have E2 := hid e2
  clear h hl e0 e1 e2
  go_enter Tryz.func144, Tryz.ntmps144
  go_upto_region 1 with fail
  generalize w.alloc (.cells #[v0, v1, v2] 72) = w0 at *
  generalize w.heap.size = B at *
  have x0 := box_cell H0.out 0 v0 rfl
  have HN0 := hid (len_now HL0.out)
  have HL1 := hid (len_step HL0.out)
  go_upto_region 2 with (first | (go_at_call 139; refine (wdataE H0.out E0.out HN0.out).mono ?_; rintro en w1 ⟨rfl, h1⟩; have H1 := hid h1; clear h1))
  clear x0
  have x1 := box_cell H1.out 1 v1 rfl
  have HN1 := hid (len_now HL1.out)
  have HL2 := hid (len_step HL1.out)
  go_upto_region 3 with (first | (go_at_call 139; refine (wdataE H1.out E1.out HN1.out).mono ?_; rintro en w2 ⟨rfl, h2⟩; have H2 := hid h2; clear h2))
  clear x1
  have x2 := box_cell H2.out 2 v2 rfl
  go_wp2_with (first | (go_at_call 140; refine (wwholeE H2.out E2.out HL2.out).mono ?_; rintro en w3 ⟨rfl, h3⟩; have H3 := hid h3; clear h3))
  clear x2
  go_end0
  exact ⟨rfl, by simpa only [List.append_assoc] using H3.out.drop⟩

set_option maxHeartbeats 8000000 in
theorem wWrite_any {W0 w : World} {KK : List (Nat × Obj)} {a : Nat} {l : List UInt8} {v0 v1 v2 : Value} {b0 b1 b2 : List UInt8} (h : St 138 W0 KK a w l) (e0 : Enc W0 .data [v0] b0) (e1 : Enc W0 .data [v1] b1) (e2 : Enc W0 .bool [v2] b2) (hl : l.length + (b0 ++ (b1 ++ b2)).length ≤ 1000000000000) :
    Calls Tryz.prog 148 #[.pointer (some ⟨a, 0, none⟩), .agg #[v0, v1, v2]] w (Wrote 138 W0 KK a l (b0 ++ (b1 ++ b2))) := by
  have H0 := hid (h.box #[v0, v1, v2] 122)
  have HL0 := hid hl
  have E0 := hid e0
  have E1 := hid e1
  have E2 := hid e2
  clear h hl e0 e1 e2
  go_enter Tryz.func148, Tryz.ntmps148
  go_upto_region 1 with fail
  generalize w.alloc (.cells #[v0, v1, v2] 122) = w0 at *
  generalize w.heap.size = B at *
  have x0 := box_cell H0.out 0 v0 rfl
  have HN0 := hid (len_now HL0.out)
  have HL1 := hid (len_step HL0.out)
  go_upto_region 2 with (first | (go_at_call 139; refine (wdataE H0.out E0.out HN0.out).mono ?_; rintro en w1 ⟨rfl, h1⟩; have H1 := hid h1; clear h1))
  clear x0
  have x1 := box_cell H1.out 1 v1 rfl
  have HN1 := hid (len_now HL1.out)
  have HL2 := hid (len_step HL1.out)
  go_upto_region 3 with (first | (go_at_call 139; refine (wdataE H1.out E1.out HN1.out).mono ?_; rintro en w2 ⟨rfl, h2⟩; have H2 := hid h2; clear h2))
  clear x1
  have x2 := box_cell H2.out 2 v2 rfl
  go_wp2_with (first | (go_at_call 141; refine (wflagE H2.out E2.out HL2.out).mono ?_; rintro en w3 ⟨rfl, h3⟩; have H3 := hid h3; clear h3))
  clear x2
  go_end0
  exact ⟨rfl, by simpa only [List.append_assoc] using H3.out.drop⟩

set_option maxHeartbeats 8000000 in
theorem wSpan_any {W0 w : World} {KK : List (Nat × Obj)} {a : Nat} {l : List UInt8} {v0 v1 : Value} {b0 b1 : List UInt8} (h : St 138 W0 KK a w l) (e0 : Enc W0 .data [v0] b0) (e1 : Enc W0 .data [v1] b1) (hl : l.length + (b0 ++ b1).length ≤ 1000000000000) :
    Calls Tryz.prog 142 #[.pointer (some ⟨a, 0, none⟩), .agg #[v0, v1]] w (Wrote 138 W0 KK a l (b0 ++ b1)) := by
  have H0 := hid (h.box #[v0, v1] 32)
  have HL0 := hid hl
  have E0 := hid e0
  have E1 := hid e1
  clear h hl e0 e1
  go_enter Tryz.func142, Tryz.ntmps142
  go_upto_region 1 with fail
  generalize w.alloc (.cells #[v0, v1] 32) = w0 at *
  generalize w.heap.size = B at *
  have x0 := box_cell H0.out 0 v0 rfl
  have HN0 := hid (len_now HL0.out)
  have HL1 := hid (len_step HL0.out)
  go_upto_region 2 with (first | (go_at_call 139; refine (wdataE H0.out E0.out HN0.out).mono ?_; rintro en w1 ⟨rfl, h1⟩; have H1 := hid h1; clear h1))
  clear x0
  have x1 := box_cell H1.out 1 v1 rfl
  go_wp2_with (first | (go_at_call 139; refine (wdataE H1.out E1.out HL1.out).mono ?_; rintro en w2 ⟨rfl, h2⟩; have H2 := hid h2; clear h2))
  clear x1
  go_end0
  exact ⟨rfl, by simpa only [List.append_assoc] using H2.out.drop⟩

set_option maxHeartbeats 4000000 in
theorem wlist_Pair {W0 w : World} {KK : List (Nat × Obj)} {a : Nat} {l : List UInt8} {v : Value} {b : List UInt8} (h : St 138 W0 KK a w l) (e : Enc W0 (.list sPair) [v] b) (hl : l.length + b.length ≤ 1000000000000) :
    Calls Tryz.prog 143 #[.pointer (some ⟨a, 0, none⟩), v, (.func (.func 144) #[.pointer (some ⟨a, 0, none⟩)] #[])] w (Wrote 138 W0 KK a l b) := by
  obtain ⟨ao, n, c, M, rfl, hL, rfl⟩ := list_open e
  obtain ⟨hcap, hn6, hn64, hw⟩ := hL.cap
  have HLst := hid hL
  have HL := hid hl
  have C0 := hid (wnum_any h n hn64 (by have := HL.out; simp only [List.length_append] at this ⊢; omega))
  clear h e hl hL hn64
  go_enter Tryz.func143, Tryz.ntmps143
  go_wp2_with (first | (go_at_call 138; refine C0.out.mono ?_; rintro en w1 ⟨rfl, h1⟩; have H1 := hid h1; clear h1))
  clear hw C0
  go_loopw [15] (fun i wr => ∃ k, k ≤ n ∧ i = .int .i64 (k : Int) ∧ St 138 W0 KK a wr ((l ++ numL n) ++ takeB M k)) (fun i _ => n - (intOf i).toNat)
  case atStart => exact ⟨0, by omega, rfl, by rw [takeB_zero, List.append_nil]; exact H1.out⟩
  case round =>
    obtain ⟨k, hk, rfl, hst⟩ := hrel
    have HS := hid hst
    clear hst
    by_cases hlt : k < n
    · obtain ⟨⟨mc, mb⟩, bk, off, hm, rfl, hcell, htk, hle⟩ := HLst.out.get (by decide) hlt
      simp only at hm hcell htk hle
      obtain ⟨v0, v1, v2, b0, b1, b2, rfl, rfl, e0, e1, e2⟩ := Pair_cells hm
      obtain ⟨y0, j0, c0, rfl⟩ := form_data e0
      obtain ⟨y1, j1, c1, rfl⟩ := form_data e1
      obtain ⟨y2, rfl⟩ := form_int e2
      have d0 : wr.cell? ⟨bk, off + k * 3, none⟩ = some (.slice y0 j0 c0) := hcell _ HS.out.below 0 _ rfl
      have d1 : wr.cell? ⟨bk, off + k * 3 + 1, none⟩ = some (.slice y1 j1 c1) := hcell _ HS.out.below 1 _ rfl
      have d2 : wr.cell? ⟨bk, off + k * 3 + 2, none⟩ = some (.int .i64 y2) := hcell _ HS.out.below 2 _ rfl
      have HB := hid (HS.out.box #[(.slice y0 j0 c0), (.slice y1 j1 c1), (.int .i64 y2)] 72)
      have HX := hid hle
      have C := hid (wPair_any HB.out e0 e1 e2 (by have := HL.out; have := HX.out; simp only [List.length_append] at *; omega))
      have HT := hid htk
      clear htk hle hcell hm e0 e1 e2
      have hki : (k : Int) < (n : Int) := by omega
      go_wp2_with (first | (go_at_call 144; refine C.out.mono ?_; rintro en w2 ⟨rfl, h2⟩; have H2 := hid h2.drop; clear h2))
      go_roundw
      case rel => exact ⟨k + 1, by omega, by go_num, by rw [HT.out, ← List.append_assoc]; exact H2.out⟩
      case measure => simp [intOf]; omega
    · obtain rfl : k = n := by omega
      have hki : ¬ (k : Int) < (k : Int) := by omega
      go_wp2_with fail
      go_end0
      exact ⟨rfl, by rw [← List.append_assoc]; exact HS.out⟩

set_option maxHeartbeats 8000000 in
theorem wSeen_any {W0 w : World} {KK : List (Nat × Obj)} {a : Nat} {l : List UInt8} {v0 v1 v2 : Value} {b0 b1 b2 : List UInt8} (h : St 138 W0 KK a w l) (e0 : Enc W0 .data [v0] b0) (e1 : Enc W0 .data [v1] b1) (e2 : Enc W0 (.list sPair) [v2] b2) (hl : l.length + (b0 ++ (b1 ++ b2)).length ≤ 1000000000000) :
    Calls Tryz.prog 146 #[.pointer (some ⟨a, 0, none⟩), .agg #[v0, v1, v2]] w (Wrote 138 W0 KK a l (b0 ++ (b1 ++ b2))) := by
  have H0 := hid (h.box #[v0, v1, v2] 118)
  have HL0 := hid hl
  have E0 := hid e0
  have E1 := hid e1
  have E2 := hid e2
  clear h hl e0 e1 e2
  go_enter Tryz.func146, Tryz.ntmps146
  go_upto_region 1 with fail
  generalize w.alloc (.cells #[v0, v1, v2] 118) = w0 at *
  generalize w.heap.size = B at *
  have x0 := box_cell H0.out 0 v0 rfl
  have x1 := box_cell H0.out 1 v1 rfl
  have HG0 : Hid (l.length + ((b0 ++ b1) ++ (b2)).length ≤ 1000000000000) := hid (by simpa only [List.append_assoc] using HL0.out)
  have HN0 := hid (len_now HG0.out)
  have HL1 := hid (len_step HG0.out)
  go_upto_region 2 with (first | (go_at_call 142; refine (wSpan_any H0.out E0.out E1.out HN0.out).mono ?_; rintro en w1 ⟨rfl, h1⟩; have H1 := hid h1; clear h1))
  clear x0 x1
  have x2 := box_cell H1.out 2 v2 rfl
  go_wp2_with (first | (go_at_call 143; refine (wlist_Pair H1.out E2.out HL1.out).mono ?_; rintro en w2 ⟨rfl, h2⟩; have H2 := hid h2; clear h2))
  clear x2
  go_end0
  exact ⟨rfl, by simpa only [List.append_assoc] using H2.out.drop⟩

end Go.Proofs.YtdfccaehoodjhaaGreat

set_option linter.unusedVariables false
set_option linter.unusedSimpArgs false
set_option maxRecDepth 100000
namespace Go.Proofs.YtdfccaehoodjhaaGreat
open Go.RowKit Go.Deep

set_option maxHeartbeats 8000000 in
theorem wSet_any {W0 w : World} {KK : List (Nat × Obj)} {a : Nat} {l : List UInt8} {v0 v1 v2 v3 : Value} {b0 b1 b2 b3 : List UInt8} (h : St 138 W0 KK a w l) (e0 : Enc W0 .int [v0] b0) (e1 : Enc W0 .int [v1] b1) (e2 : Enc W0 .int [v2] b2) (e3 : Enc W0 .name [v3] b3) (hl : l.length + (b0 ++ (b1 ++ (b2 ++ b3))).length ≤ 1000000000000) :
    Calls Tryz.prog 204 #[.pointer (some ⟨a, 0, none⟩), .agg #[v0, v1, v2, v3]] w (Wrote 138 W0 KK a l (b0 ++ (b1 ++ (b2 ++ b3)))) := by
  have H0 := hid (h.box #[v0, v1, v2, v3] 212)
  have HL0 := hid hl
  have E0 := hid e0
  have E1 := hid e1
  have E2 := hid e2
  have E3 := hid e3
  clear h hl e0 e1 e2 e3
  go_enter Tryz.func204, Tryz.ntmps204
  go_upto_region 1 with fail
  generalize w.alloc (.cells #[v0, v1, v2, v3] 212) = w0 at *
  generalize w.heap.size = B at *
  have x0 := box_cell H0.out 0 v0 rfl
  have HN0 := hid (len_now HL0.out)
  have HL1 := hid (len_step HL0.out)
  go_upto_region 2 with (first | (go_at_call 140; refine (wwholeE H0.out E0.out HN0.out).mono ?_; rintro en w1 ⟨rfl, h1⟩; have H1 := hid h1; clear h1))
  clear x0
  have x1 := box_cell H1.out 1 v1 rfl
  have x2 := box_cell H1.out 2 v2 rfl
  have x3 := box_cell H1.out 3 v3 rfl
  go_wp2_with (first | (go_at_call 202; refine (wValue_any H1.out E1.out E2.out E3.out HL1.out).mono ?_; rintro en w2 ⟨rfl, h2⟩; have H2 := hid h2; clear h2))
  clear x1 x2 x3
  go_end0
  exact ⟨rfl, by simpa only [List.append_assoc] using H2.out.drop⟩

set_option maxHeartbeats 4000000 in
theorem wlist_Value {W0 w : World} {KK : List (Nat × Obj)} {a : Nat} {l : List UInt8} {v : Value} {b : List UInt8} (h : St 138 W0 KK a w l) (e : Enc W0 (.list sValue) [v] b) (hl : l.length + b.length ≤ 1000000000000) :
    Calls Tryz.prog 201 #[.pointer (some ⟨a, 0, none⟩), v, (.func (.func 202) #[.pointer (some ⟨a, 0, none⟩)] #[])] w (Wrote 138 W0 KK a l b) := by
  obtain ⟨ao, n, c, M, rfl, hL, rfl⟩ := list_open e
  obtain ⟨hcap, hn6, hn64, hw⟩ := hL.cap
  have HLst := hid hL
  have HL := hid hl
  have C0 := hid (wnum_any h n hn64 (by have := HL.out; simp only [List.length_append] at this ⊢; omega))
  clear h e hl hL hn64
  go_enter Tryz.func201, Tryz.ntmps201
  go_wp2_with (first | (go_at_call 138; refine C0.out.mono ?_; rintro en w1 ⟨rfl, h1⟩; have H1 := hid h1; clear h1))
  clear hw C0
  go_loopw [15] (fun i wr => ∃ k, k ≤ n ∧ i = .int .i64 (k : Int) ∧ St 138 W0 KK a wr ((l ++ numL n) ++ takeB M k)) (fun i _ => n - (intOf i).toNat)
  case atStart => exact ⟨0, by omega, rfl, by rw [takeB_zero, List.append_nil]; exact H1.out⟩
  case round =>
    obtain ⟨k, hk, rfl, hst⟩ := hrel
    have HS := hid hst
    clear hst
    by_cases hlt : k < n
    · obtain ⟨⟨mc, mb⟩, bk, off, hm, rfl, hcell, htk, hle⟩ := HLst.out.get (by decide) hlt
      simp only at hm hcell htk hle
      obtain ⟨v0, v1, v2, b0, b1, b2, rfl, rfl, e0, e1, e2⟩ := Value_cells hm
      obtain ⟨y0, rfl⟩ := form_int e0
      obtain ⟨y1, rfl⟩ := form_int e1
      obtain ⟨y2, rfl⟩ := form_name e2
      have d0 : wr.cell? ⟨bk, off + k * 3, none⟩ = some (.int .i64 y0) := hcell _ HS.out.below 0 _ rfl
      have d1 : wr.cell? ⟨bk, off + k * 3 + 1, none⟩ = some (.int .i64 y1) := hcell _ HS.out.below 1 _ rfl
      have d2 : wr.cell? ⟨bk, off + k * 3 + 2, none⟩ = some (.string y2) := hcell _ HS.out.below 2 _ rfl
      have HB := hid (HS.out.box #[(.int .i64 y0), (.int .i64 y1), (.string y2)] 209)
      have HX := hid hle
      have C := hid (wValue_any HB.out e0 e1 e2 (by have := HL.out; have := HX.out; simp only [List.length_append] at *; omega))
      have HT := hid htk
      clear htk hle hcell hm e0 e1 e2
      have hki : (k : Int) < (n : Int) := by omega
      go_wp2_with (first | (go_at_call 202; refine C.out.mono ?_; rintro en w2 ⟨rfl, h2⟩; have H2 := hid h2.drop; clear h2))
      go_roundw
      case rel => exact ⟨k + 1, by omega, by go_num, by rw [HT.out, ← List.append_assoc]; exact H2.out⟩
      case measure => simp [intOf]; omega
    · obtain rfl : k = n := by omega
      have hki : ¬ (k : Int) < (k : Int) := by omega
      go_wp2_with fail
      go_end0
      exact ⟨rfl, by rw [← List.append_assoc]; exact HS.out⟩

set_option maxHeartbeats 4000000 in
theorem wlist_Set {W0 w : World} {KK : List (Nat × Obj)} {a : Nat} {l : List UInt8} {v : Value} {b : List UInt8} (h : St 138 W0 KK a w l) (e : Enc W0 (.list sSet) [v] b) (hl : l.length + b.length ≤ 1000000000000) :
    Calls Tryz.prog 203 #[.pointer (some ⟨a, 0, none⟩), v, (.func (.func 204) #[.pointer (some ⟨a, 0, none⟩)] #[])] w (Wrote 138 W0 KK a l b) := by
  obtain ⟨ao, n, c, M, rfl, hL, rfl⟩ := list_open e
  obtain ⟨hcap, hn6, hn64, hw⟩ := hL.cap
  have HLst := hid hL
  have HL := hid hl
  have C0 := hid (wnum_any h n hn64 (by have := HL.out; simp only [List.length_append] at this ⊢; omega))
  clear h e hl hL hn64
  go_enter Tryz.func203, Tryz.ntmps203
  go_wp2_with (first | (go_at_call 138; refine C0.out.mono ?_; rintro en w1 ⟨rfl, h1⟩; have H1 := hid h1; clear h1))
  clear hw C0
  go_loopw [15] (fun i wr => ∃ k, k ≤ n ∧ i = .int .i64 (k : Int) ∧ St 138 W0 KK a wr ((l ++ numL n) ++ takeB M k)) (fun i _ => n - (intOf i).toNat)
  case atStart => exact ⟨0, by omega, rfl, by rw [takeB_zero, List.append_nil]; exact H1.out⟩
  case round =>
    obtain ⟨k, hk, rfl, hst⟩ := hrel
    have HS := hid hst
    clear hst
    by_cases hlt : k < n
    · obtain ⟨⟨mc, mb⟩, bk, off, hm, rfl, hcell, htk, hle⟩ := HLst.out.get (by decide) hlt
      simp only at hm hcell htk hle
      obtain ⟨v0, v1, v2, v3, b0, b1, b2, b3, rfl, rfl, e0, e1, e2, e3⟩ := Set_cells hm
      obtain ⟨y0, rfl⟩ := form_int e0
      obtain ⟨y1, rfl⟩ := form_int e1
      obtain ⟨y2, rfl⟩ := form_int e2
      obtain ⟨y3, rfl⟩ := form_name e3
      have d0 : wr.cell? ⟨bk, off + k * 4, none⟩ = some (.int .i64 y0) := hcell _ HS.out.below 0 _ rfl
      have d1 : wr.cell? ⟨bk, off + k * 4 + 1, none⟩ = some (.int .i64 y1) := hcell _ HS.out.below 1 _ rfl
      have d2 : wr.cell? ⟨bk, off + k * 4 + 2, none⟩ = some (.int .i64 y2) := hcell _ HS.out.below 2 _ rfl
      have d3 : wr.cell? ⟨bk, off + k * 4 + 3, none⟩ = some (.string y3) := hcell _ HS.out.below 3 _ rfl
      have HB := hid (HS.out.box #[(.int .i64 y0), (.int .i64 y1), (.int .i64 y2), (.string y3)] 212)
      have HX := hid hle
      have C := hid (wSet_any HB.out e0 e1 e2 e3 (by have := HL.out; have := HX.out; simp only [List.length_append] at *; omega))
      have HT := hid htk
      clear htk hle hcell hm e0 e1 e2 e3
      have hki : (k : Int) < (n : Int) := by omega
      go_wp2_with (first | (go_at_call 204; refine C.out.mono ?_; rintro en w2 ⟨rfl, h2⟩; have H2 := hid h2.drop; clear h2))
      go_roundw
      case rel => exact ⟨k + 1, by omega, by go_num, by rw [HT.out, ← List.append_assoc]; exact H2.out⟩
      case measure => simp [intOf]; omega
    · obtain rfl : k = n := by omega
      have hki : ¬ (k : Int) < (k : Int) := by omega
      go_wp2_with fail
      go_end0
      exact ⟨rfl, by rw [← List.append_assoc]; exact HS.out⟩

set_option maxHeartbeats 4000000 in
theorem wlist_data {W0 w : World} {KK : List (Nat × Obj)} {a : Nat} {l : List UInt8} {v : Value} {b : List UInt8} (h : St 138 W0 KK a w l) (e : Enc W0 (.list .data) [v] b) (hl : l.length + b.length ≤ 1000000000000) :
    Calls Tryz.prog 205 #[.pointer (some ⟨a, 0, none⟩), v, (.func (.func 139) #[.pointer (some ⟨a, 0, none⟩)] #[])] w (Wrote 138 W0 KK a l b) := by
  obtain ⟨ao, n, c, M, rfl, hL, rfl⟩ := list_open e
  obtain ⟨hcap, hn6, hn64, hw⟩ := hL.cap
  have HLst := hid hL
  have HL := hid hl
  have C0 := hid (wnum_any h n hn64 (by have := HL.out; simp only [List.length_append] at this ⊢; omega))
  clear h e hl hL hn64
  go_enter Tryz.func205, Tryz.ntmps205
  go_wp2_with (first | (go_at_call 138; refine C0.out.mono ?_; rintro en w1 ⟨rfl, h1⟩; have H1 := hid h1; clear h1))
  clear hw C0
  go_loopw [15] (fun i wr => ∃ k, k ≤ n ∧ i = .int .i64 (k : Int) ∧ St 138 W0 KK a wr ((l ++ numL n) ++ takeB M k)) (fun i _ => n - (intOf i).toNat)
  case atStart => exact ⟨0, by omega, rfl, by rw [takeB_zero, List.append_nil]; exact H1.out⟩
  case round =>
    obtain ⟨k, hk, rfl, hst⟩ := hrel
    have HS := hid hst
    clear hst
    by_cases hlt : k < n
    · obtain ⟨⟨mc, mb⟩, bk, off, hm, rfl, hcell, htk, hle⟩ := HLst.out.get (by decide) hlt
      simp only at hm hcell htk hle
      obtain ⟨v0, rfl⟩ := one_of hm rfl
      have d0 : wr.cell? ⟨bk, off + k, none⟩ = some v0 := by have := hcell _ HS.out.below 0 v0 rfl; rw [show Sh.wid .data = 1 from rfl, Nat.mul_one] at this; exact this
      have HX := hid hle
      have C := hid (wdataE HS.out hm (by have := HL.out; have := HX.out; simp only [List.length_append] at *; omega))
      have HT := hid htk
      clear htk hle hcell hm
      have hki : (k : Int) < (n : Int) := by omega
      go_wp2_with (first | (go_at_call 139; refine C.out.mono ?_; rintro en w2 ⟨rfl, h2⟩; have H2 := hid h2; clear h2))
      go_roundw
      case rel => exact ⟨k + 1, by omega, by go_num, by rw [HT.out, ← List.append_assoc]; exact H2.out⟩
      case measure => simp [intOf]; omega
    · obtain rfl : k = n := by omega
      have hki : ¬ (k : Int) < (k : Int) := by omega
      go_wp2_with fail
      go_end0
      exact ⟨rfl, by rw [← List.append_assoc]; exact HS.out⟩

set_option maxHeartbeats 8000000 in
theorem wOp_any {W0 w : World} {KK : List (Nat × Obj)} {a : Nat} {l : List UInt8} {v0 v1 v2 v3 v4 v5 v6 v7 v8 v9 v10 : Value} {b0 b1 b2 b3 b4 b5 b6 b7 b8 b9 b10 : List UInt8} (h : St 138 W0 KK a w l) (e0 : Enc W0 .int [v0] b0) (e1 : Enc W0 .name [v1] b1) (e2 : Enc W0 .name [v2] b2) (e3 : Enc W0 (.list sValue) [v3] b3) (e4 : Enc W0 (.list sValue) [v4] b4) (e5 : Enc W0 (.list sSet) [v5] b5) (e6 : Enc W0 (.list sValue) [v6] b6) (e7 : Enc W0 (.list sValue) [v7] b7) (e8 : Enc W0 .int [v8] b8) (e9 : Enc W0 .bool [v9] b9) (e10 : Enc W0 (.list .data) [v10] b10) (hl : l.length + (b0 ++ (b1 ++ (b2 ++ (b3 ++ (b4 ++ (b5 ++ (b6 ++ (b7 ++ (b8 ++ (b9 ++ b10)))))))))).length ≤ 1000000000000) :
    Calls Tryz.prog 157 #[.pointer (some ⟨a, 0, none⟩), .agg #[v0, v1, v2, v3, v4, v5, v6, v7, v8, v9, v10]] w (Wrote 138 W0 KK a l (b0 ++ (b1 ++ (b2 ++ (b3 ++ (b4 ++ (b5 ++ (b6 ++ (b7 ++ (b8 ++ (b9 ++ b10))))))))))) := by
  have H0 := hid (h.box #[v0, v1, v2, v3, v4, v5, v6, v7, v8, v9, v10] 135)
  have HL0 := hid hl
  have E0 := hid e0
  have E1 := hid e1
  have E2 := hid e2
  have E3 := hid e3
  have E4 := hid e4
  have E5 := hid e5
  have E6 := hid e6
  have E7 := hid e7
  have E8 := hid e8
  have E9 := hid e9
  have E10 := hid e10
  clear h hl e0 e1 e2 e3 e4 e5 e6 e7 e8 e9 e10
  go_enter Tryz.func157, Tryz.ntmps157
  go_upto_region 1 with fail
  generalize w.alloc (.cells #[v0, v1, v2, v3, v4, v5, v6, v7, v8, v9, v10] 135) = w0 at *
  generalize w.heap.size = B at *
  have x0 := box_cell H0.out 0 v0 rfl
  have HN0 := hid (len_now HL0.out)
  have HL1 := hid (len_step HL0.out)
  go_upto_region 2 with (first | (go_at_call 140; refine (wwholeE H0.out E0.out HN0.out).mono ?_; rintro en w1 ⟨rfl, h1⟩; have H1 := hid h1; clear h1))
  clear x0
  have x1 := box_cell H1.out 1 v1 rfl
  have HN1 := hid (len_now HL1.out)
  have HL2 := hid (len_step HL1.out)
  go_upto_region 3 with (first | (go_at_call 151; refine (wnameE H1.out E1.out HN1.out).mono ?_; rintro en w2 ⟨rfl, h2⟩; have H2 := hid h2; clear h2))
  clear x1
  have x2 := box_cell H2.out 2 v2 rfl
  have HN2 := hid (len_now HL2.out)
  have HL3 := hid (len_step HL2.out)
  go_upto_region 4 with (first | (go_at_call 151; refine (wnameE H2.out E2.out HN2.out).mono ?_; rintro en w3 ⟨rfl, h3⟩; have H3 := hid h3; clear h3))
  clear x2
  have x3 := box_cell H3.out 3 v3 rfl
  have HN3 := hid (len_now HL3.out)
  have HL4 := hid (len_step HL3.out)
  go_upto_region 5 with (first | (go_at_call 201; refine (wlist_Value H3.out E3.out HN3.out).mono ?_; rintro en w4 ⟨rfl, h4⟩; have H4 := hid h4; clear h4))
  clear x3
  have x4 := box_cell H4.out 4 v4 rfl
  have HN4 := hid (len_now HL4.out)
  have HL5 := hid (len_step HL4.out)
  go_upto_region 6 with (first | (go_at_call 201; refine (wlist_Value H4.out E4.out HN4.out).mono ?_; rintro en w5 ⟨rfl, h5⟩; have H5 := hid h5; clear h5))
  clear x4
  have x5 := box_cell H5.out 5 v5 rfl
  have HN5 := hid (len_now HL5.out)
  have HL6 := hid (len_step HL5.out)
  go_upto_region 7 with (first | (go_at_call 203; refine (wlist_Set H5.out E5.out HN5.out).mono ?_; rintro en w6 ⟨rfl, h6⟩; have H6 := hid h6; clear h6))
  clear x5
  have x6 := box_cell H6.out 6 v6 rfl
  have HN6 := hid (len_now HL6.out)
  have HL7 := hid (len_step HL6.out)
  go_upto_region 8 with (first | (go_at_call 201; refine (wlist_Value H6.out E6.out HN6.out).mono ?_; rintro en w7 ⟨rfl, h7⟩; have H7 := hid h7; clear h7))
  clear x6
  have x7 := box_cell H7.out 7 v7 rfl
  have HN7 := hid (len_now HL7.out)
  have HL8 := hid (len_step HL7.out)
  go_upto_region 9 with (first | (go_at_call 201; refine (wlist_Value H7.out E7.out HN7.out).mono ?_; rintro en w8 ⟨rfl, h8⟩; have H8 := hid h8; clear h8))
  clear x7
  have x8 := box_cell H8.out 8 v8 rfl
  have HN8 := hid (len_now HL8.out)
  have HL9 := hid (len_step HL8.out)
  go_upto_region 10 with (first | (go_at_call 140; refine (wwholeE H8.out E8.out HN8.out).mono ?_; rintro en w9 ⟨rfl, h9⟩; have H9 := hid h9; clear h9))
  clear x8
  have x9 := box_cell H9.out 9 v9 rfl
  have HN9 := hid (len_now HL9.out)
  have HL10 := hid (len_step HL9.out)
  go_upto_region 11 with (first | (go_at_call 141; refine (wflagE H9.out E9.out HN9.out).mono ?_; rintro en w10 ⟨rfl, h10⟩; have H10 := hid h10; clear h10))
  clear x9
  have x10 := box_cell H10.out 10 v10 rfl
  go_wp2_with (first | (go_at_call 205; refine (wlist_data H10.out E10.out HL10.out).mono ?_; rintro en w11 ⟨rfl, h11⟩; have H11 := hid h11; clear h11))
  clear x10
  go_end0
  exact ⟨rfl, by simpa only [List.append_assoc] using H11.out.drop⟩

set_option maxHeartbeats 4000000 in
theorem wlist_Op {W0 w : World} {KK : List (Nat × Obj)} {a : Nat} {l : List UInt8} {v : Value} {b : List UInt8} (h : St 138 W0 KK a w l) (e : Enc W0 (.list sOp) [v] b) (hl : l.length + b.length ≤ 1000000000000) :
    Calls Tryz.prog 156 #[.pointer (some ⟨a, 0, none⟩), v, (.func (.func 157) #[.pointer (some ⟨a, 0, none⟩)] #[])] w (Wrote 138 W0 KK a l b) := by
  obtain ⟨ao, n, c, M, rfl, hL, rfl⟩ := list_open e
  obtain ⟨hcap, hn6, hn64, hw⟩ := hL.cap
  have HLst := hid hL
  have HL := hid hl
  have C0 := hid (wnum_any h n hn64 (by have := HL.out; simp only [List.length_append] at this ⊢; omega))
  clear h e hl hL hn64
  go_enter Tryz.func156, Tryz.ntmps156
  go_wp2_with (first | (go_at_call 138; refine C0.out.mono ?_; rintro en w1 ⟨rfl, h1⟩; have H1 := hid h1; clear h1))
  clear hw C0
  go_loopw [15] (fun i wr => ∃ k, k ≤ n ∧ i = .int .i64 (k : Int) ∧ St 138 W0 KK a wr ((l ++ numL n) ++ takeB M k)) (fun i _ => n - (intOf i).toNat)
  case atStart => exact ⟨0, by omega, rfl, by rw [takeB_zero, List.append_nil]; exact H1.out⟩
  case round =>
    obtain ⟨k, hk, rfl, hst⟩ := hrel
    have HS := hid hst
    clear hst
    by_cases hlt : k < n
    · obtain ⟨⟨mc, mb⟩, bk, off, hm, rfl, hcell, htk, hle⟩ := HLst.out.get (by decide) hlt
      simp only at hm hcell htk hle
      obtain ⟨v0, v1, v2, v3, v4, v5, v6, v7, v8, v9, v10, b0, b1, b2, b3, b4, b5, b6, b7, b8, b9, b10, rfl, rfl, e0, e1, e2, e3, e4, e5, e6, e7, e8, e9, e10⟩ := Op_cells hm
      obtain ⟨y0, rfl⟩ := form_int e0
      obtain ⟨y1, rfl⟩ := form_name e1
      obtain ⟨y2, rfl⟩ := form_name e2
      obtain ⟨y3, j3, c3, rfl⟩ := form_list e3
      obtain ⟨y4, j4, c4, rfl⟩ := form_list e4
      obtain ⟨y5, j5, c5, rfl⟩ := form_list e5
      obtain ⟨y6, j6, c6, rfl⟩ := form_list e6
      obtain ⟨y7, j7, c7, rfl⟩ := form_list e7
      obtain ⟨y8, rfl⟩ := form_int e8
      obtain ⟨y9, rfl⟩ := form_bool e9
      obtain ⟨y10, j10, c10, rfl⟩ := form_list e10
      have d0 : wr.cell? ⟨bk, off + k * 11, none⟩ = some (.int .i64 y0) := hcell _ HS.out.below 0 _ rfl
      have d1 : wr.cell? ⟨bk, off + k * 11 + 1, none⟩ = some (.string y1) := hcell _ HS.out.below 1 _ rfl
      have d2 : wr.cell? ⟨bk, off + k * 11 + 2, none⟩ = some (.string y2) := hcell _ HS.out.below 2 _ rfl
      have d3 : wr.cell? ⟨bk, off + k * 11 + 3, none⟩ = some (.slice y3 j3 c3) := hcell _ HS.out.below 3 _ rfl
      have d4 : wr.cell? ⟨bk, off + k * 11 + 4, none⟩ = some (.slice y4 j4 c4) := hcell _ HS.out.below 4 _ rfl
      have d5 : wr.cell? ⟨bk, off + k * 11 + 5, none⟩ = some (.slice y5 j5 c5) := hcell _ HS.out.below 5 _ rfl
      have d6 : wr.cell? ⟨bk, off + k * 11 + 6, none⟩ = some (.slice y6 j6 c6) := hcell _ HS.out.below 6 _ rfl
      have d7 : wr.cell? ⟨bk, off + k * 11 + 7, none⟩ = some (.slice y7 j7 c7) := hcell _ HS.out.below 7 _ rfl
      have d8 : wr.cell? ⟨bk, off + k * 11 + 8, none⟩ = some (.int .i64 y8) := hcell _ HS.out.below 8 _ rfl
      have d9 : wr.cell? ⟨bk, off + k * 11 + 9, none⟩ = some (.bool y9) := hcell _ HS.out.below 9 _ rfl
      have d10 : wr.cell? ⟨bk, off + k * 11 + 10, none⟩ = some (.slice y10 j10 c10) := hcell _ HS.out.below 10 _ rfl
      have HB := hid (HS.out.box #[(.int .i64 y0), (.string y1), (.string y2), (.slice y3 j3 c3), (.slice y4 j4 c4), (.slice y5 j5 c5), (.slice y6 j6 c6), (.slice y7 j7 c7), (.int .i64 y8), (.bool y9), (.slice y10 j10 c10)] 135)
      have HX := hid hle
      have C := hid (wOp_any HB.out e0 e1 e2 e3 e4 e5 e6 e7 e8 e9 e10 (by have := HL.out; have := HX.out; simp only [List.length_append] at *; omega))
      have HT := hid htk
      clear htk hle hcell hm e0 e1 e2 e3 e4 e5 e6 e7 e8 e9 e10
      have hki : (k : Int) < (n : Int) := by omega
      go_wp2_with (first | (go_at_call 157; refine C.out.mono ?_; rintro en w2 ⟨rfl, h2⟩; have H2 := hid h2.drop; clear h2))
      go_roundw
      case rel => exact ⟨k + 1, by omega, by go_num, by rw [HT.out, ← List.append_assoc]; exact H2.out⟩
      case measure => simp [intOf]; omega
    · obtain rfl : k = n := by omega
      have hki : ¬ (k : Int) < (k : Int) := by omega
      go_wp2_with fail
      go_end0
      exact ⟨rfl, by rw [← List.append_assoc]; exact HS.out⟩

set_option maxHeartbeats 8000000 in
theorem wAsk_any {W0 w : World} {KK : List (Nat × Obj)} {a : Nat} {l : List UInt8} {v0 v1 v2 v3 v4 v5 v6 v7 v8 v9 v10 v11 v12 v13 v14 v15 : Value} {b0 b1 b2 b3 b4 b5 b6 b7 b8 b9 b10 b11 b12 b13 b14 b15 : List UInt8} (h : St 138 W0 KK a w l) (e0 : Enc W0 .int [v0] b0) (e1 : Enc W0 (.list sOp) [v1] b1) (e2 : Enc W0 .int [v2] b2) (e3 : Enc W0 .name [v3] b3) (e4 : Enc W0 (.list sColumn) [v4] b4) (e5 : Enc W0 (.list .int) [v5] b5) (e6 : Enc W0 .int [v6] b6) (e7 : Enc W0 .int [v7] b7) (e8 : Enc W0 .name [v8] b8) (e9 : Enc W0 (.list .int) [v9] b9) (e10 : Enc W0 .bool [v10] b10) (e11 : Enc W0 .int [v11] b11) (e12 : Enc W0 .bool [v12] b12) (e13 : Enc W0 .name [v13] b13) (e14 : Enc W0 .int [v14] b14) (e15 : Enc W0 .data [v15] b15) (hl : l.length + (b0 ++ (b1 ++ (b2 ++ (b3 ++ (b4 ++ (b5 ++ (b6 ++ (b7 ++ (b8 ++ (b9 ++ (b10 ++ (b11 ++ (b12 ++ (b13 ++ (b14 ++ b15))))))))))))))).length ≤ 1000000000000) :
    Calls Tryz.prog 77 #[.pointer (some ⟨a, 0, none⟩), .agg #[v0, v1, v2, v3, v4, v5, v6, v7, v8, v9, v10, v11, v12, v13, v14, v15]] w (Wrote 138 W0 KK a l (b0 ++ (b1 ++ (b2 ++ (b3 ++ (b4 ++ (b5 ++ (b6 ++ (b7 ++ (b8 ++ (b9 ++ (b10 ++ (b11 ++ (b12 ++ (b13 ++ (b14 ++ b15)))))))))))))))) := by
  have H0 := hid (h.box #[v0, v1, v2, v3, v4, v5, v6, v7, v8, v9, v10, v11, v12, v13, v14, v15] 62)
  have HL0 := hid hl
  have E0 := hid e0
  have E1 := hid e1
  have E2 := hid e2
  have E3 := hid e3
  have E4 := hid e4
  have E5 := hid e5
  have E6 := hid e6
  have E7 := hid e7
  have E8 := hid e8
  have E9 := hid e9
  have E10 := hid e10
  have E11 := hid e11
  have E12 := hid e12
  have E13 := hid e13
  have E14 := hid e14
  have E15 := hid e15
  clear h hl e0 e1 e2 e3 e4 e5 e6 e7 e8 e9 e10 e11 e12 e13 e14 e15
  go_enter Tryz.func77, Tryz.ntmps77
  go_upto_region 1 with fail
  generalize w.alloc (.cells #[v0, v1, v2, v3, v4, v5, v6, v7, v8, v9, v10, v11, v12, v13, v14, v15] 62) = w0 at *
  generalize w.heap.size = B at *
  have x0 := box_cell H0.out 0 v0 rfl
  have HN0 := hid (len_now HL0.out)
  have HL1 := hid (len_step HL0.out)
  go_upto_region 2 with (first | (go_at_call 140; refine (wwholeE H0.out E0.out HN0.out).mono ?_; rintro en w1 ⟨rfl, h1⟩; have H1 := hid h1; clear h1))
  clear x0
  have x1 := box_cell H1.out 1 v1 rfl
  have HN1 := hid (len_now HL1.out)
  have HL2 := hid (len_step HL1.out)
  go_upto_region 3 with (first | (go_at_call 156; refine (wlist_Op H1.out E1.out HN1.out).mono ?_; rintro en w2 ⟨rfl, h2⟩; have H2 := hid h2; clear h2))
  clear x1
  have x2 := box_cell H2.out 2 v2 rfl
  have x3 := box_cell H2.out 3 v3 rfl
  have x4 := box_cell H2.out 4 v4 rfl
  have x5 := box_cell H2.out 5 v5 rfl
  have HG2 : Hid (((l ++ b0) ++ b1).length + ((b2 ++ (b3 ++ (b4 ++ b5))) ++ (b6 ++ (b7 ++ (b8 ++ (b9 ++ (b10 ++ (b11 ++ (b12 ++ (b13 ++ (b14 ++ b15)))))))))).length ≤ 1000000000000) := hid (by simpa only [List.append_assoc] using HL2.out)
  have HN2 := hid (len_now HG2.out)
  have HL3 := hid (len_step HG2.out)
  go_upto_region 4 with (first | (go_at_call 149; refine (wTable_any H2.out E2.out E3.out E4.out E5.out HN2.out).mono ?_; rintro en w3 ⟨rfl, h3⟩; have H3 := hid h3; clear h3))
  clear x2 x3 x4 x5
  have x6 := box_cell H3.out 6 v6 rfl
  have x7 := box_cell H3.out 7 v7 rfl
  have x8 := box_cell H3.out 8 v8 rfl
  have x9 := box_cell H3.out 9 v9 rfl
  have x10 := box_cell H3.out 10 v10 rfl
  have x11 := box_cell H3.out 11 v11 rfl
  have x12 := box_cell H3.out 12 v12 rfl
  have HG3 : Hid ((((l ++ b0) ++ b1) ++ (b2 ++ (b3 ++ (b4 ++ b5)))).length + ((b6 ++ (b7 ++ (b8 ++ (b9 ++ (b10 ++ (b11 ++ b12)))))) ++ (b13 ++ (b14 ++ b15))).length ≤ 1000000000000) := hid (by simpa only [List.append_assoc] using HL3.out)
  have HN3 := hid (len_now HG3.out)
  have HL4 := hid (len_step HG3.out)
  go_upto_region 5 with (first | (go_at_call 150; refine (wIndex_any H3.out E6.out E7.out E8.out E9.out E10.out E11.out E12.out HN3.out).mono ?_; rintro en w4 ⟨rfl, h4⟩; have H4 := hid h4; clear h4))
  clear x6 x7 x8 x9 x10 x11 x12
  have x13 := box_cell H4.out 13 v13 rfl
  have HN4 := hid (len_now HL4.out)
  have HL5 := hid (len_step HL4.out)
  go_upto_region 6 with (first | (go_at_call 151; refine (wnameE H4.out E13.out HN4.out).mono ?_; rintro en w5 ⟨rfl, h5⟩; have H5 := hid h5; clear h5))
  clear x13
  have x14 := box_cell H5.out 14 v14 rfl
  have HN5 := hid (len_now HL5.out)
  have HL6 := hid (len_step HL5.out)
  go_upto_region 7 with (first | (go_at_call 140; refine (wwholeE H5.out E14.out HN5.out).mono ?_; rintro en w6 ⟨rfl, h6⟩; have H6 := hid h6; clear h6))
  clear x14
  have x15 := box_cell H6.out 15 v15 rfl
  go_wp2_with (first | (go_at_call 139; refine (wdataE H6.out E15.out HL6.out).mono ?_; rintro en w7 ⟨rfl, h7⟩; have H7 := hid h7; clear h7))
  clear x15
  go_end0
  exact ⟨rfl, by simpa only [List.append_assoc] using H7.out.drop⟩

set_option maxHeartbeats 8000000 in
theorem wCall_any {W0 w : World} {KK : List (Nat × Obj)} {a : Nat} {l : List UInt8} {v0 v1 v2 : Value} {b0 b1 b2 : List UInt8} (h : St 138 W0 KK a w l) (e0 : Enc W0 .num [v0] b0) (e1 : Enc W0 .num [v1] b1) (e2 : Enc W0 .data [v2] b2) (hl : l.length + (b0 ++ (b1 ++ b2)).length ≤ 1000000000000) :
    Calls Tryz.prog 74 #[.pointer (some ⟨a, 0, none⟩), .agg #[v0, v1, v2]] w (Wrote 138 W0 KK a l (b0 ++ (b1 ++ b2))) := by
  have H0 := hid (h.box #[v0, v1, v2] 27)
  have HL0 := hid hl
  have E0 := hid e0
  have E1 := hid e1
  have E2 := hid e2
  clear h hl e0 e1 e2
  go_enter Tryz.func74, Tryz.ntmps74
  go_upto_region 1 with fail
  generalize w.alloc (.cells #[v0, v1, v2] 27) = w0 at *
  generalize w.heap.size = B at *
  have x0 := box_cell H0.out 0 v0 rfl
  have HN0 := hid (len_now HL0.out)
  have HL1 := hid (len_step HL0.out)
  go_upto_region 2 with (first | (go_at_call 138; refine (wnumE H0.out E0.out HN0.out).mono ?_; rintro en w1 ⟨rfl, h1⟩; have H1 := hid h1; clear h1))
  clear x0
  have x1 := box_cell H1.out 1 v1 rfl
  have HN1 := hid (len_now HL1.out)
  have HL2 := hid (len_step HL1.out)
  go_upto_region 3 with (first | (go_at_call 138; refine (wnumE H1.out E1.out HN1.out).mono ?_; rintro en w2 ⟨rfl, h2⟩; have H2 := hid h2; clear h2))
  clear x1
  have x2 := box_cell H2.out 2 v2 rfl
  go_wp2_with (first | (go_at_call 139; refine (wdataE H2.out E2.out HL2.out).mono ?_; rintro en w3 ⟨rfl, h3⟩; have H3 := hid h3; clear h3))
  clear x2
  go_end0
  exact ⟨rfl, by simpa only [List.append_assoc] using H3.out.drop⟩

end Go.Proofs.YtdfccaehoodjhaaGreat

set_option linter.unusedVariables false
set_option linter.unusedSimpArgs false
set_option maxRecDepth 100000
namespace Go.Proofs.YtdfccaehoodjhaaGreat
open Go.RowKit Go.Deep

set_option maxHeartbeats 8000000 in
theorem wtopCall_any {W0 : World} {v0 v1 v2 : Value} {b0 b1 b2 : List UInt8} (e0 : Enc W0 .num [v0] b0) (e1 : Enc W0 .num [v1] b1) (e2 : Enc W0 .data [v2] b2) (hl : (b0 ++ (b1 ++ b2)).length ≤ 1000000000000) :
    Calls Tryz.prog 25 #[.agg #[v0, v1, v2]] W0 (Gives 5 W0 (b0 ++ (b1 ++ b2))) := by
  have H0 := hid (St.begin W0 #[v0, v1, v2] 27 138)
  have C := fun (w0 : World) (a B : Nat) (h : St 138 W0 [(B, .cells #[v0, v1, v2] 27 (0, 0))] a w0 []) => wCall_any h e0 e1 e2 (by rw [List.length_nil, Nat.zero_add]; exact hl)
  have CH := hid C
  clear C hl e0 e1 e2
  go_enter Tryz.func25, Tryz.ntmps25
  go_upto_region 2 with fail
  generalize (W0.alloc (.cells #[v0, v1, v2] 27)).alloc (.cells #[.slice none 0 0] 138) = w0 at *
  obtain ⟨B, hB⟩ : ∃ B, B = W0.heap.size := ⟨_, rfl⟩
  obtain ⟨a, ha⟩ : ∃ a, a = W0.heap.size + 1 := ⟨_, rfl⟩
  rw [← ha, ← hB] at H0
  try rw [← ha]
  try rw [← hB]
  clear hB ha
  have CC := hid (CH.out _ _ _ H0.out)
  have x0 := box_cell H0.out 0 v0 rfl
  have x1 := box_cell H0.out 1 v1 rfl
  have x2 := box_cell H0.out 2 v2 rfl
  go_upto_region 3 with (first | (go_at_call 74; refine CC.out.mono ?_; rintro en w1 ⟨rfl, h1⟩; have H1 := hid h1; clear h1))
  obtain ⟨cx, hx, hg⟩ := St.ends (show St 138 W0 _ a _ (b0 ++ (b1 ++ b2)) from H1.out)
  obtain ⟨z0, z1⟩ := one_cell hx
  have HG := hid hg
  clear hx hg x0 x1 x2
  go_wp2_with fail
  go_ret
  exact HG.out

end Go.Proofs.YtdfccaehoodjhaaGreat

set_option linter.unusedVariables false
set_option linter.unusedSimpArgs false
set_option maxRecDepth 100000
namespace Go.Proofs.YtdfccaehoodjhaaGreat
open Go.RowKit Go.Deep

theorem rd_new (W : World) (l : List UInt8) (t : TypeId) (z : Nat × Nat) (n : Nat) (hn : n = l.length) (hl : l.length ≤ 1000) : Rd (W.alloc (.cells (l.map bv).toArray t z)) (.slice (some ⟨W.heap.size, 0, none⟩) n n) l := by
  subst hn
  refine ⟨some ⟨W.heap.size, 0, none⟩, l.length, rfl, Nat.le_refl _, by unfold maxLen; omega, (fun h => by cases h), fun a ha j u hu => ?_⟩
  cases ha
  rw [show Addr.add ⟨W.heap.size, 0, none⟩ j = ⟨W.heap.size, j, none⟩ from by simp [Addr.add]; omega]
  unfold World.cell?
  rw [heap_alloc_new]
  show ((l.map bv).toArray)[j]? = _
  rw [List.getElem?_toArray]
  first | exact hu | (rw [List.getElem?_map, hu]; rfl)

theorem awakeB : numL 1 ++ (numL 2 ++ textL [97]) = [1, 2, 1, 97] := by
  unfold textL
  rw [numL_lt (by decide), numL_lt (by decide), numL_lt (by decide)]
  decide

set_option maxHeartbeats 1000000 in
theorem xawake_any (w : World) : Calls Tryz.prog 5 #[] w fun e w' => e = .returned (.bool true) ∧ Below w.heap.size w w' := by
  have cv := Lib.run_convert_bytes_const (P := Tryz.prog) w 22 5 #[.int .u8 97] 1 1 Tryz.underlying22 Tryz.underlying5
  simp only [List.size_toArray, List.length_cons, List.length_nil, Nat.reduceAdd] at cv
  have hb : Below w.heap.size w (w.alloc (.cells #[.int .u8 97] 5 (1, 2))) := (Below.refl _ _).alloc (Nat.le_refl _) _
  have hr : Rd (w.alloc (.cells #[.int .u8 97] 5 (1, 2))) (.slice (some ⟨w.heap.size, 0, none⟩) 1 1) [97] := rd_new w [97] 5 (1, 2) 1 rfl (by decide)
  have C : Hid (Calls Tryz.prog 25 #[.agg #[.int .u64 1, .int .u64 2, .slice (some ⟨w.heap.size, 0, none⟩) 1 1]] (w.alloc (.cells #[.int .u8 97] 5 (1, 2))) (Gives 5 (w.alloc (.cells #[.int .u8 97] 5 (1, 2))) [1, 2, 1, 97])) := hid (by
    have := wtopCall_any (W0 := w.alloc (.cells #[.int .u8 97] 5 (1, 2))) (v0 := .int .u64 1) (v1 := .int .u64 2) (v2 := .slice (some ⟨w.heap.size, 0, none⟩) 1 1) (b0 := numL 1) (b1 := numL 2) (b2 := textL [97])
      ⟨1, by decide, rfl, rfl⟩ ⟨2, by decide, rfl, rfl⟩ ⟨_, [97], rfl, rfl, hr, by decide, rfl⟩ (by rw [awakeB]; decide)
    rw [awakeB] at this
    exact this)
  have HB := hid hb
  clear hr hb
  go_enter Tryz.func5, Tryz.ntmps5
  go_upto_region 2 with (first | (go_at_call 25; refine C.out.mono ?_; rintro en w2 ⟨vT, rfl, hx, hb2⟩; have HX := hid hx; have HB2 := hid (HB.out.trans (hb2.mono HB.out.size)); clear hx hb2))
  have hx := HX.out
  rcases hx.2 with ⟨rfl, hn⟩ | ⟨g, cap, cur, rfl, hg1, hg, hn, hc, hs, ht⟩
  · simp at hn
  have hc0 := hx.cells rfl 0 _ rfl
  have hc1 := hx.cells rfl 1 _ rfl
  have hc2 := hx.cells rfl 2 _ rfl
  have hc3 := hx.cells rfl 3 _ rfl
  simp only [WideShapes.add_plain, bv] at hc0 hc1 hc2 hc3
  have hcap : 4 ≤ cap := hn
  clear hs ht hg hx hn HX cv
  go_wp2_with fail
  go_ret
  exact ⟨rfl, HB2.out⟩

open Go.ChangeShapes Go.WideShapes Go.ChangeAt
/-- A struct that came in. -/
theorem struct_in {H : Type} {enc : TypeId × Value → H} {W : World} {base : Nat} {v : Value} {d : DataW H} {p : List MemPlace} (n : Nat) (s : Sh) (t : TypeId) {fs : Array Field} (hu : Tryz.prog.underlying t = some (.struct fs)) (ho : ofT n s t = true)
    (hw : Value.okWide Tryz.prog W .any base t v) (h : DataW.Trod enc Tryz.prog W 0 (fun _ => true) true t v d p) (hb : Rows.uptoBulk d ≤ 1048576) : ∃ cs bs, v = .agg cs.toArray ∧ Enc W s cs bs ∧ bs.length ≤ 10485760 := by
  unfold Value.okWide at hw
  rw [hu] at hw
  obtain ⟨cs, rfl, hsz, -⟩ := hw
  obtain ⟨fuel, hf⟩ := h
  obtain ⟨bs, h1, h2⟩ := opens (enc := enc) (W := W) n s t fuel cs.toList (d, p) ho hf hb
  exact ⟨cs.toList, bs, by simp, h1, by simp only at h2; omega⟩
theorem bulk_at {H : Type} {ds : List (DataW H)} (hk : Rows.uptoSmall H ds = true) {d : DataW H} (h : d ∈ ds) : Rows.uptoBulk d ≤ 1048576 := Nat.le_trans (bulk_mem h) (of_decide_eq_true hk)
theorem list_len {W : World} {s : Sh} {a : Option Addr} {n c : Nat} {b : List UInt8} (h : Enc W (.list s) [.slice a n c] b) : n ≤ c ∧ n ≤ 1048576 := by
  obtain ⟨a', n', c', M, hv, hL, -⟩ := list_open h
  cases hv
  exact ⟨hL.cap.1, hL.cap.2.1⟩
end Go.Proofs.YtdfccaehoodjhaaGreat

set_option linter.unusedVariables false
set_option linter.unusedSimpArgs false
set_option maxRecDepth 100000
namespace Go.Proofs.YtdfccaehoodjhaaGreat
open Go.RowKit Go.Deep

set_option maxHeartbeats 4000000 in
theorem wlist_Seen {W0 w : World} {KK : List (Nat × Obj)} {a : Nat} {l : List UInt8} {v : Value} {b : List UInt8} (h : St 138 W0 KK a w l) (e : Enc W0 (.list sSeen) [v] b) (hl : l.length + b.length ≤ 1000000000000) :
    Calls Tryz.prog 145 #[.pointer (some ⟨a, 0, none⟩), v, (.func (.func 146) #[.pointer (some ⟨a, 0, none⟩)] #[])] w (Wrote 138 W0 KK a l b) := by
  obtain ⟨ao, n, c, M, rfl, hL, rfl⟩ := list_open e
  obtain ⟨hcap, hn6, hn64, hw⟩ := hL.cap
  have HLst := hid hL
  have HL := hid hl
  have C0 := hid (wnum_any h n hn64 (by have := HL.out; simp only [List.length_append] at this ⊢; omega))
  clear h e hl hL hn64
  go_enter Tryz.func145, Tryz.ntmps145
  go_wp2_with (first | (go_at_call 138; refine C0.out.mono ?_; rintro en w1 ⟨rfl, h1⟩; have H1 := hid h1; clear h1))
  clear hw C0
  go_loopw [15] (fun i wr => ∃ k, k ≤ n ∧ i = .int .i64 (k : Int) ∧ St 138 W0 KK a wr ((l ++ numL n) ++ takeB M k)) (fun i _ => n - (intOf i).toNat)
  case atStart => exact ⟨0, by omega, rfl, by rw [takeB_zero, List.append_nil]; exact H1.out⟩
  case round =>
    obtain ⟨k, hk, rfl, hst⟩ := hrel
    have HS := hid hst
    clear hst
    by_cases hlt : k < n
    · obtain ⟨⟨mc, mb⟩, bk, off, hm, rfl, hcell, htk, hle⟩ := HLst.out.get (by decide) hlt
      simp only at hm hcell htk hle
      obtain ⟨v0, v1, v2, b0, b1, b2, rfl, rfl, e0, e1, e2⟩ := Seen_cells hm
      obtain ⟨y0, j0, c0, rfl⟩ := form_data e0
      obtain ⟨y1, j1, c1, rfl⟩ := form_data e1
      obtain ⟨y2, j2, c2, rfl⟩ := form_list e2
      have d0 : wr.cell? ⟨bk, off + k * 3, none⟩ = some (.slice y0 j0 c0) := hcell _ HS.out.below 0 _ rfl
      have d1 : wr.cell? ⟨bk, off + k * 3 + 1, none⟩ = some (.slice y1 j1 c1) := hcell _ HS.out.below 1 _ rfl
      have d2 : wr.cell? ⟨bk, off + k * 3 + 2, none⟩ = some (.slice y2 j2 c2) := hcell _ HS.out.below 2 _ rfl
      have HB := hid (HS.out.box #[(.slice y0 j0 c0), (.slice y1 j1 c1), (.slice y2 j2 c2)] 118)
      have HX := hid hle
      have C := hid (wSeen_any HB.out e0 e1 e2 (by have := HL.out; have := HX.out; simp only [List.length_append] at *; omega))
      have HT := hid htk
      clear htk hle hcell hm e0 e1 e2
      have hki : (k : Int) < (n : Int) := by omega
      go_wp2_with (first | (go_at_call 146; refine C.out.mono ?_; rintro en w2 ⟨rfl, h2⟩; have H2 := hid h2.drop; clear h2))
      go_roundw
      case rel => exact ⟨k + 1, by omega, by go_num, by rw [HT.out, ← List.append_assoc]; exact H2.out⟩
      case measure => simp [intOf]; omega
    · obtain rfl : k = n := by omega
      have hki : ¬ (k : Int) < (k : Int) := by omega
      go_wp2_with fail
      go_end0
      exact ⟨rfl, by rw [← List.append_assoc]; exact HS.out⟩

set_option maxHeartbeats 4000000 in
theorem wlist_Write {W0 w : World} {KK : List (Nat × Obj)} {a : Nat} {l : List UInt8} {v : Value} {b : List UInt8} (h : St 138 W0 KK a w l) (e : Enc W0 (.list sWrite) [v] b) (hl : l.length + b.length ≤ 1000000000000) :
    Calls Tryz.prog 147 #[.pointer (some ⟨a, 0, none⟩), v, (.func (.func 148) #[.pointer (some ⟨a, 0, none⟩)] #[])] w (Wrote 138 W0 KK a l b) := by
  obtain ⟨ao, n, c, M, rfl, hL, rfl⟩ := list_open e
  obtain ⟨hcap, hn6, hn64, hw⟩ := hL.cap
  have HLst := hid hL
  have HL := hid hl
  have C0 := hid (wnum_any h n hn64 (by have := HL.out; simp only [List.length_append] at this ⊢; omega))
  clear h e hl hL hn64
  go_enter Tryz.func147, Tryz.ntmps147
  go_wp2_with (first | (go_at_call 138; refine C0.out.mono ?_; rintro en w1 ⟨rfl, h1⟩; have H1 := hid h1; clear h1))
  clear hw C0
  go_loopw [15] (fun i wr => ∃ k, k ≤ n ∧ i = .int .i64 (k : Int) ∧ St 138 W0 KK a wr ((l ++ numL n) ++ takeB M k)) (fun i _ => n - (intOf i).toNat)
  case atStart => exact ⟨0, by omega, rfl, by rw [takeB_zero, List.append_nil]; exact H1.out⟩
  case round =>
    obtain ⟨k, hk, rfl, hst⟩ := hrel
    have HS := hid hst
    clear hst
    by_cases hlt : k < n
    · obtain ⟨⟨mc, mb⟩, bk, off, hm, rfl, hcell, htk, hle⟩ := HLst.out.get (by decide) hlt
      simp only at hm hcell htk hle
      obtain ⟨v0, v1, v2, b0, b1, b2, rfl, rfl, e0, e1, e2⟩ := Write_cells hm
      obtain ⟨y0, j0, c0, rfl⟩ := form_data e0
      obtain ⟨y1, j1, c1, rfl⟩ := form_data e1
      obtain ⟨y2, rfl⟩ := form_bool e2
      have d0 : wr.cell? ⟨bk, off + k * 3, none⟩ = some (.slice y0 j0 c0) := hcell _ HS.out.below 0 _ rfl
      have d1 : wr.cell? ⟨bk, off + k * 3 + 1, none⟩ = some (.slice y1 j1 c1) := hcell _ HS.out.below 1 _ rfl
      have d2 : wr.cell? ⟨bk, off + k * 3 + 2, none⟩ = some (.bool y2) := hcell _ HS.out.below 2 _ rfl
      have HB := hid (HS.out.box #[(.slice y0 j0 c0), (.slice y1 j1 c1), (.bool y2)] 122)
      have HX := hid hle
      have C := hid (wWrite_any HB.out e0 e1 e2 (by have := HL.out; have := HX.out; simp only [List.length_append] at *; omega))
      have HT := hid htk
      clear htk hle hcell hm e0 e1 e2
      have hki : (k : Int) < (n : Int) := by omega
      go_wp2_with (first | (go_at_call 148; refine C.out.mono ?_; rintro en w2 ⟨rfl, h2⟩; have H2 := hid h2.drop; clear h2))
      go_roundw
      case rel => exact ⟨k + 1, by omega, by go_num, by rw [HT.out, ← List.append_assoc]; exact H2.out⟩
      case measure => simp [intOf]; omega
    · obtain rfl : k = n := by omega
      have hki : ¬ (k : Int) < (k : Int) := by omega
      go_wp2_with fail
      go_end0
      exact ⟨rfl, by rw [← List.append_assoc]; exact HS.out⟩

set_option maxHeartbeats 8000000 in
theorem wCommand_any {W0 w : World} {KK : List (Nat × Obj)} {a : Nat} {l : List UInt8} {v0 v1 v2 v3 v4 v5 v6 v7 v8 v9 v10 v11 v12 v13 v14 v15 v16 v17 v18 v19 v20 v21 v22 v23 v24 : Value} {b0 b1 b2 b3 b4 b5 b6 b7 b8 b9 b10 b11 b12 b13 b14 b15 b16 b17 b18 b19 b20 b21 b22 b23 b24 : List UInt8} (h : St 138 W0 KK a w l) (e0 : Enc W0 .int [v0] b0) (e1 : Enc W0 .int [v1] b1) (e2 : Enc W0 .num [v2] b2) (e3 : Enc W0 .int [v3] b3) (e4 : Enc W0 .int [v4] b4) (e5 : Enc W0 .int [v5] b5) (e6 : Enc W0 .bool [v6] b6) (e7 : Enc W0 .data [v7] b7) (e8 : Enc W0 .data [v8] b8) (e9 : Enc W0 .data [v9] b9) (e10 : Enc W0 (.list sPair) [v10] b10) (e11 : Enc W0 (.list sSeen) [v11] b11) (e12 : Enc W0 (.list sWrite) [v12] b12) (e13 : Enc W0 .int [v13] b13) (e14 : Enc W0 .name [v14] b14) (e15 : Enc W0 (.list sColumn) [v15] b15) (e16 : Enc W0 (.list .int) [v16] b16) (e17 : Enc W0 .int [v17] b17) (e18 : Enc W0 .int [v18] b18) (e19 : Enc W0 .name [v19] b19) (e20 : Enc W0 (.list .int) [v20] b20) (e21 : Enc W0 .bool [v21] b21) (e22 : Enc W0 .int [v22] b22) (e23 : Enc W0 .bool [v23] b23) (e24 : Enc W0 .name [v24] b24) (hl : l.length + (b0 ++ (b1 ++ (b2 ++ (b3 ++ (b4 ++ (b5 ++ (b6 ++ (b7 ++ (b8 ++ (b9 ++ (b10 ++ (b11 ++ (b12 ++ (b13 ++ (b14 ++ (b15 ++ (b16 ++ (b17 ++ (b18 ++ (b19 ++ (b20 ++ (b21 ++ (b22 ++ (b23 ++ b24)))))))))))))))))))))))).length ≤ 1000000000000) :
    Calls Tryz.prog 75 #[.pointer (some ⟨a, 0, none⟩), .agg #[v0, v1, v2, v3, v4, v5, v6, v7, v8, v9, v10, v11, v12, v13, v14, v15, v16, v17, v18, v19, v20, v21, v22, v23, v24]] w (Wrote 138 W0 KK a l (b0 ++ (b1 ++ (b2 ++ (b3 ++ (b4 ++ (b5 ++ (b6 ++ (b7 ++ (b8 ++ (b9 ++ (b10 ++ (b11 ++ (b12 ++ (b13 ++ (b14 ++ (b15 ++ (b16 ++ (b17 ++ (b18 ++ (b19 ++ (b20 ++ (b21 ++ (b22 ++ (b23 ++ b24))))))))))))))))))))))))) := by
  have H0 := hid (h.box #[v0, v1, v2, v3, v4, v5, v6, v7, v8, v9, v10, v11, v12, v13, v14, v15, v16, v17, v18, v19, v20, v21, v22, v23, v24] 43)
  have HL0 := hid hl
  have E0 := hid e0
  have E1 := hid e1
  have E2 := hid e2
  have E3 := hid e3
  have E4 := hid e4
  have E5 := hid e5
  have E6 := hid e6
  have E7 := hid e7
  have E8 := hid e8
  have E9 := hid e9
  have E10 := hid e10
  have E11 := hid e11
  have E12 := hid e12
  have E13 := hid e13
  have E14 := hid e14
  have E15 := hid e15
  have E16 := hid e16
  have E17 := hid e17
  have E18 := hid e18
  have E19 := hid e19
  have E20 := hid e20
  have E21 := hid e21
  have E22 := hid e22
  have E23 := hid e23
  have E24 := hid e24
  clear h hl e0 e1 e2 e3 e4 e5 e6 e7 e8 e9 e10 e11 e12 e13 e14 e15 e16 e17 e18 e19 e20 e21 e22 e23 e24
  go_enter Tryz.func75, Tryz.ntmps75
  go_upto_region 1 with fail
  generalize w.alloc (.cells #[v0, v1, v2, v3, v4, v5, v6, v7, v8, v9, v10, v11, v12, v13, v14, v15, v16, v17, v18, v19, v20, v21, v22, v23, v24] 43) = w0 at *
  generalize w.heap.size = B at *
  have x0 := box_cell H0.out 0 v0 rfl
  have HN0 := hid (len_now HL0.out)
  have HL1 := hid (len_step HL0.out)
  go_upto_region 2 with (first | (go_at_call 140; refine (wwholeE H0.out E0.out HN0.out).mono ?_; rintro en w1 ⟨rfl, h1⟩; have H1 := hid h1; clear h1))
  clear x0
  have x1 := box_cell H1.out 1 v1 rfl
  have HN1 := hid (len_now HL1.out)
  have HL2 := hid (len_step HL1.out)
  go_upto_region 3 with (first | (go_at_call 140; refine (wwholeE H1.out E1.out HN1.out).mono ?_; rintro en w2 ⟨rfl, h2⟩; have H2 := hid h2; clear h2))
  clear x1
  have x2 := box_cell H2.out 2 v2 rfl
  have HN2 := hid (len_now HL2.out)
  have HL3 := hid (len_step HL2.out)
  go_upto_region 4 with (first | (go_at_call 138; refine (wnumE H2.out E2.out HN2.out).mono ?_; rintro en w3 ⟨rfl, h3⟩; have H3 := hid h3; clear h3))
  clear x2
  have x3 := box_cell H3.out 3 v3 rfl
  have HN3 := hid (len_now HL3.out)
  have HL4 := hid (len_step HL3.out)
  go_upto_region 5 with (first | (go_at_call 140; refine (wwholeE H3.out E3.out HN3.out).mono ?_; rintro en w4 ⟨rfl, h4⟩; have H4 := hid h4; clear h4))
  clear x3
  have x4 := box_cell H4.out 4 v4 rfl
  have HN4 := hid (len_now HL4.out)
  have HL5 := hid (len_step HL4.out)
  go_upto_region 6 with (first | (go_at_call 140; refine (wwholeE H4.out E4.out HN4.out).mono ?_; rintro en w5 ⟨rfl, h5⟩; have H5 := hid h5; clear h5))
  clear x4
  have x5 := box_cell H5.out 5 v5 rfl
  have HN5 := hid (len_now HL5.out)
  have HL6 := hid (len_step HL5.out)
  go_upto_region 7 with (first | (go_at_call 140; refine (wwholeE H5.out E5.out HN5.out).mono ?_; rintro en w6 ⟨rfl, h6⟩; have H6 := hid h6; clear h6))
  clear x5
  have x6 := box_cell H6.out 6 v6 rfl
  have HN6 := hid (len_now HL6.out)
  have HL7 := hid (len_step HL6.out)
  go_upto_region 8 with (first | (go_at_call 141; refine (wflagE H6.out E6.out HN6.out).mono ?_; rintro en w7 ⟨rfl, h7⟩; have H7 := hid h7; clear h7))
  clear x6
  have x7 := box_cell H7.out 7 v7 rfl
  have HN7 := hid (len_now HL7.out)
  have HL8 := hid (len_step HL7.out)
  go_upto_region 9 with (first | (go_at_call 139; refine (wdataE H7.out E7.out HN7.out).mono ?_; rintro en w8 ⟨rfl, h8⟩; have H8 := hid h8; clear h8))
  clear x7
  have x8 := box_cell H8.out 8 v8 rfl
  have x9 := box_cell H8.out 9 v9 rfl
  have HG8 : Hid (((((((((l ++ b0) ++ b1) ++ b2) ++ b3) ++ b4) ++ b5) ++ b6) ++ b7).length + ((b8 ++ b9) ++ (b10 ++ (b11 ++ (b12 ++ (b13 ++ (b14 ++ (b15 ++ (b16 ++ (b17 ++ (b18 ++ (b19 ++ (b20 ++ (b21 ++ (b22 ++ (b23 ++ b24))))))))))))))).length ≤ 1000000000000) := hid (by simpa only [List.append_assoc] using HL8.out)
  have HN8 := hid (len_now HG8.out)
  have HL9 := hid (len_step HG8.out)
  go_upto_region 10 with (first | (go_at_call 142; refine (wSpan_any H8.out E8.out E9.out HN8.out).mono ?_; rintro en w9 ⟨rfl, h9⟩; have H9 := hid h9; clear h9))
  clear x8 x9
  have x10 := box_cell H9.out 10 v10 rfl
  have HN9 := hid (len_now HL9.out)
  have HL10 := hid (len_step HL9.out)
  go_upto_region 11 with (first | (go_at_call 143; refine (wlist_Pair H9.out E10.out HN9.out).mono ?_; rintro en w10 ⟨rfl, h10⟩; have H10 := hid h10; clear h10))
  clear x10
  have x11 := box_cell H10.out 11 v11 rfl
  have HN10 := hid (len_now HL10.out)
  have HL11 := hid (len_step HL10.out)
  go_upto_region 12 with (first | (go_at_call 145; refine (wlist_Seen H10.out E11.out HN10.out).mono ?_; rintro en w11 ⟨rfl, h11⟩; have H11 := hid h11; clear h11))
  clear x11
  have x12 := box_cell H11.out 12 v12 rfl
  have HN11 := hid (len_now HL11.out)
  have HL12 := hid (len_step HL11.out)
  go_upto_region 13 with (first | (go_at_call 147; refine (wlist_Write H11.out E12.out HN11.out).mono ?_; rintro en w12 ⟨rfl, h12⟩; have H12 := hid h12; clear h12))
  clear x12
  have x13 := box_cell H12.out 13 v13 rfl
  have x14 := box_cell H12.out 14 v14 rfl
  have x15 := box_cell H12.out 15 v15 rfl
  have x16 := box_cell H12.out 16 v16 rfl
  have HG12 : Hid (((((((((((((l ++ b0) ++ b1) ++ b2) ++ b3) ++ b4) ++ b5) ++ b6) ++ b7) ++ (b8 ++ b9)) ++ b10) ++ b11) ++ b12).length + ((b13 ++ (b14 ++ (b15 ++ b16))) ++ (b17 ++ (b18 ++ (b19 ++ (b20 ++ (b21 ++ (b22 ++ (b23 ++ b24)))))))).length ≤ 1000000000000) := hid (by simpa only [List.append_assoc] using HL12.out)
  have HN12 := hid (len_now HG12.out)
  have HL13 := hid (len_step HG12.out)
  go_upto_region 14 with (first | (go_at_call 149; refine (wTable_any H12.out E13.out E14.out E15.out E16.out HN12.out).mono ?_; rintro en w13 ⟨rfl, h13⟩; have H13 := hid h13; clear h13))
  clear x13 x14 x15 x16
  have x17 := box_cell H13.out 17 v17 rfl
  have x18 := box_cell H13.out 18 v18 rfl
  have x19 := box_cell H13.out 19 v19 rfl
  have x20 := box_cell H13.out 20 v20 rfl
  have x21 := box_cell H13.out 21 v21 rfl
  have x22 := box_cell H13.out 22 v22 rfl
  have x23 := box_cell H13.out 23 v23 rfl
  have HG13 : Hid ((((((((((((((l ++ b0) ++ b1) ++ b2) ++ b3) ++ b4) ++ b5) ++ b6) ++ b7) ++ (b8 ++ b9)) ++ b10) ++ b11) ++ b12) ++ (b13 ++ (b14 ++ (b15 ++ b16)))).length + ((b17 ++ (b18 ++ (b19 ++ (b20 ++ (b21 ++ (b22 ++ b23)))))) ++ (b24)).length ≤ 1000000000000) := hid (by simpa only [List.append_assoc] using HL13.out)
  have HN13 := hid (len_now HG13.out)
  have HL14 := hid (len_step HG13.out)
  go_upto_region 15 with (first | (go_at_call 150; refine (wIndex_any H13.out E17.out E18.out E19.out E20.out E21.out E22.out E23.out HN13.out).mono ?_; rintro en w14 ⟨rfl, h14⟩; have H14 := hid h14; clear h14))
  clear x17 x18 x19 x20 x21 x22 x23
  have x24 := box_cell H14.out 24 v24 rfl
  go_wp2_with (first | (go_at_call 151; refine (wnameE H14.out E24.out HL14.out).mono ?_; rintro en w15 ⟨rfl, h15⟩; have H15 := hid h15; clear h15))
  clear x24
  go_end0
  exact ⟨rfl, by simpa only [List.append_assoc] using H15.out.drop⟩

end Go.Proofs.YtdfccaehoodjhaaGreat

set_option linter.unusedVariables false
set_option linter.unusedSimpArgs false
set_option maxRecDepth 100000
namespace Go.Proofs.YtdfccaehoodjhaaGreat
open Go.RowKit Go.Deep

set_option maxHeartbeats 8000000 in
theorem wtopCommand_any {W0 : World} {v0 v1 v2 v3 v4 v5 v6 v7 v8 v9 v10 v11 v12 v13 v14 v15 v16 v17 v18 v19 v20 v21 v22 v23 v24 : Value} {b0 b1 b2 b3 b4 b5 b6 b7 b8 b9 b10 b11 b12 b13 b14 b15 b16 b17 b18 b19 b20 b21 b22 b23 b24 : List UInt8} (e0 : Enc W0 .int [v0] b0) (e1 : Enc W0 .int [v1] b1) (e2 : Enc W0 .num [v2] b2) (e3 : Enc W0 .int [v3] b3) (e4 : Enc W0 .int [v4] b4) (e5 : Enc W0 .int [v5] b5) (e6 : Enc W0 .bool [v6] b6) (e7 : Enc W0 .data [v7] b7) (e8 : Enc W0 .data [v8] b8) (e9 : Enc W0 .data [v9] b9) (e10 : Enc W0 (.list sPair) [v10] b10) (e11 : Enc W0 (.list sSeen) [v11] b11) (e12 : Enc W0 (.list sWrite) [v12] b12) (e13 : Enc W0 .int [v13] b13) (e14 : Enc W0 .name [v14] b14) (e15 : Enc W0 (.list sColumn) [v15] b15) (e16 : Enc W0 (.list .int) [v16] b16) (e17 : Enc W0 .int [v17] b17) (e18 : Enc W0 .int [v18] b18) (e19 : Enc W0 .name [v19] b19) (e20 : Enc W0 (.list .int) [v20] b20) (e21 : Enc W0 .bool [v21] b21) (e22 : Enc W0 .int [v22] b22) (e23 : Enc W0 .bool [v23] b23) (e24 : Enc W0 .name [v24] b24) (hl : (b0 ++ (b1 ++ (b2 ++ (b3 ++ (b4 ++ (b5 ++ (b6 ++ (b7 ++ (b8 ++ (b9 ++ (b10 ++ (b11 ++ (b12 ++ (b13 ++ (b14 ++ (b15 ++ (b16 ++ (b17 ++ (b18 ++ (b19 ++ (b20 ++ (b21 ++ (b22 ++ (b23 ++ b24)))))))))))))))))))))))).length ≤ 1000000000000) :
    Calls Tryz.prog 26 #[.agg #[v0, v1, v2, v3, v4, v5, v6, v7, v8, v9, v10, v11, v12, v13, v14, v15, v16, v17, v18, v19, v20, v21, v22, v23, v24]] W0 (Gives 5 W0 (b0 ++ (b1 ++ (b2 ++ (b3 ++ (b4 ++ (b5 ++ (b6 ++ (b7 ++ (b8 ++ (b9 ++ (b10 ++ (b11 ++ (b12 ++ (b13 ++ (b14 ++ (b15 ++ (b16 ++ (b17 ++ (b18 ++ (b19 ++ (b20 ++ (b21 ++ (b22 ++ (b23 ++ b24))))))))))))))))))))))))) := by
  have H0 := hid (St.begin W0 #[v0, v1, v2, v3, v4, v5, v6, v7, v8, v9, v10, v11, v12, v13, v14, v15, v16, v17, v18, v19, v20, v21, v22, v23, v24] 43 138)
  have C := fun (w0 : World) (a B : Nat) (h : St 138 W0 [(B, .cells #[v0, v1, v2, v3, v4, v5, v6, v7, v8, v9, v10, v11, v12, v13, v14, v15, v16, v17, v18, v19, v20, v21, v22, v23, v24] 43 (0, 0))] a w0 []) => wCommand_any h e0 e1 e2 e3 e4 e5 e6 e7 e8 e9 e10 e11 e12 e13 e14 e15 e16 e17 e18 e19 e20 e21 e22 e23 e24 (by rw [List.length_nil, Nat.zero_add]; exact hl)
  have CH := hid C
  clear C hl e0 e1 e2 e3 e4 e5 e6 e7 e8 e9 e10 e11 e12 e13 e14 e15 e16 e17 e18 e19 e20 e21 e22 e23 e24
  go_enter Tryz.func26, Tryz.ntmps26
  go_upto_region 2 with fail
  generalize (W0.alloc (.cells #[v0, v1, v2, v3, v4, v5, v6, v7, v8, v9, v10, v11, v12, v13, v14, v15, v16, v17, v18, v19, v20, v21, v22, v23, v24] 43)).alloc (.cells #[.slice none 0 0] 138) = w0 at *
  obtain ⟨B, hB⟩ : ∃ B, B = W0.heap.size := ⟨_, rfl⟩
  obtain ⟨a, ha⟩ : ∃ a, a = W0.heap.size + 1 := ⟨_, rfl⟩
  rw [← ha, ← hB] at H0
  try rw [← ha]
  try rw [← hB]
  clear hB ha
  have CC := hid (CH.out _ _ _ H0.out)
  have LD := cells_load (box_cell H0.out) Tryz.underlying43 rfl (by kernel_rfl)
  have HLD := hid LD
  clear LD
  apply wp_region_lit
  refine Great.wpList_readTo rfl (some 4) rfl (.agg #[v0, v1, v2, v3, v4, v5, v6, v7, v8, v9, v10, v11, v12, v13, v14, v15, v16, v17, v18, v19, v20, v21, v22, v23, v24]) (exec_load rfl HLD.out) ?_
  simp only [Act.put, List.getElem_toArray, List.getElem_cons_succ, List.getElem_cons_zero, List.setIfInBounds_toArray, List.set_cons_succ, List.set_cons_zero]
  go_upto_region 3 with (first | (go_at_call 75; refine CC.out.mono ?_; rintro en w1 ⟨rfl, h1⟩; have H1 := hid h1; clear h1))
  obtain ⟨cx, hx, hg⟩ := St.ends (show St 138 W0 _ a _ (b0 ++ (b1 ++ (b2 ++ (b3 ++ (b4 ++ (b5 ++ (b6 ++ (b7 ++ (b8 ++ (b9 ++ (b10 ++ (b11 ++ (b12 ++ (b13 ++ (b14 ++ (b15 ++ (b16 ++ (b17 ++ (b18 ++ (b19 ++ (b20 ++ (b21 ++ (b22 ++ (b23 ++ b24)))))))))))))))))))))))) from H1.out)
  obtain ⟨z0, z1⟩ := one_cell hx
  have HG := hid hg
  clear hx hg 
  go_wp2_with fail
  go_ret
  exact HG.out

end Go.Proofs.YtdfccaehoodjhaaGreat

set_option linter.unusedVariables false
set_option linter.unusedSimpArgs false
set_option maxRecDepth 100000
namespace Go.Proofs.YtdfccaehoodjhaaGreat
open Go.RowKit Go.Deep

set_option maxHeartbeats 8000000 in
theorem wOwner_any {W0 w : World} {KK : List (Nat × Obj)} {a : Nat} {l : List UInt8} {v0 v1 : Value} {b0 b1 : List UInt8} (h : St 138 W0 KK a w l) (e0 : Enc W0 .int [v0] b0) (e1 : Enc W0 .data [v1] b1) (hl : l.length + (b0 ++ b1).length ≤ 1000000000000) :
    Calls Tryz.prog 200 #[.pointer (some ⟨a, 0, none⟩), .agg #[v0, v1]] w (Wrote 138 W0 KK a l (b0 ++ b1)) := by
  have H0 := hid (h.box #[v0, v1] 205)
  have HL0 := hid hl
  have E0 := hid e0
  have E1 := hid e1
  clear h hl e0 e1
  go_enter Tryz.func200, Tryz.ntmps200
  go_upto_region 1 with fail
  generalize w.alloc (.cells #[v0, v1] 205) = w0 at *
  generalize w.heap.size = B at *
  have x0 := box_cell H0.out 0 v0 rfl
  have HN0 := hid (len_now HL0.out)
  have HL1 := hid (len_step HL0.out)
  go_upto_region 2 with (first | (go_at_call 140; refine (wwholeE H0.out E0.out HN0.out).mono ?_; rintro en w1 ⟨rfl, h1⟩; have H1 := hid h1; clear h1))
  clear x0
  have x1 := box_cell H1.out 1 v1 rfl
  go_wp2_with (first | (go_at_call 139; refine (wdataE H1.out E1.out HL1.out).mono ?_; rintro en w2 ⟨rfl, h2⟩; have H2 := hid h2; clear h2))
  clear x1
  go_end0
  exact ⟨rfl, by simpa only [List.append_assoc] using H2.out.drop⟩

set_option maxHeartbeats 4000000 in
theorem wlist_Owner {W0 w : World} {KK : List (Nat × Obj)} {a : Nat} {l : List UInt8} {v : Value} {b : List UInt8} (h : St 138 W0 KK a w l) (e : Enc W0 (.list sOwner) [v] b) (hl : l.length + b.length ≤ 1000000000000) :
    Calls Tryz.prog 199 #[.pointer (some ⟨a, 0, none⟩), v, (.func (.func 200) #[.pointer (some ⟨a, 0, none⟩)] #[])] w (Wrote 138 W0 KK a l b) := by
  obtain ⟨ao, n, c, M, rfl, hL, rfl⟩ := list_open e
  obtain ⟨hcap, hn6, hn64, hw⟩ := hL.cap
  have HLst := hid hL
  have HL := hid hl
  have C0 := hid (wnum_any h n hn64 (by have := HL.out; simp only [List.length_append] at this ⊢; omega))
  clear h e hl hL hn64
  go_enter Tryz.func199, Tryz.ntmps199
  go_wp2_with (first | (go_at_call 138; refine C0.out.mono ?_; rintro en w1 ⟨rfl, h1⟩; have H1 := hid h1; clear h1))
  clear hw C0
  go_loopw [15] (fun i wr => ∃ k, k ≤ n ∧ i = .int .i64 (k : Int) ∧ St 138 W0 KK a wr ((l ++ numL n) ++ takeB M k)) (fun i _ => n - (intOf i).toNat)
  case atStart => exact ⟨0, by omega, rfl, by rw [takeB_zero, List.append_nil]; exact H1.out⟩
  case round =>
    obtain ⟨k, hk, rfl, hst⟩ := hrel
    have HS := hid hst
    clear hst
    by_cases hlt : k < n
    · obtain ⟨⟨mc, mb⟩, bk, off, hm, rfl, hcell, htk, hle⟩ := HLst.out.get (by decide) hlt
      simp only at hm hcell htk hle
      obtain ⟨v0, v1, b0, b1, rfl, rfl, e0, e1⟩ := Owner_cells hm
      obtain ⟨y0, rfl⟩ := form_int e0
      obtain ⟨y1, j1, c1, rfl⟩ := form_data e1
      have d0 : wr.cell? ⟨bk, off + k * 2, none⟩ = some (.int .i64 y0) := hcell _ HS.out.below 0 _ rfl
      have d1 : wr.cell? ⟨bk, off + k * 2 + 1, none⟩ = some (.slice y1 j1 c1) := hcell _ HS.out.below 1 _ rfl
      have HB := hid (HS.out.box #[(.int .i64 y0), (.slice y1 j1 c1)] 205)
      have HX := hid hle
      have C := hid (wOwner_any HB.out e0 e1 (by have := HL.out; have := HX.out; simp only [List.length_append] at *; omega))
      have HT := hid htk
      clear htk hle hcell hm e0 e1
      have hki : (k : Int) < (n : Int) := by omega
      go_wp2_with (first | (go_at_call 200; refine C.out.mono ?_; rintro en w2 ⟨rfl, h2⟩; have H2 := hid h2.drop; clear h2))
      go_roundw
      case rel => exact ⟨k + 1, by omega, by go_num, by rw [HT.out, ← List.append_assoc]; exact H2.out⟩
      case measure => simp [intOf]; omega
    · obtain rfl : k = n := by omega
      have hki : ¬ (k : Int) < (k : Int) := by omega
      go_wp2_with fail
      go_end0
      exact ⟨rfl, by rw [← List.append_assoc]; exact HS.out⟩

set_option maxHeartbeats 8000000 in
theorem wRoutes_any {W0 w : World} {KK : List (Nat × Obj)} {a : Nat} {l : List UInt8} {v0 v1 v2 v3 v4 : Value} {b0 b1 b2 b3 b4 : List UInt8} (h : St 138 W0 KK a w l) (e0 : Enc W0 .int [v0] b0) (e1 : Enc W0 .int [v1] b1) (e2 : Enc W0 (.list sOwner) [v2] b2) (e3 : Enc W0 .int [v3] b3) (e4 : Enc W0 .data [v4] b4) (hl : l.length + (b0 ++ (b1 ++ (b2 ++ (b3 ++ b4)))).length ≤ 1000000000000) :
    Calls Tryz.prog 155 #[.pointer (some ⟨a, 0, none⟩), .agg #[v0, v1, v2, v3, v4]] w (Wrote 138 W0 KK a l (b0 ++ (b1 ++ (b2 ++ (b3 ++ b4))))) := by
  have H0 := hid (h.box #[v0, v1, v2, v3, v4] 53)
  have HL0 := hid hl
  have E0 := hid e0
  have E1 := hid e1
  have E2 := hid e2
  have E3 := hid e3
  have E4 := hid e4
  clear h hl e0 e1 e2 e3 e4
  go_enter Tryz.func155, Tryz.ntmps155
  go_upto_region 1 with fail
  generalize w.alloc (.cells #[v0, v1, v2, v3, v4] 53) = w0 at *
  generalize w.heap.size = B at *
  have x0 := box_cell H0.out 0 v0 rfl
  have HN0 := hid (len_now HL0.out)
  have HL1 := hid (len_step HL0.out)
  go_upto_region 2 with (first | (go_at_call 140; refine (wwholeE H0.out E0.out HN0.out).mono ?_; rintro en w1 ⟨rfl, h1⟩; have H1 := hid h1; clear h1))
  clear x0
  have x1 := box_cell H1.out 1 v1 rfl
  have HN1 := hid (len_now HL1.out)
  have HL2 := hid (len_step HL1.out)
  go_upto_region 3 with (first | (go_at_call 140; refine (wwholeE H1.out E1.out HN1.out).mono ?_; rintro en w2 ⟨rfl, h2⟩; have H2 := hid h2; clear h2))
  clear x1
  have x2 := box_cell H2.out 2 v2 rfl
  have HN2 := hid (len_now HL2.out)
  have HL3 := hid (len_step HL2.out)
  go_upto_region 4 with (first | (go_at_call 199; refine (wlist_Owner H2.out E2.out HN2.out).mono ?_; rintro en w3 ⟨rfl, h3⟩; have H3 := hid h3; clear h3))
  clear x2
  have x3 := box_cell H3.out 3 v3 rfl
  have HN3 := hid (len_now HL3.out)
  have HL4 := hid (len_step HL3.out)
  go_upto_region 5 with (first | (go_at_call 140; refine (wwholeE H3.out E3.out HN3.out).mono ?_; rintro en w4 ⟨rfl, h4⟩; have H4 := hid h4; clear h4))
  clear x3
  have x4 := box_cell H4.out 4 v4 rfl
  go_wp2_with (first | (go_at_call 139; refine (wdataE H4.out E4.out HL4.out).mono ?_; rintro en w5 ⟨rfl, h5⟩; have H5 := hid h5; clear h5))
  clear x4
  go_end0
  exact ⟨rfl, by simpa only [List.append_assoc] using H5.out.drop⟩

set_option maxHeartbeats 4000000 in
theorem wlist_num {W0 w : World} {KK : List (Nat × Obj)} {a : Nat} {l : List UInt8} {v : Value} {b : List UInt8} (h : St 138 W0 KK a w l) (e : Enc W0 (.list .num) [v] b) (hl : l.length + b.length ≤ 1000000000000) :
    Calls Tryz.prog 153 #[.pointer (some ⟨a, 0, none⟩), v, (.func (.func 138) #[.pointer (some ⟨a, 0, none⟩)] #[])] w (Wrote 138 W0 KK a l b) := by
  obtain ⟨ao, n, c, M, rfl, hL, rfl⟩ := list_open e
  obtain ⟨hcap, hn6, hn64, hw⟩ := hL.cap
  have HLst := hid hL
  have HL := hid hl
  have C0 := hid (wnum_any h n hn64 (by have := HL.out; simp only [List.length_append] at this ⊢; omega))
  clear h e hl hL hn64
  go_enter Tryz.func153, Tryz.ntmps153
  go_wp2_with (first | (go_at_call 138; refine C0.out.mono ?_; rintro en w1 ⟨rfl, h1⟩; have H1 := hid h1; clear h1))
  clear hw C0
  go_loopw [15] (fun i wr => ∃ k, k ≤ n ∧ i = .int .i64 (k : Int) ∧ St 138 W0 KK a wr ((l ++ numL n) ++ takeB M k)) (fun i _ => n - (intOf i).toNat)
  case atStart => exact ⟨0, by omega, rfl, by rw [takeB_zero, List.append_nil]; exact H1.out⟩
  case round =>
    obtain ⟨k, hk, rfl, hst⟩ := hrel
    have HS := hid hst
    clear hst
    by_cases hlt : k < n
    · obtain ⟨⟨mc, mb⟩, bk, off, hm, rfl, hcell, htk, hle⟩ := HLst.out.get (by decide) hlt
      simp only at hm hcell htk hle
      obtain ⟨v0, rfl⟩ := one_of hm rfl
      have d0 : wr.cell? ⟨bk, off + k, none⟩ = some v0 := by have := hcell _ HS.out.below 0 v0 rfl; rw [show Sh.wid .num = 1 from rfl, Nat.mul_one] at this; exact this
      have HX := hid hle
      have C := hid (wnumE HS.out hm (by have := HL.out; have := HX.out; simp only [List.length_append] at *; omega))
      have HT := hid htk
      clear htk hle hcell hm
      have hki : (k : Int) < (n : Int) := by omega
      go_wp2_with (first | (go_at_call 138; refine C.out.mono ?_; rintro en w2 ⟨rfl, h2⟩; have H2 := hid h2; clear h2))
      go_roundw
      case rel => exact ⟨k + 1, by omega, by go_num, by rw [HT.out, ← List.append_assoc]; exact H2.out⟩
      case measure => simp [intOf]; omega
    · obtain rfl : k = n := by omega
      have hki : ¬ (k : Int) < (k : Int) := by omega
      go_wp2_with fail
      go_end0
      exact ⟨rfl, by rw [← List.append_assoc]; exact HS.out⟩

set_option maxHeartbeats 8000000 in
theorem wReply_any {W0 w : World} {KK : List (Nat × Obj)} {a : Nat} {l : List UInt8} {v0 v1 v2 v3 v4 v5 v6 v7 v8 v9 v10 v11 v12 v13 v14 : Value} {b0 b1 b2 b3 b4 b5 b6 b7 b8 b9 b10 b11 b12 b13 b14 : List UInt8} (h : St 138 W0 KK a w l) (e0 : Enc W0 .int [v0] b0) (e1 : Enc W0 .num [v1] b1) (e2 : Enc W0 .int [v2] b2) (e3 : Enc W0 .bool [v3] b3) (e4 : Enc W0 (.list sPair) [v4] b4) (e5 : Enc W0 (.list .num) [v5] b5) (e6 : Enc W0 .int [v6] b6) (e7 : Enc W0 .int [v7] b7) (e8 : Enc W0 (.list sTable) [v8] b8) (e9 : Enc W0 (.list sIndex) [v9] b9) (e10 : Enc W0 .int [v10] b10) (e11 : Enc W0 .int [v11] b11) (e12 : Enc W0 (.list sOwner) [v12] b12) (e13 : Enc W0 .int [v13] b13) (e14 : Enc W0 .data [v14] b14) (hl : l.length + (b0 ++ (b1 ++ (b2 ++ (b3 ++ (b4 ++ (b5 ++ (b6 ++ (b7 ++ (b8 ++ (b9 ++ (b10 ++ (b11 ++ (b12 ++ (b13 ++ b14)))))))))))))).length ≤ 1000000000000) :
    Calls Tryz.prog 76 #[.pointer (some ⟨a, 0, none⟩), .agg #[v0, v1, v2, v3, v4, v5, v6, v7, v8, v9, v10, v11, v12, v13, v14]] w (Wrote 138 W0 KK a l (b0 ++ (b1 ++ (b2 ++ (b3 ++ (b4 ++ (b5 ++ (b6 ++ (b7 ++ (b8 ++ (b9 ++ (b10 ++ (b11 ++ (b12 ++ (b13 ++ b14))))))))))))))) := by
  have H0 := hid (h.box #[v0, v1, v2, v3, v4, v5, v6, v7, v8, v9, v10, v11, v12, v13, v14] 55)
  have HL0 := hid hl
  have E0 := hid e0
  have E1 := hid e1
  have E2 := hid e2
  have E3 := hid e3
  have E4 := hid e4
  have E5 := hid e5
  have E6 := hid e6
  have E7 := hid e7
  have E8 := hid e8
  have E9 := hid e9
  have E10 := hid e10
  have E11 := hid e11
  have E12 := hid e12
  have E13 := hid e13
  have E14 := hid e14
  clear h hl e0 e1 e2 e3 e4 e5 e6 e7 e8 e9 e10 e11 e12 e13 e14
  go_enter Tryz.func76, Tryz.ntmps76
  go_upto_region 1 with fail
  generalize w.alloc (.cells #[v0, v1, v2, v3, v4, v5, v6, v7, v8, v9, v10, v11, v12, v13, v14] 55) = w0 at *
  generalize w.heap.size = B at *
  have x0 := box_cell H0.out 0 v0 rfl
  have HN0 := hid (len_now HL0.out)
  have HL1 := hid (len_step HL0.out)
  go_upto_region 2 with (first | (go_at_call 152; refine (werrnoE H0.out E0.out HN0.out).mono ?_; rintro en w1 ⟨rfl, h1⟩; have H1 := hid h1; clear h1))
  clear x0
  have x1 := box_cell H1.out 1 v1 rfl
  have HN1 := hid (len_now HL1.out)
  have HL2 := hid (len_step HL1.out)
  go_upto_region 3 with (first | (go_at_call 138; refine (wnumE H1.out E1.out HN1.out).mono ?_; rintro en w2 ⟨rfl, h2⟩; have H2 := hid h2; clear h2))
  clear x1
  have x2 := box_cell H2.out 2 v2 rfl
  have HN2 := hid (len_now HL2.out)
  have HL3 := hid (len_step HL2.out)
  go_upto_region 4 with (first | (go_at_call 140; refine (wwholeE H2.out E2.out HN2.out).mono ?_; rintro en w3 ⟨rfl, h3⟩; have H3 := hid h3; clear h3))
  clear x2
  have x3 := box_cell H3.out 3 v3 rfl
  have HN3 := hid (len_now HL3.out)
  have HL4 := hid (len_step HL3.out)
  go_upto_region 5 with (first | (go_at_call 141; refine (wflagE H3.out E3.out HN3.out).mono ?_; rintro en w4 ⟨rfl, h4⟩; have H4 := hid h4; clear h4))
  clear x3
  have x4 := box_cell H4.out 4 v4 rfl
  have HN4 := hid (len_now HL4.out)
  have HL5 := hid (len_step HL4.out)
  go_upto_region 6 with (first | (go_at_call 143; refine (wlist_Pair H4.out E4.out HN4.out).mono ?_; rintro en w5 ⟨rfl, h5⟩; have H5 := hid h5; clear h5))
  clear x4
  have x5 := box_cell H5.out 5 v5 rfl
  have HN5 := hid (len_now HL5.out)
  have HL6 := hid (len_step HL5.out)
  go_upto_region 7 with (first | (go_at_call 153; refine (wlist_num H5.out E5.out HN5.out).mono ?_; rintro en w6 ⟨rfl, h6⟩; have H6 := hid h6; clear h6))
  clear x5
  have x6 := box_cell H6.out 6 v6 rfl
  have x7 := box_cell H6.out 7 v7 rfl
  have x8 := box_cell H6.out 8 v8 rfl
  have x9 := box_cell H6.out 9 v9 rfl
  have HG6 : Hid (((((((l ++ b0) ++ b1) ++ b2) ++ b3) ++ b4) ++ b5).length + ((b6 ++ (b7 ++ (b8 ++ b9))) ++ (b10 ++ (b11 ++ (b12 ++ (b13 ++ b14))))).length ≤ 1000000000000) := hid (by simpa only [List.append_assoc] using HL6.out)
  have HN6 := hid (len_now HG6.out)
  have HL7 := hid (len_step HG6.out)
  go_upto_region 8 with (first | (go_at_call 154; refine (wCatalog_any H6.out E6.out E7.out E8.out E9.out HN6.out).mono ?_; rintro en w7 ⟨rfl, h7⟩; have H7 := hid h7; clear h7))
  clear x6 x7 x8 x9
  have x10 := box_cell H7.out 10 v10 rfl
  have x11 := box_cell H7.out 11 v11 rfl
  have x12 := box_cell H7.out 12 v12 rfl
  have x13 := box_cell H7.out 13 v13 rfl
  have x14 := box_cell H7.out 14 v14 rfl
  go_wp2_with (first | (go_at_call 155; refine (wRoutes_any H7.out E10.out E11.out E12.out E13.out E14.out HL7.out).mono ?_; rintro en w8 ⟨rfl, h8⟩; have H8 := hid h8; clear h8))
  clear x10 x11 x12 x13 x14
  go_end0
  exact ⟨rfl, by simpa only [List.append_assoc] using H8.out.drop⟩

end Go.Proofs.YtdfccaehoodjhaaGreat

