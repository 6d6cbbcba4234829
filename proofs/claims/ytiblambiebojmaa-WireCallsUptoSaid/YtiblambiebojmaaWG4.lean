import Derived.WalkKit
import Derived.OpenShut
import Derived.Test.YtiblambiebojmaaRows
import Derived.WalkSpells
import Derived.WalkLawsBesides
import Derived.Laws.AppendOwnNone
import Derived.ProofKit
import Derived.ShutString
import Derived.ChangeOld
import Derived.Below
import Derived.SizedLaws
import Derived.Deep.Slices
import Derived.Deep.AppendLies
import Derived.Deep.Strs
import Derived.Deep.RegionHeld3
import Derived.Lib.ConvBytes
import Derived.Laws.AppendOwn
import Derived.Deep.CutRange
import Derived.Test.YtiblambiebojmaaWG1
import Derived.Test.YtiblambiebojmaaWG2
import Derived.Test.YtiblambiebojmaaWG3
set_option linter.unusedVariables false
set_option linter.unusedSimpArgs false
set_option linter.unusedVariables false
set_option linter.unusedSimpArgs false
set_option maxRecDepth 100000
namespace Go.Proofs.Ytiblambiebojmaa
open Go.RowKit Go.Deep

set_option maxHeartbeats 8000000 in
theorem wIndex_any {W0 w : World} {KK : List (Nat × Obj)} {a : Nat} {l : List UInt8} {v0 v1 v2 v3 v4 v5 v6 : Value} {b0 b1 b2 b3 b4 b5 b6 : List UInt8} (h : St 69 W0 KK a w l) (e0 : Enc W0 .int [v0] b0) (e1 : Enc W0 .int [v1] b1) (e2 : Enc W0 .name [v2] b2) (e3 : Enc W0 (.list .int) [v3] b3) (e4 : Enc W0 .bool [v4] b4) (e5 : Enc W0 .int [v5] b5) (e6 : Enc W0 .bool [v6] b6) (hl : l.length + (b0 ++ (b1 ++ (b2 ++ (b3 ++ (b4 ++ (b5 ++ b6)))))).length ≤ 1000000000000) :
    Calls Try.prog 62 #[.pointer (some ⟨a, 0, none⟩), .agg #[v0, v1, v2, v3, v4, v5, v6]] w (Wrote 69 W0 KK a l (b0 ++ (b1 ++ (b2 ++ (b3 ++ (b4 ++ (b5 ++ b6))))))) := by
  have H0 := hid (h.box #[v0, v1, v2, v3, v4, v5, v6] 36)
  have HL0 := hid hl
  have E0 := hid e0
  have E1 := hid e1
  have E2 := hid e2
  have E3 := hid e3
  have E4 := hid e4
  have E5 := hid e5
  have E6 := hid e6
  clear h hl e0 e1 e2 e3 e4 e5 e6
  go_enter Try.func62, Try.ntmps62
  go_upto_region 1 with fail
  generalize w.alloc (.cells #[v0, v1, v2, v3, v4, v5, v6] 36) = w0 at *
  generalize w.heap.size = B at *
  have x0 := box_cell H0.out 0 v0 rfl
  have HN0 := hid (len_now HL0.out)
  have HL1 := hid (len_step HL0.out)
  go_upto_region 2 with (first | (go_at_call 52; refine (wwholeE H0.out E0.out HN0.out).mono ?_; rintro en w1 ⟨rfl, h1⟩; have H1 := hid h1; clear h1))
  clear x0
  have x1 := box_cell H1.out 1 v1 rfl
  have HN1 := hid (len_now HL1.out)
  have HL2 := hid (len_step HL1.out)
  go_upto_region 3 with (first | (go_at_call 52; refine (wwholeE H1.out E1.out HN1.out).mono ?_; rintro en w2 ⟨rfl, h2⟩; have H2 := hid h2; clear h2))
  clear x1
  have x2 := box_cell H2.out 2 v2 rfl
  have HN2 := hid (len_now HL2.out)
  have HL3 := hid (len_step HL2.out)
  go_upto_region 4 with (first | (go_at_call 63; refine (wnameE H2.out E2.out HN2.out).mono ?_; rintro en w3 ⟨rfl, h3⟩; have H3 := hid h3; clear h3))
  clear x2
  have x3 := box_cell H3.out 3 v3 rfl
  have HN3 := hid (len_now HL3.out)
  have HL4 := hid (len_step HL3.out)
  go_upto_region 5 with (first | (go_at_call 91; refine (wlist_int H3.out E3.out HN3.out).mono ?_; rintro en w4 ⟨rfl, h4⟩; have H4 := hid h4; clear h4))
  clear x3
  have x4 := box_cell H4.out 4 v4 rfl
  have HN4 := hid (len_now HL4.out)
  have HL5 := hid (len_step HL4.out)
  go_upto_region 6 with (first | (go_at_call 53; refine (wflagE H4.out E4.out HN4.out).mono ?_; rintro en w5 ⟨rfl, h5⟩; have H5 := hid h5; clear h5))
  clear x4
  have x5 := box_cell H5.out 5 v5 rfl
  have HN5 := hid (len_now HL5.out)
  have HL6 := hid (len_step HL5.out)
  go_upto_region 7 with (first | (go_at_call 52; refine (wwholeE H5.out E5.out HN5.out).mono ?_; rintro en w6 ⟨rfl, h6⟩; have H6 := hid h6; clear h6))
  clear x5
  have x6 := box_cell H6.out 6 v6 rfl
  go_wp2_with (first | (go_at_call 53; refine (wflagE H6.out E6.out HL6.out).mono ?_; rintro en w7 ⟨rfl, h7⟩; have H7 := hid h7; clear h7))
  clear x6
  go_end0
  exact ⟨rfl, by simpa only [List.append_assoc] using H7.out.drop⟩

set_option maxHeartbeats 4000000 in
theorem wlist_Table {W0 w : World} {KK : List (Nat × Obj)} {a : Nat} {l : List UInt8} {v : Value} {b : List UInt8} (h : St 69 W0 KK a w l) (e : Enc W0 (.list sTable) [v] b) (hl : l.length + b.length ≤ 1000000000000) :
    Calls Try.prog 70 #[.pointer (some ⟨a, 0, none⟩), v, (.func (.func 61) #[.pointer (some ⟨a, 0, none⟩)] #[])] w (Wrote 69 W0 KK a l b) := by
  obtain ⟨ao, n, c, M, rfl, hL, rfl⟩ := list_open e
  obtain ⟨hcap, hn6, hn64, hw⟩ := hL.cap
  have HLst := hid hL
  have HL := hid hl
  have C0 := hid (wnum_any h n hn64 (by have := HL.out; simp only [List.length_append] at this ⊢; omega))
  clear h e hl hL hn64
  go_enter Try.func70, Try.ntmps70
  go_wp2_with (first | (go_at_call 48; refine C0.out.mono ?_; rintro en w1 ⟨rfl, h1⟩; have H1 := hid h1; clear h1))
  clear hw C0
  go_loopw [15] (fun i wr => ∃ k, k ≤ n ∧ i = .int .i64 (k : Int) ∧ St 69 W0 KK a wr ((l ++ numL n) ++ takeB M k)) (fun i _ => n - (intOf i).toNat)
  case atStart => exact ⟨0, by omega, rfl, by rw [takeB_zero, List.append_nil]; exact H1.out⟩
  case round =>
    obtain ⟨k, hk, rfl, hst⟩ := hrel
    have HS := hid hst
    clear hst
    by_cases hlt : k < n
    · obtain ⟨⟨mc, mb⟩, bk, off, hm, rfl, hcell, htk, hle⟩ := HLst.out.get (by decide) hlt
      simp only at hm hcell htk hle
      obtain ⟨v0, v1, v2, v3, b0, b1, b2, b3, rfl, rfl, e0, e1, e2, e3⟩ := Table_cells hm
      obtain ⟨y0, rfl⟩ := form_int e0
      obtain ⟨y1, rfl⟩ := form_name e1
      obtain ⟨y2, j2, c2, rfl⟩ := form_list e2
      obtain ⟨y3, j3, c3, rfl⟩ := form_list e3
      have d0 : wr.cell? ⟨bk, off + k * 4, none⟩ = some (.int .i64 y0) := hcell _ HS.out.below 0 _ rfl
      have d1 : wr.cell? ⟨bk, off + k * 4 + 1, none⟩ = some (.string y1) := hcell _ HS.out.below 1 _ rfl
      have d2 : wr.cell? ⟨bk, off + k * 4 + 2, none⟩ = some (.slice y2 j2 c2) := hcell _ HS.out.below 2 _ rfl
      have d3 : wr.cell? ⟨bk, off + k * 4 + 3, none⟩ = some (.slice y3 j3 c3) := hcell _ HS.out.below 3 _ rfl
      have HB := hid (HS.out.box #[(.int .i64 y0), (.string y1), (.slice y2 j2 c2), (.slice y3 j3 c3)] 34)
      have HX := hid hle
      have C := hid (wTable_any HB.out e0 e1 e2 e3 (by have := HL.out; have := HX.out; simp only [List.length_append] at *; omega))
      have HT := hid htk
      clear htk hle hcell hm e0 e1 e2 e3
      have hki : (k : Int) < (n : Int) := by omega
      go_wp2_with (first | (go_at_call 61; refine C.out.mono ?_; rintro en w2 ⟨rfl, h2⟩; have H2 := hid h2.drop; clear h2))
      go_roundw
      case rel => exact ⟨k + 1, by omega, by go_num, by rw [HT.out, ← List.append_assoc]; exact H2.out⟩
      case measure => simp [intOf]; omega
    · obtain rfl : k = n := by omega
      have hki : ¬ (k : Int) < (k : Int) := by omega
      go_wp2_with fail
      go_end0
      exact ⟨rfl, by rw [← List.append_assoc]; exact HS.out⟩

set_option maxHeartbeats 4000000 in
theorem wlist_Index {W0 w : World} {KK : List (Nat × Obj)} {a : Nat} {l : List UInt8} {v : Value} {b : List UInt8} (h : St 69 W0 KK a w l) (e : Enc W0 (.list sIndex) [v] b) (hl : l.length + b.length ≤ 1000000000000) :
    Calls Try.prog 71 #[.pointer (some ⟨a, 0, none⟩), v, (.func (.func 62) #[.pointer (some ⟨a, 0, none⟩)] #[])] w (Wrote 69 W0 KK a l b) := by
  obtain ⟨ao, n, c, M, rfl, hL, rfl⟩ := list_open e
  obtain ⟨hcap, hn6, hn64, hw⟩ := hL.cap
  have HLst := hid hL
  have HL := hid hl
  have C0 := hid (wnum_any h n hn64 (by have := HL.out; simp only [List.length_append] at this ⊢; omega))
  clear h e hl hL hn64
  go_enter Try.func71, Try.ntmps71
  go_wp2_with (first | (go_at_call 48; refine C0.out.mono ?_; rintro en w1 ⟨rfl, h1⟩; have H1 := hid h1; clear h1))
  clear hw C0
  go_loopw [15] (fun i wr => ∃ k, k ≤ n ∧ i = .int .i64 (k : Int) ∧ St 69 W0 KK a wr ((l ++ numL n) ++ takeB M k)) (fun i _ => n - (intOf i).toNat)
  case atStart => exact ⟨0, by omega, rfl, by rw [takeB_zero, List.append_nil]; exact H1.out⟩
  case round =>
    obtain ⟨k, hk, rfl, hst⟩ := hrel
    have HS := hid hst
    clear hst
    by_cases hlt : k < n
    · obtain ⟨⟨mc, mb⟩, bk, off, hm, rfl, hcell, htk, hle⟩ := HLst.out.get (by decide) hlt
      simp only at hm hcell htk hle
      obtain ⟨v0, v1, v2, v3, v4, v5, v6, b0, b1, b2, b3, b4, b5, b6, rfl, rfl, e0, e1, e2, e3, e4, e5, e6⟩ := Index_cells hm
      obtain ⟨y0, rfl⟩ := form_int e0
      obtain ⟨y1, rfl⟩ := form_int e1
      obtain ⟨y2, rfl⟩ := form_name e2
      obtain ⟨y3, j3, c3, rfl⟩ := form_list e3
      obtain ⟨y4, rfl⟩ := form_bool e4
      obtain ⟨y5, rfl⟩ := form_int e5
      obtain ⟨y6, rfl⟩ := form_bool e6
      have d0 : wr.cell? ⟨bk, off + k * 7, none⟩ = some (.int .i64 y0) := hcell _ HS.out.below 0 _ rfl
      have d1 : wr.cell? ⟨bk, off + k * 7 + 1, none⟩ = some (.int .i64 y1) := hcell _ HS.out.below 1 _ rfl
      have d2 : wr.cell? ⟨bk, off + k * 7 + 2, none⟩ = some (.string y2) := hcell _ HS.out.below 2 _ rfl
      have d3 : wr.cell? ⟨bk, off + k * 7 + 3, none⟩ = some (.slice y3 j3 c3) := hcell _ HS.out.below 3 _ rfl
      have d4 : wr.cell? ⟨bk, off + k * 7 + 4, none⟩ = some (.bool y4) := hcell _ HS.out.below 4 _ rfl
      have d5 : wr.cell? ⟨bk, off + k * 7 + 5, none⟩ = some (.int .i64 y5) := hcell _ HS.out.below 5 _ rfl
      have d6 : wr.cell? ⟨bk, off + k * 7 + 6, none⟩ = some (.bool y6) := hcell _ HS.out.below 6 _ rfl
      have HB := hid (HS.out.box #[(.int .i64 y0), (.int .i64 y1), (.string y2), (.slice y3 j3 c3), (.bool y4), (.int .i64 y5), (.bool y6)] 36)
      have HX := hid hle
      have C := hid (wIndex_any HB.out e0 e1 e2 e3 e4 e5 e6 (by have := HL.out; have := HX.out; simp only [List.length_append] at *; omega))
      have HT := hid htk
      clear htk hle hcell hm e0 e1 e2 e3 e4 e5 e6
      have hki : (k : Int) < (n : Int) := by omega
      go_wp2_with (first | (go_at_call 62; refine C.out.mono ?_; rintro en w2 ⟨rfl, h2⟩; have H2 := hid h2.drop; clear h2))
      go_roundw
      case rel => exact ⟨k + 1, by omega, by go_num, by rw [HT.out, ← List.append_assoc]; exact H2.out⟩
      case measure => simp [intOf]; omega
    · obtain rfl : k = n := by omega
      have hki : ¬ (k : Int) < (k : Int) := by omega
      go_wp2_with fail
      go_end0
      exact ⟨rfl, by rw [← List.append_assoc]; exact HS.out⟩

set_option maxHeartbeats 8000000 in
theorem wCatalog_any {W0 w : World} {KK : List (Nat × Obj)} {a : Nat} {l : List UInt8} {v0 v1 v2 v3 : Value} {b0 b1 b2 b3 : List UInt8} (h : St 69 W0 KK a w l) (e0 : Enc W0 .int [v0] b0) (e1 : Enc W0 .int [v1] b1) (e2 : Enc W0 (.list sTable) [v2] b2) (e3 : Enc W0 (.list sIndex) [v3] b3) (hl : l.length + (b0 ++ (b1 ++ (b2 ++ b3))).length ≤ 1000000000000) :
    Calls Try.prog 38 #[.pointer (some ⟨a, 0, none⟩), .agg #[v0, v1, v2, v3]] w (Wrote 69 W0 KK a l (b0 ++ (b1 ++ (b2 ++ b3)))) := by
  have H0 := hid (h.box #[v0, v1, v2, v3] 44)
  have HL0 := hid hl
  have E0 := hid e0
  have E1 := hid e1
  have E2 := hid e2
  have E3 := hid e3
  clear h hl e0 e1 e2 e3
  go_enter Try.func38, Try.ntmps38
  go_upto_region 1 with fail
  generalize w.alloc (.cells #[v0, v1, v2, v3] 44) = w0 at *
  generalize w.heap.size = B at *
  have x0 := box_cell H0.out 0 v0 rfl
  have HN0 := hid (len_now HL0.out)
  have HL1 := hid (len_step HL0.out)
  go_upto_region 2 with (first | (go_at_call 52; refine (wwholeE H0.out E0.out HN0.out).mono ?_; rintro en w1 ⟨rfl, h1⟩; have H1 := hid h1; clear h1))
  clear x0
  have x1 := box_cell H1.out 1 v1 rfl
  have HN1 := hid (len_now HL1.out)
  have HL2 := hid (len_step HL1.out)
  go_upto_region 3 with (first | (go_at_call 52; refine (wwholeE H1.out E1.out HN1.out).mono ?_; rintro en w2 ⟨rfl, h2⟩; have H2 := hid h2; clear h2))
  clear x1
  have x2 := box_cell H2.out 2 v2 rfl
  have HN2 := hid (len_now HL2.out)
  have HL3 := hid (len_step HL2.out)
  go_upto_region 4 with (first | (go_at_call 70; refine (wlist_Table H2.out E2.out HN2.out).mono ?_; rintro en w3 ⟨rfl, h3⟩; have H3 := hid h3; clear h3))
  clear x2
  have x3 := box_cell H3.out 3 v3 rfl
  go_wp2_with (first | (go_at_call 71; refine (wlist_Index H3.out E3.out HL3.out).mono ?_; rintro en w4 ⟨rfl, h4⟩; have H4 := hid h4; clear h4))
  clear x3
  go_end0
  exact ⟨rfl, by simpa only [List.append_assoc] using H4.out.drop⟩

end Go.Proofs.Ytiblambiebojmaa

set_option linter.unusedVariables false
set_option linter.unusedSimpArgs false
set_option maxRecDepth 100000
namespace Go.Proofs.Ytiblambiebojmaa
open Go.RowKit Go.Deep

set_option maxHeartbeats 8000000 in
theorem wPair_any {W0 w : World} {KK : List (Nat × Obj)} {a : Nat} {l : List UInt8} {v0 v1 v2 : Value} {b0 b1 b2 : List UInt8} (h : St 69 W0 KK a w l) (e0 : Enc W0 .data [v0] b0) (e1 : Enc W0 .data [v1] b1) (e2 : Enc W0 .int [v2] b2) (hl : l.length + (b0 ++ (b1 ++ b2)).length ≤ 1000000000000) :
    Calls Try.prog 56 #[.pointer (some ⟨a, 0, none⟩), .agg #[v0, v1, v2]] w (Wrote 69 W0 KK a l (b0 ++ (b1 ++ b2))) := by
  have H0 := hid (h.box #[v0, v1, v2] 82)
  have HL0 := hid hl
  have E0 := hid e0
  have E1 := hid e1
  have E2 := hid e2
  clear h hl e0 e1 e2
  go_enter Try.func56, Try.ntmps56
  go_upto_region 1 with fail
  generalize w.alloc (.cells #[v0, v1, v2] 82) = w0 at *
  generalize w.heap.size = B at *
  have x0 := box_cell H0.out 0 v0 rfl
  have HN0 := hid (len_now HL0.out)
  have HL1 := hid (len_step HL0.out)
  go_upto_region 2 with (first | (go_at_call 49; refine (wdataE H0.out E0.out HN0.out).mono ?_; rintro en w1 ⟨rfl, h1⟩; have H1 := hid h1; clear h1))
  clear x0
  have x1 := box_cell H1.out 1 v1 rfl
  have HN1 := hid (len_now HL1.out)
  have HL2 := hid (len_step HL1.out)
  go_upto_region 3 with (first | (go_at_call 49; refine (wdataE H1.out E1.out HN1.out).mono ?_; rintro en w2 ⟨rfl, h2⟩; have H2 := hid h2; clear h2))
  clear x1
  have x2 := box_cell H2.out 2 v2 rfl
  go_wp2_with (first | (go_at_call 52; refine (wwholeE H2.out E2.out HL2.out).mono ?_; rintro en w3 ⟨rfl, h3⟩; have H3 := hid h3; clear h3))
  clear x2
  go_end0
  exact ⟨rfl, by simpa only [List.append_assoc] using H3.out.drop⟩

set_option maxHeartbeats 8000000 in
theorem wWrite_any {W0 w : World} {KK : List (Nat × Obj)} {a : Nat} {l : List UInt8} {v0 v1 v2 : Value} {b0 b1 b2 : List UInt8} (h : St 69 W0 KK a w l) (e0 : Enc W0 .data [v0] b0) (e1 : Enc W0 .data [v1] b1) (e2 : Enc W0 .bool [v2] b2) (hl : l.length + (b0 ++ (b1 ++ b2)).length ≤ 1000000000000) :
    Calls Try.prog 60 #[.pointer (some ⟨a, 0, none⟩), .agg #[v0, v1, v2]] w (Wrote 69 W0 KK a l (b0 ++ (b1 ++ b2))) := by
  have H0 := hid (h.box #[v0, v1, v2] 88)
  have HL0 := hid hl
  have E0 := hid e0
  have E1 := hid e1
  have E2 := hid e2
  clear h hl e0 e1 e2
  go_enter Try.func60, Try.ntmps60
  go_upto_region 1 with fail
  generalize w.alloc (.cells #[v0, v1, v2] 88) = w0 at *
  generalize w.heap.size = B at *
  have x0 := box_cell H0.out 0 v0 rfl
  have HN0 := hid (len_now HL0.out)
  have HL1 := hid (len_step HL0.out)
  go_upto_region 2 with (first | (go_at_call 49; refine (wdataE H0.out E0.out HN0.out).mono ?_; rintro en w1 ⟨rfl, h1⟩; have H1 := hid h1; clear h1))
  clear x0
  have x1 := box_cell H1.out 1 v1 rfl
  have HN1 := hid (len_now HL1.out)
  have HL2 := hid (len_step HL1.out)
  go_upto_region 3 with (first | (go_at_call 49; refine (wdataE H1.out E1.out HN1.out).mono ?_; rintro en w2 ⟨rfl, h2⟩; have H2 := hid h2; clear h2))
  clear x1
  have x2 := box_cell H2.out 2 v2 rfl
  go_wp2_with (first | (go_at_call 53; refine (wflagE H2.out E2.out HL2.out).mono ?_; rintro en w3 ⟨rfl, h3⟩; have H3 := hid h3; clear h3))
  clear x2
  go_end0
  exact ⟨rfl, by simpa only [List.append_assoc] using H3.out.drop⟩

set_option maxHeartbeats 8000000 in
theorem wSpan_any {W0 w : World} {KK : List (Nat × Obj)} {a : Nat} {l : List UInt8} {v0 v1 : Value} {b0 b1 : List UInt8} (h : St 69 W0 KK a w l) (e0 : Enc W0 .data [v0] b0) (e1 : Enc W0 .data [v1] b1) (hl : l.length + (b0 ++ b1).length ≤ 1000000000000) :
    Calls Try.prog 54 #[.pointer (some ⟨a, 0, none⟩), .agg #[v0, v1]] w (Wrote 69 W0 KK a l (b0 ++ b1)) := by
  have H0 := hid (h.box #[v0, v1] 27)
  have HL0 := hid hl
  have E0 := hid e0
  have E1 := hid e1
  clear h hl e0 e1
  go_enter Try.func54, Try.ntmps54
  go_upto_region 1 with fail
  generalize w.alloc (.cells #[v0, v1] 27) = w0 at *
  generalize w.heap.size = B at *
  have x0 := box_cell H0.out 0 v0 rfl
  have HN0 := hid (len_now HL0.out)
  have HL1 := hid (len_step HL0.out)
  go_upto_region 2 with (first | (go_at_call 49; refine (wdataE H0.out E0.out HN0.out).mono ?_; rintro en w1 ⟨rfl, h1⟩; have H1 := hid h1; clear h1))
  clear x0
  have x1 := box_cell H1.out 1 v1 rfl
  go_wp2_with (first | (go_at_call 49; refine (wdataE H1.out E1.out HL1.out).mono ?_; rintro en w2 ⟨rfl, h2⟩; have H2 := hid h2; clear h2))
  clear x1
  go_end0
  exact ⟨rfl, by simpa only [List.append_assoc] using H2.out.drop⟩

set_option maxHeartbeats 4000000 in
theorem wlist_Pair {W0 w : World} {KK : List (Nat × Obj)} {a : Nat} {l : List UInt8} {v : Value} {b : List UInt8} (h : St 69 W0 KK a w l) (e : Enc W0 (.list sPair) [v] b) (hl : l.length + b.length ≤ 1000000000000) :
    Calls Try.prog 55 #[.pointer (some ⟨a, 0, none⟩), v, (.func (.func 56) #[.pointer (some ⟨a, 0, none⟩)] #[])] w (Wrote 69 W0 KK a l b) := by
  obtain ⟨ao, n, c, M, rfl, hL, rfl⟩ := list_open e
  obtain ⟨hcap, hn6, hn64, hw⟩ := hL.cap
  have HLst := hid hL
  have HL := hid hl
  have C0 := hid (wnum_any h n hn64 (by have := HL.out; simp only [List.length_append] at this ⊢; omega))
  clear h e hl hL hn64
  go_enter Try.func55, Try.ntmps55
  go_wp2_with (first | (go_at_call 48; refine C0.out.mono ?_; rintro en w1 ⟨rfl, h1⟩; have H1 := hid h1; clear h1))
  clear hw C0
  go_loopw [15] (fun i wr => ∃ k, k ≤ n ∧ i = .int .i64 (k : Int) ∧ St 69 W0 KK a wr ((l ++ numL n) ++ takeB M k)) (fun i _ => n - (intOf i).toNat)
  case atStart => exact ⟨0, by omega, rfl, by rw [takeB_zero, List.append_nil]; exact H1.out⟩
  case round =>
    obtain ⟨k, hk, rfl, hst⟩ := hrel
    have HS := hid hst
    clear hst
    by_cases hlt : k < n
    · obtain ⟨⟨mc, mb⟩, bk, off, hm, rfl, hcell, htk, hle⟩ := HLst.out.get (by decide) hlt
      simp only at hm hcell htk hle
      obtain ⟨v0, v1, v2, b0, b1, b2, rfl, rfl, e0, e1, e2⟩ := Pair_cells hm
      obtain ⟨y0, j0, c0, rfl⟩ := form_data e0
      obtain ⟨y1, j1, c1, rfl⟩ := form_data e1
      obtain ⟨y2, rfl⟩ := form_int e2
      have d0 : wr.cell? ⟨bk, off + k * 3, none⟩ = some (.slice y0 j0 c0) := hcell _ HS.out.below 0 _ rfl
      have d1 : wr.cell? ⟨bk, off + k * 3 + 1, none⟩ = some (.slice y1 j1 c1) := hcell _ HS.out.below 1 _ rfl
      have d2 : wr.cell? ⟨bk, off + k * 3 + 2, none⟩ = some (.int .i64 y2) := hcell _ HS.out.below 2 _ rfl
      have HB := hid (HS.out.box #[(.slice y0 j0 c0), (.slice y1 j1 c1), (.int .i64 y2)] 82)
      have HX := hid hle
      have C := hid (wPair_any HB.out e0 e1 e2 (by have := HL.out; have := HX.out; simp only [List.length_append] at *; omega))
      have HT := hid htk
      clear htk hle hcell hm e0 e1 e2
      have hki : (k : Int) < (n : Int) := by omega
      go_wp2_with (first | (go_at_call 56; refine C.out.mono ?_; rintro en w2 ⟨rfl, h2⟩; have H2 := hid h2.drop; clear h2))
      go_roundw
      case rel => exact ⟨k + 1, by omega, by go_num, by rw [HT.out, ← List.append_assoc]; exact H2.out⟩
      case measure => simp [intOf]; omega
    · obtain rfl : k = n := by omega
      have hki : ¬ (k : Int) < (k : Int) := by omega
      go_wp2_with fail
      go_end0
      exact ⟨rfl, by rw [← List.append_assoc]; exact HS.out⟩

set_option maxHeartbeats 8000000 in
theorem wSeen_any {W0 w : World} {KK : List (Nat × Obj)} {a : Nat} {l : List UInt8} {v0 v1 v2 : Value} {b0 b1 b2 : List UInt8} (h : St 69 W0 KK a w l) (e0 : Enc W0 .data [v0] b0) (e1 : Enc W0 .data [v1] b1) (e2 : Enc W0 (.list sPair) [v2] b2) (hl : l.length + (b0 ++ (b1 ++ b2)).length ≤ 1000000000000) :
    Calls Try.prog 58 #[.pointer (some ⟨a, 0, none⟩), .agg #[v0, v1, v2]] w (Wrote 69 W0 KK a l (b0 ++ (b1 ++ b2))) := by
  have H0 := hid (h.box #[v0, v1, v2] 85)
  have HL0 := hid hl
  have E0 := hid e0
  have E1 := hid e1
  have E2 := hid e2
  clear h hl e0 e1 e2
  go_enter Try.func58, Try.ntmps58
  go_upto_region 1 with fail
  generalize w.alloc (.cells #[v0, v1, v2] 85) = w0 at *
  generalize w.heap.size = B at *
  have x0 := box_cell H0.out 0 v0 rfl
  have x1 := box_cell H0.out 1 v1 rfl
  have HG0 : Hid (l.length + ((b0 ++ b1) ++ (b2)).length ≤ 1000000000000) := hid (by simpa only [List.append_assoc] using HL0.out)
  have HN0 := hid (len_now HG0.out)
  have HL1 := hid (len_step HG0.out)
  go_upto_region 2 with (first | (go_at_call 54; refine (wSpan_any H0.out E0.out E1.out HN0.out).mono ?_; rintro en w1 ⟨rfl, h1⟩; have H1 := hid h1; clear h1))
  clear x0 x1
  have x2 := box_cell H1.out 2 v2 rfl
  go_wp2_with (first | (go_at_call 55; refine (wlist_Pair H1.out E2.out HL1.out).mono ?_; rintro en w2 ⟨rfl, h2⟩; have H2 := hid h2; clear h2))
  clear x2
  go_end0
  exact ⟨rfl, by simpa only [List.append_assoc] using H2.out.drop⟩

end Go.Proofs.Ytiblambiebojmaa

set_option linter.unusedVariables false
set_option linter.unusedSimpArgs false
set_option maxRecDepth 100000
namespace Go.Proofs.Ytiblambiebojmaa
open Go.RowKit Go.Deep

set_option maxHeartbeats 8000000 in
theorem wSet_any {W0 w : World} {KK : List (Nat × Obj)} {a : Nat} {l : List UInt8} {v0 v1 v2 v3 : Value} {b0 b1 b2 b3 : List UInt8} (h : St 69 W0 KK a w l) (e0 : Enc W0 .int [v0] b0) (e1 : Enc W0 .int [v1] b1) (e2 : Enc W0 .int [v2] b2) (e3 : Enc W0 .name [v3] b3) (hl : l.length + (b0 ++ (b1 ++ (b2 ++ b3))).length ≤ 1000000000000) :
    Calls Try.prog 97 #[.pointer (some ⟨a, 0, none⟩), .agg #[v0, v1, v2, v3]] w (Wrote 69 W0 KK a l (b0 ++ (b1 ++ (b2 ++ b3)))) := by
  have H0 := hid (h.box #[v0, v1, v2, v3] 133)
  have HL0 := hid hl
  have E0 := hid e0
  have E1 := hid e1
  have E2 := hid e2
  have E3 := hid e3
  clear h hl e0 e1 e2 e3
  go_enter Try.func97, Try.ntmps97
  go_upto_region 1 with fail
  generalize w.alloc (.cells #[v0, v1, v2, v3] 133) = w0 at *
  generalize w.heap.size = B at *
  have x0 := box_cell H0.out 0 v0 rfl
  have HN0 := hid (len_now HL0.out)
  have HL1 := hid (len_step HL0.out)
  go_upto_region 2 with (first | (go_at_call 52; refine (wwholeE H0.out E0.out HN0.out).mono ?_; rintro en w1 ⟨rfl, h1⟩; have H1 := hid h1; clear h1))
  clear x0
  have x1 := box_cell H1.out 1 v1 rfl
  have x2 := box_cell H1.out 2 v2 rfl
  have x3 := box_cell H1.out 3 v3 rfl
  go_wp2_with (first | (go_at_call 95; refine (wValue_any H1.out E1.out E2.out E3.out HL1.out).mono ?_; rintro en w2 ⟨rfl, h2⟩; have H2 := hid h2; clear h2))
  clear x1 x2 x3
  go_end0
  exact ⟨rfl, by simpa only [List.append_assoc] using H2.out.drop⟩

set_option maxHeartbeats 4000000 in
theorem wlist_Value {W0 w : World} {KK : List (Nat × Obj)} {a : Nat} {l : List UInt8} {v : Value} {b : List UInt8} (h : St 69 W0 KK a w l) (e : Enc W0 (.list sValue) [v] b) (hl : l.length + b.length ≤ 1000000000000) :
    Calls Try.prog 94 #[.pointer (some ⟨a, 0, none⟩), v, (.func (.func 95) #[.pointer (some ⟨a, 0, none⟩)] #[])] w (Wrote 69 W0 KK a l b) := by
  obtain ⟨ao, n, c, M, rfl, hL, rfl⟩ := list_open e
  obtain ⟨hcap, hn6, hn64, hw⟩ := hL.cap
  have HLst := hid hL
  have HL := hid hl
  have C0 := hid (wnum_any h n hn64 (by have := HL.out; simp only [List.length_append] at this ⊢; omega))
  clear h e hl hL hn64
  go_enter Try.func94, Try.ntmps94
  go_wp2_with (first | (go_at_call 48; refine C0.out.mono ?_; rintro en w1 ⟨rfl, h1⟩; have H1 := hid h1; clear h1))
  clear hw C0
  go_loopw [15] (fun i wr => ∃ k, k ≤ n ∧ i = .int .i64 (k : Int) ∧ St 69 W0 KK a wr ((l ++ numL n) ++ takeB M k)) (fun i _ => n - (intOf i).toNat)
  case atStart => exact ⟨0, by omega, rfl, by rw [takeB_zero, List.append_nil]; exact H1.out⟩
  case round =>
    obtain ⟨k, hk, rfl, hst⟩ := hrel
    have HS := hid hst
    clear hst
    by_cases hlt : k < n
    · obtain ⟨⟨mc, mb⟩, bk, off, hm, rfl, hcell, htk, hle⟩ := HLst.out.get (by decide) hlt
      simp only at hm hcell htk hle
      obtain ⟨v0, v1, v2, b0, b1, b2, rfl, rfl, e0, e1, e2⟩ := Value_cells hm
      obtain ⟨y0, rfl⟩ := form_int e0
      obtain ⟨y1, rfl⟩ := form_int e1
      obtain ⟨y2, rfl⟩ := form_name e2
      have d0 : wr.cell? ⟨bk, off + k * 3, none⟩ = some (.int .i64 y0) := hcell _ HS.out.below 0 _ rfl
      have d1 : wr.cell? ⟨bk, off + k * 3 + 1, none⟩ = some (.int .i64 y1) := hcell _ HS.out.below 1 _ rfl
      have d2 : wr.cell? ⟨bk, off + k * 3 + 2, none⟩ = some (.string y2) := hcell _ HS.out.below 2 _ rfl
      have HB := hid (HS.out.box #[(.int .i64 y0), (.int .i64 y1), (.string y2)] 131)
      have HX := hid hle
      have C := hid (wValue_any HB.out e0 e1 e2 (by have := HL.out; have := HX.out; simp only [List.length_append] at *; omega))
      have HT := hid htk
      clear htk hle hcell hm e0 e1 e2
      have hki : (k : Int) < (n : Int) := by omega
      go_wp2_with (first | (go_at_call 95; refine C.out.mono ?_; rintro en w2 ⟨rfl, h2⟩; have H2 := hid h2.drop; clear h2))
      go_roundw
      case rel => exact ⟨k + 1, by omega, by go_num, by rw [HT.out, ← List.append_assoc]; exact H2.out⟩
      case measure => simp [intOf]; omega
    · obtain rfl : k = n := by omega
      have hki : ¬ (k : Int) < (k : Int) := by omega
      go_wp2_with fail
      go_end0
      exact ⟨rfl, by rw [← List.append_assoc]; exact HS.out⟩

set_option maxHeartbeats 4000000 in
theorem wlist_Set {W0 w : World} {KK : List (Nat × Obj)} {a : Nat} {l : List UInt8} {v : Value} {b : List UInt8} (h : St 69 W0 KK a w l) (e : Enc W0 (.list sSet) [v] b) (hl : l.length + b.length ≤ 1000000000000) :
    Calls Try.prog 96 #[.pointer (some ⟨a, 0, none⟩), v, (.func (.func 97) #[.pointer (some ⟨a, 0, none⟩)] #[])] w (Wrote 69 W0 KK a l b) := by
  obtain ⟨ao, n, c, M, rfl, hL, rfl⟩ := list_open e
  obtain ⟨hcap, hn6, hn64, hw⟩ := hL.cap
  have HLst := hid hL
  have HL := hid hl
  have C0 := hid (wnum_any h n hn64 (by have := HL.out; simp only [List.length_append] at this ⊢; omega))
  clear h e hl hL hn64
  go_enter Try.func96, Try.ntmps96
  go_wp2_with (first | (go_at_call 48; refine C0.out.mono ?_; rintro en w1 ⟨rfl, h1⟩; have H1 := hid h1; clear h1))
  clear hw C0
  go_loopw [15] (fun i wr => ∃ k, k ≤ n ∧ i = .int .i64 (k : Int) ∧ St 69 W0 KK a wr ((l ++ numL n) ++ takeB M k)) (fun i _ => n - (intOf i).toNat)
  case atStart => exact ⟨0, by omega, rfl, by rw [takeB_zero, List.append_nil]; exact H1.out⟩
  case round =>
    obtain ⟨k, hk, rfl, hst⟩ := hrel
    have HS := hid hst
    clear hst
    by_cases hlt : k < n
    · obtain ⟨⟨mc, mb⟩, bk, off, hm, rfl, hcell, htk, hle⟩ := HLst.out.get (by decide) hlt
      simp only at hm hcell htk hle
      obtain ⟨v0, v1, v2, v3, b0, b1, b2, b3, rfl, rfl, e0, e1, e2, e3⟩ := Set_cells hm
      obtain ⟨y0, rfl⟩ := form_int e0
      obtain ⟨y1, rfl⟩ := form_int e1
      obtain ⟨y2, rfl⟩ := form_int e2
      obtain ⟨y3, rfl⟩ := form_name e3
      have d0 : wr.cell? ⟨bk, off + k * 4, none⟩ = some (.int .i64 y0) := hcell _ HS.out.below 0 _ rfl
      have d1 : wr.cell? ⟨bk, off + k * 4 + 1, none⟩ = some (.int .i64 y1) := hcell _ HS.out.below 1 _ rfl
      have d2 : wr.cell? ⟨bk, off + k * 4 + 2, none⟩ = some (.int .i64 y2) := hcell _ HS.out.below 2 _ rfl
      have d3 : wr.cell? ⟨bk, off + k * 4 + 3, none⟩ = some (.string y3) := hcell _ HS.out.below 3 _ rfl
      have HB := hid (HS.out.box #[(.int .i64 y0), (.int .i64 y1), (.int .i64 y2), (.string y3)] 133)
      have HX := hid hle
      have C := hid (wSet_any HB.out e0 e1 e2 e3 (by have := HL.out; have := HX.out; simp only [List.length_append] at *; omega))
      have HT := hid htk
      clear htk hle hcell hm e0 e1 e2 e3
      have hki : (k : Int) < (n : Int) := by omega
      go_wp2_with (first | (go_at_call 97; refine C.out.mono ?_; rintro en w2 ⟨rfl, h2⟩; have H2 := hid h2.drop; clear h2))
      go_roundw
      case rel => exact ⟨k + 1, by omega, by go_num, by rw [HT.out, ← List.append_assoc]; exact H2.out⟩
      case measure => simp [intOf]; omega
    · obtain rfl : k = n := by omega
      have hki : ¬ (k : Int) < (k : Int) := by omega
      go_wp2_with fail
      go_end0
      exact ⟨rfl, by rw [← List.append_assoc]; exact HS.out⟩

set_option maxHeartbeats 4000000 in
theorem wlist_data {W0 w : World} {KK : List (Nat × Obj)} {a : Nat} {l : List UInt8} {v : Value} {b : List UInt8} (h : St 69 W0 KK a w l) (e : Enc W0 (.list .data) [v] b) (hl : l.length + b.length ≤ 1000000000000) :
    Calls Try.prog 98 #[.pointer (some ⟨a, 0, none⟩), v, (.func (.func 49) #[.pointer (some ⟨a, 0, none⟩)] #[])] w (Wrote 69 W0 KK a l b) := by
  obtain ⟨ao, n, c, M, rfl, hL, rfl⟩ := list_open e
  obtain ⟨hcap, hn6, hn64, hw⟩ := hL.cap
  have HLst := hid hL
  have HL := hid hl
  have C0 := hid (wnum_any h n hn64 (by have := HL.out; simp only [List.length_append] at this ⊢; omega))
  clear h e hl hL hn64
  go_enter Try.func98, Try.ntmps98
  go_wp2_with (first | (go_at_call 48; refine C0.out.mono ?_; rintro en w1 ⟨rfl, h1⟩; have H1 := hid h1; clear h1))
  clear hw C0
  go_loopw [15] (fun i wr => ∃ k, k ≤ n ∧ i = .int .i64 (k : Int) ∧ St 69 W0 KK a wr ((l ++ numL n) ++ takeB M k)) (fun i _ => n - (intOf i).toNat)
  case atStart => exact ⟨0, by omega, rfl, by rw [takeB_zero, List.append_nil]; exact H1.out⟩
  case round =>
    obtain ⟨k, hk, rfl, hst⟩ := hrel
    have HS := hid hst
    clear hst
    by_cases hlt : k < n
    · obtain ⟨⟨mc, mb⟩, bk, off, hm, rfl, hcell, htk, hle⟩ := HLst.out.get (by decide) hlt
      simp only at hm hcell htk hle
      obtain ⟨v0, rfl⟩ := one_of hm rfl
      have d0 : wr.cell? ⟨bk, off + k, none⟩ = some v0 := by have := hcell _ HS.out.below 0 v0 rfl; rw [show Sh.wid .data = 1 from rfl, Nat.mul_one] at this; exact this
      have HX := hid hle
      have C := hid (wdataE HS.out hm (by have := HL.out; have := HX.out; simp only [List.length_append] at *; omega))
      have HT := hid htk
      clear htk hle hcell hm
      have hki : (k : Int) < (n : Int) := by omega
      go_wp2_with (first | (go_at_call 49; refine C.out.mono ?_; rintro en w2 ⟨rfl, h2⟩; have H2 := hid h2; clear h2))
      go_roundw
      case rel => exact ⟨k + 1, by omega, by go_num, by rw [HT.out, ← List.append_assoc]; exact H2.out⟩
      case measure => simp [intOf]; omega
    · obtain rfl : k = n := by omega
      have hki : ¬ (k : Int) < (k : Int) := by omega
      go_wp2_with fail
      go_end0
      exact ⟨rfl, by rw [← List.append_assoc]; exact HS.out⟩

set_option maxHeartbeats 8000000 in
theorem wOp_any {W0 w : World} {KK : List (Nat × Obj)} {a : Nat} {l : List UInt8} {v0 v1 v2 v3 v4 v5 v6 v7 v8 v9 v10 : Value} {b0 b1 b2 b3 b4 b5 b6 b7 b8 b9 b10 : List UInt8} (h : St 69 W0 KK a w l) (e0 : Enc W0 .int [v0] b0) (e1 : Enc W0 .name [v1] b1) (e2 : Enc W0 .name [v2] b2) (e3 : Enc W0 (.list sValue) [v3] b3) (e4 : Enc W0 (.list sValue) [v4] b4) (e5 : Enc W0 (.list sSet) [v5] b5) (e6 : Enc W0 (.list sValue) [v6] b6) (e7 : Enc W0 (.list sValue) [v7] b7) (e8 : Enc W0 .int [v8] b8) (e9 : Enc W0 .bool [v9] b9) (e10 : Enc W0 (.list .data) [v10] b10) (hl : l.length + (b0 ++ (b1 ++ (b2 ++ (b3 ++ (b4 ++ (b5 ++ (b6 ++ (b7 ++ (b8 ++ (b9 ++ b10)))))))))).length ≤ 1000000000000) :
    Calls Try.prog 73 #[.pointer (some ⟨a, 0, none⟩), .agg #[v0, v1, v2, v3, v4, v5, v6, v7, v8, v9, v10]] w (Wrote 69 W0 KK a l (b0 ++ (b1 ++ (b2 ++ (b3 ++ (b4 ++ (b5 ++ (b6 ++ (b7 ++ (b8 ++ (b9 ++ b10))))))))))) := by
  have H0 := hid (h.box #[v0, v1, v2, v3, v4, v5, v6, v7, v8, v9, v10] 101)
  have HL0 := hid hl
  have E0 := hid e0
  have E1 := hid e1
  have E2 := hid e2
  have E3 := hid e3
  have E4 := hid e4
  have E5 := hid e5
  have E6 := hid e6
  have E7 := hid e7
  have E8 := hid e8
  have E9 := hid e9
  have E10 := hid e10
  clear h hl e0 e1 e2 e3 e4 e5 e6 e7 e8 e9 e10
  go_enter Try.func73, Try.ntmps73
  go_upto_region 1 with fail
  generalize w.alloc (.cells #[v0, v1, v2, v3, v4, v5, v6, v7, v8, v9, v10] 101) = w0 at *
  generalize w.heap.size = B at *
  have x0 := box_cell H0.out 0 v0 rfl
  have HN0 := hid (len_now HL0.out)
  have HL1 := hid (len_step HL0.out)
  go_upto_region 2 with (first | (go_at_call 52; refine (wwholeE H0.out E0.out HN0.out).mono ?_; rintro en w1 ⟨rfl, h1⟩; have H1 := hid h1; clear h1))
  clear x0
  have x1 := box_cell H1.out 1 v1 rfl
  have HN1 := hid (len_now HL1.out)
  have HL2 := hid (len_step HL1.out)
  go_upto_region 3 with (first | (go_at_call 63; refine (wnameE H1.out E1.out HN1.out).mono ?_; rintro en w2 ⟨rfl, h2⟩; have H2 := hid h2; clear h2))
  clear x1
  have x2 := box_cell H2.out 2 v2 rfl
  have HN2 := hid (len_now HL2.out)
  have HL3 := hid (len_step HL2.out)
  go_upto_region 4 with (first | (go_at_call 63; refine (wnameE H2.out E2.out HN2.out).mono ?_; rintro en w3 ⟨rfl, h3⟩; have H3 := hid h3; clear h3))
  clear x2
  have x3 := box_cell H3.out 3 v3 rfl
  have HN3 := hid (len_now HL3.out)
  have HL4 := hid (len_step HL3.out)
  go_upto_region 5 with (first | (go_at_call 94; refine (wlist_Value H3.out E3.out HN3.out).mono ?_; rintro en w4 ⟨rfl, h4⟩; have H4 := hid h4; clear h4))
  clear x3
  have x4 := box_cell H4.out 4 v4 rfl
  have HN4 := hid (len_now HL4.out)
  have HL5 := hid (len_step HL4.out)
  go_upto_region 6 with (first | (go_at_call 94; refine (wlist_Value H4.out E4.out HN4.out).mono ?_; rintro en w5 ⟨rfl, h5⟩; have H5 := hid h5; clear h5))
  clear x4
  have x5 := box_cell H5.out 5 v5 rfl
  have HN5 := hid (len_now HL5.out)
  have HL6 := hid (len_step HL5.out)
  go_upto_region 7 with (first | (go_at_call 96; refine (wlist_Set H5.out E5.out HN5.out).mono ?_; rintro en w6 ⟨rfl, h6⟩; have H6 := hid h6; clear h6))
  clear x5
  have x6 := box_cell H6.out 6 v6 rfl
  have HN6 := hid (len_now HL6.out)
  have HL7 := hid (len_step HL6.out)
  go_upto_region 8 with (first | (go_at_call 94; refine (wlist_Value H6.out E6.out HN6.out).mono ?_; rintro en w7 ⟨rfl, h7⟩; have H7 := hid h7; clear h7))
  clear x6
  have x7 := box_cell H7.out 7 v7 rfl
  have HN7 := hid (len_now HL7.out)
  have HL8 := hid (len_step HL7.out)
  go_upto_region 9 with (first | (go_at_call 94; refine (wlist_Value H7.out E7.out HN7.out).mono ?_; rintro en w8 ⟨rfl, h8⟩; have H8 := hid h8; clear h8))
  clear x7
  have x8 := box_cell H8.out 8 v8 rfl
  have HN8 := hid (len_now HL8.out)
  have HL9 := hid (len_step HL8.out)
  go_upto_region 10 with (first | (go_at_call 52; refine (wwholeE H8.out E8.out HN8.out).mono ?_; rintro en w9 ⟨rfl, h9⟩; have H9 := hid h9; clear h9))
  clear x8
  have x9 := box_cell H9.out 9 v9 rfl
  have HN9 := hid (len_now HL9.out)
  have HL10 := hid (len_step HL9.out)
  go_upto_region 11 with (first | (go_at_call 53; refine (wflagE H9.out E9.out HN9.out).mono ?_; rintro en w10 ⟨rfl, h10⟩; have H10 := hid h10; clear h10))
  clear x9
  have x10 := box_cell H10.out 10 v10 rfl
  go_wp2_with (first | (go_at_call 98; refine (wlist_data H10.out E10.out HL10.out).mono ?_; rintro en w11 ⟨rfl, h11⟩; have H11 := hid h11; clear h11))
  clear x10
  go_end0
  exact ⟨rfl, by simpa only [List.append_assoc] using H11.out.drop⟩

set_option maxHeartbeats 4000000 in
theorem wlist_Op {W0 w : World} {KK : List (Nat × Obj)} {a : Nat} {l : List UInt8} {v : Value} {b : List UInt8} (h : St 69 W0 KK a w l) (e : Enc W0 (.list sOp) [v] b) (hl : l.length + b.length ≤ 1000000000000) :
    Calls Try.prog 72 #[.pointer (some ⟨a, 0, none⟩), v, (.func (.func 73) #[.pointer (some ⟨a, 0, none⟩)] #[])] w (Wrote 69 W0 KK a l b) := by
  obtain ⟨ao, n, c, M, rfl, hL, rfl⟩ := list_open e
  obtain ⟨hcap, hn6, hn64, hw⟩ := hL.cap
  have HLst := hid hL
  have HL := hid hl
  have C0 := hid (wnum_any h n hn64 (by have := HL.out; simp only [List.length_append] at this ⊢; omega))
  clear h e hl hL hn64
  go_enter Try.func72, Try.ntmps72
  go_wp2_with (first | (go_at_call 48; refine C0.out.mono ?_; rintro en w1 ⟨rfl, h1⟩; have H1 := hid h1; clear h1))
  clear hw C0
  go_loopw [15] (fun i wr => ∃ k, k ≤ n ∧ i = .int .i64 (k : Int) ∧ St 69 W0 KK a wr ((l ++ numL n) ++ takeB M k)) (fun i _ => n - (intOf i).toNat)
  case atStart => exact ⟨0, by omega, rfl, by rw [takeB_zero, List.append_nil]; exact H1.out⟩
  case round =>
    obtain ⟨k, hk, rfl, hst⟩ := hrel
    have HS := hid hst
    clear hst
    by_cases hlt : k < n
    · obtain ⟨⟨mc, mb⟩, bk, off, hm, rfl, hcell, htk, hle⟩ := HLst.out.get (by decide) hlt
      simp only at hm hcell htk hle
      obtain ⟨v0, v1, v2, v3, v4, v5, v6, v7, v8, v9, v10, b0, b1, b2, b3, b4, b5, b6, b7, b8, b9, b10, rfl, rfl, e0, e1, e2, e3, e4, e5, e6, e7, e8, e9, e10⟩ := Op_cells hm
      obtain ⟨y0, rfl⟩ := form_int e0
      obtain ⟨y1, rfl⟩ := form_name e1
      obtain ⟨y2, rfl⟩ := form_name e2
      obtain ⟨y3, j3, c3, rfl⟩ := form_list e3
      obtain ⟨y4, j4, c4, rfl⟩ := form_list e4
      obtain ⟨y5, j5, c5, rfl⟩ := form_list e5
      obtain ⟨y6, j6, c6, rfl⟩ := form_list e6
      obtain ⟨y7, j7, c7, rfl⟩ := form_list e7
      obtain ⟨y8, rfl⟩ := form_int e8
      obtain ⟨y9, rfl⟩ := form_bool e9
      obtain ⟨y10, j10, c10, rfl⟩ := form_list e10
      have d0 : wr.cell? ⟨bk, off + k * 11, none⟩ = some (.int .i64 y0) := hcell _ HS.out.below 0 _ rfl
      have d1 : wr.cell? ⟨bk, off + k * 11 + 1, none⟩ = some (.string y1) := hcell _ HS.out.below 1 _ rfl
      have d2 : wr.cell? ⟨bk, off + k * 11 + 2, none⟩ = some (.string y2) := hcell _ HS.out.below 2 _ rfl
      have d3 : wr.cell? ⟨bk, off + k * 11 + 3, none⟩ = some (.slice y3 j3 c3) := hcell _ HS.out.below 3 _ rfl
      have d4 : wr.cell? ⟨bk, off + k * 11 + 4, none⟩ = some (.slice y4 j4 c4) := hcell _ HS.out.below 4 _ rfl
      have d5 : wr.cell? ⟨bk, off + k * 11 + 5, none⟩ = some (.slice y5 j5 c5) := hcell _ HS.out.below 5 _ rfl
      have d6 : wr.cell? ⟨bk, off + k * 11 + 6, none⟩ = some (.slice y6 j6 c6) := hcell _ HS.out.below 6 _ rfl
      have d7 : wr.cell? ⟨bk, off + k * 11 + 7, none⟩ = some (.slice y7 j7 c7) := hcell _ HS.out.below 7 _ rfl
      have d8 : wr.cell? ⟨bk, off + k * 11 + 8, none⟩ = some (.int .i64 y8) := hcell _ HS.out.below 8 _ rfl
      have d9 : wr.cell? ⟨bk, off + k * 11 + 9, none⟩ = some (.bool y9) := hcell _ HS.out.below 9 _ rfl
      have d10 : wr.cell? ⟨bk, off + k * 11 + 10, none⟩ = some (.slice y10 j10 c10) := hcell _ HS.out.below 10 _ rfl
      have HB := hid (HS.out.box #[(.int .i64 y0), (.string y1), (.string y2), (.slice y3 j3 c3), (.slice y4 j4 c4), (.slice y5 j5 c5), (.slice y6 j6 c6), (.slice y7 j7 c7), (.int .i64 y8), (.bool y9), (.slice y10 j10 c10)] 101)
      have HX := hid hle
      have C := hid (wOp_any HB.out e0 e1 e2 e3 e4 e5 e6 e7 e8 e9 e10 (by have := HL.out; have := HX.out; simp only [List.length_append] at *; omega))
      have HT := hid htk
      clear htk hle hcell hm e0 e1 e2 e3 e4 e5 e6 e7 e8 e9 e10
      have hki : (k : Int) < (n : Int) := by omega
      go_wp2_with (first | (go_at_call 73; refine C.out.mono ?_; rintro en w2 ⟨rfl, h2⟩; have H2 := hid h2.drop; clear h2))
      go_roundw
      case rel => exact ⟨k + 1, by omega, by go_num, by rw [HT.out, ← List.append_assoc]; exact H2.out⟩
      case measure => simp [intOf]; omega
    · obtain rfl : k = n := by omega
      have hki : ¬ (k : Int) < (k : Int) := by omega
      go_wp2_with fail
      go_end0
      exact ⟨rfl, by rw [← List.append_assoc]; exact HS.out⟩

set_option maxHeartbeats 8000000 in
theorem wAsk_any {W0 w : World} {KK : List (Nat × Obj)} {a : Nat} {l : List UInt8} {v0 v1 v2 v3 v4 v5 v6 v7 v8 v9 v10 v11 v12 v13 v14 v15 : Value} {b0 b1 b2 b3 b4 b5 b6 b7 b8 b9 b10 b11 b12 b13 b14 b15 : List UInt8} (h : St 69 W0 KK a w l) (e0 : Enc W0 .int [v0] b0) (e1 : Enc W0 (.list sOp) [v1] b1) (e2 : Enc W0 .int [v2] b2) (e3 : Enc W0 .name [v3] b3) (e4 : Enc W0 (.list sColumn) [v4] b4) (e5 : Enc W0 (.list .int) [v5] b5) (e6 : Enc W0 .int [v6] b6) (e7 : Enc W0 .int [v7] b7) (e8 : Enc W0 .name [v8] b8) (e9 : Enc W0 (.list .int) [v9] b9) (e10 : Enc W0 .bool [v10] b10) (e11 : Enc W0 .int [v11] b11) (e12 : Enc W0 .bool [v12] b12) (e13 : Enc W0 .name [v13] b13) (e14 : Enc W0 .int [v14] b14) (e15 : Enc W0 .data [v15] b15) (hl : l.length + (b0 ++ (b1 ++ (b2 ++ (b3 ++ (b4 ++ (b5 ++ (b6 ++ (b7 ++ (b8 ++ (b9 ++ (b10 ++ (b11 ++ (b12 ++ (b13 ++ (b14 ++ b15))))))))))))))).length ≤ 1000000000000) :
    Calls Try.prog 39 #[.pointer (some ⟨a, 0, none⟩), .agg #[v0, v1, v2, v3, v4, v5, v6, v7, v8, v9, v10, v11, v12, v13, v14, v15]] w (Wrote 69 W0 KK a l (b0 ++ (b1 ++ (b2 ++ (b3 ++ (b4 ++ (b5 ++ (b6 ++ (b7 ++ (b8 ++ (b9 ++ (b10 ++ (b11 ++ (b12 ++ (b13 ++ (b14 ++ b15)))))))))))))))) := by
  have H0 := hid (h.box #[v0, v1, v2, v3, v4, v5, v6, v7, v8, v9, v10, v11, v12, v13, v14, v15] 59)
  have HL0 := hid hl
  have E0 := hid e0
  have E1 := hid e1
  have E2 := hid e2
  have E3 := hid e3
  have E4 := hid e4
  have E5 := hid e5
  have E6 := hid e6
  have E7 := hid e7
  have E8 := hid e8
  have E9 := hid e9
  have E10 := hid e10
  have E11 := hid e11
  have E12 := hid e12
  have E13 := hid e13
  have E14 := hid e14
  have E15 := hid e15
  clear h hl e0 e1 e2 e3 e4 e5 e6 e7 e8 e9 e10 e11 e12 e13 e14 e15
  go_enter Try.func39, Try.ntmps39
  go_upto_region 1 with fail
  generalize w.alloc (.cells #[v0, v1, v2, v3, v4, v5, v6, v7, v8, v9, v10, v11, v12, v13, v14, v15] 59) = w0 at *
  generalize w.heap.size = B at *
  have x0 := box_cell H0.out 0 v0 rfl
  have HN0 := hid (len_now HL0.out)
  have HL1 := hid (len_step HL0.out)
  go_upto_region 2 with (first | (go_at_call 52; refine (wwholeE H0.out E0.out HN0.out).mono ?_; rintro en w1 ⟨rfl, h1⟩; have H1 := hid h1; clear h1))
  clear x0
  have x1 := box_cell H1.out 1 v1 rfl
  have HN1 := hid (len_now HL1.out)
  have HL2 := hid (len_step HL1.out)
  go_upto_region 3 with (first | (go_at_call 72; refine (wlist_Op H1.out E1.out HN1.out).mono ?_; rintro en w2 ⟨rfl, h2⟩; have H2 := hid h2; clear h2))
  clear x1
  have x2 := box_cell H2.out 2 v2 rfl
  have x3 := box_cell H2.out 3 v3 rfl
  have x4 := box_cell H2.out 4 v4 rfl
  have x5 := box_cell H2.out 5 v5 rfl
  have HG2 : Hid (((l ++ b0) ++ b1).length + ((b2 ++ (b3 ++ (b4 ++ b5))) ++ (b6 ++ (b7 ++ (b8 ++ (b9 ++ (b10 ++ (b11 ++ (b12 ++ (b13 ++ (b14 ++ b15)))))))))).length ≤ 1000000000000) := hid (by simpa only [List.append_assoc] using HL2.out)
  have HN2 := hid (len_now HG2.out)
  have HL3 := hid (len_step HG2.out)
  go_upto_region 4 with (first | (go_at_call 61; refine (wTable_any H2.out E2.out E3.out E4.out E5.out HN2.out).mono ?_; rintro en w3 ⟨rfl, h3⟩; have H3 := hid h3; clear h3))
  clear x2 x3 x4 x5
  have x6 := box_cell H3.out 6 v6 rfl
  have x7 := box_cell H3.out 7 v7 rfl
  have x8 := box_cell H3.out 8 v8 rfl
  have x9 := box_cell H3.out 9 v9 rfl
  have x10 := box_cell H3.out 10 v10 rfl
  have x11 := box_cell H3.out 11 v11 rfl
  have x12 := box_cell H3.out 12 v12 rfl
  have HG3 : Hid ((((l ++ b0) ++ b1) ++ (b2 ++ (b3 ++ (b4 ++ b5)))).length + ((b6 ++ (b7 ++ (b8 ++ (b9 ++ (b10 ++ (b11 ++ b12)))))) ++ (b13 ++ (b14 ++ b15))).length ≤ 1000000000000) := hid (by simpa only [List.append_assoc] using HL3.out)
  have HN3 := hid (len_now HG3.out)
  have HL4 := hid (len_step HG3.out)
  go_upto_region 5 with (first | (go_at_call 62; refine (wIndex_any H3.out E6.out E7.out E8.out E9.out E10.out E11.out E12.out HN3.out).mono ?_; rintro en w4 ⟨rfl, h4⟩; have H4 := hid h4; clear h4))
  clear x6 x7 x8 x9 x10 x11 x12
  have x13 := box_cell H4.out 13 v13 rfl
  have HN4 := hid (len_now HL4.out)
  have HL5 := hid (len_step HL4.out)
  go_upto_region 6 with (first | (go_at_call 63; refine (wnameE H4.out E13.out HN4.out).mono ?_; rintro en w5 ⟨rfl, h5⟩; have H5 := hid h5; clear h5))
  clear x13
  have x14 := box_cell H5.out 14 v14 rfl
  have HN5 := hid (len_now HL5.out)
  have HL6 := hid (len_step HL5.out)
  go_upto_region 7 with (first | (go_at_call 52; refine (wwholeE H5.out E14.out HN5.out).mono ?_; rintro en w6 ⟨rfl, h6⟩; have H6 := hid h6; clear h6))
  clear x14
  have x15 := box_cell H6.out 15 v15 rfl
  go_wp2_with (first | (go_at_call 49; refine (wdataE H6.out E15.out HL6.out).mono ?_; rintro en w7 ⟨rfl, h7⟩; have H7 := hid h7; clear h7))
  clear x15
  go_end0
  exact ⟨rfl, by simpa only [List.append_assoc] using H7.out.drop⟩

set_option maxHeartbeats 8000000 in
theorem wCall_any {W0 w : World} {KK : List (Nat × Obj)} {a : Nat} {l : List UInt8} {v0 v1 v2 : Value} {b0 b1 b2 : List UInt8} (h : St 69 W0 KK a w l) (e0 : Enc W0 .num [v0] b0) (e1 : Enc W0 .num [v1] b1) (e2 : Enc W0 .data [v2] b2) (hl : l.length + (b0 ++ (b1 ++ b2)).length ≤ 1000000000000) :
    Calls Try.prog 22 #[.pointer (some ⟨a, 0, none⟩), .agg #[v0, v1, v2]] w (Wrote 69 W0 KK a l (b0 ++ (b1 ++ b2))) := by
  have H0 := hid (h.box #[v0, v1, v2] 25)
  have HL0 := hid hl
  have E0 := hid e0
  have E1 := hid e1
  have E2 := hid e2
  clear h hl e0 e1 e2
  go_enter Try.func22, Try.ntmps22
  go_upto_region 1 with fail
  generalize w.alloc (.cells #[v0, v1, v2] 25) = w0 at *
  generalize w.heap.size = B at *
  have x0 := box_cell H0.out 0 v0 rfl
  have HN0 := hid (len_now HL0.out)
  have HL1 := hid (len_step HL0.out)
  go_upto_region 2 with (first | (go_at_call 48; refine (wnumE H0.out E0.out HN0.out).mono ?_; rintro en w1 ⟨rfl, h1⟩; have H1 := hid h1; clear h1))
  clear x0
  have x1 := box_cell H1.out 1 v1 rfl
  have HN1 := hid (len_now HL1.out)
  have HL2 := hid (len_step HL1.out)
  go_upto_region 3 with (first | (go_at_call 48; refine (wnumE H1.out E1.out HN1.out).mono ?_; rintro en w2 ⟨rfl, h2⟩; have H2 := hid h2; clear h2))
  clear x1
  have x2 := box_cell H2.out 2 v2 rfl
  go_wp2_with (first | (go_at_call 49; refine (wdataE H2.out E2.out HL2.out).mono ?_; rintro en w3 ⟨rfl, h3⟩; have H3 := hid h3; clear h3))
  clear x2
  go_end0
  exact ⟨rfl, by simpa only [List.append_assoc] using H3.out.drop⟩

end Go.Proofs.Ytiblambiebojmaa

