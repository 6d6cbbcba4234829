import Derived.Great.BuildSlice
import Derived.WalkKit
import Derived.OpenShut
import Derived.Test.YtmdgifmigikffaaGreatRows
import Derived.WalkSpells
import Derived.WalkLawsBesides
import Derived.Laws.AppendOwnNone
import Derived.ProofKit
import Derived.ShutString
import Derived.ChangeOld
import Derived.Below
import Derived.SizedLaws
import Derived.Deep.Slices
import Derived.Deep.AppendLies
import Derived.Deep.RegionHeld
import Derived.Deep.Strs
import Derived.Deep.RegionHeld3
import Derived.Lib.ConvBytes
import Derived.Laws.AppendOwn
import Derived.Deep.CutRange
import Derived.Deep.MidRow
import Derived.Great.Walk
import Derived.Test.YtmdgifmigikffaaGreatWX1
import Derived.Test.YtmdgifmigikffaaGreatWX2
import Derived.Test.YtmdgifmigikffaaGreatWX3
import Derived.Test.YtmdgifmigikffaaGreatWX4
import Derived.Test.YtmdgifmigikffaaGreatWX5
import Derived.Test.YtmdgifmigikffaaGreatWX6
import Derived.Test.YtmdgifmigikffaaGreatWX8
set_option linter.unusedVariables false
set_option linter.unusedSimpArgs false
set_option maxRecDepth 100000
namespace Go.Proofs.YtmdgifmigikffaaGreat
open Go.RowKit Go.Deep
theorem rdc1_Reply (s r : Sh) (st : Rst) : (rdF (.cons s r) st).1 = (rdF s st).1 ++ (rdF r (rdF s st).2).1 := rfl
theorem rdc2_Reply (s r : Sh) (st : Rst) : (rdF (.cons s r) st).2 = (rdF r (rdF s st).2).2 := rfl
theorem rdn1_Reply (st : Rst) : (rdF .nil st).1 = [] := rfl
theorem rdn2_Reply (st : Rst) : (rdF .nil st).2 = st := rfl
set_option maxHeartbeats 8000000 in
theorem rReply_any {w : World} {R : Nat} {st : Rst} (h : RAt w R st.1 st.2) (hl : st.1.length ≤ 140737488355328) :
 Calls Tryz.prog 43 #[.agg #[.pointer (some ⟨R, 0, none⟩)]] w (fun en w' => ∃ cs, en = .returned (.agg cs.toArray) ∧ RdP sReply R w st cs w') := by
 have hb : Below w.heap.size w ((w.alloc (.cells #[.pointer (some ⟨R, 0, none⟩)] 79)).alloc (.cells #[.int .i64 0, .int .u64 0, .int .i64 0, .bool false, .slice none 0 0, .slice none 0 0, .int .i64 0, .int .i64 0, .slice none 0 0, .slice none 0 0, .int .i64 0, .int .i64 0, .slice none 0 0, .int .i64 0, .slice none 0 0] 55)) := ((Below.refl _ _).alloc (Nat.le_refl _) _).alloc (by simp) _
 have hz := (Below.heap_alloc (w.alloc (.cells #[.pointer (some ⟨R, 0, none⟩)] 79)) (.cells #[.int .i64 0, .int .u64 0, .int .i64 0, .bool false, .slice none 0 0, .slice none 0 0, .int .i64 0, .int .i64 0, .slice none 0 0, .slice none 0 0, .int .i64 0, .int .i64 0, .slice none 0 0, .int .i64 0, .slice none 0 0] 55) w.heap.size (by simp)).trans (heap_alloc_new w (.cells #[.pointer (some ⟨R, 0, none⟩)] 79))
 have hB := heap_alloc2_new w (.cells #[.pointer (some ⟨R, 0, none⟩)] 79) (.cells #[.int .i64 0, .int .u64 0, .int .i64 0, .bool false, .slice none 0 0, .slice none 0 0, .int .i64 0, .int .i64 0, .slice none 0 0, .slice none 0 0, .int .i64 0, .int .i64 0, .slice none 0 0, .int .i64 0, .slice none 0 0] 55)
 obtain ⟨B, hBe⟩ : ∃ B, B = w.heap.size + 1 := ⟨_, rfl⟩
 have hRw := h.lt
 have hRB : R < B := by omega
 have HR0 := hid (h.old hb)
 rw [← hBe] at hB
 have HB0 := hid hB
 have HX0 := hid hz
 have HBW := hid hb
 have HL0 := hid hl
 clear h hb hz hB hl
 go_enter Tryz.func43, Tryz.ntmps43
 go_upto_region 1 with fail
 generalize (w.alloc (.cells #[.pointer (some ⟨R, 0, none⟩)] 79)).alloc (.cells #[.int .i64 0, .int .u64 0, .int .i64 0, .bool false, .slice none 0 0, .slice none 0 0, .int .i64 0, .int .i64 0, .slice none 0 0, .slice none 0 0, .int .i64 0, .int .i64 0, .slice none 0 0, .int .i64 0, .slice none 0 0] 55) = w0 at *
 try rw [← hBe]
 have HK0 : Hid (Keep (fun j => j = R ∨ j = B) w0 w0) := hid (Keep.refl _ _)
 have HBE := hid hBe
 clear hBe
 have y0 := (one_cell HX0.out).1
 have CQ := hid (rtake_errno 0 HR0.out HL0.out HB0.out rfl hRB)
 go_upto_region 2 with (first | (go_at_call 105; refine CQ.out.mono ?_; rintro en w1 ⟨rfl, v0, hv⟩; have HV0 := hid hv; clear hv))
 clear CQ y0
 have HB1 : Hid (w1.heap[B]? = some (.cells #[v0, .int .u64 0, .int .i64 0, .bool false, .slice none 0 0, .slice none 0 0, .int .i64 0, .int .i64 0, .slice none 0 0, .slice none 0 0, .int .i64 0, .int .i64 0, .slice none 0 0, .int .i64 0, .slice none 0 0] 55 (0, 0))) := HV0.out.2.1
 have HR1 : Hid (RAt w1 R (rdF .int st).2.1 (rdF .int st).2.2) := HV0.out.2.2.1
 have HL1 : Hid ((rdF .int st).2.1.length ≤ 140737488355328) := hid (Nat.le_trans (rd_len _ _) HL0.out)
 have HX1 := hid ((HV0.out.2.2.2.block w.heap.size (lt_of_block HX0.out) (fun e => by have e9 : w.heap.size = R ∨ w.heap.size = B := e; have := HBE.out; omega)).trans HX0.out)
 have HK1 := hid (HK0.out.trans HV0.out.2.2.2)
 have HE0_1 := hid (EncN.top HB0.out HV0.out.1)
 have y0 := (one_cell HX1.out).1
 have CQ := hid (rtake_num9 1 HR1.out HL1.out HB1.out rfl hRB)
 go_upto_region 3 with (first | (go_at_call 72; refine CQ.out.mono ?_; rintro en w2 ⟨rfl, v1, hv⟩; have HV1 := hid hv; clear hv))
 clear CQ y0
 have HB2 : Hid (w2.heap[B]? = some (.cells #[v0, v1, .int .i64 0, .bool false, .slice none 0 0, .slice none 0 0, .int .i64 0, .int .i64 0, .slice none 0 0, .slice none 0 0, .int .i64 0, .int .i64 0, .slice none 0 0, .int .i64 0, .slice none 0 0] 55 (0, 0))) := HV1.out.2.1
 have HR2 : Hid (RAt w2 R (rdF .num (rdF .int st).2).2.1 (rdF .num (rdF .int st).2).2.2) := HV1.out.2.2.1
 have HL2 : Hid ((rdF .num (rdF .int st).2).2.1.length ≤ 140737488355328) := hid (Nat.le_trans (rd_len _ _) HL1.out)
 have HX2 := hid ((HV1.out.2.2.2.block w.heap.size (lt_of_block HX1.out) (fun e => by have e9 : w.heap.size = R ∨ w.heap.size = B := e; have := HBE.out; omega)).trans HX1.out)
 have HK2 := hid (HK1.out.trans HV1.out.2.2.2)
 have HE1_2 := hid (EncN.top HB1.out HV1.out.1)
 have HE0_2 := hid (EncN.hopc hRB HV1.out.2.2.2 HE0_1.out)
 clear HE0_1
 have y0 := (one_cell HX2.out).1
 have CQ := hid (rtake_whole 2 HR2.out HL2.out HB2.out rfl hRB)
 go_upto_region 4 with (first | (go_at_call 80; refine CQ.out.mono ?_; rintro en w3 ⟨rfl, v2, hv⟩; have HV2 := hid hv; clear hv))
 clear CQ y0
 have HB3 : Hid (w3.heap[B]? = some (.cells #[v0, v1, v2, .bool false, .slice none 0 0, .slice none 0 0, .int .i64 0, .int .i64 0, .slice none 0 0, .slice none 0 0, .int .i64 0, .int .i64 0, .slice none 0 0, .int .i64 0, .slice none 0 0] 55 (0, 0))) := HV2.out.2.1
 have HR3 : Hid (RAt w3 R (rdF .int (rdF .num (rdF .int st).2).2).2.1 (rdF .int (rdF .num (rdF .int st).2).2).2.2) := HV2.out.2.2.1
 have HL3 : Hid ((rdF .int (rdF .num (rdF .int st).2).2).2.1.length ≤ 140737488355328) := hid (Nat.le_trans (rd_len _ _) HL2.out)
 have HX3 := hid ((HV2.out.2.2.2.block w.heap.size (lt_of_block HX2.out) (fun e => by have e9 : w.heap.size = R ∨ w.heap.size = B := e; have := HBE.out; omega)).trans HX2.out)
 have HK3 := hid (HK2.out.trans HV2.out.2.2.2)
 have HE2_3 := hid (EncN.top HB2.out HV2.out.1)
 have HE0_3 := hid (EncN.hopc hRB HV2.out.2.2.2 HE0_2.out)
 have HE1_3 := hid (EncN.hopc hRB HV2.out.2.2.2 HE1_2.out)
 clear HE0_2 HE1_2
 have y0 := (one_cell HX3.out).1
 have CQ := hid (rtake_flag 3 HR3.out HL3.out HB3.out rfl hRB)
 go_upto_region 5 with (first | (go_at_call 82; refine CQ.out.mono ?_; rintro en w4 ⟨rfl, v3, hv⟩; have HV3 := hid hv; clear hv))
 clear CQ y0
 have HB4 : Hid (w4.heap[B]? = some (.cells #[v0, v1, v2, v3, .slice none 0 0, .slice none 0 0, .int .i64 0, .int .i64 0, .slice none 0 0, .slice none 0 0, .int .i64 0, .int .i64 0, .slice none 0 0, .int .i64 0, .slice none 0 0] 55 (0, 0))) := HV3.out.2.1
 have HR4 : Hid (RAt w4 R (rdF .bool (rdF .int (rdF .num (rdF .int st).2).2).2).2.1 (rdF .bool (rdF .int (rdF .num (rdF .int st).2).2).2).2.2) := HV3.out.2.2.1
 have HL4 : Hid ((rdF .bool (rdF .int (rdF .num (rdF .int st).2).2).2).2.1.length ≤ 140737488355328) := hid (Nat.le_trans (rd_len _ _) HL3.out)
 have HX4 := hid ((HV3.out.2.2.2.block w.heap.size (lt_of_block HX3.out) (fun e => by have e9 : w.heap.size = R ∨ w.heap.size = B := e; have := HBE.out; omega)).trans HX3.out)
 have HK4 := hid (HK3.out.trans HV3.out.2.2.2)
 have HE3_4 := hid (EncN.top HB3.out HV3.out.1)
 have HE0_4 := hid (EncN.hopc hRB HV3.out.2.2.2 HE0_3.out)
 have HE1_4 := hid (EncN.hopc hRB HV3.out.2.2.2 HE1_3.out)
 have HE2_4 := hid (EncN.hopc hRB HV3.out.2.2.2 HE2_3.out)
 clear HE0_3 HE1_3 HE2_3
 have y0 := (one_cell HX4.out).1
 have CQ := hid (rlist_Pair 4 HR4.out HL4.out HB4.out rfl hRB)
 go_upto_region 6 with (first | (go_at_call 86; refine CQ.out.mono ?_; rintro en w5 ⟨rfl, v4, hv⟩; have HV4 := hid hv; clear hv))
 clear CQ y0
 have HB5 : Hid (w5.heap[B]? = some (.cells #[v0, v1, v2, v3, v4, .slice none 0 0, .int .i64 0, .int .i64 0, .slice none 0 0, .slice none 0 0, .int .i64 0, .int .i64 0, .slice none 0 0, .int .i64 0, .slice none 0 0] 55 (0, 0))) := HV4.out.2.1
 have HR5 : Hid (RAt w5 R (rdF (.list sPair) (rdF .bool (rdF .int (rdF .num (rdF .int st).2).2).2).2).2.1 (rdF (.list sPair) (rdF .bool (rdF .int (rdF .num (rdF .int st).2).2).2).2).2.2) := HV4.out.2.2.1
 have HL5 : Hid ((rdF (.list sPair) (rdF .bool (rdF .int (rdF .num (rdF .int st).2).2).2).2).2.1.length ≤ 140737488355328) := hid (Nat.le_trans (rd_len _ _) HL4.out)
 have HX5 := hid ((HV4.out.2.2.2.block w.heap.size (lt_of_block HX4.out) (fun e => by have e9 : w.heap.size = R ∨ w.heap.size = B := e; have := HBE.out; omega)).trans HX4.out)
 have HK5 := hid (HK4.out.trans HV4.out.2.2.2)
 have HE4_5 := hid (EncN.top HB4.out HV4.out.1)
 have HE0_5 := hid (EncN.hopc hRB HV4.out.2.2.2 HE0_4.out)
 have HE1_5 := hid (EncN.hopc hRB HV4.out.2.2.2 HE1_4.out)
 have HE2_5 := hid (EncN.hopc hRB HV4.out.2.2.2 HE2_4.out)
 have HE3_5 := hid (EncN.hopc hRB HV4.out.2.2.2 HE3_4.out)
 clear HE0_4 HE1_4 HE2_4 HE3_4
 have y0 := (one_cell HX5.out).1
 have CQ := hid (rlist_num 5 HR5.out HL5.out HB5.out rfl hRB)
 go_upto_region 7 with (first | (go_at_call 107; refine CQ.out.mono ?_; rintro en w6 ⟨rfl, v5, hv⟩; have HV5 := hid hv; clear hv))
 clear CQ y0
 have HB6 : Hid (w6.heap[B]? = some (.cells #[v0, v1, v2, v3, v4, v5, .int .i64 0, .int .i64 0, .slice none 0 0, .slice none 0 0, .int .i64 0, .int .i64 0, .slice none 0 0, .int .i64 0, .slice none 0 0] 55 (0, 0))) := HV5.out.2.1
 have HR6 : Hid (RAt w6 R (rdF (.list .num) (rdF (.list sPair) (rdF .bool (rdF .int (rdF .num (rdF .int st).2).2).2).2).2).2.1 (rdF (.list .num) (rdF (.list sPair) (rdF .bool (rdF .int (rdF .num (rdF .int st).2).2).2).2).2).2.2) := HV5.out.2.2.1
 have HL6 : Hid ((rdF (.list .num) (rdF (.list sPair) (rdF .bool (rdF .int (rdF .num (rdF .int st).2).2).2).2).2).2.1.length ≤ 140737488355328) := hid (Nat.le_trans (rd_len _ _) HL5.out)
 have HX6 := hid ((HV5.out.2.2.2.block w.heap.size (lt_of_block HX5.out) (fun e => by have e9 : w.heap.size = R ∨ w.heap.size = B := e; have := HBE.out; omega)).trans HX5.out)
 have HK6 := hid (HK5.out.trans HV5.out.2.2.2)
 have HE5_6 := hid (EncN.top HB5.out HV5.out.1)
 have HE0_6 := hid (EncN.hopc hRB HV5.out.2.2.2 HE0_5.out)
 have HE1_6 := hid (EncN.hopc hRB HV5.out.2.2.2 HE1_5.out)
 have HE2_6 := hid (EncN.hopc hRB HV5.out.2.2.2 HE2_5.out)
 have HE3_6 := hid (EncN.hopc hRB HV5.out.2.2.2 HE3_5.out)
 have HE4_6 := hid (EncN.hopc hRB HV5.out.2.2.2 HE4_5.out)
 clear HE0_5 HE1_5 HE2_5 HE3_5 HE4_5
 have y0 := (one_cell HX6.out).1
 have CQ := hid (stake_Catalog_6 HR6.out HL6.out HB6.out rfl rfl rfl rfl hRB)
 go_upto_region 8 with (first | (go_at_call 108; refine CQ.out.mono ?_; rintro en w7 ⟨rfl, v6_0, v6_1, v6_2, v6_3, hv⟩; have HV6 := hid hv; clear hv))
 clear CQ y0
 have HB7 : Hid (w7.heap[B]? = some (.cells #[v0, v1, v2, v3, v4, v5, v6_0, v6_1, v6_2, v6_3, .int .i64 0, .int .i64 0, .slice none 0 0, .int .i64 0, .slice none 0 0] 55 (0, 0))) := HV6.out.2.1
 have HR7 : Hid (RAt w7 R (rdF sCatalog (rdF (.list .num) (rdF (.list sPair) (rdF .bool (rdF .int (rdF .num (rdF .int st).2).2).2).2).2).2).2.1 (rdF sCatalog (rdF (.list .num) (rdF (.list sPair) (rdF .bool (rdF .int (rdF .num (rdF .int st).2).2).2).2).2).2).2.2) := HV6.out.2.2.1
 have HL7 : Hid ((rdF sCatalog (rdF (.list .num) (rdF (.list sPair) (rdF .bool (rdF .int (rdF .num (rdF .int st).2).2).2).2).2).2).2.1.length ≤ 140737488355328) := hid (Nat.le_trans (rd_len _ _) HL6.out)
 have HX7 := hid ((HV6.out.2.2.2.block w.heap.size (lt_of_block HX6.out) (fun e => by have e9 : w.heap.size = R ∨ w.heap.size = B := e; have := HBE.out; omega)).trans HX6.out)
 have HK7 := hid (HK6.out.trans HV6.out.2.2.2)
 have HE6_7 := hid (EncN.top HB6.out HV6.out.1)
 have HE0_7 := hid (EncN.hopc hRB HV6.out.2.2.2 HE0_6.out)
 have HE1_7 := hid (EncN.hopc hRB HV6.out.2.2.2 HE1_6.out)
 have HE2_7 := hid (EncN.hopc hRB HV6.out.2.2.2 HE2_6.out)
 have HE3_7 := hid (EncN.hopc hRB HV6.out.2.2.2 HE3_6.out)
 have HE4_7 := hid (EncN.hopc hRB HV6.out.2.2.2 HE4_6.out)
 have HE5_7 := hid (EncN.hopc hRB HV6.out.2.2.2 HE5_6.out)
 clear HE0_6 HE1_6 HE2_6 HE3_6 HE4_6 HE5_6
 have y0 := (one_cell HX7.out).1
 have CQ := hid (stake_Routes_10 HR7.out HL7.out HB7.out rfl rfl rfl rfl rfl hRB)
 go_upto_region 9 with (first | (go_at_call 109; refine CQ.out.mono ?_; rintro en w8 ⟨rfl, v7_0, v7_1, v7_2, v7_3, v7_4, hv⟩; have HV7 := hid hv; clear hv))
 clear CQ y0
 have HB8 : Hid (w8.heap[B]? = some (.cells #[v0, v1, v2, v3, v4, v5, v6_0, v6_1, v6_2, v6_3, v7_0, v7_1, v7_2, v7_3, v7_4] 55 (0, 0))) := HV7.out.2.1
 have HR8 : Hid (RAt w8 R (rdF sRoutes (rdF sCatalog (rdF (.list .num) (rdF (.list sPair) (rdF .bool (rdF .int (rdF .num (rdF .int st).2).2).2).2).2).2).2).2.1 (rdF sRoutes (rdF sCatalog (rdF (.list .num) (rdF (.list sPair) (rdF .bool (rdF .int (rdF .num (rdF .int st).2).2).2).2).2).2).2).2.2) := HV7.out.2.2.1
 have HL8 : Hid ((rdF sRoutes (rdF sCatalog (rdF (.list .num) (rdF (.list sPair) (rdF .bool (rdF .int (rdF .num (rdF .int st).2).2).2).2).2).2).2).2.1.length ≤ 140737488355328) := hid (Nat.le_trans (rd_len _ _) HL7.out)
 have HX8 := hid ((HV7.out.2.2.2.block w.heap.size (lt_of_block HX7.out) (fun e => by have e9 : w.heap.size = R ∨ w.heap.size = B := e; have := HBE.out; omega)).trans HX7.out)
 have HK8 := hid (HK7.out.trans HV7.out.2.2.2)
 have HE7_8 := hid (EncN.top HB7.out HV7.out.1)
 have HE0_8 := hid (EncN.hopc hRB HV7.out.2.2.2 HE0_7.out)
 have HE1_8 := hid (EncN.hopc hRB HV7.out.2.2.2 HE1_7.out)
 have HE2_8 := hid (EncN.hopc hRB HV7.out.2.2.2 HE2_7.out)
 have HE3_8 := hid (EncN.hopc hRB HV7.out.2.2.2 HE3_7.out)
 have HE4_8 := hid (EncN.hopc hRB HV7.out.2.2.2 HE4_7.out)
 have HE5_8 := hid (EncN.hopc hRB HV7.out.2.2.2 HE5_7.out)
 have HE6_8 := hid (EncN.hopc hRB HV7.out.2.2.2 HE6_7.out)
 clear HE0_7 HE1_7 HE2_7 HE3_7 HE4_7 HE5_7 HE6_7
 obtain ⟨y0, rfl⟩ := form_int (EncN.enc _ HE0_8.out)
 obtain ⟨y1, rfl⟩ := form_num (EncN.enc _ HE1_8.out)
 obtain ⟨y2, rfl⟩ := form_int (EncN.enc _ HE2_8.out)
 obtain ⟨y3, rfl⟩ := form_bool (EncN.enc _ HE3_8.out)
 obtain ⟨y4, j4, c4, rfl⟩ := form_list (EncN.enc _ HE4_8.out)
 obtain ⟨y5, j5, c5, rfl⟩ := form_list (EncN.enc _ HE5_8.out)
 obtain ⟨⟨f6_y0, rfl⟩, ⟨f6_y1, rfl⟩, ⟨f6_y2, f6_j2, f6_c2, rfl⟩, ⟨f6_y3, f6_j3, f6_c3, rfl⟩⟩ := Catalog_forms (EncN.enc _ HE6_8.out)
 obtain ⟨⟨f7_y0, rfl⟩, ⟨f7_y1, rfl⟩, ⟨f7_y2, f7_j2, f7_c2, rfl⟩, ⟨f7_y3, rfl⟩, ⟨f7_y4, f7_j4, f7_c4, rfl⟩⟩ := Routes_forms (EncN.enc _ HE7_8.out)
 have HBN : Hid (w8.heap[B]? = some (.cells (#[(.int .i64 y0), (.int .u64 (y1 : Int)), (.int .i64 y2), (.bool y3), (.slice y4 j4 c4), (.slice y5 j5 c5), (.int .i64 f6_y0), (.int .i64 f6_y1), (.slice f6_y2 f6_j2 f6_c2), (.slice f6_y3 f6_j3 f6_c3), (.int .i64 f7_y0), (.int .i64 f7_y1), (.slice f7_y2 f7_j2 f7_c2), (.int .i64 f7_y3), (.slice f7_y4 f7_j4 f7_c4)] : Array Value) 55 (0, 0))) := HB8
 clear HB1 HB2 HB3 HB4 HB5 HB6 HB7 HB8
 have LD := cells_load (cs := [(.int .i64 y0), (.int .u64 (y1 : Int)), (.int .i64 y2), (.bool y3), (.slice y4 j4 c4), (.slice y5 j5 c5), (.int .i64 f6_y0), (.int .i64 f6_y1), (.slice f6_y2 f6_j2 f6_c2), (.slice f6_y3 f6_j3 f6_c3), (.int .i64 f7_y0), (.int .i64 f7_y1), (.slice f7_y2 f7_j2 f7_c2), (.int .i64 f7_y3), (.slice f7_y4 f7_j4 f7_c4)]) (fun i u hi => (row_at HBN.out hi).1) Tryz.underlying55 rfl (by kernel_rfl)
 have HLD := hid LD
 clear LD
 apply wp_region_lit
 refine Great.wpList_readTo rfl (some 39) rfl (.agg #[(.int .i64 y0), (.int .u64 (y1 : Int)), (.int .i64 y2), (.bool y3), (.slice y4 j4 c4), (.slice y5 j5 c5), (.int .i64 f6_y0), (.int .i64 f6_y1), (.slice f6_y2 f6_j2 f6_c2), (.slice f6_y3 f6_j3 f6_c3), (.int .i64 f7_y0), (.int .i64 f7_y1), (.slice f7_y2 f7_j2 f7_c2), (.int .i64 f7_y3), (.slice f7_y4 f7_j4 f7_c4)]) (exec_load rfl HLD.out) ?_
 simp only [Act.put, jA, jB, jC, jD, jE, jF]
 refine Go.wpList_store_rowTo rfl 55 _ _ rfl rfl B #[(.int .i64 y0), (.int .u64 (y1 : Int)), (.int .i64 y2), (.bool y3), (.slice y4 j4 c4), (.slice y5 j5 c5), (.int .i64 f6_y0), (.int .i64 f6_y1), (.slice f6_y2 f6_j2 f6_c2), (.slice f6_y3 f6_j3 f6_c3), (.int .i64 f7_y0), (.int .i64 f7_y1), (.slice f7_y2 f7_j2 f7_c2), (.int .i64 f7_y3), (.slice f7_y4 f7_j4 f7_c4)] rfl rfl 55 #[(.int .i64 y0), (.int .u64 (y1 : Int)), (.int .i64 y2), (.bool y3), (.slice y4 j4 c4), (.slice y5 j5 c5), (.int .i64 f6_y0), (.int .i64 f6_y1), (.slice f6_y2 f6_j2 f6_c2), (.slice f6_y3 f6_j3 f6_c3), (.int .i64 f7_y0), (.int .i64 f7_y1), (.slice f7_y2 f7_j2 f7_c2), (.int .i64 f7_y3), (.slice f7_y4 f7_j4 f7_c4)] HBN.out (by as_aux_lemma => kernel_rfl) rfl (by simp [Value.oneCell']) ?_
 rw [setRow_same HBN.out]
 go_wp2_with fail
 refine bodyPost_ret (results_cell_row rfl _ _ B 55 _ (0, 0) _ rfl HBN.out Tryz.underlying55 rfl (by kernel_rfl)) rfl ?_
 have hfin : ∀ (s : Sh) (cs : List Value) (bs : List UInt8), EncN (fun j => B < j ∧ j < w8.heap.size) w8 s cs bs → EncN (fun j => w.heap.size ≤ j ∧ j < w8.heap.size) w8 s cs bs := fun s cs bs h => EncN.mono (fun j hj => ⟨by have := HBE.out; omega, hj.2⟩) s h
 have hR9 : RAt w8 R (rdF sReply st).2.1 (rdF sReply st).2.2 := by
  have h9 := HR8.out
  simp only [sReply, rdc2_Reply, rdn2_Reply]
  exact h9
 refine ⟨[(.int .i64 y0), (.int .u64 (y1 : Int)), (.int .i64 y2), (.bool y3), (.slice y4 j4 c4), (.slice y5 j5 c5), (.int .i64 f6_y0), (.int .i64 f6_y1), (.slice f6_y2 f6_j2 f6_c2), (.slice f6_y3 f6_j3 f6_c3), (.int .i64 f7_y0), (.int .i64 f7_y1), (.slice f7_y2 f7_j2 f7_c2), (.int .i64 f7_y3), (.slice f7_y4 f7_j4 f7_c4)], rfl, ?_, hR9, ?_⟩
 · simp only [sReply, rdc1_Reply, rdc2_Reply, rdn1_Reply]
   exact ⟨[(.int .i64 y0)], [(.int .u64 (y1 : Int)), (.int .i64 y2), (.bool y3), (.slice y4 j4 c4), (.slice y5 j5 c5), (.int .i64 f6_y0), (.int .i64 f6_y1), (.slice f6_y2 f6_j2 f6_c2), (.slice f6_y3 f6_j3 f6_c3), (.int .i64 f7_y0), (.int .i64 f7_y1), (.slice f7_y2 f7_j2 f7_c2), (.int .i64 f7_y3), (.slice f7_y4 f7_j4 f7_c4)], _, _, rfl, rfl, hfin _ _ _ HE0_8.out, ⟨[(.int .u64 (y1 : Int))], [(.int .i64 y2), (.bool y3), (.slice y4 j4 c4), (.slice y5 j5 c5), (.int .i64 f6_y0), (.int .i64 f6_y1), (.slice f6_y2 f6_j2 f6_c2), (.slice f6_y3 f6_j3 f6_c3), (.int .i64 f7_y0), (.int .i64 f7_y1), (.slice f7_y2 f7_j2 f7_c2), (.int .i64 f7_y3), (.slice f7_y4 f7_j4 f7_c4)], _, _, rfl, rfl, hfin _ _ _ HE1_8.out, ⟨[(.int .i64 y2)], [(.bool y3), (.slice y4 j4 c4), (.slice y5 j5 c5), (.int .i64 f6_y0), (.int .i64 f6_y1), (.slice f6_y2 f6_j2 f6_c2), (.slice f6_y3 f6_j3 f6_c3), (.int .i64 f7_y0), (.int .i64 f7_y1), (.slice f7_y2 f7_j2 f7_c2), (.int .i64 f7_y3), (.slice f7_y4 f7_j4 f7_c4)], _, _, rfl, rfl, hfin _ _ _ HE2_8.out, ⟨[(.bool y3)], [(.slice y4 j4 c4), (.slice y5 j5 c5), (.int .i64 f6_y0), (.int .i64 f6_y1), (.slice f6_y2 f6_j2 f6_c2), (.slice f6_y3 f6_j3 f6_c3), (.int .i64 f7_y0), (.int .i64 f7_y1), (.slice f7_y2 f7_j2 f7_c2), (.int .i64 f7_y3), (.slice f7_y4 f7_j4 f7_c4)], _, _, rfl, rfl, hfin _ _ _ HE3_8.out, ⟨[(.slice y4 j4 c4)], [(.slice y5 j5 c5), (.int .i64 f6_y0), (.int .i64 f6_y1), (.slice f6_y2 f6_j2 f6_c2), (.slice f6_y3 f6_j3 f6_c3), (.int .i64 f7_y0), (.int .i64 f7_y1), (.slice f7_y2 f7_j2 f7_c2), (.int .i64 f7_y3), (.slice f7_y4 f7_j4 f7_c4)], _, _, rfl, rfl, hfin _ _ _ HE4_8.out, ⟨[(.slice y5 j5 c5)], [(.int .i64 f6_y0), (.int .i64 f6_y1), (.slice f6_y2 f6_j2 f6_c2), (.slice f6_y3 f6_j3 f6_c3), (.int .i64 f7_y0), (.int .i64 f7_y1), (.slice f7_y2 f7_j2 f7_c2), (.int .i64 f7_y3), (.slice f7_y4 f7_j4 f7_c4)], _, _, rfl, rfl, hfin _ _ _ HE5_8.out, ⟨[(.int .i64 f6_y0), (.int .i64 f6_y1), (.slice f6_y2 f6_j2 f6_c2), (.slice f6_y3 f6_j3 f6_c3)], [(.int .i64 f7_y0), (.int .i64 f7_y1), (.slice f7_y2 f7_j2 f7_c2), (.int .i64 f7_y3), (.slice f7_y4 f7_j4 f7_c4)], _, _, rfl, rfl, hfin _ _ _ HE6_8.out, ⟨[(.int .i64 f7_y0), (.int .i64 f7_y1), (.slice f7_y2 f7_j2 f7_c2), (.int .i64 f7_y3), (.slice f7_y4 f7_j4 f7_c4)], [], _, _, rfl, rfl, hfin _ _ _ HE7_8.out, ⟨rfl, rfl⟩⟩⟩⟩⟩⟩⟩⟩⟩
 · exact (Keep.of_below HBW.out).trans2 HK8.out (fun j e => by rcases e with e | e <;> first | exact .inl e | exact .inr (by have := HBE.out; omega))
end Go.Proofs.YtmdgifmigikffaaGreat
namespace Go.Proofs.YtmdgifmigikffaaGreat
open Go.RowKit Go.Deep
def AlReply (R : Nat) (w : World) (st : Rst) (en : Ending) (w' : World) : Prop := ∃ cs : List Value, en = .returned (.tuple #[.agg cs.toArray, .int .i64 (endS (rdF sReply st).2.1 (rdF sReply st).2.2)]) ∧ ((endS (rdF sReply st).2.1 (rdF sReply st).2.2) = 0 → EncN (fun j => w.heap.size ≤ j ∧ j < w'.heap.size) w' sReply cs (rdF sReply st).1) ∧ ((endS (rdF sReply st).2.1 (rdF sReply st).2.2) ≠ 0 → cs = [.int .i64 0, .int .u64 0, .int .i64 0, .bool false, .slice none 0 0, .slice none 0 0, .int .i64 0, .int .i64 0, .slice none 0 0, .slice none 0 0, .int .i64 0, .int .i64 0, .slice none 0 0, .int .i64 0, .slice none 0 0]) ∧ Keep (fun j => j = R) w w'
set_option maxHeartbeats 8000000 in
theorem aloneReply_any {w : World} {R : Nat} {st : Rst} (h : RAt w R st.1 st.2) (hl : st.1.length ≤ 140737488355328) :
 Calls Tryz.prog 42 #[.agg #[.pointer (some ⟨R, 0, none⟩)], (.func (.func 43) #[.agg #[.pointer (some ⟨R, 0, none⟩)]] #[])] w (AlReply R w st) := by
 have hb : Below w.heap.size w ((w.alloc (.cells #[.pointer (some ⟨R, 0, none⟩)] 79)).alloc (.cells #[.int .i64 0, .int .u64 0, .int .i64 0, .bool false, .slice none 0 0, .slice none 0 0, .int .i64 0, .int .i64 0, .slice none 0 0, .slice none 0 0, .int .i64 0, .int .i64 0, .slice none 0 0, .int .i64 0, .slice none 0 0] 55)) := ((Below.refl _ _).alloc (Nat.le_refl _) _).alloc (by simp) _
 have hz := (Below.heap_alloc (w.alloc (.cells #[.pointer (some ⟨R, 0, none⟩)] 79)) (.cells #[.int .i64 0, .int .u64 0, .int .i64 0, .bool false, .slice none 0 0, .slice none 0 0, .int .i64 0, .int .i64 0, .slice none 0 0, .slice none 0 0, .int .i64 0, .int .i64 0, .slice none 0 0, .int .i64 0, .slice none 0 0] 55) w.heap.size (by simp)).trans (heap_alloc_new w (.cells #[.pointer (some ⟨R, 0, none⟩)] 79))
 have hB := heap_alloc2_new w (.cells #[.pointer (some ⟨R, 0, none⟩)] 79) (.cells #[.int .i64 0, .int .u64 0, .int .i64 0, .bool false, .slice none 0 0, .slice none 0 0, .int .i64 0, .int .i64 0, .slice none 0 0, .slice none 0 0, .int .i64 0, .int .i64 0, .slice none 0 0, .int .i64 0, .slice none 0 0] 55)
 obtain ⟨B, hBe⟩ : ∃ B, B = w.heap.size + 1 := ⟨_, rfl⟩
 have hRw := h.lt
 have hRB : R < B := by omega
 have HR0 := hid (h.old hb)
 rw [← hBe] at hB
 have HB0 := hid hB
 have HX0 := hid hz
 have HBW := hid hb
 have HL0 := hid hl
 clear h hb hz hB hl
 go_enter Tryz.func42, Tryz.ntmps42
 go_upto_region 1 with fail
 generalize (w.alloc (.cells #[.pointer (some ⟨R, 0, none⟩)] 79)).alloc (.cells #[.int .i64 0, .int .u64 0, .int .i64 0, .bool false, .slice none 0 0, .slice none 0 0, .int .i64 0, .int .i64 0, .slice none 0 0, .slice none 0 0, .int .i64 0, .int .i64 0, .slice none 0 0, .int .i64 0, .slice none 0 0] 55) = w0 at *
 try rw [← hBe]
 have HBE := hid hBe
 clear hBe
 have CQ := hid (rReply_any HR0.out HL0.out)
 go_upto_region 2 with (first | (go_at_call 43; refine CQ.out.mono ?_; rintro en w1 ⟨mc, rfl, hv⟩; obtain ⟨u0, u1, u2, u3, u4, u5, u6, u7, u8, u9, u10, u11, u12, u13, u14, b0, b1, b2, b3, b4, b5, b6, b7, b8, b9, b10, b11, b12, b13, b14, rfl, _, e0, e1, e2, e3, e4, e5, e6, e7, e8, e9, e10, e11, e12, e13, e14⟩ := Reply_cells (EncN.enc _ hv.1); obtain ⟨y0, rfl⟩ := form_int e0; obtain ⟨y1, rfl⟩ := form_num e1; obtain ⟨y2, rfl⟩ := form_int e2; obtain ⟨y3, rfl⟩ := form_bool e3; obtain ⟨y4, j4, c4, rfl⟩ := form_list e4; obtain ⟨y5, j5, c5, rfl⟩ := form_list e5; obtain ⟨y6, rfl⟩ := form_int e6; obtain ⟨y7, rfl⟩ := form_int e7; obtain ⟨y8, j8, c8, rfl⟩ := form_list e8; obtain ⟨y9, j9, c9, rfl⟩ := form_list e9; obtain ⟨y10, rfl⟩ := form_int e10; obtain ⟨y11, rfl⟩ := form_int e11; obtain ⟨y12, j12, c12, rfl⟩ := form_list e12; obtain ⟨y13, rfl⟩ := form_int e13; obtain ⟨y14, j14, c14, rfl⟩ := form_data e14; clear e0 e1 e2 e3 e4 e5 e6 e7 e8 e9 e10 e11 e12 e13 e14; have HV := hid hv; clear hv))
 have hb2 : Below w1.heap.size w1 (w1.alloc (.cells #[(.int .i64 y0), (.int .u64 (y1 : Int)), (.int .i64 y2), (.bool y3), (.slice y4 j4 c4), (.slice y5 j5 c5), (.int .i64 y6), (.int .i64 y7), (.slice y8 j8 c8), (.slice y9 j9 c9), (.int .i64 y10), (.int .i64 y11), (.slice y12 j12 c12), (.int .i64 y13), (.slice y14 j14 c14)] 55)) := (Below.refl _ _).alloc (Nat.le_refl _) _
 have hx2 := heap_alloc_new w1 (.cells #[(.int .i64 y0), (.int .u64 (y1 : Int)), (.int .i64 y2), (.bool y3), (.slice y4 j4 c4), (.slice y5 j5 c5), (.int .i64 y6), (.int .i64 y7), (.slice y8 j8 c8), (.slice y9 j9 c9), (.int .i64 y10), (.int .i64 y11), (.slice y12 j12 c12), (.int .i64 y13), (.slice y14 j14 c14)] 55)
 have HV2 := hid (EncN.mono (fun j hj => (⟨hj.1, Nat.lt_of_lt_of_le hj.2 hb2.size⟩ : w0.heap.size ≤ j ∧ j < (w1.alloc (.cells #[(.int .i64 y0), (.int .u64 (y1 : Int)), (.int .i64 y2), (.bool y3), (.slice y4 j4 c4), (.slice y5 j5 c5), (.int .i64 y6), (.int .i64 y7), (.slice y8 j8 c8), (.slice y9 j9 c9), (.int .i64 y10), (.int .i64 y11), (.slice y12 j12 c12), (.int .i64 y13), (.slice y14 j14 c14)] 55)).heap.size)) _ (EncN.keep (Keep.of_below (X := fun _ => False) hb2) (fun _ _ e => e) _ HV.out.1))
 have HR2 := hid (HV.out.2.1.old hb2)
 have HB2 : Hid ((w1.alloc (.cells #[(.int .i64 y0), (.int .u64 (y1 : Int)), (.int .i64 y2), (.bool y3), (.slice y4 j4 c4), (.slice y5 j5 c5), (.int .i64 y6), (.int .i64 y7), (.slice y8 j8 c8), (.slice y9 j9 c9), (.int .i64 y10), (.int .i64 y11), (.slice y12 j12 c12), (.int .i64 y13), (.slice y14 j14 c14)] 55)).heap[B]? = some (.cells ([.int .i64 0, .int .u64 0, .int .i64 0, .bool false, .slice none 0 0, .slice none 0 0, .int .i64 0, .int .i64 0, .slice none 0 0, .slice none 0 0, .int .i64 0, .int .i64 0, .slice none 0 0, .int .i64 0, .slice none 0 0] : List Value).toArray 55 (0, 0))) := hid ((hb2.block B (Nat.lt_of_lt_of_le (lt_of_block HB0.out) HV.out.2.2.size)).trans ((HV.out.2.2.block B (lt_of_block HB0.out) (fun e => by have e9 : B = R := e; omega)).trans HB0.out))
 have HX2 := hid ((hb2.block w.heap.size (Nat.lt_of_lt_of_le (lt_of_block HX0.out) HV.out.2.2.size)).trans ((HV.out.2.2.block w.heap.size (lt_of_block HX0.out) (fun e => by have e9 : w.heap.size = R := e; omega)).trans HX0.out))
 have HXX : Hid ((w1.alloc (.cells #[(.int .i64 y0), (.int .u64 (y1 : Int)), (.int .i64 y2), (.bool y3), (.slice y4 j4 c4), (.slice y5 j5 c5), (.int .i64 y6), (.int .i64 y7), (.slice y8 j8 c8), (.slice y9 j9 c9), (.int .i64 y10), (.int .i64 y11), (.slice y12 j12 c12), (.int .i64 y13), (.slice y14 j14 c14)] 55)).heap[w1.heap.size]? = some (.cells ([(.int .i64 y0), (.int .u64 (y1 : Int)), (.int .i64 y2), (.bool y3), (.slice y4 j4 c4), (.slice y5 j5 c5), (.int .i64 y6), (.int .i64 y7), (.slice y8 j8 c8), (.slice y9 j9 c9), (.int .i64 y10), (.int .i64 y11), (.slice y12 j12 c12), (.int .i64 y13), (.slice y14 j14 c14)] : List Value).toArray 55 (0, 0))) := hid hx2
 have HK2 : Hid (Keep (fun j => j = R) w0 (w1.alloc (.cells #[(.int .i64 y0), (.int .u64 (y1 : Int)), (.int .i64 y2), (.bool y3), (.slice y4 j4 c4), (.slice y5 j5 c5), (.int .i64 y6), (.int .i64 y7), (.slice y8 j8 c8), (.slice y9 j9 c9), (.int .i64 y10), (.int .i64 y11), (.slice y12 j12 c12), (.int .i64 y13), (.slice y14 j14 c14)] 55))) := hid (HV.out.2.2.trans (Keep.of_below hb2))
 have HS1 : Hid (B < w1.heap.size) := hid (Nat.lt_of_lt_of_le (lt_of_block HB0.out) HV.out.2.2.size)
 clear hb2 hx2 CQ
 obtain ⟨X, hX⟩ : ∃ X, X = w1.heap.size := ⟨_, rfl⟩
 rw [← hX] at HXX HS1
 generalize w1.alloc (.cells #[(.int .i64 y0), (.int .u64 (y1 : Int)), (.int .i64 y2), (.bool y3), (.slice y4 j4 c4), (.slice y5 j5 c5), (.int .i64 y6), (.int .i64 y7), (.slice y8 j8 c8), (.slice y9 j9 c9), (.int .i64 y10), (.int .i64 y11), (.slice y12 j12 c12), (.int .i64 y13), (.slice y14 j14 c14)] 55) = w2 at *
 try rw [← hX]
 clear hX
 obtain ⟨ev, hev⟩ : ∃ ev, ev = (endS (rdF sReply st).2.1 (rdF sReply st).2.2) := ⟨_, rfl⟩
 have CE : Hid (Calls Tryz.prog 71 #[.pointer (some ⟨R, 0, none⟩)] w2 (fun en w' => en = .returned (.int .i64 ev) ∧ w2 = w')) := hid (by rw [hev]; exact endR_any w2 R _ _ HR2.out)
 have HEV := hid hev
 clear hev
 have x0 := (one_cell HX2.out).1
 by_cases h0 : ev = 0
 · subst h0
   have LD := cells_load (cs := [(.int .i64 y0), (.int .u64 (y1 : Int)), (.int .i64 y2), (.bool y3), (.slice y4 j4 c4), (.slice y5 j5 c5), (.int .i64 y6), (.int .i64 y7), (.slice y8 j8 c8), (.slice y9 j9 c9), (.int .i64 y10), (.int .i64 y11), (.slice y12 j12 c12), (.int .i64 y13), (.slice y14 j14 c14)]) (fun i u hi => (row_at HXX.out hi).1) Tryz.underlying55 rfl (by kernel_rfl)
   have HLD := hid LD
   clear LD
   have HSF := hid (setRow_heap w2 B _ (#[(.int .i64 y0), (.int .u64 (y1 : Int)), (.int .i64 y2), (.bool y3), (.slice y4 j4 c4), (.slice y5 j5 c5), (.int .i64 y6), (.int .i64 y7), (.slice y8 j8 c8), (.slice y9 j9 c9), (.int .i64 y10), (.int .i64 y11), (.slice y12 j12 c12), (.int .i64 y13), (.slice y14 j14 c14)] : Array Value) _ _ HB2.out)
   have HKS := hid (setRow_keep w2 B (#[(.int .i64 y0), (.int .u64 (y1 : Int)), (.int .i64 y2), (.bool y3), (.slice y4 j4 c4), (.slice y5 j5 c5), (.int .i64 y6), (.int .i64 y7), (.slice y8 j8 c8), (.slice y9 j9 c9), (.int .i64 y10), (.int .i64 y11), (.slice y12 j12 c12), (.int .i64 y13), (.slice y14 j14 c14)] : Array Value))
   have HBB : Hid (w2.heap[B]? = some (.cells (#[(.int .i64 0), (.int .u64 0), (.int .i64 0), (.bool false), (.slice none 0 0), (.slice none 0 0), (.int .i64 0), (.int .i64 0), (.slice none 0 0), (.slice none 0 0), (.int .i64 0), (.int .i64 0), (.slice none 0 0), (.int .i64 0), (.slice none 0 0)] : Array Value) 55 (0, 0))) := HB2
   go_upto_region 6 with (first | (go_at_call 71; refine CE.out.mono ?_; rintro en w3 ⟨rfl, rfl⟩))
   apply wp_region_lit
   refine Great.wpList_readTo rfl (some 18) rfl (.agg #[(.int .i64 y0), (.int .u64 (y1 : Int)), (.int .i64 y2), (.bool y3), (.slice y4 j4 c4), (.slice y5 j5 c5), (.int .i64 y6), (.int .i64 y7), (.slice y8 j8 c8), (.slice y9 j9 c9), (.int .i64 y10), (.int .i64 y11), (.slice y12 j12 c12), (.int .i64 y13), (.slice y14 j14 c14)]) (exec_load rfl HLD.out) ?_
   simp only [Act.put, jA, jB, jC, jD, jE, jF]
   refine Go.wpList_store_rowTo rfl 55 _ _ rfl rfl B #[(.int .i64 y0), (.int .u64 (y1 : Int)), (.int .i64 y2), (.bool y3), (.slice y4 j4 c4), (.slice y5 j5 c5), (.int .i64 y6), (.int .i64 y7), (.slice y8 j8 c8), (.slice y9 j9 c9), (.int .i64 y10), (.int .i64 y11), (.slice y12 j12 c12), (.int .i64 y13), (.slice y14 j14 c14)] rfl rfl 55 #[(.int .i64 0), (.int .u64 0), (.int .i64 0), (.bool false), (.slice none 0 0), (.slice none 0 0), (.int .i64 0), (.int .i64 0), (.slice none 0 0), (.slice none 0 0), (.int .i64 0), (.int .i64 0), (.slice none 0 0), (.int .i64 0), (.slice none 0 0)] HBB.out (by as_aux_lemma => kernel_rfl) rfl (by simp [Value.oneCell']) ?_
   generalize w2.setRow B #[(.int .i64 y0), (.int .u64 (y1 : Int)), (.int .i64 y2), (.bool y3), (.slice y4 j4 c4), (.slice y5 j5 c5), (.int .i64 y6), (.int .i64 y7), (.slice y8 j8 c8), (.slice y9 j9 c9), (.int .i64 y10), (.int .i64 y11), (.slice y12 j12 c12), (.int .i64 y13), (.slice y14 j14 c14)] = w5 at *
   go_wp2_with fail
   refine bodyPost_ret (results_cell2 rfl _ _ B 55 _ (0, 0) _ rfl HSF.out Tryz.underlying55 rfl (by kernel_rfl)) rfl ?_
   refine ⟨[(.int .i64 y0), (.int .u64 (y1 : Int)), (.int .i64 y2), (.bool y3), (.slice y4 j4 c4), (.slice y5 j5 c5), (.int .i64 y6), (.int .i64 y7), (.slice y8 j8 c8), (.slice y9 j9 c9), (.int .i64 y10), (.int .i64 y11), (.slice y12 j12 c12), (.int .i64 y13), (.slice y14 j14 c14)], by rw [← HEV.out]; rfl, fun _ => EncN.mono (fun j hj => ⟨Nat.le_trans HBW.out.size hj.1, Nat.lt_of_lt_of_le hj.2 HKS.out.size⟩) _ (EncN.keep HKS.out (fun j hj e => by have e9 : j = B := e; have a9 := lt_of_block HB0.out; have := hj.1; omega) _ HV2.out), fun h9 => absurd HEV.out.symm h9, ?_⟩
   exact ((Keep.of_below HBW.out).trans HK2.out).trans2 HKS.out (fun j e => .inr (by have e9 : j = B := e; have := HBE.out; omega))
 · have hbe : (ev != 0) = true := by simp [h0]
   have hb3 : Below w2.heap.size w2 (w2.alloc (.cells #[(.int .i64 0), (.int .u64 0), (.int .i64 0), (.bool false), (.slice none 0 0), (.slice none 0 0), (.int .i64 0), (.int .i64 0), (.slice none 0 0), (.slice none 0 0), (.int .i64 0), (.int .i64 0), (.slice none 0 0), (.int .i64 0), (.slice none 0 0)] 55)) := (Below.refl _ _).alloc (Nat.le_refl _) _
   have hx3 : (w2.alloc (.cells #[(.int .i64 0), (.int .u64 0), (.int .i64 0), (.bool false), (.slice none 0 0), (.slice none 0 0), (.int .i64 0), (.int .i64 0), (.slice none 0 0), (.slice none 0 0), (.int .i64 0), (.int .i64 0), (.slice none 0 0), (.int .i64 0), (.slice none 0 0)] 55)).heap[w2.heap.size]? = some (.cells ([.int .i64 0, .int .u64 0, .int .i64 0, .bool false, .slice none 0 0, .slice none 0 0, .int .i64 0, .int .i64 0, .slice none 0 0, .slice none 0 0, .int .i64 0, .int .i64 0, .slice none 0 0, .int .i64 0, .slice none 0 0] : List Value).toArray 55 (0, 0)) := heap_alloc_new w2 (.cells #[(.int .i64 0), (.int .u64 0), (.int .i64 0), (.bool false), (.slice none 0 0), (.slice none 0 0), (.int .i64 0), (.int .i64 0), (.slice none 0 0), (.slice none 0 0), (.int .i64 0), (.int .i64 0), (.slice none 0 0), (.int .i64 0), (.slice none 0 0)] 55)
   have hB3 := (hb3.block B (lt_of_block HB2.out)).trans HB2.out
   have LD := cells_load (cs := [.int .i64 0, .int .u64 0, .int .i64 0, .bool false, .slice none 0 0, .slice none 0 0, .int .i64 0, .int .i64 0, .slice none 0 0, .slice none 0 0, .int .i64 0, .int .i64 0, .slice none 0 0, .int .i64 0, .slice none 0 0]) (fun i u hi => (row_at hx3 hi).1) Tryz.underlying55 rfl (by kernel_rfl)
   have HLD := hid LD
   clear LD hx3
   have HBB : Hid ((w2.alloc (.cells #[(.int .i64 0), (.int .u64 0), (.int .i64 0), (.bool false), (.slice none 0 0), (.slice none 0 0), (.int .i64 0), (.int .i64 0), (.slice none 0 0), (.slice none 0 0), (.int .i64 0), (.int .i64 0), (.slice none 0 0), (.int .i64 0), (.slice none 0 0)] 55)).heap[B]? = some (.cells (#[(.int .i64 0), (.int .u64 0), (.int .i64 0), (.bool false), (.slice none 0 0), (.slice none 0 0), (.int .i64 0), (.int .i64 0), (.slice none 0 0), (.slice none 0 0), (.int .i64 0), (.int .i64 0), (.slice none 0 0), (.int .i64 0), (.slice none 0 0)] : Array Value) 55 (0, 0))) := hid hB3
   have HB3 := hid hb3
   clear hb3 hB3
   go_upto_region 5 with (first | (go_at_call 71; refine CE.out.mono ?_; rintro en w3 ⟨rfl, rfl⟩))
   generalize w2.alloc (.cells #[(.int .i64 0), (.int .u64 0), (.int .i64 0), (.bool false), (.slice none 0 0), (.slice none 0 0), (.int .i64 0), (.int .i64 0), (.slice none 0 0), (.slice none 0 0), (.int .i64 0), (.int .i64 0), (.slice none 0 0), (.int .i64 0), (.slice none 0 0)] 55) = w4 at *
   apply wp_region_lit
   refine Great.wpList_readTo rfl (some 16) rfl (.agg #[(.int .i64 0), (.int .u64 0), (.int .i64 0), (.bool false), (.slice none 0 0), (.slice none 0 0), (.int .i64 0), (.int .i64 0), (.slice none 0 0), (.slice none 0 0), (.int .i64 0), (.int .i64 0), (.slice none 0 0), (.int .i64 0), (.slice none 0 0)]) (exec_load rfl HLD.out) ?_
   simp only [Act.put, jA, jB, jC, jD, jE, jF]
   refine Great.wpList_readTo rfl (some 17) rfl (.int .i64 ev) (by rfl) ?_
   simp only [Act.put, jA, jB, jC, jD, jE, jF]
   refine Go.wpList_store_rowTo rfl 55 _ _ rfl rfl B #[(.int .i64 0), (.int .u64 0), (.int .i64 0), (.bool false), (.slice none 0 0), (.slice none 0 0), (.int .i64 0), (.int .i64 0), (.slice none 0 0), (.slice none 0 0), (.int .i64 0), (.int .i64 0), (.slice none 0 0), (.int .i64 0), (.slice none 0 0)] rfl rfl 55 #[(.int .i64 0), (.int .u64 0), (.int .i64 0), (.bool false), (.slice none 0 0), (.slice none 0 0), (.int .i64 0), (.int .i64 0), (.slice none 0 0), (.slice none 0 0), (.int .i64 0), (.int .i64 0), (.slice none 0 0), (.int .i64 0), (.slice none 0 0)] HBB.out (by as_aux_lemma => kernel_rfl) rfl (by simp [Value.oneCell']) ?_
   rw [setRow_same HBB.out]
   go_wp2_with fail
   refine bodyPost_ret (results_cell2 rfl _ _ B 55 _ (0, 0) _ rfl HBB.out Tryz.underlying55 rfl (by kernel_rfl)) rfl ?_
   refine ⟨[.int .i64 0, .int .u64 0, .int .i64 0, .bool false, .slice none 0 0, .slice none 0 0, .int .i64 0, .int .i64 0, .slice none 0 0, .slice none 0 0, .int .i64 0, .int .i64 0, .slice none 0 0, .int .i64 0, .slice none 0 0], by rw [← HEV.out]; rfl, fun h9 => absurd (HEV.out.trans h9) h0, fun _ => rfl, ?_⟩
   exact (((Keep.of_below HBW.out).trans HK2.out).trans (Keep.of_below HB3.out))
end Go.Proofs.YtmdgifmigikffaaGreat
namespace Go.Proofs.YtmdgifmigikffaaGreat
open Go.RowKit Go.Deep
theorem AlReply_forms {E : Int} {N : Nat → Prop} {w : World} {cs : List Value} {bs : List UInt8} (h1 : E = 0 → EncN N w sReply cs bs) (h2 : E ≠ 0 → cs = [.int .i64 0, .int .u64 0, .int .i64 0, .bool false, .slice none 0 0, .slice none 0 0, .int .i64 0, .int .i64 0, .slice none 0 0, .slice none 0 0, .int .i64 0, .int .i64 0, .slice none 0 0, .int .i64 0, .slice none 0 0]) : ∃ (y0 : Int) (y1 : Nat) (y2 : Int) (y3 : Bool) (y4 : Option Addr) (j4 : Nat) (c4 : Nat) (y5 : Option Addr) (j5 : Nat) (c5 : Nat) (y6 : Int) (y7 : Int) (y8 : Option Addr) (j8 : Nat) (c8 : Nat) (y9 : Option Addr) (j9 : Nat) (c9 : Nat) (y10 : Int) (y11 : Int) (y12 : Option Addr) (j12 : Nat) (c12 : Nat) (y13 : Int) (y14 : Option Addr) (j14 : Nat) (c14 : Nat), cs = [.int .i64 y0, .int .u64 (y1 : Int), .int .i64 y2, .bool y3, .slice y4 j4 c4, .slice y5 j5 c5, .int .i64 y6, .int .i64 y7, .slice y8 j8 c8, .slice y9 j9 c9, .int .i64 y10, .int .i64 y11, .slice y12 j12 c12, .int .i64 y13, .slice y14 j14 c14] := by
 by_cases h : E = 0
 · obtain ⟨u0, u1, u2, u3, u4, u5, u6, u7, u8, u9, u10, u11, u12, u13, u14, b0, b1, b2, b3, b4, b5, b6, b7, b8, b9, b10, b11, b12, b13, b14, rfl, _, e0, e1, e2, e3, e4, e5, e6, e7, e8, e9, e10, e11, e12, e13, e14⟩ := Reply_cells (EncN.enc _ (h1 h))
   obtain ⟨y0, rfl⟩ := form_int e0
   obtain ⟨y1, rfl⟩ := form_num e1
   obtain ⟨y2, rfl⟩ := form_int e2
   obtain ⟨y3, rfl⟩ := form_bool e3
   obtain ⟨y4, j4, c4, rfl⟩ := form_list e4
   obtain ⟨y5, j5, c5, rfl⟩ := form_list e5
   obtain ⟨y6, rfl⟩ := form_int e6
   obtain ⟨y7, rfl⟩ := form_int e7
   obtain ⟨y8, j8, c8, rfl⟩ := form_list e8
   obtain ⟨y9, j9, c9, rfl⟩ := form_list e9
   obtain ⟨y10, rfl⟩ := form_int e10
   obtain ⟨y11, rfl⟩ := form_int e11
   obtain ⟨y12, j12, c12, rfl⟩ := form_list e12
   obtain ⟨y13, rfl⟩ := form_int e13
   obtain ⟨y14, j14, c14, rfl⟩ := form_data e14
   exact ⟨y0, y1, y2, y3, y4, j4, c4, y5, j5, c5, y6, y7, y8, j8, c8, y9, j9, c9, y10, y11, y12, j12, c12, y13, y14, j14, c14, rfl⟩
 · exact ⟨_, _, _, _, _, _, _, _, _, _, _, _, _, _, _, _, _, _, _, _, _, _, _, _, _, _, _, h2 h⟩
def TkReply (w : World) (l : List UInt8) (en : Ending) (w' : World) : Prop := ∃ cs : List Value, en = .returned (.tuple #[.agg cs.toArray, .int .i64 (endS (rdF sReply (l, 0)).2.1 (rdF sReply (l, 0)).2.2)]) ∧ ((endS (rdF sReply (l, 0)).2.1 (rdF sReply (l, 0)).2.2) = 0 → EncN (fun j => w.heap.size ≤ j ∧ j < w'.heap.size) w' sReply cs (rdF sReply (l, 0)).1) ∧ ((endS (rdF sReply (l, 0)).2.1 (rdF sReply (l, 0)).2.2) ≠ 0 → cs = [.int .i64 0, .int .u64 0, .int .i64 0, .bool false, .slice none 0 0, .slice none 0 0, .int .i64 0, .int .i64 0, .slice none 0 0, .slice none 0 0, .int .i64 0, .int .i64 0, .slice none 0 0, .int .i64 0, .slice none 0 0]) ∧ Below w.heap.size w w'
set_option maxHeartbeats 8000000 in
theorem takeReply_any (x : Value) (l : List UInt8) (w : World) (hx : Rd w x l) (hl : l.length ≤ 140737488355328) : Calls Tryz.prog 10 #[x] w (TkReply w l) := by
 have hb : Below w.heap.size w (w.alloc (.cells #[.int .i64 0, .int .u64 0, .int .i64 0, .bool false, .slice none 0 0, .slice none 0 0, .int .i64 0, .int .i64 0, .slice none 0 0, .slice none 0 0, .int .i64 0, .int .i64 0, .slice none 0 0, .int .i64 0, .slice none 0 0] 55)) := (Below.refl _ _).alloc (Nat.le_refl _) _
 have hB : (w.alloc (.cells #[.int .i64 0, .int .u64 0, .int .i64 0, .bool false, .slice none 0 0, .slice none 0 0, .int .i64 0, .int .i64 0, .slice none 0 0, .slice none 0 0, .int .i64 0, .int .i64 0, .slice none 0 0, .int .i64 0, .slice none 0 0] 55)).heap[w.heap.size]? = some (.cells ([.int .i64 0, .int .u64 0, .int .i64 0, .bool false, .slice none 0 0, .slice none 0 0, .int .i64 0, .int .i64 0, .slice none 0 0, .slice none 0 0, .int .i64 0, .int .i64 0, .slice none 0 0, .int .i64 0, .slice none 0 0] : List Value).toArray 55 (0, 0)) := heap_alloc_new w (.cells #[.int .i64 0, .int .u64 0, .int .i64 0, .bool false, .slice none 0 0, .slice none 0 0, .int .i64 0, .int .i64 0, .slice none 0 0, .slice none 0 0, .int .i64 0, .int .i64 0, .slice none 0 0, .int .i64 0, .slice none 0 0] 55)
 have CN := hid (new_any (w.alloc (.cells #[.int .i64 0, .int .u64 0, .int .i64 0, .bool false, .slice none 0 0, .slice none 0 0, .int .i64 0, .int .i64 0, .slice none 0 0, .slice none 0 0, .int .i64 0, .int .i64 0, .slice none 0 0, .int .i64 0, .slice none 0 0] 55)) x l (hx.old hb) hl)
 have HB := hid hB
 have HBW := hid hb
 have HL := hid hl
 clear hb hB hx hl
 go_enter Tryz.func10, Tryz.ntmps10
 go_upto_region 1 with fail
 generalize w.alloc (.cells #[.int .i64 0, .int .u64 0, .int .i64 0, .bool false, .slice none 0 0, .slice none 0 0, .int .i64 0, .int .i64 0, .slice none 0 0, .slice none 0 0, .int .i64 0, .int .i64 0, .slice none 0 0, .int .i64 0, .slice none 0 0] 55) = w1 at *
 go_upto_region 2 with (first | (go_at_call 24; refine CN.out.mono ?_; rintro en w2 ⟨R, rfl, hR1, hr, hb2⟩; have HR := hid hr; have HRB := hid (Nat.lt_of_lt_of_le (lt_of_block HB.out) hR1); have HB2 := hid ((hb2.block _ (lt_of_block HB.out)).trans HB.out); have HW2 := hid hb2; clear hr hR1 hb2))
 have hb3 : Below w2.heap.size w2 (w2.alloc (.cells #[.pointer (some ⟨R, 0, none⟩)] 79)) := (Below.refl _ _).alloc (Nat.le_refl _) _
 have HX3 := hid (heap_alloc_new w2 (.cells #[.pointer (some ⟨R, 0, none⟩)] 79))
 have HR3 := hid (HR.out.old hb3)
 have HB3 := hid ((hb3.block _ (lt_of_block HB2.out)).trans HB2.out)
 have HW3 := hid (HW2.out.trans (hb3.mono HW2.out.size))
 clear hb3
 obtain ⟨X, hX⟩ : ∃ X, X = w2.heap.size := ⟨_, rfl⟩
 rw [← hX] at HX3
 generalize w2.alloc (.cells #[.pointer (some ⟨R, 0, none⟩)] 79) = w3 at *
 try rw [← hX]
 clear hX
 have CA := hid (aloneReply_any (st := (l, 0)) HR3.out HL.out)
 have z0 := (one_cell HX3.out).1
 go_wp2_with (first | (go_at_call 42; refine CA.out.mono ?_; rintro en w4 ⟨cs, rfl, h1, h2, hk⟩; obtain ⟨y0, y1, y2, y3, y4, j4, c4, y5, j5, c5, y6, y7, y8, j8, c8, y9, j9, c9, y10, y11, y12, j12, c12, y13, y14, j14, c14, rfl⟩ := AlReply_forms h1 h2; have H1 := hid h1; have H2 := hid h2; have HK := hid hk; have hB4 := (hk.block _ (lt_of_block HB3.out) (fun e => by have e9 : w.heap.size = R := e; have := HRB.out; omega)).trans HB3.out; obtain ⟨q0, r0⟩ := row_at hB4 (i := 0) rfl; obtain ⟨q1, r1⟩ := row_at hB4 (i := 1) rfl; obtain ⟨q2, r2⟩ := row_at hB4 (i := 2) rfl; obtain ⟨q3, r3⟩ := row_at hB4 (i := 3) rfl; obtain ⟨q4, r4⟩ := row_at hB4 (i := 4) rfl; obtain ⟨q5, r5⟩ := row_at hB4 (i := 5) rfl; obtain ⟨q6, r6⟩ := row_at hB4 (i := 6) rfl; obtain ⟨q7, r7⟩ := row_at hB4 (i := 7) rfl; obtain ⟨q8, r8⟩ := row_at hB4 (i := 8) rfl; obtain ⟨q9, r9⟩ := row_at hB4 (i := 9) rfl; obtain ⟨q10, r10⟩ := row_at hB4 (i := 10) rfl; obtain ⟨q11, r11⟩ := row_at hB4 (i := 11) rfl; obtain ⟨q12, r12⟩ := row_at hB4 (i := 12) rfl; obtain ⟨q13, r13⟩ := row_at hB4 (i := 13) rfl; obtain ⟨q14, r14⟩ := row_at hB4 (i := 14) rfl; have HB4 := hid hB4; clear h1 h2 hk hB4))
 have hs0 := HB4.out
 have hs1 := row_put hs0 0 (.int .i64 y0)
 have hs2 := row_put hs1 1 (.int .u64 (y1 : Int))
 have hs3 := row_put hs2 2 (.int .i64 y2)
 have hs4 := row_put hs3 3 (.bool y3)
 have hs5 := row_put hs4 4 (.slice y4 j4 c4)
 have hs6 := row_put hs5 5 (.slice y5 j5 c5)
 have hs7 := row_put hs6 6 (.int .i64 y6)
 have hs8 := row_put hs7 7 (.int .i64 y7)
 have hs9 := row_put hs8 8 (.slice y8 j8 c8)
 have hs10 := row_put hs9 9 (.slice y9 j9 c9)
 have hs11 := row_put hs10 10 (.int .i64 y10)
 have hs12 := row_put hs11 11 (.int .i64 y11)
 have hs13 := row_put hs12 12 (.slice y12 j12 c12)
 have hs14 := row_put hs13 13 (.int .i64 y13)
 have hs15 := row_put hs14 14 (.slice y14 j14 c14)
 have HSF : Hid ((((((((((((((((w4.setCell ⟨w.heap.size, 0, none⟩ (.int .i64 y0)).setCell ⟨w.heap.size, 1, none⟩ (.int .u64 (y1 : Int))).setCell ⟨w.heap.size, 2, none⟩ (.int .i64 y2)).setCell ⟨w.heap.size, 3, none⟩ (.bool y3)).setCell ⟨w.heap.size, 4, none⟩ (.slice y4 j4 c4)).setCell ⟨w.heap.size, 5, none⟩ (.slice y5 j5 c5)).setCell ⟨w.heap.size, 6, none⟩ (.int .i64 y6)).setCell ⟨w.heap.size, 7, none⟩ (.int .i64 y7)).setCell ⟨w.heap.size, 8, none⟩ (.slice y8 j8 c8)).setCell ⟨w.heap.size, 9, none⟩ (.slice y9 j9 c9)).setCell ⟨w.heap.size, 10, none⟩ (.int .i64 y10)).setCell ⟨w.heap.size, 11, none⟩ (.int .i64 y11)).setCell ⟨w.heap.size, 12, none⟩ (.slice y12 j12 c12)).setCell ⟨w.heap.size, 13, none⟩ (.int .i64 y13)).setCell ⟨w.heap.size, 14, none⟩ (.slice y14 j14 c14)).heap[w.heap.size]? = some (.cells #[.int .i64 y0, .int .u64 (y1 : Int), .int .i64 y2, .bool y3, .slice y4 j4 c4, .slice y5 j5 c5, .int .i64 y6, .int .i64 y7, .slice y8 j8 c8, .slice y9 j9 c9, .int .i64 y10, .int .i64 y11, .slice y12 j12 c12, .int .i64 y13, .slice y14 j14 c14] 55 (0, 0))) := hs15
 have HKS : Hid (Keep (fun j => j = w.heap.size) w4 (((((((((((((((w4.setCell ⟨w.heap.size, 0, none⟩ (.int .i64 y0)).setCell ⟨w.heap.size, 1, none⟩ (.int .u64 (y1 : Int))).setCell ⟨w.heap.size, 2, none⟩ (.int .i64 y2)).setCell ⟨w.heap.size, 3, none⟩ (.bool y3)).setCell ⟨w.heap.size, 4, none⟩ (.slice y4 j4 c4)).setCell ⟨w.heap.size, 5, none⟩ (.slice y5 j5 c5)).setCell ⟨w.heap.size, 6, none⟩ (.int .i64 y6)).setCell ⟨w.heap.size, 7, none⟩ (.int .i64 y7)).setCell ⟨w.heap.size, 8, none⟩ (.slice y8 j8 c8)).setCell ⟨w.heap.size, 9, none⟩ (.slice y9 j9 c9)).setCell ⟨w.heap.size, 10, none⟩ (.int .i64 y10)).setCell ⟨w.heap.size, 11, none⟩ (.int .i64 y11)).setCell ⟨w.heap.size, 12, none⟩ (.slice y12 j12 c12)).setCell ⟨w.heap.size, 13, none⟩ (.int .i64 y13)).setCell ⟨w.heap.size, 14, none⟩ (.slice y14 j14 c14))) := hid ((((((((((((((((Keep.refl (fun j => j = w.heap.size) _).trans (Keep.set (X := fun j => j = w.heap.size) _ ⟨w.heap.size, 0, none⟩ (.int .i64 y0) rfl)).trans (Keep.set (X := fun j => j = w.heap.size) _ ⟨w.heap.size, 1, none⟩ (.int .u64 (y1 : Int)) rfl)).trans (Keep.set (X := fun j => j = w.heap.size) _ ⟨w.heap.size, 2, none⟩ (.int .i64 y2) rfl)).trans (Keep.set (X := fun j => j = w.heap.size) _ ⟨w.heap.size, 3, none⟩ (.bool y3) rfl)).trans (Keep.set (X := fun j => j = w.heap.size) _ ⟨w.heap.size, 4, none⟩ (.slice y4 j4 c4) rfl)).trans (Keep.set (X := fun j => j = w.heap.size) _ ⟨w.heap.size, 5, none⟩ (.slice y5 j5 c5) rfl)).trans (Keep.set (X := fun j => j = w.heap.size) _ ⟨w.heap.size, 6, none⟩ (.int .i64 y6) rfl)).trans (Keep.set (X := fun j => j = w.heap.size) _ ⟨w.heap.size, 7, none⟩ (.int .i64 y7) rfl)).trans (Keep.set (X := fun j => j = w.heap.size) _ ⟨w.heap.size, 8, none⟩ (.slice y8 j8 c8) rfl)).trans (Keep.set (X := fun j => j = w.heap.size) _ ⟨w.heap.size, 9, none⟩ (.slice y9 j9 c9) rfl)).trans (Keep.set (X := fun j => j = w.heap.size) _ ⟨w.heap.size, 10, none⟩ (.int .i64 y10) rfl)).trans (Keep.set (X := fun j => j = w.heap.size) _ ⟨w.heap.size, 11, none⟩ (.int .i64 y11) rfl)).trans (Keep.set (X := fun j => j = w.heap.size) _ ⟨w.heap.size, 12, none⟩ (.slice y12 j12 c12) rfl)).trans (Keep.set (X := fun j => j = w.heap.size) _ ⟨w.heap.size, 13, none⟩ (.int .i64 y13) rfl)).trans (Keep.set (X := fun j => j = w.heap.size) _ ⟨w.heap.size, 14, none⟩ (.slice y14 j14 c14) rfl))
 clear hs0 hs1 hs2 hs3 hs4 hs5 hs6 hs7 hs8 hs9 hs10 hs11 hs12 hs13 hs14 hs15
 refine bodyPost_ret (results_cell2 rfl _ _ w.heap.size 55 _ (0, 0) _ rfl HSF.out Tryz.underlying55 rfl (by kernel_rfl)) rfl ?_
 have a1 := HBW.out.size
 have a2 := lt_of_block HB.out
 have a3 := HW3.out.size
 refine ⟨_, rfl, fun h0 => EncN.mono (fun j hj => ⟨by have := hj.1; omega, Nat.lt_of_lt_of_le hj.2 HKS.out.size⟩) _ (EncN.keep HKS.out (fun j hj e => by have e9 : j = w.heap.size := e; have := hj.1; omega) _ (H1.out h0)), H2.out, ?_⟩
 exact (((Keep.of_below (X := fun _ => False) HBW.out).trans (Keep.of_below (X := fun _ => False) (HW3.out.mono (Nat.le_refl _)))).trans2 HK.out (fun j e => .inr (by have e9 : j = R := e; have := HRB.out; omega))).trans2 HKS.out (fun j e => .inr (by have e9 : j = w.heap.size := e; omega)) |>.below (Nat.le_refl _) (fun k e => e.elim)
end Go.Proofs.YtmdgifmigikffaaGreat
namespace Go.Proofs.YtmdgifmigikffaaGreat
open Go.RowKit Go.Deep
theorem Span_forms {W : World} {v0 v1 : Value} {b : List UInt8} (h : Enc W sSpan [v0, v1] b) : (∃ (y0 : Option Addr) (j0 c0 : Nat), v0 = .slice y0 j0 c0) ∧ (∃ (y1 : Option Addr) (j1 c1 : Nat), v1 = .slice y1 j1 c1) := by
 obtain ⟨a0, a1, b0, b1, hc, _, e0, e1⟩ := Span_cells h
 simp only [List.cons.injEq, and_true] at hc
 obtain ⟨rfl, rfl⟩ := hc
 exact ⟨form_data e0, form_data e1⟩
set_option maxHeartbeats 8000000 in
theorem rSpan_any {w : World} {R : Nat} {st : Rst} (h : RAt w R st.1 st.2) (hl : st.1.length ≤ 140737488355328) :
 Calls Tryz.prog 85 #[.agg #[.pointer (some ⟨R, 0, none⟩)]] w (fun en w' => ∃ cs, en = .returned (.agg cs.toArray) ∧ RdP sSpan R w st cs w') := by
 have hb : Below w.heap.size w ((w.alloc (.cells #[.pointer (some ⟨R, 0, none⟩)] 79)).alloc (.cells #[.slice none 0 0, .slice none 0 0] 32)) := ((Below.refl _ _).alloc (Nat.le_refl _) _).alloc (by simp) _
 have hz := (Below.heap_alloc (w.alloc (.cells #[.pointer (some ⟨R, 0, none⟩)] 79)) (.cells #[.slice none 0 0, .slice none 0 0] 32) w.heap.size (by simp)).trans (heap_alloc_new w (.cells #[.pointer (some ⟨R, 0, none⟩)] 79))
 have hB := heap_alloc2_new w (.cells #[.pointer (some ⟨R, 0, none⟩)] 79) (.cells #[.slice none 0 0, .slice none 0 0] 32)
 obtain ⟨B, hBe⟩ : ∃ B, B = w.heap.size + 1 := ⟨_, rfl⟩
 have hRw := h.lt
 have hRB : R < B := by omega
 have HR0 := hid (h.old hb)
 rw [← hBe] at hB
 have HB0 := hid hB
 have HX0 := hid hz
 have HBW := hid hb
 have HL0 := hid hl
 clear h hb hz hB hl
 go_enter Tryz.func85, Tryz.ntmps85
 go_upto_region 1 with fail
 generalize (w.alloc (.cells #[.pointer (some ⟨R, 0, none⟩)] 79)).alloc (.cells #[.slice none 0 0, .slice none 0 0] 32) = w0 at *
 try rw [← hBe]
 have HK0 : Hid (Keep (fun j => j = R ∨ j = B) w0 w0) := hid (Keep.refl _ _)
 have HBE := hid hBe
 clear hBe
 have y0 := (one_cell HX0.out).1
 have CQ := hid (rtake_data 0 HR0.out HL0.out HB0.out rfl hRB)
 go_upto_region 2 with (first | (go_at_call 74; refine CQ.out.mono ?_; rintro en w1 ⟨rfl, v0, hv⟩; have HV0 := hid hv; clear hv))
 clear CQ y0
 have HB1 : Hid (w1.heap[B]? = some (.cells #[v0, .slice none 0 0] 32 (0, 0))) := HV0.out.2.1
 have HR1 : Hid (RAt w1 R (rdF .data st).2.1 (rdF .data st).2.2) := HV0.out.2.2.1
 have HL1 : Hid ((rdF .data st).2.1.length ≤ 140737488355328) := hid (Nat.le_trans (rd_len _ _) HL0.out)
 have HX1 := hid ((HV0.out.2.2.2.block w.heap.size (lt_of_block HX0.out) (fun e => by have e9 : w.heap.size = R ∨ w.heap.size = B := e; have := HBE.out; omega)).trans HX0.out)
 have HK1 := hid (HK0.out.trans HV0.out.2.2.2)
 have HE0_1 := hid (EncN.top HB0.out HV0.out.1)
 have y0 := (one_cell HX1.out).1
 have CQ := hid (rtake_data 1 HR1.out HL1.out HB1.out rfl hRB)
 go_upto_region 3 with (first | (go_at_call 74; refine CQ.out.mono ?_; rintro en w2 ⟨rfl, v1, hv⟩; have HV1 := hid hv; clear hv))
 clear CQ y0
 have HB2 : Hid (w2.heap[B]? = some (.cells #[v0, v1] 32 (0, 0))) := HV1.out.2.1
 have HR2 : Hid (RAt w2 R (rdF .data (rdF .data st).2).2.1 (rdF .data (rdF .data st).2).2.2) := HV1.out.2.2.1
 have HL2 : Hid ((rdF .data (rdF .data st).2).2.1.length ≤ 140737488355328) := hid (Nat.le_trans (rd_len _ _) HL1.out)
 have HX2 := hid ((HV1.out.2.2.2.block w.heap.size (lt_of_block HX1.out) (fun e => by have e9 : w.heap.size = R ∨ w.heap.size = B := e; have := HBE.out; omega)).trans HX1.out)
 have HK2 := hid (HK1.out.trans HV1.out.2.2.2)
 have HE1_2 := hid (EncN.top HB1.out HV1.out.1)
 have HE0_2 := hid (EncN.hopc hRB HV1.out.2.2.2 HE0_1.out)
 clear HE0_1
 obtain ⟨y0, j0, c0, rfl⟩ := form_data (EncN.enc _ HE0_2.out)
 obtain ⟨y1, j1, c1, rfl⟩ := form_data (EncN.enc _ HE1_2.out)
 obtain ⟨q0, r0⟩ := row_at (cs := [(.slice y0 j0 c0), (.slice y1 j1 c1)]) HB2.out (i := 0) rfl
 obtain ⟨q1, r1⟩ := row_at (cs := [(.slice y0 j0 c0), (.slice y1 j1 c1)]) HB2.out (i := 1) rfl
 have hs0 : w2.heap[B]? = some (.cells ([(.slice y0 j0 c0), (.slice y1 j1 c1)] : List Value).toArray 32 (0, 0)) := HB2.out
 have hs1 := row_put hs0 0 (.slice y0 j0 c0)
 have hs2 := row_put hs1 1 (.slice y1 j1 c1)
 have hks : Keep (fun j => j = B) w2 ((w2.setCell ⟨B, 0, none⟩ (.slice y0 j0 c0)).setCell ⟨B, 1, none⟩ (.slice y1 j1 c1)) := ((Keep.refl (fun j => j = B) _).trans (Keep.set (X := fun j => j = B) _ ⟨B, 0, none⟩ (.slice y0 j0 c0) rfl)).trans (Keep.set (X := fun j => j = B) _ ⟨B, 1, none⟩ (.slice y1 j1 c1) rfl)
 have HSF : Hid (((w2.setCell ⟨B, 0, none⟩ (.slice y0 j0 c0)).setCell ⟨B, 1, none⟩ (.slice y1 j1 c1)).heap[B]? = some (.cells #[(.slice y0 j0 c0), (.slice y1 j1 c1)] 32 (0, 0))) := hs2
 have HKS := hid hks
 clear hks hs0 hs1 hs2
 go_wp2_with fail
 refine bodyPost_ret (results_cell_row rfl _ _ B 32 _ (0, 0) _ rfl HSF.out Tryz.underlying32 rfl (by kernel_rfl)) rfl ?_
 have hfin : ∀ (s : Sh) (cs : List Value) (bs : List UInt8), EncN (fun j => B < j ∧ j < w2.heap.size) w2 s cs bs → EncN (fun j => w.heap.size ≤ j ∧ j < ((w2.setCell ⟨B, 0, none⟩ (.slice y0 j0 c0)).setCell ⟨B, 1, none⟩ (.slice y1 j1 c1)).heap.size) ((w2.setCell ⟨B, 0, none⟩ (.slice y0 j0 c0)).setCell ⟨B, 1, none⟩ (.slice y1 j1 c1)) s cs bs := fun s cs bs h => EncN.mono (fun j hj => ⟨by have := HBE.out; omega, Nat.lt_of_lt_of_le hj.2 HKS.out.size⟩) s (EncN.keep HKS.out (fun j hj e => by have e9 : j = B := e; have := hj.1; omega) s h)
 refine ⟨[(.slice y0 j0 c0), (.slice y1 j1 c1)], rfl, ?_, HR2.out.keepK HKS.out (fun j e => by have e9 : j = B := e; omega), ?_⟩
 · exact ⟨[(.slice y0 j0 c0)], [(.slice y1 j1 c1)], _, _, rfl, rfl, hfin _ _ _ HE0_2.out, ⟨[(.slice y1 j1 c1)], [], _, _, rfl, rfl, hfin _ _ _ HE1_2.out, ⟨rfl, rfl⟩⟩⟩
 · exact (Keep.of_below HBW.out).trans2 (HK2.out.trans (HKS.out.mono (fun j _ e => .inr e))) (fun j e => by rcases e with e | e <;> first | exact .inl e | exact .inr (by have := HBE.out; omega))
set_option maxHeartbeats 4000000 in
theorem stake_Span_0 {w : World} {R B : Nat} {st : Rst} {cs : List Value} {t : TypeId} {u0 u1 : Value} (h : RAt w R st.1 st.2) (hl : st.1.length ≤ 140737488355328) (hB : w.heap[B]? = some (.cells cs.toArray t (0, 0))) (hi0 : cs[0]? = some u0) (hi1 : cs[1]? = some u1) (hRB : R < B) :
 Calls Tryz.prog 84 #[.pointer (some ⟨B, 0, none⟩), (.func (.func 85) #[.agg #[.pointer (some ⟨R, 0, none⟩)]] #[])] w (fun en w' => en = .returned (.tuple #[]) ∧ ∃ v0 v1, TkS sSpan R B w st cs t 0 [v0, v1] w') := by
 have C := hid (rSpan_any h hl)
 have HB := hid hB
 have HI0 := hid hi0
 have HI1 := hid hi1
 clear hB h hi0 hi1
 go_enter Tryz.func84, Tryz.ntmps84
 go_wp2_with (first | (go_at_call 85; refine C.out.mono ?_; rintro en w2 ⟨mc, rfl, hv⟩; obtain ⟨k0, k1, b0, b1, rfl, _, e0, e1⟩ := Span_cells (EncN.enc _ hv.1); obtain ⟨y0, j0, c0, rfl⟩ := form_data e0; obtain ⟨y1, j1, c1, rfl⟩ := form_data e1; clear e0 e1; have HV := hid hv; have hB2 := (hv.2.2.block B (lt_of_block HB.out) (fun e => by have e9 : B = R := e; omega)).trans HB.out; clear hv; obtain ⟨z0, x0⟩ := row_at hB2 HI0.out; obtain ⟨z1, x1⟩ := row_at hB2 HI1.out; clear hB2))
 go_end0
 exact ⟨rfl, _, _, HV.out.storeS HB.out hRB 0⟩
set_option maxHeartbeats 4000000 in
theorem stake_Span_8 {w : World} {R B : Nat} {st : Rst} {cs : List Value} {t : TypeId} {u0 u1 : Value} (h : RAt w R st.1 st.2) (hl : st.1.length ≤ 140737488355328) (hB : w.heap[B]? = some (.cells cs.toArray t (0, 0))) (hi0 : cs[8]? = some u0) (hi1 : cs[9]? = some u1) (hRB : R < B) :
 Calls Tryz.prog 84 #[.pointer (some ⟨B, 8, none⟩), (.func (.func 85) #[.agg #[.pointer (some ⟨R, 0, none⟩)]] #[])] w (fun en w' => en = .returned (.tuple #[]) ∧ ∃ v0 v1, TkS sSpan R B w st cs t 8 [v0, v1] w') := by
 have C := hid (rSpan_any h hl)
 have HB := hid hB
 have HI0 := hid hi0
 have HI1 := hid hi1
 clear hB h hi0 hi1
 go_enter Tryz.func84, Tryz.ntmps84
 go_wp2_with (first | (go_at_call 85; refine C.out.mono ?_; rintro en w2 ⟨mc, rfl, hv⟩; obtain ⟨k0, k1, b0, b1, rfl, _, e0, e1⟩ := Span_cells (EncN.enc _ hv.1); obtain ⟨y0, j0, c0, rfl⟩ := form_data e0; obtain ⟨y1, j1, c1, rfl⟩ := form_data e1; clear e0 e1; have HV := hid hv; have hB2 := (hv.2.2.block B (lt_of_block HB.out) (fun e => by have e9 : B = R := e; omega)).trans HB.out; clear hv; obtain ⟨z0, x0⟩ := row_at hB2 HI0.out; obtain ⟨z1, x1⟩ := row_at hB2 HI1.out; clear hB2))
 go_end0
 exact ⟨rfl, _, _, HV.out.storeS HB.out hRB 8⟩
end Go.Proofs.YtmdgifmigikffaaGreat
namespace Go.Proofs.YtmdgifmigikffaaGreat
open Go.RowKit Go.Deep
set_option maxHeartbeats 8000000 in
theorem rSeen_any {w : World} {R : Nat} {st : Rst} (h : RAt w R st.1 st.2) (hl : st.1.length ≤ 140737488355328) :
 Calls Tryz.prog 89 #[.agg #[.pointer (some ⟨R, 0, none⟩)]] w (fun en w' => ∃ cs, en = .returned (.agg cs.toArray) ∧ RdP sSeen R w st cs w') := by
 have hb : Below w.heap.size w ((w.alloc (.cells #[.pointer (some ⟨R, 0, none⟩)] 79)).alloc (.cells #[.slice none 0 0, .slice none 0 0, .slice none 0 0] 112)) := ((Below.refl _ _).alloc (Nat.le_refl _) _).alloc (by simp) _
 have hz := (Below.heap_alloc (w.alloc (.cells #[.pointer (some ⟨R, 0, none⟩)] 79)) (.cells #[.slice none 0 0, .slice none 0 0, .slice none 0 0] 112) w.heap.size (by simp)).trans (heap_alloc_new w (.cells #[.pointer (some ⟨R, 0, none⟩)] 79))
 have hB := heap_alloc2_new w (.cells #[.pointer (some ⟨R, 0, none⟩)] 79) (.cells #[.slice none 0 0, .slice none 0 0, .slice none 0 0] 112)
 obtain ⟨B, hBe⟩ : ∃ B, B = w.heap.size + 1 := ⟨_, rfl⟩
 have hRw := h.lt
 have hRB : R < B := by omega
 have HR0 := hid (h.old hb)
 rw [← hBe] at hB
 have HB0 := hid hB
 have HX0 := hid hz
 have HBW := hid hb
 have HL0 := hid hl
 clear h hb hz hB hl
 go_enter Tryz.func89, Tryz.ntmps89
 go_upto_region 1 with fail
 generalize (w.alloc (.cells #[.pointer (some ⟨R, 0, none⟩)] 79)).alloc (.cells #[.slice none 0 0, .slice none 0 0, .slice none 0 0] 112) = w0 at *
 try rw [← hBe]
 have HK0 : Hid (Keep (fun j => j = R ∨ j = B) w0 w0) := hid (Keep.refl _ _)
 have HBE := hid hBe
 clear hBe
 have y0 := (one_cell HX0.out).1
 have CQ := hid (stake_Span_0 HR0.out HL0.out HB0.out rfl rfl hRB)
 go_upto_region 2 with (first | (go_at_call 84; refine CQ.out.mono ?_; rintro en w1 ⟨rfl, v0_0, v0_1, hv⟩; have HV0 := hid hv; clear hv))
 clear CQ y0
 have HB1 : Hid (w1.heap[B]? = some (.cells #[v0_0, v0_1, .slice none 0 0] 112 (0, 0))) := HV0.out.2.1
 have HR1 : Hid (RAt w1 R (rdF sSpan st).2.1 (rdF sSpan st).2.2) := HV0.out.2.2.1
 have HL1 : Hid ((rdF sSpan st).2.1.length ≤ 140737488355328) := hid (Nat.le_trans (rd_len _ _) HL0.out)
 have HX1 := hid ((HV0.out.2.2.2.block w.heap.size (lt_of_block HX0.out) (fun e => by have e9 : w.heap.size = R ∨ w.heap.size = B := e; have := HBE.out; omega)).trans HX0.out)
 have HK1 := hid (HK0.out.trans HV0.out.2.2.2)
 have HE0_1 := hid (EncN.top HB0.out HV0.out.1)
 have y0 := (one_cell HX1.out).1
 have CQ := hid (rlist_Pair 2 HR1.out HL1.out HB1.out rfl hRB)
 go_upto_region 3 with (first | (go_at_call 86; refine CQ.out.mono ?_; rintro en w2 ⟨rfl, v1, hv⟩; have HV1 := hid hv; clear hv))
 clear CQ y0
 have HB2 : Hid (w2.heap[B]? = some (.cells #[v0_0, v0_1, v1] 112 (0, 0))) := HV1.out.2.1
 have HR2 : Hid (RAt w2 R (rdF (.list sPair) (rdF sSpan st).2).2.1 (rdF (.list sPair) (rdF sSpan st).2).2.2) := HV1.out.2.2.1
 have HL2 : Hid ((rdF (.list sPair) (rdF sSpan st).2).2.1.length ≤ 140737488355328) := hid (Nat.le_trans (rd_len _ _) HL1.out)
 have HX2 := hid ((HV1.out.2.2.2.block w.heap.size (lt_of_block HX1.out) (fun e => by have e9 : w.heap.size = R ∨ w.heap.size = B := e; have := HBE.out; omega)).trans HX1.out)
 have HK2 := hid (HK1.out.trans HV1.out.2.2.2)
 have HE1_2 := hid (EncN.top HB1.out HV1.out.1)
 have HE0_2 := hid (EncN.hopc hRB HV1.out.2.2.2 HE0_1.out)
 clear HE0_1
 obtain ⟨⟨f0_y0, f0_j0, f0_c0, rfl⟩, ⟨f0_y1, f0_j1, f0_c1, rfl⟩⟩ := Span_forms (EncN.enc _ HE0_2.out)
 obtain ⟨y1, j1, c1, rfl⟩ := form_list (EncN.enc _ HE1_2.out)
 obtain ⟨q0, r0⟩ := row_at (cs := [(.slice f0_y0 f0_j0 f0_c0), (.slice f0_y1 f0_j1 f0_c1), (.slice y1 j1 c1)]) HB2.out (i := 0) rfl
 obtain ⟨q1, r1⟩ := row_at (cs := [(.slice f0_y0 f0_j0 f0_c0), (.slice f0_y1 f0_j1 f0_c1), (.slice y1 j1 c1)]) HB2.out (i := 1) rfl
 obtain ⟨q2, r2⟩ := row_at (cs := [(.slice f0_y0 f0_j0 f0_c0), (.slice f0_y1 f0_j1 f0_c1), (.slice y1 j1 c1)]) HB2.out (i := 2) rfl
 have hs0 : w2.heap[B]? = some (.cells ([(.slice f0_y0 f0_j0 f0_c0), (.slice f0_y1 f0_j1 f0_c1), (.slice y1 j1 c1)] : List Value).toArray 112 (0, 0)) := HB2.out
 have hs1 := row_put hs0 0 (.slice f0_y0 f0_j0 f0_c0)
 have hs2 := row_put hs1 1 (.slice f0_y1 f0_j1 f0_c1)
 have hs3 := row_put hs2 2 (.slice y1 j1 c1)
 have hks : Keep (fun j => j = B) w2 (((w2.setCell ⟨B, 0, none⟩ (.slice f0_y0 f0_j0 f0_c0)).setCell ⟨B, 1, none⟩ (.slice f0_y1 f0_j1 f0_c1)).setCell ⟨B, 2, none⟩ (.slice y1 j1 c1)) := (((Keep.refl (fun j => j = B) _).trans (Keep.set (X := fun j => j = B) _ ⟨B, 0, none⟩ (.slice f0_y0 f0_j0 f0_c0) rfl)).trans (Keep.set (X := fun j => j = B) _ ⟨B, 1, none⟩ (.slice f0_y1 f0_j1 f0_c1) rfl)).trans (Keep.set (X := fun j => j = B) _ ⟨B, 2, none⟩ (.slice y1 j1 c1) rfl)
 have HSF : Hid ((((w2.setCell ⟨B, 0, none⟩ (.slice f0_y0 f0_j0 f0_c0)).setCell ⟨B, 1, none⟩ (.slice f0_y1 f0_j1 f0_c1)).setCell ⟨B, 2, none⟩ (.slice y1 j1 c1)).heap[B]? = some (.cells #[(.slice f0_y0 f0_j0 f0_c0), (.slice f0_y1 f0_j1 f0_c1), (.slice y1 j1 c1)] 112 (0, 0))) := hs3
 have HKS := hid hks
 clear hks hs0 hs1 hs2 hs3
 go_wp2_with fail
 refine bodyPost_ret (results_cell_row rfl _ _ B 112 _ (0, 0) _ rfl HSF.out Tryz.underlying112 rfl (by kernel_rfl)) rfl ?_
 have hfin : ∀ (s : Sh) (cs : List Value) (bs : List UInt8), EncN (fun j => B < j ∧ j < w2.heap.size) w2 s cs bs → EncN (fun j => w.heap.size ≤ j ∧ j < (((w2.setCell ⟨B, 0, none⟩ (.slice f0_y0 f0_j0 f0_c0)).setCell ⟨B, 1, none⟩ (.slice f0_y1 f0_j1 f0_c1)).setCell ⟨B, 2, none⟩ (.slice y1 j1 c1)).heap.size) (((w2.setCell ⟨B, 0, none⟩ (.slice f0_y0 f0_j0 f0_c0)).setCell ⟨B, 1, none⟩ (.slice f0_y1 f0_j1 f0_c1)).setCell ⟨B, 2, none⟩ (.slice y1 j1 c1)) s cs bs := fun s cs bs h => EncN.mono (fun j hj => ⟨by have := HBE.out; omega, Nat.lt_of_lt_of_le hj.2 HKS.out.size⟩) s (EncN.keep HKS.out (fun j hj e => by have e9 : j = B := e; have := hj.1; omega) s h)
 refine ⟨[(.slice f0_y0 f0_j0 f0_c0), (.slice f0_y1 f0_j1 f0_c1), (.slice y1 j1 c1)], rfl, ?_, HR2.out.keepK HKS.out (fun j e => by have e9 : j = B := e; omega), ?_⟩
 · exact ⟨[(.slice f0_y0 f0_j0 f0_c0), (.slice f0_y1 f0_j1 f0_c1)], [(.slice y1 j1 c1)], _, _, rfl, rfl, hfin _ _ _ HE0_2.out, ⟨[(.slice y1 j1 c1)], [], _, _, rfl, rfl, hfin _ _ _ HE1_2.out, ⟨rfl, rfl⟩⟩⟩
 · exact (Keep.of_below HBW.out).trans2 (HK2.out.trans (HKS.out.mono (fun j _ e => .inr e))) (fun j e => by rcases e with e | e <;> first | exact .inl e | exact .inr (by have := HBE.out; omega))
set_option maxHeartbeats 8000000 in
theorem rlist_Seen {w : World} {R B : Nat} {st : Rst} {cs : List Value} {t : TypeId} (i : Nat) (h : RAt w R st.1 st.2) (hl : st.1.length ≤ 140737488355328) (hB : w.heap[B]? = some (.cells cs.toArray t (0, 0))) (hi : cs[i]? = some (.slice none 0 0)) (hRB : R < B) :
 Calls Tryz.prog 88 #[.agg #[.pointer (some ⟨R, 0, none⟩)], .pointer (some ⟨B, i, none⟩), (.func (.func 89) #[.agg #[.pointer (some ⟨R, 0, none⟩)]] #[])] w (fun en w' => en = .returned (.tuple #[]) ∧ ∃ v, TkP (.list sSeen) R B w st cs t i v w') := by
 obtain ⟨i0, hi0, hz0, hz1, hz2⟩ : ∃ i0, Tryz.prog.info? 112 = some i0 ∧ i0.zero = some (.agg #[.slice none 0 0, .slice none 0 0, .slice none 0 0]) ∧ i0.size = 3 ∧ i0.bytes = 72 := by
  have h9 : (Tryz.prog.info? 112).map (fun i => (i.zero, i.size, i.bytes)) = some (some (.agg #[.slice none 0 0, .slice none 0 0, .slice none 0 0]), 3, 72) := by kernel_rfl
  cases hq : Tryz.prog.info? 112 with
  | none => rw [hq] at h9; cases h9
  | some q => rw [hq] at h9; simp at h9; exact ⟨q, rfl, h9⟩
 have HI0 := hid (And.intro hi0 (And.intro hz0 (And.intro hz1 hz2)))
 clear hi0 hz0 hz1 hz2
 have hb : Below w.heap.size w (w.alloc (.cells #[.pointer (some ⟨R, 0, none⟩)] 79)) := (Below.refl _ _).alloc (Nat.le_refl _) _
 have hz := heap_alloc_new w (.cells #[.pointer (some ⟨R, 0, none⟩)] 79)
 have hRw := h.lt
 have hBw := lt_of_block hB
 have HRW := hid hRw
 have HBW := hid hBw
 have H := hid (h.old hb)
 have HB := hid hb
 have HF := hid ((hb.block _ hBw).trans hB)
 have HI := hid hi
 have HZ := hid hz
 have HLE := hid hl
 clear h hB hi hb hz hl
 go_enter Tryz.func88, Tryz.ntmps88
 go_upto_region 1 with fail
 generalize w.alloc (.cells #[.pointer (some ⟨R, 0, none⟩)] 79) = w1 at *
 obtain ⟨z0, z1⟩ := one_cell HZ.out
 obtain ⟨n, hn⟩ : ∃ n, n = (lookS 5000 st.1 st.2).1 := ⟨_, rfl⟩
 obtain ⟨s1, hs1⟩ : ∃ s1 : Rst, s1 = (st.1.drop (lookS 5000 st.1 st.2).2.1, (lookS 5000 st.1 st.2).2.2) := ⟨_, rfl⟩
 have HN := hid (And.intro hn hs1)
 have hn5 : n ≤ 5000 := by rw [hn]; exact lookS_most _ _ _
 have C0 : Hid (Calls Tryz.prog 140 #[.pointer (some ⟨R, 0, none⟩), .int .i64 5000] w1 (fun en w' => en = .returned (.int .i64 (n : Int)) ∧ RAt w' R s1.1 s1.2 ∧ w1.grownBy w' (some R))) := hid ((smallR_any w1 R st.1 st.2 5000 (by decide) H.out).mono (fun en w9 h9 => by rw [hn, hs1]; exact h9))
 have HS1 : Hid (s1.1.length ≤ st.1.length) := hid (by rw [hs1]; simp)
 clear hn hs1
 go_wp2_with (first | (go_at_call 140; refine C0.out.mono ?_; rintro en w2 ⟨rfl, h2, g2⟩; have H2 := hid h2; have K2 := hid (show Keep (fun j => j = R ∨ j = B) w w2 from (Keep.of_below HB.out).trans ((Keep.of_grown (X := fun j => j = R) g2 (fun j e => by cases e; rfl)).mono (fun j _ e => .inl e))); have HF2 := hid ((g2.block B (lt_of_block HF.out) (fun e => by cases e; omega)).trans HF.out); have HZ2 := hid ((g2.block w.heap.size (lt_of_block HZ.out) (fun e => by cases e; omega)).trans HZ.out); clear h2 g2))
 clear z0 z1 C0
 go_loopw [9] (fun ix wr => ∃ (k : Nat) (M : List (List Value × List UInt8)) (ao : Option Addr) (c : Nat) (sk : Rst), ix = .int .i64 (k : Int) ∧ wr.heap[w.heap.size]? = some (.cells #[.pointer (some ⟨R, 0, none⟩)] 79 (0, 0)) ∧ TLp sSeen 112 R B i w cs t n s1 wr k M ao c sk) (fun ix _ => n - (intOf ix).toNat)
 case atStart => exact ⟨0, [], none, 0, s1, rfl, HZ2.out, TLp.begin HI.out HF2.out H2.out K2.out⟩
 case round =>
  obtain ⟨k, M, ao, c, sk, rfl, hzr, ht⟩ := hrel
  have hk := ht.le
  have HT := hid ht
  have HZR := hid hzr
  clear ht hzr
  by_cases hlt : k < n
  · have hki : (k : Int) < (n : Int) := by omega
    go_upto_region 3 with fail
    have hWd : Below wr.heap.size wr wr.drew := ⟨rfl, rfl, rfl, Nat.le_refl _, fun _ _ => rfl⟩
    have HLk : Hid (sk.1.length ≤ 140737488355328) := hid (by have := HT.out.small; have := HS1.out; have := HLE.out; omega)
    have HTd : Hid (RAt wr.drew R sk.1 sk.2) := hid (HT.out.rat.old hWd)
    have HFd : Hid (wr.drew.heap[B]? = some (.cells (cs.set i (.slice ao k c)).toArray t (0, 0))) := HT.out.field
    have HLI := hid (List.getElem?_set_self (a := .slice ao k c) (List.getElem?_eq_some_iff.1 HI.out).1)
    have CN := hid (rSeen_any HTd.out HLk.out)
    have HUD : Hid (∀ mc w9, RdP sSeen R wr.drew sk mc w9 → RdP sSeen R wr sk mc w9) := hid fun _ _ h => h.undrew
    have HZd : Hid (wr.drew.heap[w.heap.size]? = some (.cells #[.pointer (some ⟨R, 0, none⟩)] 79 (0, 0))) := HZR.out
    clear hWd
    refine wp_region_noPanic ?_
    refine wp_region_L (S := fun W => Hid (W.cell? ⟨B, i, none⟩ = some (.slice ao k c))) 9 (by kernel_rfl) ?_
    have HD0 := hid (row_at HFd.out HLI.out).1
    generalize wr.drew = Wd at *
    refine tkV 0 (.pointer (some ⟨B, i, none⟩)) rfl (by kernel_rfl) (fun _ _ _ => False.elim) (Or.inl ⟨by rfl, fun W9 _ => by simp only [jA, jB, jC]; go_simp⟩) (fun _ => HD0) ?_
    simp only [Act.put, jA, jB, jC, jD, jE, jF]
    refine tkV 1 (.pointer (some ⟨B, i, none⟩)) rfl (by kernel_rfl) (fun _ _ _ => False.elim) (Or.inl ⟨by rfl, fun W9 _ => by simp only [jA, jB, jC]; go_simp⟩) (fun _ => HD0) ?_
    simp only [Act.put, jA, jB, jC, jD, jE, jF]
    refine tkV 2 (.pointer (some ⟨B, i, none⟩)) rfl (by kernel_rfl) (fun _ _ _ => False.elim) (Or.inl ⟨by rfl, fun W9 _ => by simp only [jA, jB, jC]; go_simp⟩) (fun _ => HD0) ?_
    simp only [Act.put, jA, jB, jC, jD, jE, jF]
    refine tkV 4 (.func (.func 89) #[.agg #[.pointer (some ⟨R, 0, none⟩)]] #[]) rfl (by kernel_rfl) (fun _ _ _ => False.elim) (Or.inl ⟨by rfl, fun W9 _ => by simp only [jA, jB, jC]; go_simp⟩) (fun _ => HD0) ?_
    simp only [Act.put, jA, jB, jC, jD, jE, jF]
    refine tkL 3 (.slice ao k c) [3, 7, 9] rfl (by kernel_rfl) (fun _ _ _ => False.elim) HD0 (Or.inl ⟨by rfl, fun W9 hW => by have d9 := hW.out; clear hW; simp only [jA, jB, jC]; go_simp⟩) ?_
    simp only [Act.put, jA, jB, jC, jD, jE, jF]
    refine rdL 5 (by kernel_rfl) rfl fun K hK => ?_
    go_simp
    go_wp2_with (first | (go_at_call 89; refine CN.out.mono ?_; rintro en wT ⟨mc, rfl, hv⟩; obtain ⟨v0, v1, v2, b0, b1, b2, rfl, _, e0, e1, e2⟩ := Seen_cells (EncN.enc _ hv.1); obtain ⟨y0, j0, c0, rfl⟩ := form_data e0; obtain ⟨y1, j1, c1, rfl⟩ := form_data e1; obtain ⟨y2, j2, c2, rfl⟩ := form_list e2; clear e0 e1 e2; have HV := hid (HUD.out _ _ hv); have HZT := hid ((hv.2.2.block w.heap.size (lt_of_block HZd.out) (fun e => by have e9 : w.heap.size = R := e; omega)).trans HZd.out); have HFT := hid ((hv.2.2.block B (lt_of_block HFd.out) (fun e => by have e9 : B = R := e; omega)).trans HFd.out); clear hv))
    refine hK.out _ _ (hid (row_at HFT.out HLI.out).1) fun _ => ?_
    clear hK K
    have H3 : Hid (Below wT.heap.size wT (wT.alloc (.cells #[.slice y0 j0 c0, .slice y1 j1 c1, .slice y2 j2 c2] 112))) := hid ((Below.refl _ _).alloc (Nat.le_refl _) _)
    have HR3 := hid (heap_alloc_new wT (.cells #[.slice y0 j0 c0, .slice y1 j1 c1, .slice y2 j2 c2] 112))
    have HF3 := hid ((H3.out.block B (lt_of_block HFT.out)).trans HFT.out)
    have HOW := hid (own_old (own_keep (X := fun j => j = R) HT.out.own (show Keep _ wr wT from HV.out.2.2) (fun j e e9 => by have e8 : j = R := e9; have := (HT.out.own.lt j e).1; omega)) H3.out)
    have HSZ : Hid (w.heap.size + 1 ≤ (wT.alloc (.cells #[.slice y0 j0 c0, .slice y1 j1 c1, .slice y2 j2 c2] 112)).heap.size) := hid (by have := lt_of_block HZT.out; have := H3.out.size; show _ ≤ _; omega)
    refine rdL 6 (by kernel_rfl) rfl fun K hK => ?_
    go_simp
    refine hK.out _ _ (hid (row_at HF3.out HLI.out).1) fun _ => ?_
    clear hK K
    refine rdL 7 (by kernel_rfl) rfl fun K hK => ?_
    refine step_app1 (by rfl) (.tmp 14) (.tmp 17) 34 (by rfl) (w.heap.size + 1) 112 Tryz.underlying34 HI0.out.1 HI0.out.2.1 HI0.out.2.2.1 HI0.out.2.2.2 (by simp [Value.cells]) (by decide) _ k _ (by rfl) HOW.out wT.heap.size [.slice y0 j0 c0, .slice y1 j1 c1, .slice y2 j2 c2] (by rfl) HR3.out rfl (fun u hu => by simp only [List.mem_cons, List.not_mem_nil, or_false] at hu; rcases hu with rfl | rfl | rfl <;> rfl) (by omega) (by decide) HSZ.out (fun g cap w' o5 g5 gg5 => ?_)
    have HF4 := hid (heap_kept g5 HF3.out (fun e => by have := (HT.out.own.lt B e.symm).1; omega))
    have HZ5 : Hid ((w'.setCell ⟨B, i, none⟩ (.slice (some ⟨g, 0, none⟩) (k + 1) cap)).heap[w.heap.size]? = some (.cells #[.pointer (some ⟨R, 0, none⟩)] 79 (0, 0))) := hid (heap_kept (grown_set w' ⟨B, i, none⟩ _) (heap_kept g5 ((H3.out.block _ (lt_of_block HZT.out)).trans HZT.out) (fun e => by have := (HT.out.own.lt _ e.symm).1; omega)) (fun e => by have e9 : w.heap.size = B := (by simpa using e); have := HBW.out; omega))
    have HNX := hid (HT.out.next HRW.out HBW.out hRB hlt (show RdP sSeen R wr sk [.slice y0 j0 c0, .slice y1 j1 c1, .slice y2 j2 c2] wT from HV.out) H3.out o5 g5 gg5)
    clear o5 g5 gg5
    refine hK.out _ _ (hid (row_at HF4.out HLI.out).1) fun _ => ?_
    clear hK K
    simp only [Act.put, jA, jB, jC, jD, jE, jF]
    refine tkV 8 (.pointer (some ⟨B, i, none⟩)) rfl (by kernel_rfl) (fun _ _ _ => False.elim) (Or.inl ⟨by rfl, fun W9 _ => by simp only [jA, jB, jC]; go_simp⟩) (fun _ => hid (row_at HF4.out HLI.out).1) ?_
    simp only [Act.put, jA, jB, jC, jD, jE, jF]
    obtain ⟨q0, q1⟩ := row_at HF4.out HLI.out
    refine rdS (by kernel_rfl) rfl fun K hK => ?_
    go_simp
    refine hK.out _ _ ?_
    clear hK K q0 q1
    refine doneL (by kernel_rfl) (NoPanic.normal ?_) _
    generalize w'.setCell ⟨B, i, none⟩ (.slice (some ⟨g, 0, none⟩) (k + 1) cap) = w5 at *
    obtain ⟨p0, p1⟩ := one_cell HZ5.out
    have CE := hid (err_any w5 R _ _ HNX.out.1)
    obtain ⟨ev, hev⟩ : ∃ ev, ev = (rdF sSeen sk).2.2 := ⟨_, rfl⟩
    rw [← hev] at CE
    by_cases h0 : ev = 0
    · have HNE := hid (HNX.out.2.1 (by rw [← hev]; exact h0))
      subst h0
      clear hev
      go_wp2_with (first | (go_at_call 132; refine CE.out.mono ?_; rintro en w6 ⟨rfl, rfl⟩))
      go_roundw
      case rel => exact ⟨k + 1, _, _, _, _, by go_num, HZ5.out, HNE.out⟩
      case measure => simp [intOf]; omega
    · have HNE := hid (HNX.out.2.2 (by rw [← hev]; exact h0) hn5)
      have hbe : (ev != 0) = true := by simp [h0]
      clear hev
      go_wp2_with (first | (go_at_call 132; refine CE.out.mono ?_; rintro en w6 ⟨rfl, rfl⟩))
      (try simp only [Exit.inBlock, Exit.then]); refine bodyPost_ret (results_none rfl _ _ _) rfl ?_
      obtain ⟨m1, m2, m3, m4⟩ := HNE.out
      refine ⟨rfl, .slice (some ⟨g, 0, none⟩) (k + 1) cap, ?_, m2, ?_, m4⟩
      · simp only [rdF]; rw [← HN.out.1, ← HN.out.2]; exact m1
      · simp only [rdF]; rw [← HN.out.1, ← HN.out.2]; exact m3
  · obtain rfl : n = k := by omega
    have hki : ¬ (n : Int) < (n : Int) := by omega
    go_wp2_with fail
    go_end0
    obtain ⟨p1, p2⟩ := HT.out.done hn5
    refine ⟨rfl, .slice ao n c, ?_, HT.out.field, ?_, HT.out.keep⟩
    · simp only [rdF]; rw [← HN.out.1, ← HN.out.2]; exact p1
    · simp only [rdF]; rw [← HN.out.1, ← HN.out.2]; exact p2
end Go.Proofs.YtmdgifmigikffaaGreat
