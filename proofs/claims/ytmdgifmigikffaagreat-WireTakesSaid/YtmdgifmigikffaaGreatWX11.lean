import Derived.WalkKit
import Derived.OpenShut
import Derived.Test.YtmdgifmigikffaaGreatRows
import Derived.WalkSpells
import Derived.WalkLawsBesides
import Derived.Laws.AppendOwnNone
import Derived.ProofKit
import Derived.ShutString
import Derived.ChangeOld
import Derived.Below
import Derived.SizedLaws
import Derived.Deep.Slices
import Derived.Deep.AppendLies
import Derived.Deep.RegionHeld
import Derived.Deep.Strs
import Derived.Deep.RegionHeld3
import Derived.Lib.ConvBytes
import Derived.Laws.AppendOwn
import Derived.Deep.CutRange
import Derived.Deep.MidRow
import Derived.Great.Walk
import Derived.Great.BuildSlice
import Derived.BigQuiet
import Derived.Deep.QuietTactic
import Derived.StillTailTactics
import Derived.Test.YtmdgifmigikffaaGreatWX1
import Derived.Test.YtmdgifmigikffaaGreatWX2
import Derived.Test.YtmdgifmigikffaaGreatWX3
import Derived.Test.YtmdgifmigikffaaGreatWX4
import Derived.Test.YtmdgifmigikffaaGreatWX5
import Derived.Test.YtmdgifmigikffaaGreatWX6
import Derived.Test.YtmdgifmigikffaaGreatWX7
import Derived.Test.YtmdgifmigikffaaGreatWX8
import Derived.Test.YtmdgifmigikffaaGreatWX9
import Derived.Test.YtmdgifmigikffaaGreatWX10
set_option linter.unusedVariables false
set_option linter.unusedSimpArgs false
set_option maxRecDepth 100000
namespace Go.Proofs.YtmdgifmigikffaaGreat
open Go.RowKit Go.Deep
set_option maxHeartbeats 8000000 in
theorem rCall_any {w : World} {R : Nat} {st : Rst} (h : RAt w R st.1 st.2) (hl : st.1.length ≤ 140737488355328) :
 Calls Tryz.prog 26 #[.agg #[.pointer (some ⟨R, 0, none⟩)]] w (fun en w' => ∃ cs, en = .returned (.agg cs.toArray) ∧ RdP sCall R w st cs w') := by
 have hb : Below w.heap.size w ((w.alloc (.cells #[.pointer (some ⟨R, 0, none⟩)] 79)).alloc (.cells #[.int .u64 0, .int .u64 0, .slice none 0 0] 27)) := ((Below.refl _ _).alloc (Nat.le_refl _) _).alloc (by simp) _
 have hz := (Below.heap_alloc (w.alloc (.cells #[.pointer (some ⟨R, 0, none⟩)] 79)) (.cells #[.int .u64 0, .int .u64 0, .slice none 0 0] 27) w.heap.size (by simp)).trans (heap_alloc_new w (.cells #[.pointer (some ⟨R, 0, none⟩)] 79))
 have hB := heap_alloc2_new w (.cells #[.pointer (some ⟨R, 0, none⟩)] 79) (.cells #[.int .u64 0, .int .u64 0, .slice none 0 0] 27)
 obtain ⟨B, hBe⟩ : ∃ B, B = w.heap.size + 1 := ⟨_, rfl⟩
 have hRw := h.lt
 have hRB : R < B := by omega
 have HR0 := hid (h.old hb)
 rw [← hBe] at hB
 have HB0 := hid hB
 have HX0 := hid hz
 have HBW := hid hb
 have HL0 := hid hl
 clear h hb hz hB hl
 go_enter Tryz.func26, Tryz.ntmps26
 go_upto_region 1 with fail
 generalize (w.alloc (.cells #[.pointer (some ⟨R, 0, none⟩)] 79)).alloc (.cells #[.int .u64 0, .int .u64 0, .slice none 0 0] 27) = w0 at *
 try rw [← hBe]
 have HK0 : Hid (Keep (fun j => j = R ∨ j = B) w0 w0) := hid (Keep.refl _ _)
 have HBE := hid hBe
 clear hBe
 have y0 := (one_cell HX0.out).1
 have CQ := hid (rtake_num9 0 HR0.out HL0.out HB0.out rfl hRB)
 go_upto_region 2 with (first | (go_at_call 72; refine CQ.out.mono ?_; rintro en w1 ⟨rfl, v0, hv⟩; have HV0 := hid hv; clear hv))
 clear CQ y0
 have HB1 : Hid (w1.heap[B]? = some (.cells #[v0, .int .u64 0, .slice none 0 0] 27 (0, 0))) := HV0.out.2.1
 have HR1 : Hid (RAt w1 R (rdF .num st).2.1 (rdF .num st).2.2) := HV0.out.2.2.1
 have HL1 : Hid ((rdF .num st).2.1.length ≤ 140737488355328) := hid (Nat.le_trans (rd_len _ _) HL0.out)
 have HX1 := hid ((HV0.out.2.2.2.block w.heap.size (lt_of_block HX0.out) (fun e => by have e9 : w.heap.size = R ∨ w.heap.size = B := e; have := HBE.out; omega)).trans HX0.out)
 have HK1 := hid (HK0.out.trans HV0.out.2.2.2)
 have HE0_1 := hid (EncN.top HB0.out HV0.out.1)
 have y0 := (one_cell HX1.out).1
 have CQ := hid (rtake_num9 1 HR1.out HL1.out HB1.out rfl hRB)
 go_upto_region 3 with (first | (go_at_call 72; refine CQ.out.mono ?_; rintro en w2 ⟨rfl, v1, hv⟩; have HV1 := hid hv; clear hv))
 clear CQ y0
 have HB2 : Hid (w2.heap[B]? = some (.cells #[v0, v1, .slice none 0 0] 27 (0, 0))) := HV1.out.2.1
 have HR2 : Hid (RAt w2 R (rdF .num (rdF .num st).2).2.1 (rdF .num (rdF .num st).2).2.2) := HV1.out.2.2.1
 have HL2 : Hid ((rdF .num (rdF .num st).2).2.1.length ≤ 140737488355328) := hid (Nat.le_trans (rd_len _ _) HL1.out)
 have HX2 := hid ((HV1.out.2.2.2.block w.heap.size (lt_of_block HX1.out) (fun e => by have e9 : w.heap.size = R ∨ w.heap.size = B := e; have := HBE.out; omega)).trans HX1.out)
 have HK2 := hid (HK1.out.trans HV1.out.2.2.2)
 have HE1_2 := hid (EncN.top HB1.out HV1.out.1)
 have HE0_2 := hid (EncN.hopc hRB HV1.out.2.2.2 HE0_1.out)
 clear HE0_1
 have y0 := (one_cell HX2.out).1
 have CQ := hid (rtake_data 2 HR2.out HL2.out HB2.out rfl hRB)
 go_upto_region 4 with (first | (go_at_call 74; refine CQ.out.mono ?_; rintro en w3 ⟨rfl, v2, hv⟩; have HV2 := hid hv; clear hv))
 clear CQ y0
 have HB3 : Hid (w3.heap[B]? = some (.cells #[v0, v1, v2] 27 (0, 0))) := HV2.out.2.1
 have HR3 : Hid (RAt w3 R (rdF .data (rdF .num (rdF .num st).2).2).2.1 (rdF .data (rdF .num (rdF .num st).2).2).2.2) := HV2.out.2.2.1
 have HL3 : Hid ((rdF .data (rdF .num (rdF .num st).2).2).2.1.length ≤ 140737488355328) := hid (Nat.le_trans (rd_len _ _) HL2.out)
 have HX3 := hid ((HV2.out.2.2.2.block w.heap.size (lt_of_block HX2.out) (fun e => by have e9 : w.heap.size = R ∨ w.heap.size = B := e; have := HBE.out; omega)).trans HX2.out)
 have HK3 := hid (HK2.out.trans HV2.out.2.2.2)
 have HE2_3 := hid (EncN.top HB2.out HV2.out.1)
 have HE0_3 := hid (EncN.hopc hRB HV2.out.2.2.2 HE0_2.out)
 have HE1_3 := hid (EncN.hopc hRB HV2.out.2.2.2 HE1_2.out)
 clear HE0_2 HE1_2
 obtain ⟨y0, rfl⟩ := form_num (EncN.enc _ HE0_3.out)
 obtain ⟨y1, rfl⟩ := form_num (EncN.enc _ HE1_3.out)
 obtain ⟨y2, j2, c2, rfl⟩ := form_data (EncN.enc _ HE2_3.out)
 obtain ⟨q0, r0⟩ := row_at (cs := [(.int .u64 (y0 : Int)), (.int .u64 (y1 : Int)), (.slice y2 j2 c2)]) HB3.out (i := 0) rfl
 obtain ⟨q1, r1⟩ := row_at (cs := [(.int .u64 (y0 : Int)), (.int .u64 (y1 : Int)), (.slice y2 j2 c2)]) HB3.out (i := 1) rfl
 obtain ⟨q2, r2⟩ := row_at (cs := [(.int .u64 (y0 : Int)), (.int .u64 (y1 : Int)), (.slice y2 j2 c2)]) HB3.out (i := 2) rfl
 have hs0 : w3.heap[B]? = some (.cells ([(.int .u64 (y0 : Int)), (.int .u64 (y1 : Int)), (.slice y2 j2 c2)] : List Value).toArray 27 (0, 0)) := HB3.out
 have hs1 := row_put hs0 0 (.int .u64 (y0 : Int))
 have hs2 := row_put hs1 1 (.int .u64 (y1 : Int))
 have hs3 := row_put hs2 2 (.slice y2 j2 c2)
 have hks : Keep (fun j => j = B) w3 (((w3.setCell ⟨B, 0, none⟩ (.int .u64 (y0 : Int))).setCell ⟨B, 1, none⟩ (.int .u64 (y1 : Int))).setCell ⟨B, 2, none⟩ (.slice y2 j2 c2)) := (((Keep.refl (fun j => j = B) _).trans (Keep.set (X := fun j => j = B) _ ⟨B, 0, none⟩ (.int .u64 (y0 : Int)) rfl)).trans (Keep.set (X := fun j => j = B) _ ⟨B, 1, none⟩ (.int .u64 (y1 : Int)) rfl)).trans (Keep.set (X := fun j => j = B) _ ⟨B, 2, none⟩ (.slice y2 j2 c2) rfl)
 have HSF : Hid ((((w3.setCell ⟨B, 0, none⟩ (.int .u64 (y0 : Int))).setCell ⟨B, 1, none⟩ (.int .u64 (y1 : Int))).setCell ⟨B, 2, none⟩ (.slice y2 j2 c2)).heap[B]? = some (.cells #[(.int .u64 (y0 : Int)), (.int .u64 (y1 : Int)), (.slice y2 j2 c2)] 27 (0, 0))) := hs3
 have HKS := hid hks
 clear hks hs0 hs1 hs2 hs3
 go_wp2_with fail
 refine bodyPost_ret (results_cell_row rfl _ _ B 27 _ (0, 0) _ rfl HSF.out Tryz.underlying27 rfl (by kernel_rfl)) rfl ?_
 have hfin : ∀ (s : Sh) (cs : List Value) (bs : List UInt8), EncN (fun j => B < j ∧ j < w3.heap.size) w3 s cs bs → EncN (fun j => w.heap.size ≤ j ∧ j < (((w3.setCell ⟨B, 0, none⟩ (.int .u64 (y0 : Int))).setCell ⟨B, 1, none⟩ (.int .u64 (y1 : Int))).setCell ⟨B, 2, none⟩ (.slice y2 j2 c2)).heap.size) (((w3.setCell ⟨B, 0, none⟩ (.int .u64 (y0 : Int))).setCell ⟨B, 1, none⟩ (.int .u64 (y1 : Int))).setCell ⟨B, 2, none⟩ (.slice y2 j2 c2)) s cs bs := fun s cs bs h => EncN.mono (fun j hj => ⟨by have := HBE.out; omega, Nat.lt_of_lt_of_le hj.2 HKS.out.size⟩) s (EncN.keep HKS.out (fun j hj e => by have e9 : j = B := e; have := hj.1; omega) s h)
 refine ⟨[(.int .u64 (y0 : Int)), (.int .u64 (y1 : Int)), (.slice y2 j2 c2)], rfl, ?_, HR3.out.keepK HKS.out (fun j e => by have e9 : j = B := e; omega), ?_⟩
 · exact ⟨[(.int .u64 (y0 : Int))], [(.int .u64 (y1 : Int)), (.slice y2 j2 c2)], _, _, rfl, rfl, hfin _ _ _ HE0_3.out, ⟨[(.int .u64 (y1 : Int))], [(.slice y2 j2 c2)], _, _, rfl, rfl, hfin _ _ _ HE1_3.out, ⟨[(.slice y2 j2 c2)], [], _, _, rfl, rfl, hfin _ _ _ HE2_3.out, ⟨rfl, rfl⟩⟩⟩⟩
 · exact (Keep.of_below HBW.out).trans2 (HK3.out.trans (HKS.out.mono (fun j _ e => .inr e))) (fun j e => by rcases e with e | e <;> first | exact .inl e | exact .inr (by have := HBE.out; omega))
end Go.Proofs.YtmdgifmigikffaaGreat
namespace Go.Proofs.YtmdgifmigikffaaGreat
open Go.RowKit Go.Deep
def AlCall (R : Nat) (w : World) (st : Rst) (en : Ending) (w' : World) : Prop := ∃ cs : List Value, en = .returned (.tuple #[.agg cs.toArray, .int .i64 (endS (rdF sCall st).2.1 (rdF sCall st).2.2)]) ∧ ((endS (rdF sCall st).2.1 (rdF sCall st).2.2) = 0 → EncN (fun j => w.heap.size ≤ j ∧ j < w'.heap.size) w' sCall cs (rdF sCall st).1) ∧ ((endS (rdF sCall st).2.1 (rdF sCall st).2.2) ≠ 0 → cs = [.int .u64 0, .int .u64 0, .slice none 0 0]) ∧ Keep (fun j => j = R) w w'
set_option maxHeartbeats 8000000 in
theorem aloneCall_any {w : World} {R : Nat} {st : Rst} (h : RAt w R st.1 st.2) (hl : st.1.length ≤ 140737488355328) :
 Calls Tryz.prog 25 #[.agg #[.pointer (some ⟨R, 0, none⟩)], (.func (.func 26) #[.agg #[.pointer (some ⟨R, 0, none⟩)]] #[])] w (AlCall R w st) := by
 have hb : Below w.heap.size w ((w.alloc (.cells #[.pointer (some ⟨R, 0, none⟩)] 79)).alloc (.cells #[.int .u64 0, .int .u64 0, .slice none 0 0] 27)) := ((Below.refl _ _).alloc (Nat.le_refl _) _).alloc (by simp) _
 have hz := (Below.heap_alloc (w.alloc (.cells #[.pointer (some ⟨R, 0, none⟩)] 79)) (.cells #[.int .u64 0, .int .u64 0, .slice none 0 0] 27) w.heap.size (by simp)).trans (heap_alloc_new w (.cells #[.pointer (some ⟨R, 0, none⟩)] 79))
 have hB := heap_alloc2_new w (.cells #[.pointer (some ⟨R, 0, none⟩)] 79) (.cells #[.int .u64 0, .int .u64 0, .slice none 0 0] 27)
 obtain ⟨B, hBe⟩ : ∃ B, B = w.heap.size + 1 := ⟨_, rfl⟩
 have hRw := h.lt
 have hRB : R < B := by omega
 have HR0 := hid (h.old hb)
 rw [← hBe] at hB
 have HB0 := hid hB
 have HX0 := hid hz
 have HBW := hid hb
 have HL0 := hid hl
 clear h hb hz hB hl
 go_enter Tryz.func25, Tryz.ntmps25
 go_upto_region 1 with fail
 generalize (w.alloc (.cells #[.pointer (some ⟨R, 0, none⟩)] 79)).alloc (.cells #[.int .u64 0, .int .u64 0, .slice none 0 0] 27) = w0 at *
 try rw [← hBe]
 have HBE := hid hBe
 clear hBe
 have CQ := hid (rCall_any HR0.out HL0.out)
 go_upto_region 2 with (first | (go_at_call 26; refine CQ.out.mono ?_; rintro en w1 ⟨mc, rfl, hv⟩; obtain ⟨u0, u1, u2, b0, b1, b2, rfl, _, e0, e1, e2⟩ := Call_cells (EncN.enc _ hv.1); obtain ⟨y0, rfl⟩ := form_num e0; obtain ⟨y1, rfl⟩ := form_num e1; obtain ⟨y2, j2, c2, rfl⟩ := form_data e2; clear e0 e1 e2; have HV := hid hv; clear hv))
 have hb2 : Below w1.heap.size w1 (w1.alloc (.cells #[(.int .u64 (y0 : Int)), (.int .u64 (y1 : Int)), (.slice y2 j2 c2)] 27)) := (Below.refl _ _).alloc (Nat.le_refl _) _
 have hx2 := heap_alloc_new w1 (.cells #[(.int .u64 (y0 : Int)), (.int .u64 (y1 : Int)), (.slice y2 j2 c2)] 27)
 have HV2 := hid (EncN.mono (fun j hj => (⟨hj.1, Nat.lt_of_lt_of_le hj.2 hb2.size⟩ : w0.heap.size ≤ j ∧ j < (w1.alloc (.cells #[(.int .u64 (y0 : Int)), (.int .u64 (y1 : Int)), (.slice y2 j2 c2)] 27)).heap.size)) _ (EncN.keep (Keep.of_below (X := fun _ => False) hb2) (fun _ _ e => e) _ HV.out.1))
 have HR2 := hid (HV.out.2.1.old hb2)
 have HB2 : Hid ((w1.alloc (.cells #[(.int .u64 (y0 : Int)), (.int .u64 (y1 : Int)), (.slice y2 j2 c2)] 27)).heap[B]? = some (.cells ([.int .u64 0, .int .u64 0, .slice none 0 0] : List Value).toArray 27 (0, 0))) := hid ((hb2.block B (Nat.lt_of_lt_of_le (lt_of_block HB0.out) HV.out.2.2.size)).trans ((HV.out.2.2.block B (lt_of_block HB0.out) (fun e => by have e9 : B = R := e; omega)).trans HB0.out))
 have HX2 := hid ((hb2.block w.heap.size (Nat.lt_of_lt_of_le (lt_of_block HX0.out) HV.out.2.2.size)).trans ((HV.out.2.2.block w.heap.size (lt_of_block HX0.out) (fun e => by have e9 : w.heap.size = R := e; omega)).trans HX0.out))
 have HXX : Hid ((w1.alloc (.cells #[(.int .u64 (y0 : Int)), (.int .u64 (y1 : Int)), (.slice y2 j2 c2)] 27)).heap[w1.heap.size]? = some (.cells ([(.int .u64 (y0 : Int)), (.int .u64 (y1 : Int)), (.slice y2 j2 c2)] : List Value).toArray 27 (0, 0))) := hid hx2
 have HK2 : Hid (Keep (fun j => j = R) w0 (w1.alloc (.cells #[(.int .u64 (y0 : Int)), (.int .u64 (y1 : Int)), (.slice y2 j2 c2)] 27))) := hid (HV.out.2.2.trans (Keep.of_below hb2))
 have HS1 : Hid (B < w1.heap.size) := hid (Nat.lt_of_lt_of_le (lt_of_block HB0.out) HV.out.2.2.size)
 clear hb2 hx2 CQ
 obtain ⟨X, hX⟩ : ∃ X, X = w1.heap.size := ⟨_, rfl⟩
 rw [← hX] at HXX HS1
 generalize w1.alloc (.cells #[(.int .u64 (y0 : Int)), (.int .u64 (y1 : Int)), (.slice y2 j2 c2)] 27) = w2 at *
 try rw [← hX]
 clear hX
 obtain ⟨ev, hev⟩ : ∃ ev, ev = (endS (rdF sCall st).2.1 (rdF sCall st).2.2) := ⟨_, rfl⟩
 have CE : Hid (Calls Tryz.prog 71 #[.pointer (some ⟨R, 0, none⟩)] w2 (fun en w' => en = .returned (.int .i64 ev) ∧ w2 = w')) := hid (by rw [hev]; exact endR_any w2 R _ _ HR2.out)
 have HEV := hid hev
 clear hev
 have x0 := (one_cell HX2.out).1
 by_cases h0 : ev = 0
 · subst h0
   obtain ⟨p0, m0⟩ := row_at HXX.out (i := 0) rfl
   obtain ⟨p1, m1⟩ := row_at HXX.out (i := 1) rfl
   obtain ⟨p2, m2⟩ := row_at HXX.out (i := 2) rfl
   obtain ⟨q0, r0⟩ := row_at HB2.out (i := 0) rfl
   obtain ⟨q1, r1⟩ := row_at HB2.out (i := 1) rfl
   obtain ⟨q2, r2⟩ := row_at HB2.out (i := 2) rfl
   have hs0 := HB2.out
   have hs1 := row_put hs0 0 (.int .u64 (y0 : Int))
   have hs2 := row_put hs1 1 (.int .u64 (y1 : Int))
   have hs3 := row_put hs2 2 (.slice y2 j2 c2)
   have HSF : Hid ((((w2.setCell ⟨B, 0, none⟩ (.int .u64 (y0 : Int))).setCell ⟨B, 1, none⟩ (.int .u64 (y1 : Int))).setCell ⟨B, 2, none⟩ (.slice y2 j2 c2)).heap[B]? = some (.cells #[(.int .u64 (y0 : Int)), (.int .u64 (y1 : Int)), (.slice y2 j2 c2)] 27 (0, 0))) := hs3
   have HKS : Hid (Keep (fun j => j = B) w2 (((w2.setCell ⟨B, 0, none⟩ (.int .u64 (y0 : Int))).setCell ⟨B, 1, none⟩ (.int .u64 (y1 : Int))).setCell ⟨B, 2, none⟩ (.slice y2 j2 c2))) := hid ((((Keep.refl (fun j => j = B) _).trans (Keep.set (X := fun j => j = B) _ ⟨B, 0, none⟩ (.int .u64 (y0 : Int)) rfl)).trans (Keep.set (X := fun j => j = B) _ ⟨B, 1, none⟩ (.int .u64 (y1 : Int)) rfl)).trans (Keep.set (X := fun j => j = B) _ ⟨B, 2, none⟩ (.slice y2 j2 c2) rfl))
   clear hs0 hs1 hs2 hs3
   go_wp2_with (first | (go_at_call 71; refine CE.out.mono ?_; rintro en w3 ⟨rfl, rfl⟩))
   refine bodyPost_ret (results_cell2 rfl _ _ B 27 _ (0, 0) _ rfl HSF.out Tryz.underlying27 rfl (by kernel_rfl)) rfl ?_
   refine ⟨[(.int .u64 (y0 : Int)), (.int .u64 (y1 : Int)), (.slice y2 j2 c2)], by rw [← HEV.out]; rfl, fun _ => EncN.mono (fun j hj => ⟨Nat.le_trans HBW.out.size hj.1, Nat.lt_of_lt_of_le hj.2 HKS.out.size⟩) _ (EncN.keep HKS.out (fun j hj e => by have e9 : j = B := e; have a9 := lt_of_block HB0.out; have := hj.1; omega) _ HV2.out), fun h9 => absurd HEV.out.symm h9, ?_⟩
   exact ((Keep.of_below HBW.out).trans HK2.out).trans2 HKS.out (fun j e => .inr (by have e9 : j = B := e; have := HBE.out; omega))
 · have hbe : (ev != 0) = true := by simp [h0]
   have hb3 : Below w2.heap.size w2 (w2.alloc (.cells #[.int .u64 0, .int .u64 0, .slice none 0 0] 27)) := (Below.refl _ _).alloc (Nat.le_refl _) _
   have hx3 : (w2.alloc (.cells #[.int .u64 0, .int .u64 0, .slice none 0 0] 27)).heap[w2.heap.size]? = some (.cells ([.int .u64 0, .int .u64 0, .slice none 0 0] : List Value).toArray 27 (0, 0)) := heap_alloc_new w2 (.cells #[.int .u64 0, .int .u64 0, .slice none 0 0] 27)
   have hB3 := (hb3.block B (lt_of_block HB2.out)).trans HB2.out
   have HB3 := hid hb3
   obtain ⟨p0, m0⟩ := row_at hx3 (i := 0) rfl
   obtain ⟨p1, m1⟩ := row_at hx3 (i := 1) rfl
   obtain ⟨p2, m2⟩ := row_at hx3 (i := 2) rfl
   obtain ⟨q0, r0⟩ := row_at hB3 (i := 0) rfl
   obtain ⟨q1, r1⟩ := row_at hB3 (i := 1) rfl
   obtain ⟨q2, r2⟩ := row_at hB3 (i := 2) rfl
   have hs0 := hB3
   have hs1 := row_put hs0 0 (.int .u64 0)
   have hs2 := row_put hs1 1 (.int .u64 0)
   have hs3 := row_put hs2 2 (.slice none 0 0)
   have HSF : Hid (((((w2.alloc (.cells #[.int .u64 0, .int .u64 0, .slice none 0 0] 27)).setCell ⟨B, 0, none⟩ (.int .u64 0)).setCell ⟨B, 1, none⟩ (.int .u64 0)).setCell ⟨B, 2, none⟩ (.slice none 0 0)).heap[B]? = some (.cells #[.int .u64 0, .int .u64 0, .slice none 0 0] 27 (0, 0))) := hs3
   have HKS : Hid (Keep (fun j => j = B) (w2.alloc (.cells #[.int .u64 0, .int .u64 0, .slice none 0 0] 27)) ((((w2.alloc (.cells #[.int .u64 0, .int .u64 0, .slice none 0 0] 27)).setCell ⟨B, 0, none⟩ (.int .u64 0)).setCell ⟨B, 1, none⟩ (.int .u64 0)).setCell ⟨B, 2, none⟩ (.slice none 0 0))) := hid ((((Keep.refl (fun j => j = B) _).trans (Keep.set (X := fun j => j = B) _ ⟨B, 0, none⟩ (.int .u64 0) rfl)).trans (Keep.set (X := fun j => j = B) _ ⟨B, 1, none⟩ (.int .u64 0) rfl)).trans (Keep.set (X := fun j => j = B) _ ⟨B, 2, none⟩ (.slice none 0 0) rfl))
   clear hb3 hx3 hB3 hs0 hs1 hs2 hs3
   go_wp2_with (first | (go_at_call 71; refine CE.out.mono ?_; rintro en w3 ⟨rfl, rfl⟩))
   refine bodyPost_ret (results_cell2 rfl _ _ B 27 _ (0, 0) _ rfl HSF.out Tryz.underlying27 rfl (by kernel_rfl)) rfl ?_
   refine ⟨[.int .u64 0, .int .u64 0, .slice none 0 0], by rw [← HEV.out]; rfl, fun h9 => absurd (HEV.out.trans h9) h0, fun _ => rfl, ?_⟩
   exact (((Keep.of_below HBW.out).trans HK2.out).trans (Keep.of_below HB3.out)).trans2 HKS.out (fun j e => .inr (by have e9 : j = B := e; have := HBE.out; omega))
theorem AlCall_forms {E : Int} {N : Nat → Prop} {w : World} {cs : List Value} {bs : List UInt8} (h1 : E = 0 → EncN N w sCall cs bs) (h2 : E ≠ 0 → cs = [.int .u64 0, .int .u64 0, .slice none 0 0]) : ∃ (y0 : Nat) (y1 : Nat) (y2 : Option Addr) (j2 : Nat) (c2 : Nat), cs = [.int .u64 (y0 : Int), .int .u64 (y1 : Int), .slice y2 j2 c2] := by
 by_cases h : E = 0
 · obtain ⟨u0, u1, u2, b0, b1, b2, rfl, _, e0, e1, e2⟩ := Call_cells (EncN.enc _ (h1 h))
   obtain ⟨y0, rfl⟩ := form_num e0
   obtain ⟨y1, rfl⟩ := form_num e1
   obtain ⟨y2, j2, c2, rfl⟩ := form_data e2
   exact ⟨y0, y1, y2, j2, c2, rfl⟩
 · exact ⟨_, _, _, _, _, h2 h⟩
def TkCall (w : World) (l : List UInt8) (en : Ending) (w' : World) : Prop := ∃ cs : List Value, en = .returned (.tuple #[.agg cs.toArray, .int .i64 (endS (rdF sCall (l, 0)).2.1 (rdF sCall (l, 0)).2.2)]) ∧ ((endS (rdF sCall (l, 0)).2.1 (rdF sCall (l, 0)).2.2) = 0 → EncN (fun j => w.heap.size ≤ j ∧ j < w'.heap.size) w' sCall cs (rdF sCall (l, 0)).1) ∧ ((endS (rdF sCall (l, 0)).2.1 (rdF sCall (l, 0)).2.2) ≠ 0 → cs = [.int .u64 0, .int .u64 0, .slice none 0 0]) ∧ Below w.heap.size w w'
set_option maxHeartbeats 8000000 in
theorem takeCall_any (x : Value) (l : List UInt8) (w : World) (hx : Rd w x l) (hl : l.length ≤ 140737488355328) : Calls Tryz.prog 6 #[x] w (TkCall w l) := by
 have hb : Below w.heap.size w (w.alloc (.cells #[.int .u64 0, .int .u64 0, .slice none 0 0] 27)) := (Below.refl _ _).alloc (Nat.le_refl _) _
 have hB : (w.alloc (.cells #[.int .u64 0, .int .u64 0, .slice none 0 0] 27)).heap[w.heap.size]? = some (.cells ([.int .u64 0, .int .u64 0, .slice none 0 0] : List Value).toArray 27 (0, 0)) := heap_alloc_new w (.cells #[.int .u64 0, .int .u64 0, .slice none 0 0] 27)
 have CN := hid (new_any (w.alloc (.cells #[.int .u64 0, .int .u64 0, .slice none 0 0] 27)) x l (hx.old hb) hl)
 have HB := hid hB
 have HBW := hid hb
 have HL := hid hl
 clear hb hB hx hl
 go_enter Tryz.func6, Tryz.ntmps6
 go_upto_region 1 with fail
 generalize w.alloc (.cells #[.int .u64 0, .int .u64 0, .slice none 0 0] 27) = w1 at *
 go_upto_region 2 with (first | (go_at_call 24; refine CN.out.mono ?_; rintro en w2 ⟨R, rfl, hR1, hr, hb2⟩; have HR := hid hr; have HRB := hid (Nat.lt_of_lt_of_le (lt_of_block HB.out) hR1); have HB2 := hid ((hb2.block _ (lt_of_block HB.out)).trans HB.out); have HW2 := hid hb2; clear hr hR1 hb2))
 have hb3 : Below w2.heap.size w2 (w2.alloc (.cells #[.pointer (some ⟨R, 0, none⟩)] 79)) := (Below.refl _ _).alloc (Nat.le_refl _) _
 have HX3 := hid (heap_alloc_new w2 (.cells #[.pointer (some ⟨R, 0, none⟩)] 79))
 have HR3 := hid (HR.out.old hb3)
 have HB3 := hid ((hb3.block _ (lt_of_block HB2.out)).trans HB2.out)
 have HW3 := hid (HW2.out.trans (hb3.mono HW2.out.size))
 clear hb3
 obtain ⟨X, hX⟩ : ∃ X, X = w2.heap.size := ⟨_, rfl⟩
 rw [← hX] at HX3
 generalize w2.alloc (.cells #[.pointer (some ⟨R, 0, none⟩)] 79) = w3 at *
 try rw [← hX]
 clear hX
 have CA := hid (aloneCall_any (st := (l, 0)) HR3.out HL.out)
 have z0 := (one_cell HX3.out).1
 go_wp2_with (first | (go_at_call 25; refine CA.out.mono ?_; rintro en w4 ⟨cs, rfl, h1, h2, hk⟩; obtain ⟨y0, y1, y2, j2, c2, rfl⟩ := AlCall_forms h1 h2; have H1 := hid h1; have H2 := hid h2; have HK := hid hk; have hB4 := (hk.block _ (lt_of_block HB3.out) (fun e => by have e9 : w.heap.size = R := e; have := HRB.out; omega)).trans HB3.out; obtain ⟨q0, r0⟩ := row_at hB4 (i := 0) rfl; obtain ⟨q1, r1⟩ := row_at hB4 (i := 1) rfl; obtain ⟨q2, r2⟩ := row_at hB4 (i := 2) rfl; have HB4 := hid hB4; clear h1 h2 hk hB4))
 have hs0 := HB4.out
 have hs1 := row_put hs0 0 (.int .u64 (y0 : Int))
 have hs2 := row_put hs1 1 (.int .u64 (y1 : Int))
 have hs3 := row_put hs2 2 (.slice y2 j2 c2)
 have HSF : Hid ((((w4.setCell ⟨w.heap.size, 0, none⟩ (.int .u64 (y0 : Int))).setCell ⟨w.heap.size, 1, none⟩ (.int .u64 (y1 : Int))).setCell ⟨w.heap.size, 2, none⟩ (.slice y2 j2 c2)).heap[w.heap.size]? = some (.cells #[.int .u64 (y0 : Int), .int .u64 (y1 : Int), .slice y2 j2 c2] 27 (0, 0))) := hs3
 have HKS : Hid (Keep (fun j => j = w.heap.size) w4 (((w4.setCell ⟨w.heap.size, 0, none⟩ (.int .u64 (y0 : Int))).setCell ⟨w.heap.size, 1, none⟩ (.int .u64 (y1 : Int))).setCell ⟨w.heap.size, 2, none⟩ (.slice y2 j2 c2))) := hid ((((Keep.refl (fun j => j = w.heap.size) _).trans (Keep.set (X := fun j => j = w.heap.size) _ ⟨w.heap.size, 0, none⟩ (.int .u64 (y0 : Int)) rfl)).trans (Keep.set (X := fun j => j = w.heap.size) _ ⟨w.heap.size, 1, none⟩ (.int .u64 (y1 : Int)) rfl)).trans (Keep.set (X := fun j => j = w.heap.size) _ ⟨w.heap.size, 2, none⟩ (.slice y2 j2 c2) rfl))
 clear hs0 hs1 hs2 hs3
 refine bodyPost_ret (results_cell2 rfl _ _ w.heap.size 27 _ (0, 0) _ rfl HSF.out Tryz.underlying27 rfl (by kernel_rfl)) rfl ?_
 have a1 := HBW.out.size
 have a2 := lt_of_block HB.out
 have a3 := HW3.out.size
 refine ⟨_, rfl, fun h0 => EncN.mono (fun j hj => ⟨by have := hj.1; omega, Nat.lt_of_lt_of_le hj.2 HKS.out.size⟩) _ (EncN.keep HKS.out (fun j hj e => by have e9 : j = w.heap.size := e; have := hj.1; omega) _ (H1.out h0)), H2.out, ?_⟩
 exact (((Keep.of_below (X := fun _ => False) HBW.out).trans (Keep.of_below (X := fun _ => False) (HW3.out.mono (Nat.le_refl _)))).trans2 HK.out (fun j e => .inr (by have e9 : j = R := e; have := HRB.out; omega))).trans2 HKS.out (fun j e => .inr (by have e9 : j = w.heap.size := e; omega)) |>.below (Nat.le_refl _) (fun k e => e.elim)
end Go.Proofs.YtmdgifmigikffaaGreat
namespace Go.Proofs.YtmdgifmigikffaaGreat
open Go.RowKit Go.Deep
section
variable {P : Program} {ops : Array Oper} {rest : List Oper} {o : Oper} {a : Act} {w : World} {Q : Exit → Act → World → Prop}
theorem wpList_readG (hg : Region.wanted o (yielded ops a.tmps) = true) (d : Option Tmp) (hd : o.dst = d) (v : Value) (hrun : (execOp a.eval o).run P w = .ok (.value v) w)
 (h : wpList P ops Q rest (a.put d v) w) : wpList P ops Q (o :: rest) a w := by
 subst hd
 refine wpList_step fun K hK => ?_
 rw [if_pos hg]
 unfold Oper.wp
 rw [hrun]
 exact hK _ _ h
theorem wpList_callG (hg : Region.wanted o (yielded ops a.tmps) = true) (d : Option Tmp) (hd : o.dst = d)
 (f : FuncId) (args : Array Value) (hrun : (execOp a.eval o).run P w = .ok (.enter f args) w) {F : Ending → World → Prop} (hc : Calls P f args w F)
 (h : ∀ e w'', F e w'' → ∃ v, e = .returned v ∧ wpList P ops Q rest (a.put d v) w'') : wpList P ops Q (o :: rest) a w := by
 subst hd
 refine wpList_step fun K hK => ?_
 rw [if_pos hg]
 unfold Oper.wp
 rw [hrun, Oper.upon_enter]
 refine hc.mono fun e w'' hh => ?_
 obtain ⟨v, rfl, h9⟩ := h e w'' hh
 exact hK _ _ h9
end
theorem row_load {w : World} {B : Nat} {V : Array Value} {T t : TypeId} {d : TypeDesc} (h : w.heap[B]? = some (.cells V T (0, 0))) (hu : Tryz.prog.underlying t = some d) (hd : d.isRow = true) (hi : (Tryz.prog.info? t).map (·.size) = some V.size) : (Instr.loadAt t (.pointer (some ⟨B, 0, none⟩))).run Tryz.prog w = .ok (.agg V) w := by
 have hl9 : V = V.toList.toArray := by simp
 have LD := cells_load (V := w) (B := B) (cs := V.toList) (t := t) (fun i u hi => (row_at (t := T) (by rw [← hl9]; exact h) hi).1) hu hd (by rw [Array.length_toList]; exact hi)
 rw [← hl9] at LD
 exact LD
def TkR (s : Sh) (z : List Value) (w : World) (l : List UInt8) (en : Ending) (w' : World) : Prop := ∃ cs : List Value, en = .returned (.tuple #[.agg cs.toArray, .int .i64 (endS (rdF s (l, 0)).2.1 (rdF s (l, 0)).2.2)]) ∧ ((endS (rdF s (l, 0)).2.1 (rdF s (l, 0)).2.2) = 0 → EncN (fun j => w.heap.size ≤ j ∧ j < w'.heap.size) w' s cs (rdF s (l, 0)).1) ∧ ((endS (rdF s (l, 0)).2.1 (rdF s (l, 0)).2.2) ≠ 0 → cs = z) ∧ Below w.heap.size w w'
theorem TkR.ok {s : Sh} {z : List Value} {w w' : World} {l : List UInt8} {en : Ending} (hr : rdF s (l, 0) = (l, [], 0)) (h : TkR s z w l en w') : ∃ cs : List Value, en = .returned (.tuple #[.agg cs.toArray, .int .i64 0]) ∧ Enc w' s cs l ∧ Below w.heap.size w w' := by
 obtain ⟨cs, rfl, h1, h2, h3⟩ := h
 rw [hr] at h1 ⊢
 exact ⟨cs, rfl, EncN.enc _ (h1 rfl), h3⟩
theorem TkR.any {s : Sh} {z : List Value} {w w' : World} {l : List UInt8} {en : Ending} (hz : z.length = s.wid ∧ z.toArray.all (·.oneCell') = true) (h : TkR s z w l en w') : ∃ (V : Array Value) (e : Int), en = .returned (.tuple #[.agg V, .int .i64 e]) ∧ e = endS (rdF s (l, 0)).2.1 (rdF s (l, 0)).2.2 ∧ V.size = s.wid ∧ V.all (·.oneCell') = true ∧ (e = 0 → EncN (fun j => w.heap.size ≤ j ∧ j < w'.heap.size) w' s V.toList (rdF s (l, 0)).1) ∧ (e ≠ 0 → V = z.toArray) ∧ Below w.heap.size w w' := by
 obtain ⟨cs, rfl, h1, h2, h3⟩ := h
 refine ⟨cs.toArray, _, rfl, rfl, ?_, ?_, fun e => by simpa using h1 e, fun e => by rw [h2 e], h3⟩
 · by_cases e : endS (rdF s (l, 0)).2.1 (rdF s (l, 0)).2.2 = 0
   · exact (EncN.row (h1 e)).1
   · rw [h2 e]; simpa using hz.1
 · by_cases e : endS (rdF s (l, 0)).2.1 (rdF s (l, 0)).2.2 = 0
   · exact (EncN.row (h1 e)).2
   · rw [h2 e]; exact hz.2
def zCall : List Value := [.int .u64 0, .int .u64 0, .slice none 0 0]
theorem alloc_Call (ρ : Operand → Value) (w : World) (d : Option Tmp) (t : TypeId) (p : String) (af : Array Edge) : (execOp ρ { dst := d, op := .alloc 27, type := t, pos := p, after := af, guard := none }).run Tryz.prog w = .ok (.value (.pointer (some ⟨w.heap.size, 0, none⟩))) (w.alloc (.cells zCall.toArray 27)) := by as_aux_lemma => kernel_rfl
theorem zCall_row : zCall.toArray.size = 3 ∧ zCall.toArray.all (·.oneCell') = true := ⟨rfl, by simp [zCall, Value.oneCell']⟩
def zReply : List Value := [.int .i64 0, .int .u64 0, .int .i64 0, .bool false, .slice none 0 0, .slice none 0 0, .int .i64 0, .int .i64 0, .slice none 0 0, .slice none 0 0, .int .i64 0, .int .i64 0, .slice none 0 0, .int .i64 0, .slice none 0 0]
theorem alloc_Reply (ρ : Operand → Value) (w : World) (d : Option Tmp) (t : TypeId) (p : String) (af : Array Edge) : (execOp ρ { dst := d, op := .alloc 55, type := t, pos := p, after := af, guard := none }).run Tryz.prog w = .ok (.value (.pointer (some ⟨w.heap.size, 0, none⟩))) (w.alloc (.cells zReply.toArray 55)) := by as_aux_lemma => kernel_rfl
theorem zReply_row : zReply.toArray.size = 15 ∧ zReply.toArray.all (·.oneCell') = true := ⟨rfl, by simp [zReply, Value.oneCell']⟩
def zAsk : List Value := [.int .i64 0, .slice none 0 0, .int .i64 0, .string ⟨#[]⟩, .slice none 0 0, .slice none 0 0, .int .i64 0, .int .i64 0, .string ⟨#[]⟩, .slice none 0 0, .bool false, .int .i64 0, .bool false, .string ⟨#[]⟩, .int .i64 0, .slice none 0 0]
theorem alloc_Ask (ρ : Operand → Value) (w : World) (d : Option Tmp) (t : TypeId) (p : String) (af : Array Edge) : (execOp ρ { dst := d, op := .alloc 62, type := t, pos := p, after := af, guard := none }).run Tryz.prog w = .ok (.value (.pointer (some ⟨w.heap.size, 0, none⟩))) (w.alloc (.cells zAsk.toArray 62)) := by as_aux_lemma => kernel_rfl
theorem zAsk_row : zAsk.toArray.size = 16 ∧ zAsk.toArray.all (·.oneCell') = true := ⟨rfl, by simp [zAsk, Value.oneCell']⟩
def zCatalog : List Value := [.int .i64 0, .int .i64 0, .slice none 0 0, .slice none 0 0]
theorem alloc_Catalog (ρ : Operand → Value) (w : World) (d : Option Tmp) (t : TypeId) (p : String) (af : Array Edge) : (execOp ρ { dst := d, op := .alloc 50, type := t, pos := p, after := af, guard := none }).run Tryz.prog w = .ok (.value (.pointer (some ⟨w.heap.size, 0, none⟩))) (w.alloc (.cells zCatalog.toArray 50)) := by as_aux_lemma => kernel_rfl
theorem zCatalog_row : zCatalog.toArray.size = 4 ∧ zCatalog.toArray.all (·.oneCell') = true := ⟨rfl, by simp [zCatalog, Value.oneCell']⟩
theorem zCall_wide : zCall.length = sCall.wid ∧ zCall.toArray.all (·.oneCell') = true := ⟨rfl, zCall_row.2⟩
theorem info_Call : (Tryz.prog.info? 27).map (·.size) = some 3 := by kernel_rfl
theorem tkCall_any (x : Value) (l : List UInt8) (w : World) (hx : Rd w x l) (hl : l.length ≤ 140737488355328) : Calls Tryz.prog 6 #[x] w (TkR sCall zCall w l) := takeCall_any x l w hx hl
theorem zCommand_wide : zCommand.length = sCommand.wid ∧ zCommand.toArray.all (·.oneCell') = true := ⟨rfl, zCommand_row.2⟩
theorem info_Command : (Tryz.prog.info? 43).map (·.size) = some 25 := by kernel_rfl
theorem tkCommand_any (x : Value) (l : List UInt8) (w : World) (hx : Rd w x l) (hl : l.length ≤ 140737488355328) : Calls Tryz.prog 8 #[x] w (TkR sCommand zCommand w l) := takeCommand_any x l w hx hl
theorem zReply_wide : zReply.length = sReply.wid ∧ zReply.toArray.all (·.oneCell') = true := ⟨rfl, zReply_row.2⟩
theorem info_Reply : (Tryz.prog.info? 55).map (·.size) = some 15 := by kernel_rfl
theorem tkReply_any (x : Value) (l : List UInt8) (w : World) (hx : Rd w x l) (hl : l.length ≤ 140737488355328) : Calls Tryz.prog 10 #[x] w (TkR sReply zReply w l) := takeReply_any x l w hx hl
theorem zAsk_wide : zAsk.length = sAsk.wid ∧ zAsk.toArray.all (·.oneCell') = true := ⟨rfl, zAsk_row.2⟩
theorem info_Ask : (Tryz.prog.info? 62).map (·.size) = some 16 := by kernel_rfl
theorem tkAsk_any (x : Value) (l : List UInt8) (w : World) (hx : Rd w x l) (hl : l.length ≤ 140737488355328) : Calls Tryz.prog 14 #[x] w (TkR sAsk zAsk w l) := takeAsk_any x l w hx hl
theorem zCatalog_wide : zCatalog.length = sCatalog.wid ∧ zCatalog.toArray.all (·.oneCell') = true := ⟨rfl, zCatalog_row.2⟩
theorem info_Catalog : (Tryz.prog.info? 50).map (·.size) = some 4 := by kernel_rfl
theorem tkCatalog_any (x : Value) (l : List UInt8) (w : World) (hx : Rd w x l) (hl : l.length ≤ 140737488355328) : Calls Tryz.prog 12 #[x] w (TkR sCatalog zCatalog w l) := takeCatalog_any x l w hx hl
end Go.Proofs.YtmdgifmigikffaaGreat
namespace Go.Proofs.YtmdgifmigikffaaGreat
open Go.RowKit Go.Deep
theorem iwidev_any {w : World} {Q : Nat} {st : Rst} (h : RI w Q st) : Calls Tryz.prog 98 #[.pointer (some ⟨Q, 0, none⟩)] w (fun en w' => ∃ v, en = .returned v ∧ RdI .int Q w st [v] w') :=
 (iwide9_any h).mono (by rintro en w' ⟨z, rfl, hz⟩; exact ⟨_, rfl, hz⟩)
def FinI (N : Nat → Prop) (W : World) (s : Sh) (st : Rst) (cs : List Value) (stN : Rst) : Prop := ∃ b, EncN N W s cs b ∧ ((rdF s st).2.2 = 0 → b = (rdF s st).1) ∧ (rdF s st).2 = stN
theorem FinI.nil {N : Nat → Prop} {W : World} {st : Rst} : FinI N W .nil st [] st := ⟨[], ⟨rfl, rfl⟩, fun _ => rfl, rfl⟩
theorem FinI.cons {N : Nat → Prop} {W : World} {s r : Sh} {st stN : Rst} {c1 c2 : List Value} {b1 : List UInt8} (e : EncN N W s c1 b1) (o : (rdF s st).2.2 = 0 → b1 = (rdF s st).1) (h : FinI N W r (rdF s st).2 c2 stN) : FinI N W (.cons s r) st (c1 ++ c2) stN := by
 obtain ⟨b2, e2, o2, hs⟩ := h
 refine ⟨b1 ++ b2, ⟨c1, c2, b1, b2, rfl, rfl, e, e2⟩, fun h0 => ?_, hs⟩
 have h0' : (rdF r (rdF s st).2).2.2 = 0 := h0
 have h1 : (rdF s st).2.2 = 0 := Classical.byContradiction fun hne => by
  rw [rd_bad r (rdF s st).2 hne] at h0'
  exact hne h0'
 show b1 ++ b2 = (rdF s st).1 ++ (rdF r (rdF s st).2).1
 rw [o h1, o2 h0']
theorem wp_app1 {w : World} {ops : Array Oper} {rest : List Oper} {o : Oper} {a : Act} {Q : Exit → Act → World → Prop} (hgd : o.guard = none) (s x : Operand) (t : TypeId)
 (ho : o.op = .call { callee := .builtin .append, args := #[s, x], argTypes := #[t, t] })
 (base : Nat) (e : TypeId) (ht : Tryz.prog.underlying t = some (.slice e)) {i : TypeInfo} (hi : Tryz.prog.info? e = some i) {z : Value} {size bytes : Nat} (hz : i.zero = some z) (hsize : i.size = size) (hby : i.bytes = bytes) (hzs : z.cells.size = size) (hsz : 0 < size)
 (v : Value) (n : Nat) (xs : List Value) (hs : a.eval s = v) (hown : w.ownsRow base e size v n xs)
 (g0 : Nat) (r : List Value) (hx : a.eval x = .slice (some ⟨g0, 0, none⟩) 1 1) (hr : w.heap[g0]? = some (.cells r.toArray e (0, 0))) (hrl : r.length = size) (h1 : ∀ u ∈ r, u.oneCell' = true) (h63 : n + 1 ≤ 100000) (hbytes : bytes ≤ 1000) (hbase : base ≤ w.heap.size)
 (h : ∀ g cap w', w'.ownsRow base e size (.slice (some ⟨g, 0, none⟩) (n + 1) cap) (n + 1) (xs ++ r) → w.grownBy w' v.ownBlock → (v.ownBlock = some g ∨ g = w.heap.size) → wpList Tryz.prog ops Q rest (a.put o.dst (.slice (some ⟨g, 0, none⟩) (n + 1) cap)) w') :
 wpList Tryz.prog ops Q (o :: rest) a w :=
 wpList_step fun K hK => step_app1 hgd s x t ho base e ht hi hz hsize hby hzs hsz v n xs hs hown g0 r hx hr hrl h1 h63 hbytes hbase (fun g cap w' a1 a2 a3 => hK _ _ (h g cap w' a1 a2 a3))
structure ILp (s : Sh) (e : TypeId) (Q : Nat) (w : World) (n : Nat) (st : Rst) (wr : World) (k : Nat) (M : List (List Value × List UInt8)) (ao : Option Addr) (c : Nat) (sk : Rst) : Prop where
 le : k ≤ n
 len : M.length = k
 own : wr.ownsRow w.heap.size e s.wid (.slice ao k c) k (M.map (·.1)).flatten
 red : ∀ m ∈ M, EncN (fun j => w.heap.size ≤ j ∧ j < wr.heap.size ∧ (Value.slice ao k c).ownBlock ≠ some j) wr s m.1 m.2
 ri : RI wr Q sk
 rest : (sk.2 = 0 ∧ rdLF (rdF s) n st = ((rdLF (rdF s) (n - k) sk).1 + k, (M.map (·.2)).flatten ++ (rdLF (rdF s) (n - k) sk).2.1, (rdLF (rdF s) (n - k) sk).2.2)) ∨ (sk.2 ≠ 0 ∧ (rdLF (rdF s) n st).2.2.2 = sk.2)
 keep : Keep (fun j => j = Q) w wr
theorem ILp.begin {s : Sh} {e : TypeId} {Q : Nat} {w wr : World} {n : Nat} {st : Rst} (hr : RI wr Q st) (hk : Keep (fun j => j = Q) w wr) (hn : st.2 ≠ 0 → n = 0) : ILp s e Q w n st wr 0 [] none 0 st := by
 refine ⟨Nat.zero_le _, rfl, World.ownsRow_nil _ _ _ _, (fun m hm => by cases hm), hr, ?_, hk⟩
 by_cases h : st.2 = 0
 · exact .inl ⟨h, by simp⟩
 · refine .inr ⟨h, ?_⟩
   rw [hn h, rdLF_zero]
theorem ILp.next {s : Sh} {e : TypeId} {Q : Nat} {w wr : World} {n : Nat} {st : Rst} {k : Nat} {M : List (List Value × List UInt8)} {ao : Option Addr} {c : Nat} {sk : Rst} (h : ILp s e Q w n st wr k M ao c sk)
 (hQw : Q < w.heap.size) (hkn : k < n) (h0 : sk.2 = 0) {mc : List Value} {w2 w3 w4 : World} {b : List UInt8} (e1 : EncN (fun j => wr.heap.size ≤ j ∧ j < w2.heap.size) w2 s mc b) (ob : (rdF s sk).2.2 = 0 → b = (rdF s sk).1) (r1 : RI w2 Q (rdF s sk).2) (k1 : Keep (fun j => j = Q) wr w2) {g cap : Nat}
 (h3 : Below w2.heap.size w2 w3) (o4 : w4.ownsRow w.heap.size e s.wid (.slice (some ⟨g, 0, none⟩) (k + 1) cap) (k + 1) ((M.map (·.1)).flatten ++ mc)) (g4 : w3.grownBy w4 (Value.slice ao k c).ownBlock) (gg : (Value.slice ao k c).ownBlock = some g ∨ g = w3.heap.size) :
 ILp s e Q w n st w4 (k + 1) (M ++ [(mc, b)]) (some ⟨g, 0, none⟩) cap (rdF s sk).2 := by
 have hown : ∀ j, (Value.slice ao k c).ownBlock = some j → w.heap.size ≤ j ∧ j < wr.heap.size := fun j hj => h.own.lt j hj
 have K3 : Keep (fun _ => False) w2 w3 := Keep.of_below h3
 have K4 : Keep (fun j => (Value.slice ao k c).ownBlock = some j) w3 w4 := Keep.of_grown g4 (fun j hj => hj)
 have s0 := h.keep.size
 have s1 := k1.size
 have s3 := K3.size
 have s4 := K4.size
 have r5 : RI w4 Q (rdF s sk).2 := (r1.keep K3 (fun j e => e.elim)).keep K4 (fun j e => by have := (hown j e).1; omega)
 have kk : Keep (fun j => j = Q) w w4 := ((h.keep.trans k1).trans (K3.mono (fun j _ e => e.elim))).trans2 K4 (fun j e => .inr (hown j e).1)
 have red : ∀ m ∈ M ++ [(mc, b)], EncN (fun j => w.heap.size ≤ j ∧ j < w4.heap.size ∧ (Value.slice (some ⟨g, 0, none⟩) (k + 1) cap).ownBlock ≠ some j) w4 s m.1 m.2 := fun m hm => by
  rcases List.mem_append.1 hm with hm | hm
  · have q0 := h.red m hm
    have q1 := EncN.keep k1 (fun j hj e => by have e' : j = Q := e; have := hj.1; omega) s q0
    have q2 := EncN.keep K3 (fun j hj e => e) s q1
    have q3 := EncN.keep K4 (fun j hj e => hj.2.2 e) s q2
    refine EncN.mono (fun j hj => ⟨hj.1, by omega, fun e => ?_⟩) s q3
    have e' : g = j := by simpa [Value.ownBlock] using e
    subst e'
    rcases gg with e | e
    · exact hj.2.2 e
    · omega
  · obtain rfl := List.mem_singleton.1 hm
    have q2 := EncN.keep K3 (fun j hj e => e) s e1
    have q3 := EncN.keep K4 (fun j hj e => by have := (hown j e).2; have := hj.1; omega) s q2
    refine EncN.mono (fun j hj => ⟨by omega, by omega, fun e => ?_⟩) s q3
    have e' : g = j := by simpa [Value.ownBlock] using e
    subst e'
    rcases gg with e | e
    · have := (hown g e).2; omega
    · omega
 have hfl : ((M ++ [(mc, b)]).map (·.1)).flatten = (M.map (·.1)).flatten ++ mc := by simp
 have hfb : ((M ++ [(mc, b)]).map (·.2)).flatten = (M.map (·.2)).flatten ++ b := by simp
 have hnk : n - k = (n - (k + 1)) + 1 := by omega
 refine ⟨by omega, by rw [List.length_append, h.len]; rfl, by rw [hfl]; exact o4, red, r5, ?_, kk⟩
 rcases h.rest with ⟨-, hr⟩ | ⟨hne, -⟩
 · by_cases hs : (rdF s sk).2.2 = 0
   · refine .inl ⟨hs, ?_⟩
     rw [hr, hnk, rdLF_more _ _ _ hs, hfb, ob hs]
     simp only [Prod.mk.injEq, List.append_assoc, and_true]
     omega
   · refine .inr ⟨hs, ?_⟩
     rw [hr, hnk, rdLF_stop _ _ _ hs]
 · exact absurd h0 hne
theorem ILp.done {s : Sh} {e : TypeId} {Q : Nat} {w wr : World} {st : Rst} {k : Nat} {M : List (List Value × List UInt8)} {ao : Option Addr} {c : Nat} {sk : Rst} (h : ILp s e Q w (lookS 5000 st.1 st.2).1 (st.1.drop (lookS 5000 st.1 st.2).2.1, (lookS 5000 st.1 st.2).2.2) wr k M ao c sk) (hend : k = (lookS 5000 st.1 st.2).1 ∨ sk.2 ≠ 0) :
 RdI (.list s) Q w st [.slice ao k c] wr := by
 have hn := lookS_most 5000 st.1 st.2
 have hle := h.le
 refine ⟨_, mk_list (Nat.le_refl _) h.len (by omega) h.own h.red (fun j hj => ⟨hj.1, hj.2.1⟩), ?_, ?_, h.keep⟩
 · intro h0
   simp only [rdF] at h0 ⊢
   rcases h.rest with ⟨hs, hr⟩ | ⟨hne, hr⟩
   · rcases hend with hk | hk
     · rw [hr, hk, Nat.sub_self, rdLF_zero]
       simp
     · exact absurd hs hk
   · rw [hr] at h0; exact absurd h0 hne
 · simp only [rdF]
   rcases h.rest with ⟨hs, hr⟩ | ⟨hne, hr⟩
   · rcases hend with hk | hk
     · rw [hr, hk, Nat.sub_self, rdLF_zero]; exact h.ri
     · exact absurd hs hk
   · exact h.ri.bad hne hr
end Go.Proofs.YtmdgifmigikffaaGreat
namespace Go.Proofs.YtmdgifmigikffaaGreat
open Go.RowKit Go.Deep
set_option maxHeartbeats 2000000 in
theorem iopen_any {w : World} {x : Value} {l : List UInt8} (hx : Rd w x l) (hl : l.length ≤ 1000000) :
 Calls Tryz.prog 27 #[x] w (fun en w' => ∃ Q, en = .returned (.pointer (some ⟨Q, 0, none⟩)) ∧ w.heap.size ≤ Q ∧ RI w' Q (l, 0) ∧ Below w.heap.size w w') := by
 have HX := hid hx
 have HL := hid hl
 have hown : w.ownsRow w.heap.size 5 1 (.slice none 0 0) 0 [] := World.ownsRow_nil _ _ _ _
 clear hx hl
 go_enter Tryz.func27, Tryz.ntmps27
 go_wp2_with (first
  | (at_builtin; refine wp_app rfl _ _ 22 rfl w.heap.size 5 Tryz.underlying22 (by kernel_rfl) _ _ _ rfl hown _ l rfl HX.out (by have := HL.out; omega) (Nat.le_refl _) ?_; intro v1 w1 ho1 hg1; rw [Nat.zero_add, List.nil_append] at ho1; have hr1 := Rd.own ho1; obtain ⟨ao, c, rfl, hr2⟩ := hr1; have HO := hid ho1; have HG := hid hg1; clear ho1 hg1 hr2))
 have hr1 := Rd.own HO.out
 have hbw : Below w.heap.size w w1 := below_grown HG.out (Nat.le_refl _) (fun k h => by cases h)
 have hz := heap_alloc_new w1 (.cells #[.slice ao l.length c, .int .i64 0, .int .i64 0, .int .i64 0] 144)
 have hb1 : Below w1.heap.size w1 (w1.alloc (.cells #[.slice ao l.length c, .int .i64 0, .int .i64 0, .int .i64 0] 144)) := (Below.refl _ _).alloc (Nat.le_refl _) _
 generalize w1.alloc (.cells #[.slice ao l.length c, .int .i64 0, .int .i64 0, .int .i64 0] 144) = w2 at *
 go_ret
 refine ⟨w1.heap.size, rfl, hbw.size, ⟨ao, c, 0, l, 0, 0, hz, hr1.old hb1, Nat.zero_le _, HL.out, fun k hk => ?_, rfl, fun _ => by simp⟩, hbw.trans (hb1.mono hbw.size)⟩
 have h8 := own_blk HO.out hk
 exact (HO.out.lt k h8).2
set_option maxHeartbeats 2000000 in
theorem iend9_any {w : World} {Q : Nat} {st : Rst} (h : RI w Q st) :
 Calls Tryz.prog 30 #[.pointer (some ⟨Q, 0, none⟩)] w (Draws w (.int .i64 (endS st.1 st.2))) := by
 obtain ⟨ao, c, at0, l, e, bad, h1, h2, h3, h4, h5, h6, h7⟩ := h
 have c3 : w.cell? ⟨Q, 3, none⟩ = some (.int .i64 bad) := by simp [World.cell?, show w.heap[Q]? = _ from h1]
 have CE := hid (iend_any w Q ao l.length c at0 e h1)
 have H6 := hid h6
 have H7 := hid h7
 clear h1 h2 h3 h4 h5 h6 h7
 by_cases hb : bad = 0
 · have hq : qendS9 l.length at0 e = endS st.1 st.2 := by
    have h6 := H6.out
    rw [if_neg (by simp [hb])] at h6
    rw [qendS_eq9]
    by_cases he : e = 0
    · rw [h6, ← H7.out (h6.trans he)]
    · rw [h6]; unfold endS; rw [if_pos he, if_pos he]
   subst hb
   have HQ := hid hq
   clear hq
   go_enter Tryz.func30, Tryz.ntmps30
   go_wp2_with (first | (go_at_call 79; refine CE.out.mono ?_; rintro en w2 hd2; have HD2 := hid hd2.2; obtain ⟨rfl, -⟩ := hd2))
   go_ret
   rw [← HQ.out]
   exact ⟨rfl, HD2.out⟩
 · have hq : bad = endS st.1 st.2 := by
    have h6 := H6.out
    rw [if_pos hb] at h6
    unfold endS
    rw [if_pos (by rw [h6]; exact hb), h6]
   have HQ := hid hq
   have hbb : (bad != 0) = true := by simp [hb]
   clear hq
   go_enter Tryz.func30, Tryz.ntmps30
   go_wp2_with fail
   go_ret
   rw [← HQ.out]
   exact ⟨rfl, 0, rfl⟩
end Go.Proofs.YtmdgifmigikffaaGreat
namespace Go.Proofs.YtmdgifmigikffaaGreat
open Go.RowKit Go.Deep
set_option maxHeartbeats 8000000 in
theorem itkCall_any {w : World} {x : Value} {l : List UInt8} (hx : Rd w x l) (hl : l.length ≤ 1000000) :
 Calls Tryz.prog 7 #[x] w (TkR sCall zCall w l) := by
 have hb : Below w.heap.size w (w.alloc (.cells #[(.int .u64 0), (.int .u64 0), (.slice none 0 0)] 27)) := (Below.refl _ _).alloc (Nat.le_refl _) _
 have hz := heap_alloc_new w (.cells #[(.int .u64 0), (.int .u64 0), (.slice none 0 0)] 27)
 have hx0 := hx.old hb
 obtain ⟨B, hB⟩ : ∃ B, B = w.heap.size := ⟨_, rfl⟩
 rw [← hB] at hz
 have HL := hid hl
 clear hx hl
 go_enter Tryz.func7, Tryz.ntmps7
 go_upto_region 1 with fail
 generalize w.alloc (.cells #[(.int .u64 0), (.int .u64 0), (.slice none 0 0)] 27) = wz at *
 try rw [← hB]
 have HBE := hid hB
 clear hB
 have CO := hid (iopen_any hx0 HL.out)
 have HZz := hid hz
 have HBz := hid hb
 clear hx0 hz hb
 go_upto_region 2 with (first | (go_at_call 27; refine CO.out.mono ?_; rintro en w0 ⟨Q, rfl, hQ, hR, hbo⟩; have HQ := hid hQ; have HR0 := hid hR; have HBO := hid hbo; clear hQ hR hbo))
 have hlz := lt_of_block HZz.out
 have hQB : B < Q := Nat.lt_of_lt_of_le hlz HQ.out
 have HZ0 := hid ((HBO.out.block B hlz).trans HZz.out)
 have HBW : Hid (Below w.heap.size w w0) := hid (HBz.out.trans (HBO.out.mono HBz.out.size))
 have HQs := hid (show w0.heap.size ≤ w0.heap.size from Nat.le_refl _)
 clear CO HZz HBz HBO HQ hlz
 have CQ := hid (inum9_any HR0.out)
 go_upto_region 3 with (first | (go_at_call 28; refine CQ.out.mono ?_; rintro en w1 ⟨v, rfl, bb0, E0, o0, r0, k0⟩; obtain ⟨y0, rfl⟩ := form_num (EncN.enc _ E0); have HE0 := hid E0; have HO0 := hid o0; have HRr := hid r0; have HKk := hid k0; clear E0 o0 r0 k0))
 have hb1 : Below w1.heap.size w1 (w1.alloc (.cells #[(.int .u64 (y0 : Int)), (.int .u64 0), (.slice none 0 0)] 27)) := (Below.refl _ _).alloc (Nat.le_refl _) _
 have hp1 := heap_alloc_new w1 (.cells #[(.int .u64 (y0 : Int)), (.int .u64 0), (.slice none 0 0)] 27)
 have hPz : B < w1.heap.size := Nat.lt_of_lt_of_le (lt_of_block HZ0.out) HKk.out.size
 have HE0 := hid (EncN.keep (X := fun _ => False) (Keep.of_below hb1) (fun _ _ e => e) _ (EncN.mono (N' := fun k => Q < k ∧ k ≠ w1.heap.size ∧ k < w1.heap.size + 1) (fun k hk => ⟨Nat.lt_of_lt_of_le (HR0.out.lt) hk.1, by omega, by omega⟩) _ HE0.out))
 have HR1 := hid (HRr.out.keep (X := fun _ => False) (Keep.of_below hb1) (fun _ e => e.elim))
 have HK1 := hid (((Keep.of_below (X := fun k => k = Q) HBW.out).trans HKk.out).trans (Keep.of_below hb1))
 have HZ1 := hid ((hb1.block B hPz).trans ((HKk.out.block B (lt_of_block HZ0.out) (fun e => by have e9 : B = Q := e; omega)).trans HZ0.out))
 have hQP : Q < w1.heap.size := Nat.lt_of_lt_of_le HR0.out.lt HKk.out.size
 obtain ⟨P, hP⟩ : ∃ P, P = w1.heap.size := ⟨_, rfl⟩
 rw [← hP] at hp1 hPz HE0 hQP ⊢
 have HP1 := hid hp1
 have hsz1 := lt_of_block hp1
 clear hb1 hp1 hP HRr HKk CQ HZ0 HR0
 generalize w1.alloc (.cells #[(.int .u64 (y0 : Int)), (.int .u64 0), (.slice none 0 0)] 27) = u1 at *
 have HE0 : Hid (EncN (fun k => Q < k ∧ k ≠ P ∧ k < u1.heap.size) u1 .num [(.int .u64 (y0 : Int))] bb0) := hid (EncN.mono (fun k hk => ⟨hk.1, hk.2.1, by have := hk.2.2; omega⟩) _ HE0.out)
 clear hsz1
 have CQ := hid (inum9_any HR1.out)
 go_upto_region 4 with (first | (go_at_call 28; refine CQ.out.mono ?_; rintro en w2 ⟨v, rfl, bb1, E1, o1, r1, k1⟩; obtain ⟨y1, rfl⟩ := form_num (EncN.enc _ E1); have hPx := (k1.block P (lt_of_block HP1.out) (fun e => by have e9 : P = Q := e; omega)).trans HP1.out; obtain ⟨qq1, rr1⟩ := row_at hPx (i := 1) rfl; have HPx := hid hPx; clear hPx; have HE1 := hid E1; have HO1 := hid o1; have HRr := hid r1; have HKk := hid k1; clear E1 o1 r1 k1))
 have hs0 := HPx.out
 have hs1 := row_put hs0 1 (.int .u64 (y1 : Int))
 have HP2 : Hid ((w2.setCell ⟨P, 1, none⟩ (.int .u64 (y1 : Int))).heap[P]? = some (.cells #[(.int .u64 (y0 : Int)), (.int .u64 (y1 : Int)), (.slice none 0 0)] 27 (0, 0))) := hs1
 have hks : Keep (fun k => k = P) w2 (w2.setCell ⟨P, 1, none⟩ (.int .u64 (y1 : Int))) := (Keep.refl (fun k => k = P) _).trans (Keep.set (X := fun k => k = P) _ ⟨P, 1, none⟩ (.int .u64 (y1 : Int)) rfl)
 have HR2 := hid (HRr.out.keep hks (fun k e => by have e9 : k = P := e; omega))
 have HK2 := hid ((HK1.out.trans HKk.out).trans2 hks (fun k e => .inr (by have e9 : k = P := e; have := HBE.out; omega)))
 have hkk : Keep (fun k => k = Q ∨ k = P) u1 (w2.setCell ⟨P, 1, none⟩ (.int .u64 (y1 : Int))) := (HKk.out.mono (fun k _ e => .inl e)).trans (hks.mono (fun k _ e => .inr e))
 have hzz := (hkk.block B (lt_of_block HZ1.out) (fun e => by have e9 : B = Q ∨ B = P := e; omega)).trans HZ1.out
 have HZ2 := hid hzz
 clear hzz
 have HE0 := hid (EncN.hop (Nat.le_refl _) hkk HE0.out)
 have HE1 := hid (EncN.mono (N' := fun k => Q < k ∧ k ≠ P ∧ k < (w2.setCell ⟨P, 1, none⟩ (.int .u64 (y1 : Int))).heap.size) (fun k hk => ⟨by have := hk.1; have := HR1.out.lt; omega, by have := lt_of_block HP1.out; omega, Nat.lt_of_lt_of_le hk.2 hks.size⟩) _ (EncN.keep hks (fun k hk e => by have e9 : k = P := e; have := lt_of_block HP1.out; have := hk.1; omega) _ HE1.out))
 clear hs0 hs1 hks hkk HRr HKk HPx HP1 HR1 HK1 HZ1 CQ
 generalize w2.setCell ⟨P, 1, none⟩ (.int .u64 (y1 : Int)) = u2 at *
 have CQ := hid (ibytes9_any HR2.out)
 go_upto_region 5 with (first | (go_at_call 29; refine CQ.out.mono ?_; rintro en w3 ⟨v, rfl, bb2, E2, o2, r2, k2⟩; obtain ⟨y2, j2, c2, rfl⟩ := form_data (EncN.enc _ E2); have hPx := (k2.block P (lt_of_block HP2.out) (fun e => by have e9 : P = Q := e; omega)).trans HP2.out; obtain ⟨qq2, rr2⟩ := row_at hPx (i := 2) rfl; have HPx := hid hPx; clear hPx; have HE2 := hid E2; have HO2 := hid o2; have HRr := hid r2; have HKk := hid k2; clear E2 o2 r2 k2))
 have hs0 := HPx.out
 have hs1 := row_put hs0 2 (.slice y2 j2 c2)
 have HP3 : Hid ((w3.setCell ⟨P, 2, none⟩ (.slice y2 j2 c2)).heap[P]? = some (.cells #[(.int .u64 (y0 : Int)), (.int .u64 (y1 : Int)), (.slice y2 j2 c2)] 27 (0, 0))) := hs1
 have hks : Keep (fun k => k = P) w3 (w3.setCell ⟨P, 2, none⟩ (.slice y2 j2 c2)) := (Keep.refl (fun k => k = P) _).trans (Keep.set (X := fun k => k = P) _ ⟨P, 2, none⟩ (.slice y2 j2 c2) rfl)
 have HR3 := hid (HRr.out.keep hks (fun k e => by have e9 : k = P := e; omega))
 have HK3 := hid ((HK2.out.trans HKk.out).trans2 hks (fun k e => .inr (by have e9 : k = P := e; have := HBE.out; omega)))
 have hkk : Keep (fun k => k = Q ∨ k = P) u2 (w3.setCell ⟨P, 2, none⟩ (.slice y2 j2 c2)) := (HKk.out.mono (fun k _ e => .inl e)).trans (hks.mono (fun k _ e => .inr e))
 have hzz := (hkk.block B (lt_of_block HZ2.out) (fun e => by have e9 : B = Q ∨ B = P := e; omega)).trans HZ2.out
 have HZ3 := hid hzz
 clear hzz
 have HE0 := hid (EncN.hop (Nat.le_refl _) hkk HE0.out)
 have HE1 := hid (EncN.hop (Nat.le_refl _) hkk HE1.out)
 have HE2 := hid (EncN.mono (N' := fun k => Q < k ∧ k ≠ P ∧ k < (w3.setCell ⟨P, 2, none⟩ (.slice y2 j2 c2)).heap.size) (fun k hk => ⟨by have := hk.1; have := HR2.out.lt; omega, by have := lt_of_block HP2.out; omega, Nat.lt_of_lt_of_le hk.2 hks.size⟩) _ (EncN.keep hks (fun k hk e => by have e9 : k = P := e; have := lt_of_block HP2.out; have := hk.1; omega) _ HE2.out))
 clear hs0 hs1 hks hkk HRr HKk HPx HP2 HR2 HK2 HZ2 CQ
 generalize w3.setCell ⟨P, 2, none⟩ (.slice y2 j2 c2) = u3 at *
 have CE := hid (iend9_any HR3.out)
 have LD := cells_load (cs := [(.int .u64 (y0 : Int)), (.int .u64 (y1 : Int)), (.slice y2 j2 c2)]) (fun i u hi => (row_at HP3.out hi).1) Tryz.underlying27 rfl (by kernel_rfl)
 have HLD := hid LD
 clear LD
 obtain ⟨E, hE⟩ : ∃ E, E = endS (rdF sCall (l, 0)).2.1 (rdF sCall (l, 0)).2.2 := ⟨_, rfl⟩
 have hfin : ∀ (s : Sh) (cs : List Value) (bs : List UInt8), EncN (fun k => Q < k ∧ k ≠ P ∧ k < u3.heap.size) u3 s cs bs → EncN (fun k => B < k ∧ k < u3.heap.size) u3 s cs bs := fun s cs bs h9 => EncN.mono (fun k hk => ⟨by have := hk.1; omega, hk.2.2⟩) s h9
 have hF : FinI (fun k => B < k ∧ k < u3.heap.size) u3 sCall (l, 0) [(.int .u64 (y0 : Int)), (.int .u64 (y1 : Int)), (.slice y2 j2 c2)] _ := FinI.cons (hfin _ _ _ HE0.out) HO0.out (FinI.cons (hfin _ _ _ HE1.out) HO1.out (FinI.cons (hfin _ _ _ HE2.out) HO2.out FinI.nil))
 obtain ⟨bf, g1, g2, g3⟩ := hF
 rw [← g3, ← hE] at CE
 have HF := hid (And.intro g1 g2)
 clear g1 g2 g3
 have hEb : E = 0 → (rdF sCall (l, 0)).2.2 = 0 := fun e => by rw [hE] at e; exact Classical.byContradiction fun h9 => h9 (by unfold endS at e; rw [if_pos h9] at e; exact e)
 have HEb := hid hEb
 have HEE := hid hE
 clear hEb hE hfin HE0 HO0 HE1 HO1 HE2 HO2
 go_upto_region 6 with (first | (go_at_call 30; refine CE.out.mono ?_; rintro en we hde; have HD := hid hde.2; obtain ⟨rfl, -⟩ := hde))
 have hbe : Below u3.heap.size u3 we := by obtain ⟨nd, rfl⟩ := HD.out; exact ⟨rfl, rfl, rfl, Nat.le_refl _, fun _ _ => rfl⟩
 have hze : we.heap[B]? = some (.cells (#[(.int .u64 0), (.int .u64 0), (.slice none 0 0)] : Array Value) 27 (0, 0)) := (hbe.block _ (lt_of_block HZ3.out)).trans HZ3.out
 have hle : (Instr.loadAt 27 (.pointer (some ⟨P, 0, none⟩))).run Tryz.prog we = .ok (.agg #[(.int .u64 (y0 : Int)), (.int .u64 (y1 : Int)), (.slice y2 j2 c2)]) we := cells_load (cs := [(.int .u64 (y0 : Int)), (.int .u64 (y1 : Int)), (.slice y2 j2 c2)]) (fun i u hi => (row_at ((hbe.block _ (lt_of_block HP3.out)).trans HP3.out) hi).1) Tryz.underlying27 rfl (by kernel_rfl)
 have hke : Keep (fun k => k = Q) w we := HK3.out.trans (Keep.of_below hbe)
 have HKE : Hid (Below w.heap.size w we) := hid (hke.below (Nat.le_refl _) (fun k e => by have e9 : k = Q := e; have := HBE.out; omega))
 have HBe := hid hbe
 have HLe := hid hle
 have HZe := hid hze
 clear hbe hze hle hke CE HD HLD
 by_cases he : E = 0
 · subst he
   have HE : Hid ((0 : Int) = 0) := hid rfl
   go_upto_region 8 with fail
   have HSF := hid (setRow_heap we B _ (#[(.int .u64 (y0 : Int)), (.int .u64 (y1 : Int)), (.slice y2 j2 c2)] : Array Value) _ _ HZe.out)
   have HKS := hid (setRow_keep we B (#[(.int .u64 (y0 : Int)), (.int .u64 (y1 : Int)), (.slice y2 j2 c2)] : Array Value))
   apply wp_region_lit
   refine Great.wpList_readTo rfl (some 24) rfl (.agg #[(.int .u64 (y0 : Int)), (.int .u64 (y1 : Int)), (.slice y2 j2 c2)]) (exec_load rfl HLe.out) ?_
   simp only [Act.put, jA, jB, jC, jD, jE, jF]
   refine Go.wpList_store_rowTo rfl 27 _ _ rfl rfl B #[(.int .u64 (y0 : Int)), (.int .u64 (y1 : Int)), (.slice y2 j2 c2)] rfl rfl 27 #[(.int .u64 0), (.int .u64 0), (.slice none 0 0)] HZe.out (by as_aux_lemma => kernel_rfl) rfl (by simp [Value.oneCell']) ?_
   generalize we.setRow B #[(.int .u64 (y0 : Int)), (.int .u64 (y1 : Int)), (.slice y2 j2 c2)] = uZ at *
   go_wp2_with fail
   refine bodyPost_ret (results_cell2 rfl _ _ B 27 _ (0, 0) _ rfl HSF.out Tryz.underlying27 rfl (by kernel_rfl)) rfl ?_
   have hkb : Below w.heap.size w uZ := ((Keep.of_below (X := fun k => k = B) HKE.out).trans HKS.out).below (Nat.le_refl _) (fun k e => by have e9 : k = B := e; have := HBE.out; omega)
   refine ⟨[(.int .u64 (y0 : Int)), (.int .u64 (y1 : Int)), (.slice y2 j2 c2)], by rw [← HEE.out]; rfl, fun e => ?_, fun e => absurd HEE.out.symm e, hkb⟩
   have hfz := HF.out.2 (HEb.out (by simp))
   rw [← hfz]
   have hku : Keep (fun k => k = B) u3 uZ := (Keep.of_below HBe.out).trans HKS.out
   exact EncN.mono (fun k hk => ⟨by have := HBE.out; have := hk.1; omega, Nat.lt_of_lt_of_le hk.2 hku.size⟩) _ (EncN.keep hku (fun k hk e => by have e9 : k = B := e; have := hk.1; omega) _ HF.out.1)
 · have HE := hid he
   have hne : (E != 0) = true := by simp [he]
   clear HLe
   go_upto_region 7 with fail
   have HSF := hid (setRow_heap we B _ (#[(.int .u64 0), (.int .u64 0), (.slice none 0 0)] : Array Value) _ _ HZe.out)
   have HKS := hid (setRow_keep we B (#[(.int .u64 0), (.int .u64 0), (.slice none 0 0)] : Array Value))
   apply wp_region_lit
   refine Great.wpList_readTo rfl (some 22) rfl (.agg #[(.int .u64 0), (.int .u64 0), (.slice none 0 0)]) (by as_aux_lemma => kernel_rfl) ?_
   simp only [Act.put, jA, jB, jC, jD, jE, jF]
   refine Great.wpList_readTo rfl (some 23) rfl (.int .i64 E) (by as_aux_lemma => kernel_rfl) ?_
   simp only [Act.put, jA, jB, jC, jD, jE, jF]
   refine Go.wpList_store_rowTo rfl 27 _ _ rfl rfl B #[(.int .u64 0), (.int .u64 0), (.slice none 0 0)] rfl rfl 27 #[(.int .u64 0), (.int .u64 0), (.slice none 0 0)] HZe.out (by as_aux_lemma => kernel_rfl) rfl (by simp [Value.oneCell']) ?_
   generalize we.setRow B #[(.int .u64 0), (.int .u64 0), (.slice none 0 0)] = uZ at *
   go_wp2_with fail
   refine bodyPost_ret (results_cell2 rfl _ _ B 27 _ (0, 0) _ rfl HSF.out Tryz.underlying27 rfl (by kernel_rfl)) rfl ?_
   have hkb : Below w.heap.size w uZ := ((Keep.of_below (X := fun k => k = B) HKE.out).trans HKS.out).below (Nat.le_refl _) (fun k e => by have e9 : k = B := e; have := HBE.out; omega)
   refine ⟨[(.int .u64 0), (.int .u64 0), (.slice none 0 0)], by rw [← HEE.out]; rfl, fun e => absurd (HEE.out.trans e) HE.out, fun _ => rfl, hkb⟩
end Go.Proofs.YtmdgifmigikffaaGreat
namespace Go.Proofs.YtmdgifmigikffaaGreat
open Go.RowKit Go.Deep
set_option maxHeartbeats 8000000 in
theorem istPair_any {w : World} {Q : Nat} {st : Rst} (h : RI w Q st) :
 Calls Tryz.prog 100 #[.pointer (some ⟨Q, 0, none⟩)] w (fun en w' => ∃ cs, en = .returned (.agg cs.toArray) ∧ RdI sPair Q w st cs w') := by
 have hb : Below w.heap.size w (w.alloc (.cells #[(.slice none 0 0), (.slice none 0 0), (.int .i64 0)] 72)) := (Below.refl _ _).alloc (Nat.le_refl _) _
 have hz := heap_alloc_new w (.cells #[(.slice none 0 0), (.slice none 0 0), (.int .i64 0)] 72)
 have hQB := h.lt
 have HR0 := hid (h.keep (X := fun _ => False) (Keep.of_below hb) (fun _ e => e.elim))
 obtain ⟨B, hB⟩ : ∃ B, B = w.heap.size := ⟨_, rfl⟩
 rw [← hB] at hz hQB
 have HZ0 := hid hz
 have HBW := hid hb
 clear h hb hz
 go_enter Tryz.func100, Tryz.ntmps100
 go_upto_region 1 with fail
 generalize w.alloc (.cells #[(.slice none 0 0), (.slice none 0 0), (.int .i64 0)] 72) = w0 at *
 try rw [← hB]
 have HBE := hid hB
 clear hB
 have CQ := hid (ibytes9_any HR0.out)
 go_upto_region 2 with (first | (go_at_call 29; refine CQ.out.mono ?_; rintro en w1 ⟨v, rfl, bb0, E0, o0, r0, k0⟩; obtain ⟨y0, j0, c0, rfl⟩ := form_data (EncN.enc _ E0); have HE0 := hid E0; have HO0 := hid o0; have HRr := hid r0; have HKk := hid k0; clear E0 o0 r0 k0))
 have hb1 : Below w1.heap.size w1 (w1.alloc (.cells #[(.slice y0 j0 c0), (.slice none 0 0), (.int .i64 0)] 72)) := (Below.refl _ _).alloc (Nat.le_refl _) _
 have hp1 := heap_alloc_new w1 (.cells #[(.slice y0 j0 c0), (.slice none 0 0), (.int .i64 0)] 72)
 have hPz : B < w1.heap.size := Nat.lt_of_lt_of_le (lt_of_block HZ0.out) HKk.out.size
 have HE0 := hid (EncN.keep (X := fun _ => False) (Keep.of_below hb1) (fun _ _ e => e) _ (EncN.mono (N' := fun k => B < k ∧ k ≠ w1.heap.size ∧ k < w1.heap.size + 1) (fun k hk => ⟨Nat.lt_of_lt_of_le (lt_of_block HZ0.out) hk.1, by omega, by omega⟩) _ HE0.out))
 have HR1 := hid (HRr.out.keep (X := fun _ => False) (Keep.of_below hb1) (fun _ e => e.elim))
 have HK1 := hid (((Keep.of_below (X := fun k => k = Q) HBW.out).trans HKk.out).trans (Keep.of_below hb1))
 have HZ1 := hid ((hb1.block B hPz).trans ((HKk.out.block B (lt_of_block HZ0.out) (fun e => by have e9 : B = Q := e; omega)).trans HZ0.out))
 obtain ⟨P, hP⟩ : ∃ P, P = w1.heap.size := ⟨_, rfl⟩
 rw [← hP] at hp1 hPz HE0 ⊢
 have HP1 := hid hp1
 have hsz1 := lt_of_block hp1
 clear hb1 hp1 hP HRr HKk CQ HZ0 HR0
 generalize w1.alloc (.cells #[(.slice y0 j0 c0), (.slice none 0 0), (.int .i64 0)] 72) = u1 at *
 have HE0 : Hid (EncN (fun k => B < k ∧ k ≠ P ∧ k < u1.heap.size) u1 .data [(.slice y0 j0 c0)] bb0) := hid (EncN.mono (fun k hk => ⟨hk.1, hk.2.1, by have := hk.2.2; omega⟩) _ HE0.out)
 clear hsz1
 have CQ := hid (ibytes9_any HR1.out)
 go_upto_region 3 with (first | (go_at_call 29; refine CQ.out.mono ?_; rintro en w2 ⟨v, rfl, bb1, E1, o1, r1, k1⟩; obtain ⟨y1, j1, c1, rfl⟩ := form_data (EncN.enc _ E1); have hPx := (k1.block P (lt_of_block HP1.out) (fun e => by have e9 : P = Q := e; omega)).trans HP1.out; obtain ⟨qq1, rr1⟩ := row_at hPx (i := 1) rfl; have HPx := hid hPx; clear hPx; have HE1 := hid E1; have HO1 := hid o1; have HRr := hid r1; have HKk := hid k1; clear E1 o1 r1 k1))
 have hs0 := HPx.out
 have hs1 := row_put hs0 1 (.slice y1 j1 c1)
 have HP2 : Hid ((w2.setCell ⟨P, 1, none⟩ (.slice y1 j1 c1)).heap[P]? = some (.cells #[(.slice y0 j0 c0), (.slice y1 j1 c1), (.int .i64 0)] 72 (0, 0))) := hs1
 have hks : Keep (fun k => k = P) w2 (w2.setCell ⟨P, 1, none⟩ (.slice y1 j1 c1)) := (Keep.refl (fun k => k = P) _).trans (Keep.set (X := fun k => k = P) _ ⟨P, 1, none⟩ (.slice y1 j1 c1) rfl)
 have HR2 := hid (HRr.out.keep hks (fun k e => by have e9 : k = P := e; omega))
 have HK2 := hid ((HK1.out.trans HKk.out).trans2 hks (fun k e => .inr (by have e9 : k = P := e; have := HBE.out; omega)))
 have hkk : Keep (fun k => k = Q ∨ k = P) u1 (w2.setCell ⟨P, 1, none⟩ (.slice y1 j1 c1)) := (HKk.out.mono (fun k _ e => .inl e)).trans (hks.mono (fun k _ e => .inr e))
 have hzz := (hkk.block B (lt_of_block HZ1.out) (fun e => by have e9 : B = Q ∨ B = P := e; omega)).trans HZ1.out
 have HZ2 := hid hzz
 clear hzz
 have HE0 := hid (EncN.hop (Nat.le_of_lt hQB) hkk HE0.out)
 have HE1 := hid (EncN.mono (N' := fun k => B < k ∧ k ≠ P ∧ k < (w2.setCell ⟨P, 1, none⟩ (.slice y1 j1 c1)).heap.size) (fun k hk => ⟨by have := lt_of_block HZ1.out; omega, by have := lt_of_block HP1.out; omega, Nat.lt_of_lt_of_le hk.2 hks.size⟩) _ (EncN.keep hks (fun k hk e => by have e9 : k = P := e; have := lt_of_block HP1.out; have := hk.1; omega) _ HE1.out))
 clear hs0 hs1 hks hkk HRr HKk HPx HP1 HR1 HK1 HZ1 CQ
 generalize w2.setCell ⟨P, 1, none⟩ (.slice y1 j1 c1) = u2 at *
 have CQ := hid (iint9_any HR2.out)
 go_upto_region 4 with (first | (go_at_call 33; refine CQ.out.mono ?_; rintro en w3 ⟨v, rfl, bb2, E2, o2, r2, k2⟩; obtain ⟨y2, rfl⟩ := form_int (EncN.enc _ E2); have hPx := (k2.block P (lt_of_block HP2.out) (fun e => by have e9 : P = Q := e; omega)).trans HP2.out; obtain ⟨qq2, rr2⟩ := row_at hPx (i := 2) rfl; have HPx := hid hPx; clear hPx; have HE2 := hid E2; have HO2 := hid o2; have HRr := hid r2; have HKk := hid k2; clear E2 o2 r2 k2))
 have hs0 := HPx.out
 have hs1 := row_put hs0 2 (.int .i64 y2)
 have HP3 : Hid ((w3.setCell ⟨P, 2, none⟩ (.int .i64 y2)).heap[P]? = some (.cells #[(.slice y0 j0 c0), (.slice y1 j1 c1), (.int .i64 y2)] 72 (0, 0))) := hs1
 have hks : Keep (fun k => k = P) w3 (w3.setCell ⟨P, 2, none⟩ (.int .i64 y2)) := (Keep.refl (fun k => k = P) _).trans (Keep.set (X := fun k => k = P) _ ⟨P, 2, none⟩ (.int .i64 y2) rfl)
 have HR3 := hid (HRr.out.keep hks (fun k e => by have e9 : k = P := e; omega))
 have HK3 := hid ((HK2.out.trans HKk.out).trans2 hks (fun k e => .inr (by have e9 : k = P := e; have := HBE.out; omega)))
 have hkk : Keep (fun k => k = Q ∨ k = P) u2 (w3.setCell ⟨P, 2, none⟩ (.int .i64 y2)) := (HKk.out.mono (fun k _ e => .inl e)).trans (hks.mono (fun k _ e => .inr e))
 have hzz := (hkk.block B (lt_of_block HZ2.out) (fun e => by have e9 : B = Q ∨ B = P := e; omega)).trans HZ2.out
 have HZ3 := hid hzz
 clear hzz
 have HE0 := hid (EncN.hop (Nat.le_of_lt hQB) hkk HE0.out)
 have HE1 := hid (EncN.hop (Nat.le_of_lt hQB) hkk HE1.out)
 have HE2 := hid (EncN.mono (N' := fun k => B < k ∧ k ≠ P ∧ k < (w3.setCell ⟨P, 2, none⟩ (.int .i64 y2)).heap.size) (fun k hk => ⟨by have := lt_of_block HZ2.out; omega, by have := lt_of_block HP2.out; omega, Nat.lt_of_lt_of_le hk.2 hks.size⟩) _ (EncN.keep hks (fun k hk e => by have e9 : k = P := e; have := lt_of_block HP2.out; have := hk.1; omega) _ HE2.out))
 clear hs0 hs1 hks hkk HRr HKk HPx HP2 HR2 HK2 HZ2 CQ
 generalize w3.setCell ⟨P, 2, none⟩ (.int .i64 y2) = u3 at *
 have LD := cells_load (cs := [(.slice y0 j0 c0), (.slice y1 j1 c1), (.int .i64 y2)]) (fun i u hi => (row_at HP3.out hi).1) Tryz.underlying72 rfl (by kernel_rfl)
 have HLD := hid LD
 clear LD
 have HSF := hid (setRow_heap u3 B _ (#[(.slice y0 j0 c0), (.slice y1 j1 c1), (.int .i64 y2)] : Array Value) _ _ HZ3.out)
 have HKS := hid (setRow_keep u3 B (#[(.slice y0 j0 c0), (.slice y1 j1 c1), (.int .i64 y2)] : Array Value))
 have HZZ : Hid (u3.heap[B]? = some (.cells (#[(.slice none 0 0), (.slice none 0 0), (.int .i64 0)] : Array Value) 72 (0, 0))) := HZ3
 apply wp_region_lit
 refine Great.wpList_readTo rfl (some 13) rfl (.agg #[(.slice y0 j0 c0), (.slice y1 j1 c1), (.int .i64 y2)]) (exec_load rfl HLD.out) ?_
 simp only [Act.put, jA, jB, jC, jD, jE, jF]
 refine Go.wpList_store_rowTo rfl 72 _ _ rfl rfl B #[(.slice y0 j0 c0), (.slice y1 j1 c1), (.int .i64 y2)] rfl rfl 72 #[(.slice none 0 0), (.slice none 0 0), (.int .i64 0)] HZZ.out (by as_aux_lemma => kernel_rfl) rfl (by simp [Value.oneCell']) ?_
 generalize u3.setRow B #[(.slice y0 j0 c0), (.slice y1 j1 c1), (.int .i64 y2)] = uZ at *
 go_wp2_with fail
 refine bodyPost_ret (results_cell_row rfl _ _ B 72 _ (0, 0) _ rfl HSF.out Tryz.underlying72 rfl (by kernel_rfl)) rfl ?_
 have hfin : ∀ (s : Sh) (cs : List Value) (bs : List UInt8), EncN (fun k => B < k ∧ k ≠ P ∧ k < u3.heap.size) u3 s cs bs → EncN (fun k => w.heap.size ≤ k ∧ k < uZ.heap.size) uZ s cs bs := fun s cs bs h9 => EncN.mono (fun k hk => ⟨by have := HBE.out; have := hk.1; omega, Nat.lt_of_lt_of_le hk.2.2 HKS.out.size⟩) s (EncN.keep HKS.out (fun k hk e => by have e9 : k = B := e; have := hk.1; omega) s h9)
 have hF : FinI (fun k => w.heap.size ≤ k ∧ k < uZ.heap.size) uZ sPair st [(.slice y0 j0 c0), (.slice y1 j1 c1), (.int .i64 y2)] _ := FinI.cons (hfin _ _ _ HE0.out) HO0.out (FinI.cons (hfin _ _ _ HE1.out) HO1.out (FinI.cons (hfin _ _ _ HE2.out) HO2.out FinI.nil))
 obtain ⟨b, g1, g2, g3⟩ := hF
 refine ⟨[(.slice y0 j0 c0), (.slice y1 j1 c1), (.int .i64 y2)], rfl, b, g1, g2, ?_, HK3.out.trans2 HKS.out (fun k e => .inr (by have e9 : k = B := e; have := HBE.out; omega))⟩
 rw [g3]
 exact HR3.out.keep HKS.out (fun k e => by have e9 : k = B := e; omega)
set_option maxHeartbeats 8000000 in
theorem ilPair_any {w : World} {Q : Nat} {st : Rst} (h : RI w Q st) :
 Calls Tryz.prog 36 #[.pointer (some ⟨Q, 0, none⟩)] w (fun en w' => ∃ v, en = .returned v ∧ RdI (.list sPair) Q w st [v] w') := by
 obtain ⟨i0, hi0, hz0, hz1, hz2⟩ : ∃ i0, Tryz.prog.info? 72 = some i0 ∧ i0.zero = some (.agg #[.slice none 0 0, .slice none 0 0, .int .i64 0]) ∧ i0.size = 3 ∧ i0.bytes = 56 := by
  have h9 : (Tryz.prog.info? 72).map (fun i => (i.zero, i.size, i.bytes)) = some (some (.agg #[.slice none 0 0, .slice none 0 0, .int .i64 0]), 3, 56) := by kernel_rfl
  cases hq : Tryz.prog.info? 72 with
  | none => rw [hq] at h9; cases h9
  | some q => rw [hq] at h9; simp at h9; exact ⟨q, rfl, h9⟩
 have HI0 := hid (And.intro hi0 (And.intro hz0 (And.intro hz1 hz2)))
 clear hi0 hz0 hz1 hz2
 have hQw := h.lt
 have CM := hid (imany9_any h)
 obtain ⟨n, hn⟩ : ∃ n, n = (lookS 5000 st.1 st.2).1 := ⟨_, rfl⟩
 obtain ⟨s1, hs1⟩ : ∃ s1 : Rst, s1 = (st.1.drop (lookS 5000 st.1 st.2).2.1, (lookS 5000 st.1 st.2).2.2) := ⟨_, rfl⟩
 have hn5 : n ≤ 5000 := by rw [hn]; exact lookS_most _ _ _
 have hns : s1.2 ≠ 0 → n = 0 := fun e => by rw [hs1] at e; rw [hn]; exact look_fault2 _ _ _ e
 unfold IMany at CM
 rw [← hn, ← hs1] at CM
 have HN := hid (And.intro hn (And.intro hs1 hns))
 clear hn hs1 hns h
 go_enter Tryz.func36, Tryz.ntmps36
 go_wp2_with (first | (go_at_call 99; refine CM.out.mono ?_; rintro en w1 ⟨rfl, hr, hk⟩; have HR := hid hr; have HK := hid hk; clear hr hk))
 go_loopw [3, 5] (fun x i wr => ∃ (k : Nat) (M : List (List Value × List UInt8)) (ao : Option Addr) (c : Nat) (sk : Rst), x = .slice ao k c ∧ i = .int .i64 (k : Int) ∧ ILp sPair 72 Q w n s1 wr k M ao c sk) (fun _ i _ => n - (intOf i).toNat)
 case atStart => exact ⟨0, [], none, 0, s1, rfl, rfl, ILp.begin HR.out HK.out HN.out.2.2⟩
 case round =>
  obtain ⟨k, M, ao, c, sk, rfl, rfl, ht⟩ := hrel
  have hk := ht.le
  have HT := hid ht
  have CF := hid (ifault_any ht.ri)
  clear ht
  by_cases hlt : k < n
  · have hki : (k : Int) < (n : Int) := by omega
    by_cases hf : sk.2 = 0
    · rw [show decide (sk.2 ≠ 0) = false from by simp [hf]] at CF
      have HF := hid hf
      clear hf
      have CE := hid (istPair_any HT.out.ri)
      go_wp2_with (first
       | (go_at_call 76; refine CF.out.mono ?_; rintro en wf ⟨rfl, rfl⟩)
       | (go_at_call 100; refine CE.out.mono ?_; rintro en w2 ⟨mc, rfl, bb, E, ob, r1, k1⟩; obtain ⟨vv0, vv1, vv2, bv0, bv1, bv2, rfl, _, ev0, ev1, ev2⟩ := Pair_cells (EncN.enc _ E); obtain ⟨y0, j0, c0, rfl⟩ := form_data ev0; obtain ⟨y1, j1, c1, rfl⟩ := form_data ev1; obtain ⟨y2, rfl⟩ := form_int ev2; clear ev0 ev1 ev2; have HE := hid E; have HO := hid ob; have HR1 := hid r1; have HK1 := hid k1; have HB3 := hid ((Below.refl _ w2).alloc (Nat.le_refl _) (.cells #[(.slice y0 j0 c0), (.slice y1 j1 c1), (.int .i64 y2)] 72)); have HOW := hid (own_old (own_keep (X := fun j => j = Q) HT.out.own k1 (fun j e e9 => by have e8 : j = Q := e9; have := (HT.out.own.lt j e).1; omega)) HB3.out); have HSZ := hid (show w.heap.size ≤ (w2.alloc (.cells #[(.slice y0 j0 c0), (.slice y1 j1 c1), (.int .i64 y2)] 72)).heap.size from Nat.le_trans HT.out.keep.size (Nat.le_trans k1.size HB3.out.size)); clear E ob r1 k1)
       | (at_builtin; refine wp_app1 rfl _ _ 33 rfl w.heap.size 72 Tryz.underlying33 HI0.out.1 HI0.out.2.1 HI0.out.2.2.1 HI0.out.2.2.2 (by simp [Value.cells]) (by decide) _ k _ rfl HOW.out w2.heap.size [(.slice y0 j0 c0), (.slice y1 j1 c1), (.int .i64 y2)] rfl (heap_alloc_new w2 (.cells #[(.slice y0 j0 c0), (.slice y1 j1 c1), (.int .i64 y2)] 72)) rfl (fun u hu => by simp only [List.mem_cons, List.not_mem_nil, or_false] at hu; rcases hu with rfl | rfl | rfl <;> rfl) (by omega) (by decide) HSZ.out ?_; intro g cap w4 o4 g4 gg; have HX := hid (HT.out.next hQw hlt HF.out HE.out HO.out HR1.out HK1.out HB3.out o4 g4 gg); clear o4 g4 gg))
      go_roundw
      case rel => exact ⟨k + 1, _, _, _, _, rfl, by go_num, HX.out⟩
      case measure => simp [intOf]; omega
    · rw [show decide (sk.2 ≠ 0) = true from by simp [hf]] at CF
      have HF := hid hf
      clear hf
      go_wp2_with (first | (go_at_call 76; refine CF.out.mono ?_; rintro en wf ⟨rfl, rfl⟩))
      go_ret
      have hT := HT.out
      rw [HN.out.1, HN.out.2.1] at hT
      exact ⟨_, rfl, hT.done (.inr HF.out)⟩
  · have hki : ¬ (k : Int) < (n : Int) := by omega
    go_wp2_with fail
    go_ret
    have hkn : k = n := by omega
    have hT := HT.out
    rw [HN.out.1, HN.out.2.1] at hT
    exact ⟨_, rfl, hT.done (.inl (hkn.trans HN.out.1))⟩
end Go.Proofs.YtmdgifmigikffaaGreat
namespace Go.Proofs.YtmdgifmigikffaaGreat
open Go.RowKit Go.Deep
set_option maxHeartbeats 8000000 in
theorem istWrite_any {w : World} {Q : Nat} {st : Rst} (h : RI w Q st) :
 Calls Tryz.prog 102 #[.pointer (some ⟨Q, 0, none⟩)] w (fun en w' => ∃ cs, en = .returned (.agg cs.toArray) ∧ RdI sWrite Q w st cs w') := by
 have hb : Below w.heap.size w (w.alloc (.cells #[(.slice none 0 0), (.slice none 0 0), (.bool false)] 116)) := (Below.refl _ _).alloc (Nat.le_refl _) _
 have hz := heap_alloc_new w (.cells #[(.slice none 0 0), (.slice none 0 0), (.bool false)] 116)
 have hQB := h.lt
 have HR0 := hid (h.keep (X := fun _ => False) (Keep.of_below hb) (fun _ e => e.elim))
 obtain ⟨B, hB⟩ : ∃ B, B = w.heap.size := ⟨_, rfl⟩
 rw [← hB] at hz hQB
 have HZ0 := hid hz
 have HBW := hid hb
 clear h hb hz
 go_enter Tryz.func102, Tryz.ntmps102
 go_upto_region 1 with fail
 generalize w.alloc (.cells #[(.slice none 0 0), (.slice none 0 0), (.bool false)] 116) = w0 at *
 try rw [← hB]
 have HBE := hid hB
 clear hB
 have CQ := hid (ibytes9_any HR0.out)
 go_upto_region 2 with (first | (go_at_call 29; refine CQ.out.mono ?_; rintro en w1 ⟨v, rfl, bb0, E0, o0, r0, k0⟩; obtain ⟨y0, j0, c0, rfl⟩ := form_data (EncN.enc _ E0); have HE0 := hid E0; have HO0 := hid o0; have HRr := hid r0; have HKk := hid k0; clear E0 o0 r0 k0))
 have hb1 : Below w1.heap.size w1 (w1.alloc (.cells #[(.slice y0 j0 c0), (.slice none 0 0), (.bool false)] 116)) := (Below.refl _ _).alloc (Nat.le_refl _) _
 have hp1 := heap_alloc_new w1 (.cells #[(.slice y0 j0 c0), (.slice none 0 0), (.bool false)] 116)
 have hPz : B < w1.heap.size := Nat.lt_of_lt_of_le (lt_of_block HZ0.out) HKk.out.size
 have HE0 := hid (EncN.keep (X := fun _ => False) (Keep.of_below hb1) (fun _ _ e => e) _ (EncN.mono (N' := fun k => B < k ∧ k ≠ w1.heap.size ∧ k < w1.heap.size + 1) (fun k hk => ⟨Nat.lt_of_lt_of_le (lt_of_block HZ0.out) hk.1, by omega, by omega⟩) _ HE0.out))
 have HR1 := hid (HRr.out.keep (X := fun _ => False) (Keep.of_below hb1) (fun _ e => e.elim))
 have HK1 := hid (((Keep.of_below (X := fun k => k = Q) HBW.out).trans HKk.out).trans (Keep.of_below hb1))
 have HZ1 := hid ((hb1.block B hPz).trans ((HKk.out.block B (lt_of_block HZ0.out) (fun e => by have e9 : B = Q := e; omega)).trans HZ0.out))
 obtain ⟨P, hP⟩ : ∃ P, P = w1.heap.size := ⟨_, rfl⟩
 rw [← hP] at hp1 hPz HE0 ⊢
 have HP1 := hid hp1
 have hsz1 := lt_of_block hp1
 clear hb1 hp1 hP HRr HKk CQ HZ0 HR0
 generalize w1.alloc (.cells #[(.slice y0 j0 c0), (.slice none 0 0), (.bool false)] 116) = u1 at *
 have HE0 : Hid (EncN (fun k => B < k ∧ k ≠ P ∧ k < u1.heap.size) u1 .data [(.slice y0 j0 c0)] bb0) := hid (EncN.mono (fun k hk => ⟨hk.1, hk.2.1, by have := hk.2.2; omega⟩) _ HE0.out)
 clear hsz1
 have CQ := hid (ibytes9_any HR1.out)
 go_upto_region 3 with (first | (go_at_call 29; refine CQ.out.mono ?_; rintro en w2 ⟨v, rfl, bb1, E1, o1, r1, k1⟩; obtain ⟨y1, j1, c1, rfl⟩ := form_data (EncN.enc _ E1); have hPx := (k1.block P (lt_of_block HP1.out) (fun e => by have e9 : P = Q := e; omega)).trans HP1.out; obtain ⟨qq1, rr1⟩ := row_at hPx (i := 1) rfl; have HPx := hid hPx; clear hPx; have HE1 := hid E1; have HO1 := hid o1; have HRr := hid r1; have HKk := hid k1; clear E1 o1 r1 k1))
 have hs0 := HPx.out
 have hs1 := row_put hs0 1 (.slice y1 j1 c1)
 have HP2 : Hid ((w2.setCell ⟨P, 1, none⟩ (.slice y1 j1 c1)).heap[P]? = some (.cells #[(.slice y0 j0 c0), (.slice y1 j1 c1), (.bool false)] 116 (0, 0))) := hs1
 have hks : Keep (fun k => k = P) w2 (w2.setCell ⟨P, 1, none⟩ (.slice y1 j1 c1)) := (Keep.refl (fun k => k = P) _).trans (Keep.set (X := fun k => k = P) _ ⟨P, 1, none⟩ (.slice y1 j1 c1) rfl)
 have HR2 := hid (HRr.out.keep hks (fun k e => by have e9 : k = P := e; omega))
 have HK2 := hid ((HK1.out.trans HKk.out).trans2 hks (fun k e => .inr (by have e9 : k = P := e; have := HBE.out; omega)))
 have hkk : Keep (fun k => k = Q ∨ k = P) u1 (w2.setCell ⟨P, 1, none⟩ (.slice y1 j1 c1)) := (HKk.out.mono (fun k _ e => .inl e)).trans (hks.mono (fun k _ e => .inr e))
 have hzz := (hkk.block B (lt_of_block HZ1.out) (fun e => by have e9 : B = Q ∨ B = P := e; omega)).trans HZ1.out
 have HZ2 := hid hzz
 clear hzz
 have HE0 := hid (EncN.hop (Nat.le_of_lt hQB) hkk HE0.out)
 have HE1 := hid (EncN.mono (N' := fun k => B < k ∧ k ≠ P ∧ k < (w2.setCell ⟨P, 1, none⟩ (.slice y1 j1 c1)).heap.size) (fun k hk => ⟨by have := lt_of_block HZ1.out; omega, by have := lt_of_block HP1.out; omega, Nat.lt_of_lt_of_le hk.2 hks.size⟩) _ (EncN.keep hks (fun k hk e => by have e9 : k = P := e; have := lt_of_block HP1.out; have := hk.1; omega) _ HE1.out))
 clear hs0 hs1 hks hkk HRr HKk HPx HP1 HR1 HK1 HZ1 CQ
 generalize w2.setCell ⟨P, 1, none⟩ (.slice y1 j1 c1) = u2 at *
 have CQ := hid (ibool9_any HR2.out)
 go_upto_region 4 with (first | (go_at_call 34; refine CQ.out.mono ?_; rintro en w3 ⟨v, rfl, bb2, E2, o2, r2, k2⟩; obtain ⟨y2, rfl⟩ := form_bool (EncN.enc _ E2); have hPx := (k2.block P (lt_of_block HP2.out) (fun e => by have e9 : P = Q := e; omega)).trans HP2.out; obtain ⟨qq2, rr2⟩ := row_at hPx (i := 2) rfl; have HPx := hid hPx; clear hPx; have HE2 := hid E2; have HO2 := hid o2; have HRr := hid r2; have HKk := hid k2; clear E2 o2 r2 k2))
 have hs0 := HPx.out
 have hs1 := row_put hs0 2 (.bool y2)
 have HP3 : Hid ((w3.setCell ⟨P, 2, none⟩ (.bool y2)).heap[P]? = some (.cells #[(.slice y0 j0 c0), (.slice y1 j1 c1), (.bool y2)] 116 (0, 0))) := hs1
 have hks : Keep (fun k => k = P) w3 (w3.setCell ⟨P, 2, none⟩ (.bool y2)) := (Keep.refl (fun k => k = P) _).trans (Keep.set (X := fun k => k = P) _ ⟨P, 2, none⟩ (.bool y2) rfl)
 have HR3 := hid (HRr.out.keep hks (fun k e => by have e9 : k = P := e; omega))
 have HK3 := hid ((HK2.out.trans HKk.out).trans2 hks (fun k e => .inr (by have e9 : k = P := e; have := HBE.out; omega)))
 have hkk : Keep (fun k => k = Q ∨ k = P) u2 (w3.setCell ⟨P, 2, none⟩ (.bool y2)) := (HKk.out.mono (fun k _ e => .inl e)).trans (hks.mono (fun k _ e => .inr e))
 have hzz := (hkk.block B (lt_of_block HZ2.out) (fun e => by have e9 : B = Q ∨ B = P := e; omega)).trans HZ2.out
 have HZ3 := hid hzz
 clear hzz
 have HE0 := hid (EncN.hop (Nat.le_of_lt hQB) hkk HE0.out)
 have HE1 := hid (EncN.hop (Nat.le_of_lt hQB) hkk HE1.out)
 have HE2 := hid (EncN.mono (N' := fun k => B < k ∧ k ≠ P ∧ k < (w3.setCell ⟨P, 2, none⟩ (.bool y2)).heap.size) (fun k hk => ⟨by have := lt_of_block HZ2.out; omega, by have := lt_of_block HP2.out; omega, Nat.lt_of_lt_of_le hk.2 hks.size⟩) _ (EncN.keep hks (fun k hk e => by have e9 : k = P := e; have := lt_of_block HP2.out; have := hk.1; omega) _ HE2.out))
 clear hs0 hs1 hks hkk HRr HKk HPx HP2 HR2 HK2 HZ2 CQ
 generalize w3.setCell ⟨P, 2, none⟩ (.bool y2) = u3 at *
 have LD := cells_load (cs := [(.slice y0 j0 c0), (.slice y1 j1 c1), (.bool y2)]) (fun i u hi => (row_at HP3.out hi).1) Tryz.underlying116 rfl (by kernel_rfl)
 have HLD := hid LD
 clear LD
 have HSF := hid (setRow_heap u3 B _ (#[(.slice y0 j0 c0), (.slice y1 j1 c1), (.bool y2)] : Array Value) _ _ HZ3.out)
 have HKS := hid (setRow_keep u3 B (#[(.slice y0 j0 c0), (.slice y1 j1 c1), (.bool y2)] : Array Value))
 have HZZ : Hid (u3.heap[B]? = some (.cells (#[(.slice none 0 0), (.slice none 0 0), (.bool false)] : Array Value) 116 (0, 0))) := HZ3
 apply wp_region_lit
 refine Great.wpList_readTo rfl (some 13) rfl (.agg #[(.slice y0 j0 c0), (.slice y1 j1 c1), (.bool y2)]) (exec_load rfl HLD.out) ?_
 simp only [Act.put, jA, jB, jC, jD, jE, jF]
 refine Go.wpList_store_rowTo rfl 116 _ _ rfl rfl B #[(.slice y0 j0 c0), (.slice y1 j1 c1), (.bool y2)] rfl rfl 116 #[(.slice none 0 0), (.slice none 0 0), (.bool false)] HZZ.out (by as_aux_lemma => kernel_rfl) rfl (by simp [Value.oneCell']) ?_
 generalize u3.setRow B #[(.slice y0 j0 c0), (.slice y1 j1 c1), (.bool y2)] = uZ at *
 go_wp2_with fail
 refine bodyPost_ret (results_cell_row rfl _ _ B 116 _ (0, 0) _ rfl HSF.out Tryz.underlying116 rfl (by kernel_rfl)) rfl ?_
 have hfin : ∀ (s : Sh) (cs : List Value) (bs : List UInt8), EncN (fun k => B < k ∧ k ≠ P ∧ k < u3.heap.size) u3 s cs bs → EncN (fun k => w.heap.size ≤ k ∧ k < uZ.heap.size) uZ s cs bs := fun s cs bs h9 => EncN.mono (fun k hk => ⟨by have := HBE.out; have := hk.1; omega, Nat.lt_of_lt_of_le hk.2.2 HKS.out.size⟩) s (EncN.keep HKS.out (fun k hk e => by have e9 : k = B := e; have := hk.1; omega) s h9)
 have hF : FinI (fun k => w.heap.size ≤ k ∧ k < uZ.heap.size) uZ sWrite st [(.slice y0 j0 c0), (.slice y1 j1 c1), (.bool y2)] _ := FinI.cons (hfin _ _ _ HE0.out) HO0.out (FinI.cons (hfin _ _ _ HE1.out) HO1.out (FinI.cons (hfin _ _ _ HE2.out) HO2.out FinI.nil))
 obtain ⟨b, g1, g2, g3⟩ := hF
 refine ⟨[(.slice y0 j0 c0), (.slice y1 j1 c1), (.bool y2)], rfl, b, g1, g2, ?_, HK3.out.trans2 HKS.out (fun k e => .inr (by have e9 : k = B := e; have := HBE.out; omega))⟩
 rw [g3]
 exact HR3.out.keep HKS.out (fun k e => by have e9 : k = B := e; omega)
set_option maxHeartbeats 8000000 in
theorem ilWrite_any {w : World} {Q : Nat} {st : Rst} (h : RI w Q st) :
 Calls Tryz.prog 38 #[.pointer (some ⟨Q, 0, none⟩)] w (fun en w' => ∃ v, en = .returned v ∧ RdI (.list sWrite) Q w st [v] w') := by
 obtain ⟨i0, hi0, hz0, hz1, hz2⟩ : ∃ i0, Tryz.prog.info? 116 = some i0 ∧ i0.zero = some (.agg #[.slice none 0 0, .slice none 0 0, .bool false]) ∧ i0.size = 3 ∧ i0.bytes = 56 := by
  have h9 : (Tryz.prog.info? 116).map (fun i => (i.zero, i.size, i.bytes)) = some (some (.agg #[.slice none 0 0, .slice none 0 0, .bool false]), 3, 56) := by kernel_rfl
  cases hq : Tryz.prog.info? 116 with
  | none => rw [hq] at h9; cases h9
  | some q => rw [hq] at h9; simp at h9; exact ⟨q, rfl, h9⟩
 have HI0 := hid (And.intro hi0 (And.intro hz0 (And.intro hz1 hz2)))
 clear hi0 hz0 hz1 hz2
 have hQw := h.lt
 have CM := hid (imany9_any h)
 obtain ⟨n, hn⟩ : ∃ n, n = (lookS 5000 st.1 st.2).1 := ⟨_, rfl⟩
 obtain ⟨s1, hs1⟩ : ∃ s1 : Rst, s1 = (st.1.drop (lookS 5000 st.1 st.2).2.1, (lookS 5000 st.1 st.2).2.2) := ⟨_, rfl⟩
 have hn5 : n ≤ 5000 := by rw [hn]; exact lookS_most _ _ _
 have hns : s1.2 ≠ 0 → n = 0 := fun e => by rw [hs1] at e; rw [hn]; exact look_fault2 _ _ _ e
 unfold IMany at CM
 rw [← hn, ← hs1] at CM
 have HN := hid (And.intro hn (And.intro hs1 hns))
 clear hn hs1 hns h
 go_enter Tryz.func38, Tryz.ntmps38
 go_wp2_with (first | (go_at_call 99; refine CM.out.mono ?_; rintro en w1 ⟨rfl, hr, hk⟩; have HR := hid hr; have HK := hid hk; clear hr hk))
 go_loopw [3, 5] (fun x i wr => ∃ (k : Nat) (M : List (List Value × List UInt8)) (ao : Option Addr) (c : Nat) (sk : Rst), x = .slice ao k c ∧ i = .int .i64 (k : Int) ∧ ILp sWrite 116 Q w n s1 wr k M ao c sk) (fun _ i _ => n - (intOf i).toNat)
 case atStart => exact ⟨0, [], none, 0, s1, rfl, rfl, ILp.begin HR.out HK.out HN.out.2.2⟩
 case round =>
  obtain ⟨k, M, ao, c, sk, rfl, rfl, ht⟩ := hrel
  have hk := ht.le
  have HT := hid ht
  have CF := hid (ifault_any ht.ri)
  clear ht
  by_cases hlt : k < n
  · have hki : (k : Int) < (n : Int) := by omega
    by_cases hf : sk.2 = 0
    · rw [show decide (sk.2 ≠ 0) = false from by simp [hf]] at CF
      have HF := hid hf
      clear hf
      have CE := hid (istWrite_any HT.out.ri)
      go_wp2_with (first
       | (go_at_call 76; refine CF.out.mono ?_; rintro en wf ⟨rfl, rfl⟩)
       | (go_at_call 102; refine CE.out.mono ?_; rintro en w2 ⟨mc, rfl, bb, E, ob, r1, k1⟩; obtain ⟨vv0, vv1, vv2, bv0, bv1, bv2, rfl, _, ev0, ev1, ev2⟩ := Write_cells (EncN.enc _ E); obtain ⟨y0, j0, c0, rfl⟩ := form_data ev0; obtain ⟨y1, j1, c1, rfl⟩ := form_data ev1; obtain ⟨y2, rfl⟩ := form_bool ev2; clear ev0 ev1 ev2; have HE := hid E; have HO := hid ob; have HR1 := hid r1; have HK1 := hid k1; have HB3 := hid ((Below.refl _ w2).alloc (Nat.le_refl _) (.cells #[(.slice y0 j0 c0), (.slice y1 j1 c1), (.bool y2)] 116)); have HOW := hid (own_old (own_keep (X := fun j => j = Q) HT.out.own k1 (fun j e e9 => by have e8 : j = Q := e9; have := (HT.out.own.lt j e).1; omega)) HB3.out); have HSZ := hid (show w.heap.size ≤ (w2.alloc (.cells #[(.slice y0 j0 c0), (.slice y1 j1 c1), (.bool y2)] 116)).heap.size from Nat.le_trans HT.out.keep.size (Nat.le_trans k1.size HB3.out.size)); clear E ob r1 k1)
       | (at_builtin; refine wp_app1 rfl _ _ 35 rfl w.heap.size 116 Tryz.underlying35 HI0.out.1 HI0.out.2.1 HI0.out.2.2.1 HI0.out.2.2.2 (by simp [Value.cells]) (by decide) _ k _ rfl HOW.out w2.heap.size [(.slice y0 j0 c0), (.slice y1 j1 c1), (.bool y2)] rfl (heap_alloc_new w2 (.cells #[(.slice y0 j0 c0), (.slice y1 j1 c1), (.bool y2)] 116)) rfl (fun u hu => by simp only [List.mem_cons, List.not_mem_nil, or_false] at hu; rcases hu with rfl | rfl | rfl <;> rfl) (by omega) (by decide) HSZ.out ?_; intro g cap w4 o4 g4 gg; have HX := hid (HT.out.next hQw hlt HF.out HE.out HO.out HR1.out HK1.out HB3.out o4 g4 gg); clear o4 g4 gg))
      go_roundw
      case rel => exact ⟨k + 1, _, _, _, _, rfl, by go_num, HX.out⟩
      case measure => simp [intOf]; omega
    · rw [show decide (sk.2 ≠ 0) = true from by simp [hf]] at CF
      have HF := hid hf
      clear hf
      go_wp2_with (first | (go_at_call 76; refine CF.out.mono ?_; rintro en wf ⟨rfl, rfl⟩))
      go_ret
      have hT := HT.out
      rw [HN.out.1, HN.out.2.1] at hT
      exact ⟨_, rfl, hT.done (.inr HF.out)⟩
  · have hki : ¬ (k : Int) < (n : Int) := by omega
    go_wp2_with fail
    go_ret
    have hkn : k = n := by omega
    have hT := HT.out
    rw [HN.out.1, HN.out.2.1] at hT
    exact ⟨_, rfl, hT.done (.inl (hkn.trans HN.out.1))⟩
end Go.Proofs.YtmdgifmigikffaaGreat
