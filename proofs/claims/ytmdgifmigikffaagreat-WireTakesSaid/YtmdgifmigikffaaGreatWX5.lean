import Derived.WalkKit
import Derived.OpenShut
import Derived.Test.YtmdgifmigikffaaGreatRows
import Derived.WalkSpells
import Derived.WalkLawsBesides
import Derived.Laws.AppendOwnNone
import Derived.ProofKit
import Derived.ShutString
import Derived.ChangeOld
import Derived.Below
import Derived.SizedLaws
import Derived.Deep.Slices
import Derived.Deep.AppendLies
import Derived.Deep.RegionHeld
import Derived.Deep.Strs
import Derived.Deep.RegionHeld3
import Derived.Lib.ConvBytes
import Derived.Laws.AppendOwn
import Derived.Deep.CutRange
import Derived.Deep.MidRow
import Derived.Great.Walk
import Derived.Test.YtmdgifmigikffaaGreatWX1
import Derived.Test.YtmdgifmigikffaaGreatWX2
import Derived.Test.YtmdgifmigikffaaGreatWX3
import Derived.Test.YtmdgifmigikffaaGreatWX4
set_option linter.unusedVariables false
set_option linter.unusedSimpArgs false
set_option maxRecDepth 100000
namespace Go.Proofs.YtmdgifmigikffaaGreat
open Go.RowKit Go.Deep
set_option maxHeartbeats 8000000 in
theorem rColumn_any {w : World} {R : Nat} {st : Rst} (h : RAt w R st.1 st.2) (hl : st.1.length ≤ 140737488355328) :
 Calls Tryz.prog 142 #[.agg #[.pointer (some ⟨R, 0, none⟩)]] w (fun en w' => ∃ cs, en = .returned (.agg cs.toArray) ∧ RdP sColumn R w st cs w') := by
 have hb : Below w.heap.size w ((w.alloc (.cells #[.pointer (some ⟨R, 0, none⟩)] 79)).alloc (.cells #[.string ⟨#[]⟩, .int .i64 0, .bool false] 190)) := ((Below.refl _ _).alloc (Nat.le_refl _) _).alloc (by simp) _
 have hz := (Below.heap_alloc (w.alloc (.cells #[.pointer (some ⟨R, 0, none⟩)] 79)) (.cells #[.string ⟨#[]⟩, .int .i64 0, .bool false] 190) w.heap.size (by simp)).trans (heap_alloc_new w (.cells #[.pointer (some ⟨R, 0, none⟩)] 79))
 have hB := heap_alloc2_new w (.cells #[.pointer (some ⟨R, 0, none⟩)] 79) (.cells #[.string ⟨#[]⟩, .int .i64 0, .bool false] 190)
 obtain ⟨B, hBe⟩ : ∃ B, B = w.heap.size + 1 := ⟨_, rfl⟩
 have hRw := h.lt
 have hRB : R < B := by omega
 have HR0 := hid (h.old hb)
 rw [← hBe] at hB
 have HB0 := hid hB
 have HX0 := hid hz
 have HBW := hid hb
 have HL0 := hid hl
 clear h hb hz hB hl
 go_enter Tryz.func142, Tryz.ntmps142
 go_upto_region 1 with fail
 generalize (w.alloc (.cells #[.pointer (some ⟨R, 0, none⟩)] 79)).alloc (.cells #[.string ⟨#[]⟩, .int .i64 0, .bool false] 190) = w0 at *
 try rw [← hBe]
 have HK0 : Hid (Keep (fun j => j = R ∨ j = B) w0 w0) := hid (Keep.refl _ _)
 have HBE := hid hBe
 clear hBe
 have y0 := (one_cell HX0.out).1
 have CQ := hid (rtake_name 0 HR0.out HL0.out HB0.out rfl hRB)
 go_upto_region 2 with (first | (go_at_call 96; refine CQ.out.mono ?_; rintro en w1 ⟨rfl, v0, hv⟩; have HV0 := hid hv; clear hv))
 clear CQ y0
 have HB1 : Hid (w1.heap[B]? = some (.cells #[v0, .int .i64 0, .bool false] 190 (0, 0))) := HV0.out.2.1
 have HR1 : Hid (RAt w1 R (rdF .name st).2.1 (rdF .name st).2.2) := HV0.out.2.2.1
 have HL1 : Hid ((rdF .name st).2.1.length ≤ 140737488355328) := hid (Nat.le_trans (rd_len _ _) HL0.out)
 have HX1 := hid ((HV0.out.2.2.2.block w.heap.size (lt_of_block HX0.out) (fun e => by have e9 : w.heap.size = R ∨ w.heap.size = B := e; have := HBE.out; omega)).trans HX0.out)
 have HK1 := hid (HK0.out.trans HV0.out.2.2.2)
 have HE0_1 : Hid (EncN (fun j => B < j ∧ j < w1.heap.size) w1 .name [v0] (rdF .name st).1) := hid (EncN.mono (fun j hj => ⟨Nat.lt_of_lt_of_le (lt_of_block HB0.out) hj.1, hj.2⟩) _ HV0.out.1)
 have y0 := (one_cell HX1.out).1
 have CQ := hid (rtake_whole 1 HR1.out HL1.out HB1.out rfl hRB)
 go_upto_region 3 with (first | (go_at_call 80; refine CQ.out.mono ?_; rintro en w2 ⟨rfl, v1, hv⟩; have HV1 := hid hv; clear hv))
 clear CQ y0
 have HB2 : Hid (w2.heap[B]? = some (.cells #[v0, v1, .bool false] 190 (0, 0))) := HV1.out.2.1
 have HR2 : Hid (RAt w2 R (rdF .int (rdF .name st).2).2.1 (rdF .int (rdF .name st).2).2.2) := HV1.out.2.2.1
 have HL2 : Hid ((rdF .int (rdF .name st).2).2.1.length ≤ 140737488355328) := hid (Nat.le_trans (rd_len _ _) HL1.out)
 have HX2 := hid ((HV1.out.2.2.2.block w.heap.size (lt_of_block HX1.out) (fun e => by have e9 : w.heap.size = R ∨ w.heap.size = B := e; have := HBE.out; omega)).trans HX1.out)
 have HK2 := hid (HK1.out.trans HV1.out.2.2.2)
 have HE1_2 : Hid (EncN (fun j => B < j ∧ j < w2.heap.size) w2 .int [v1] (rdF .int (rdF .name st).2).1) := hid (EncN.mono (fun j hj => ⟨Nat.lt_of_lt_of_le (lt_of_block HB1.out) hj.1, hj.2⟩) _ HV1.out.1)
 have HE0_2 : Hid (EncN (fun j => B < j ∧ j < w2.heap.size) w2 .name [v0] (rdF .name st).1) := hid (EncN.mono (fun j hj => ⟨hj.1, Nat.lt_of_lt_of_le hj.2 HV1.out.2.2.2.size⟩) _ (EncN.keep HV1.out.2.2.2 (fun j hj e => by have e9 : j = R ∨ j = B := e; have := hj.1; omega) _ HE0_1.out))
 have y0 := (one_cell HX2.out).1
 have CQ := hid (rtake_flag 2 HR2.out HL2.out HB2.out rfl hRB)
 go_upto_region 4 with (first | (go_at_call 82; refine CQ.out.mono ?_; rintro en w3 ⟨rfl, v2, hv⟩; have HV2 := hid hv; clear hv))
 clear CQ y0
 have HB3 : Hid (w3.heap[B]? = some (.cells #[v0, v1, v2] 190 (0, 0))) := HV2.out.2.1
 have HR3 : Hid (RAt w3 R (rdF .bool (rdF .int (rdF .name st).2).2).2.1 (rdF .bool (rdF .int (rdF .name st).2).2).2.2) := HV2.out.2.2.1
 have HL3 : Hid ((rdF .bool (rdF .int (rdF .name st).2).2).2.1.length ≤ 140737488355328) := hid (Nat.le_trans (rd_len _ _) HL2.out)
 have HX3 := hid ((HV2.out.2.2.2.block w.heap.size (lt_of_block HX2.out) (fun e => by have e9 : w.heap.size = R ∨ w.heap.size = B := e; have := HBE.out; omega)).trans HX2.out)
 have HK3 := hid (HK2.out.trans HV2.out.2.2.2)
 have HE2_3 : Hid (EncN (fun j => B < j ∧ j < w3.heap.size) w3 .bool [v2] (rdF .bool (rdF .int (rdF .name st).2).2).1) := hid (EncN.mono (fun j hj => ⟨Nat.lt_of_lt_of_le (lt_of_block HB2.out) hj.1, hj.2⟩) _ HV2.out.1)
 have HE0_3 : Hid (EncN (fun j => B < j ∧ j < w3.heap.size) w3 .name [v0] (rdF .name st).1) := hid (EncN.mono (fun j hj => ⟨hj.1, Nat.lt_of_lt_of_le hj.2 HV2.out.2.2.2.size⟩) _ (EncN.keep HV2.out.2.2.2 (fun j hj e => by have e9 : j = R ∨ j = B := e; have := hj.1; omega) _ HE0_2.out))
 have HE1_3 : Hid (EncN (fun j => B < j ∧ j < w3.heap.size) w3 .int [v1] (rdF .int (rdF .name st).2).1) := hid (EncN.mono (fun j hj => ⟨hj.1, Nat.lt_of_lt_of_le hj.2 HV2.out.2.2.2.size⟩) _ (EncN.keep HV2.out.2.2.2 (fun j hj e => by have e9 : j = R ∨ j = B := e; have := hj.1; omega) _ HE1_2.out))
 obtain ⟨y0, rfl⟩ := form_name (EncN.enc _ HE0_3.out)
 obtain ⟨y1, rfl⟩ := form_int (EncN.enc _ HE1_3.out)
 obtain ⟨y2, rfl⟩ := form_bool (EncN.enc _ HE2_3.out)
 obtain ⟨q0, r0⟩ := row_at (cs := [(.string y0), (.int .i64 y1), (.bool y2)]) HB3.out (i := 0) rfl
 obtain ⟨q1, r1⟩ := row_at (cs := [(.string y0), (.int .i64 y1), (.bool y2)]) HB3.out (i := 1) rfl
 obtain ⟨q2, r2⟩ := row_at (cs := [(.string y0), (.int .i64 y1), (.bool y2)]) HB3.out (i := 2) rfl
 have hs0 : w3.heap[B]? = some (.cells ([(.string y0), (.int .i64 y1), (.bool y2)] : List Value).toArray 190 (0, 0)) := HB3.out
 have hs1 := row_put hs0 0 (.string y0)
 have hs2 := row_put hs1 1 (.int .i64 y1)
 have hs3 := row_put hs2 2 (.bool y2)
 have hks : Keep (fun j => j = B) w3 (((w3.setCell ⟨B, 0, none⟩ (.string y0)).setCell ⟨B, 1, none⟩ (.int .i64 y1)).setCell ⟨B, 2, none⟩ (.bool y2)) := (((Keep.refl (fun j => j = B) _).trans (Keep.set (X := fun j => j = B) _ ⟨B, 0, none⟩ (.string y0) rfl)).trans (Keep.set (X := fun j => j = B) _ ⟨B, 1, none⟩ (.int .i64 y1) rfl)).trans (Keep.set (X := fun j => j = B) _ ⟨B, 2, none⟩ (.bool y2) rfl)
 have HSF : Hid ((((w3.setCell ⟨B, 0, none⟩ (.string y0)).setCell ⟨B, 1, none⟩ (.int .i64 y1)).setCell ⟨B, 2, none⟩ (.bool y2)).heap[B]? = some (.cells #[(.string y0), (.int .i64 y1), (.bool y2)] 190 (0, 0))) := hs3
 have HKS := hid hks
 clear hks hs0 hs1 hs2 hs3
 go_wp2_with fail
 refine bodyPost_ret (results_cell_row rfl _ _ B 190 _ (0, 0) _ rfl HSF.out Tryz.underlying190 rfl (by kernel_rfl)) rfl ?_
 have hfin : ∀ (s : Sh) (cs : List Value) (bs : List UInt8), EncN (fun j => B < j ∧ j < w3.heap.size) w3 s cs bs → EncN (fun j => w.heap.size ≤ j ∧ j < (((w3.setCell ⟨B, 0, none⟩ (.string y0)).setCell ⟨B, 1, none⟩ (.int .i64 y1)).setCell ⟨B, 2, none⟩ (.bool y2)).heap.size) (((w3.setCell ⟨B, 0, none⟩ (.string y0)).setCell ⟨B, 1, none⟩ (.int .i64 y1)).setCell ⟨B, 2, none⟩ (.bool y2)) s cs bs := fun s cs bs h => EncN.mono (fun j hj => ⟨by have := HBE.out; omega, Nat.lt_of_lt_of_le hj.2 HKS.out.size⟩) s (EncN.keep HKS.out (fun j hj e => by have e9 : j = B := e; have := hj.1; omega) s h)
 refine ⟨[(.string y0), (.int .i64 y1), (.bool y2)], rfl, ?_, HR3.out.keepK HKS.out (fun j e => by have e9 : j = B := e; omega), ?_⟩
 · exact ⟨[(.string y0)], [(.int .i64 y1), (.bool y2)], _, _, rfl, rfl, hfin _ _ _ HE0_3.out, ⟨[(.int .i64 y1)], [(.bool y2)], _, _, rfl, rfl, hfin _ _ _ HE1_3.out, ⟨[(.bool y2)], [], _, _, rfl, rfl, hfin _ _ _ HE2_3.out, ⟨rfl, rfl⟩⟩⟩⟩
 · exact (Keep.of_below HBW.out).trans2 (HK3.out.trans (HKS.out.mono (fun j _ e => .inr e))) (fun j e => by rcases e with e | e <;> first | exact .inl e | exact .inr (by have := HBE.out; omega))
set_option maxHeartbeats 8000000 in
theorem rlist_Column {w : World} {R B : Nat} {st : Rst} {cs : List Value} {t : TypeId} (i : Nat) (h : RAt w R st.1 st.2) (hl : st.1.length ≤ 140737488355328) (hB : w.heap[B]? = some (.cells cs.toArray t (0, 0))) (hi : cs[i]? = some (.slice none 0 0)) (hRB : R < B) :
 Calls Tryz.prog 141 #[.agg #[.pointer (some ⟨R, 0, none⟩)], .pointer (some ⟨B, i, none⟩), (.func (.func 142) #[.agg #[.pointer (some ⟨R, 0, none⟩)]] #[])] w (fun en w' => en = .returned (.tuple #[]) ∧ ∃ v, TkP (.list sColumn) R B w st cs t i v w') := by
 obtain ⟨i0, hi0, hz0, hz1, hz2⟩ : ∃ i0, Tryz.prog.info? 190 = some i0 ∧ i0.zero = some (.agg #[.string .empty, .int .i64 0, .bool false]) ∧ i0.size = 3 ∧ i0.bytes = 32 := by
  have h9 : (Tryz.prog.info? 190).map (fun i => (i.zero, i.size, i.bytes)) = some (some (.agg #[.string .empty, .int .i64 0, .bool false]), 3, 32) := by kernel_rfl
  cases hq : Tryz.prog.info? 190 with
  | none => rw [hq] at h9; cases h9
  | some q => rw [hq] at h9; simp at h9; exact ⟨q, rfl, h9⟩
 have HI0 := hid (And.intro hi0 (And.intro hz0 (And.intro hz1 hz2)))
 clear hi0 hz0 hz1 hz2
 have hb : Below w.heap.size w (w.alloc (.cells #[.pointer (some ⟨R, 0, none⟩)] 79)) := (Below.refl _ _).alloc (Nat.le_refl _) _
 have hz := heap_alloc_new w (.cells #[.pointer (some ⟨R, 0, none⟩)] 79)
 have hRw := h.lt
 have hBw := lt_of_block hB
 have HRW := hid hRw
 have HBW := hid hBw
 have H := hid (h.old hb)
 have HB := hid hb
 have HF := hid ((hb.block _ hBw).trans hB)
 have HI := hid hi
 have HZ := hid hz
 have HLE := hid hl
 clear h hB hi hb hz hl
 go_enter Tryz.func141, Tryz.ntmps141
 go_upto_region 1 with fail
 generalize w.alloc (.cells #[.pointer (some ⟨R, 0, none⟩)] 79) = w1 at *
 obtain ⟨z0, z1⟩ := one_cell HZ.out
 obtain ⟨n, hn⟩ : ∃ n, n = (lookS 5000 st.1 st.2).1 := ⟨_, rfl⟩
 obtain ⟨s1, hs1⟩ : ∃ s1 : Rst, s1 = (st.1.drop (lookS 5000 st.1 st.2).2.1, (lookS 5000 st.1 st.2).2.2) := ⟨_, rfl⟩
 have HN := hid (And.intro hn hs1)
 have hn5 : n ≤ 5000 := by rw [hn]; exact lookS_most _ _ _
 have C0 : Hid (Calls Tryz.prog 140 #[.pointer (some ⟨R, 0, none⟩), .int .i64 5000] w1 (fun en w' => en = .returned (.int .i64 (n : Int)) ∧ RAt w' R s1.1 s1.2 ∧ w1.grownBy w' (some R))) := hid ((smallR_any w1 R st.1 st.2 5000 (by decide) H.out).mono (fun en w9 h9 => by rw [hn, hs1]; exact h9))
 have HS1 : Hid (s1.1.length ≤ st.1.length) := hid (by rw [hs1]; simp)
 clear hn hs1
 go_wp2_with (first | (go_at_call 140; refine C0.out.mono ?_; rintro en w2 ⟨rfl, h2, g2⟩; have H2 := hid h2; have K2 := hid (show Keep (fun j => j = R ∨ j = B) w w2 from (Keep.of_below HB.out).trans ((Keep.of_grown (X := fun j => j = R) g2 (fun j e => by cases e; rfl)).mono (fun j _ e => .inl e))); have HF2 := hid ((g2.block B (lt_of_block HF.out) (fun e => by cases e; omega)).trans HF.out); have HZ2 := hid ((g2.block w.heap.size (lt_of_block HZ.out) (fun e => by cases e; omega)).trans HZ.out); clear h2 g2))
 clear z0 z1 C0
 go_loopw [9] (fun ix wr => ∃ (k : Nat) (M : List (List Value × List UInt8)) (ao : Option Addr) (c : Nat) (sk : Rst), ix = .int .i64 (k : Int) ∧ wr.heap[w.heap.size]? = some (.cells #[.pointer (some ⟨R, 0, none⟩)] 79 (0, 0)) ∧ TLp sColumn 190 R B i w cs t n s1 wr k M ao c sk) (fun ix _ => n - (intOf ix).toNat)
 case atStart => exact ⟨0, [], none, 0, s1, rfl, HZ2.out, TLp.begin HI.out HF2.out H2.out K2.out⟩
 case round =>
  obtain ⟨k, M, ao, c, sk, rfl, hzr, ht⟩ := hrel
  have hk := ht.le
  have HT := hid ht
  have HZR := hid hzr
  clear ht hzr
  by_cases hlt : k < n
  · have hki : (k : Int) < (n : Int) := by omega
    go_upto_region 3 with fail
    have hWd : Below wr.heap.size wr wr.drew := ⟨rfl, rfl, rfl, Nat.le_refl _, fun _ _ => rfl⟩
    have HLk : Hid (sk.1.length ≤ 140737488355328) := hid (by have := HT.out.small; have := HS1.out; have := HLE.out; omega)
    have HTd : Hid (RAt wr.drew R sk.1 sk.2) := hid (HT.out.rat.old hWd)
    have HFd : Hid (wr.drew.heap[B]? = some (.cells (cs.set i (.slice ao k c)).toArray t (0, 0))) := HT.out.field
    have HLI := hid (List.getElem?_set_self (a := .slice ao k c) (List.getElem?_eq_some_iff.1 HI.out).1)
    have CN := hid (rColumn_any HTd.out HLk.out)
    have HUD : Hid (∀ mc w9, RdP sColumn R wr.drew sk mc w9 → RdP sColumn R wr sk mc w9) := hid fun _ _ h => h.undrew
    have HZd : Hid (wr.drew.heap[w.heap.size]? = some (.cells #[.pointer (some ⟨R, 0, none⟩)] 79 (0, 0))) := HZR.out
    clear hWd
    refine wp_region_noPanic ?_
    refine wp_region_L (S := fun W => Hid (W.cell? ⟨B, i, none⟩ = some (.slice ao k c))) 9 (by kernel_rfl) ?_
    have HD0 := hid (row_at HFd.out HLI.out).1
    generalize wr.drew = Wd at *
    refine tkV 0 (.pointer (some ⟨B, i, none⟩)) rfl (by kernel_rfl) (fun _ _ _ => False.elim) (Or.inl ⟨by rfl, fun W9 _ => by simp only [jA, jB, jC]; go_simp⟩) (fun _ => HD0) ?_
    simp only [Act.put, jA, jB, jC, jD, jE, jF]
    refine tkV 1 (.pointer (some ⟨B, i, none⟩)) rfl (by kernel_rfl) (fun _ _ _ => False.elim) (Or.inl ⟨by rfl, fun W9 _ => by simp only [jA, jB, jC]; go_simp⟩) (fun _ => HD0) ?_
    simp only [Act.put, jA, jB, jC, jD, jE, jF]
    refine tkV 2 (.pointer (some ⟨B, i, none⟩)) rfl (by kernel_rfl) (fun _ _ _ => False.elim) (Or.inl ⟨by rfl, fun W9 _ => by simp only [jA, jB, jC]; go_simp⟩) (fun _ => HD0) ?_
    simp only [Act.put, jA, jB, jC, jD, jE, jF]
    refine tkV 4 (.func (.func 142) #[.agg #[.pointer (some ⟨R, 0, none⟩)]] #[]) rfl (by kernel_rfl) (fun _ _ _ => False.elim) (Or.inl ⟨by rfl, fun W9 _ => by simp only [jA, jB, jC]; go_simp⟩) (fun _ => HD0) ?_
    simp only [Act.put, jA, jB, jC, jD, jE, jF]
    refine tkL 3 (.slice ao k c) [3, 7, 9] rfl (by kernel_rfl) (fun _ _ _ => False.elim) HD0 (Or.inl ⟨by rfl, fun W9 hW => by have d9 := hW.out; clear hW; simp only [jA, jB, jC]; go_simp⟩) ?_
    simp only [Act.put, jA, jB, jC, jD, jE, jF]
    refine rdL 5 (by kernel_rfl) rfl fun K hK => ?_
    go_simp
    go_wp2_with (first | (go_at_call 142; refine CN.out.mono ?_; rintro en wT ⟨mc, rfl, hv⟩; obtain ⟨v0, v1, v2, b0, b1, b2, rfl, _, e0, e1, e2⟩ := Column_cells (EncN.enc _ hv.1); obtain ⟨y0, rfl⟩ := form_name e0; obtain ⟨y1, rfl⟩ := form_int e1; obtain ⟨y2, rfl⟩ := form_bool e2; clear e0 e1 e2; have HV := hid (HUD.out _ _ hv); have HZT := hid ((hv.2.2.block w.heap.size (lt_of_block HZd.out) (fun e => by have e9 : w.heap.size = R := e; omega)).trans HZd.out); have HFT := hid ((hv.2.2.block B (lt_of_block HFd.out) (fun e => by have e9 : B = R := e; omega)).trans HFd.out); clear hv))
    refine hK.out _ _ (hid (row_at HFT.out HLI.out).1) fun _ => ?_
    clear hK K
    have H3 : Hid (Below wT.heap.size wT (wT.alloc (.cells #[.string y0, .int .i64 y1, .bool y2] 190))) := hid ((Below.refl _ _).alloc (Nat.le_refl _) _)
    have HR3 := hid (heap_alloc_new wT (.cells #[.string y0, .int .i64 y1, .bool y2] 190))
    have HF3 := hid ((H3.out.block B (lt_of_block HFT.out)).trans HFT.out)
    have HOW := hid (own_old (own_keep (X := fun j => j = R) HT.out.own (show Keep _ wr wT from HV.out.2.2) (fun j e e9 => by have e8 : j = R := e9; have := (HT.out.own.lt j e).1; omega)) H3.out)
    have HSZ : Hid (w.heap.size + 1 ≤ (wT.alloc (.cells #[.string y0, .int .i64 y1, .bool y2] 190)).heap.size) := hid (by have := lt_of_block HZT.out; have := H3.out.size; show _ ≤ _; omega)
    refine rdL 6 (by kernel_rfl) rfl fun K hK => ?_
    go_simp
    refine hK.out _ _ (hid (row_at HF3.out HLI.out).1) fun _ => ?_
    clear hK K
    refine rdL 7 (by kernel_rfl) rfl fun K hK => ?_
    refine step_app1 (by rfl) (.tmp 14) (.tmp 17) 36 (by rfl) (w.heap.size + 1) 190 Tryz.underlying36 HI0.out.1 HI0.out.2.1 HI0.out.2.2.1 HI0.out.2.2.2 (by simp [Value.cells]) (by decide) _ k _ (by rfl) HOW.out wT.heap.size [.string y0, .int .i64 y1, .bool y2] (by rfl) HR3.out rfl (fun u hu => by simp only [List.mem_cons, List.not_mem_nil, or_false] at hu; rcases hu with rfl | rfl | rfl <;> rfl) (by omega) (by decide) HSZ.out (fun g cap w' o5 g5 gg5 => ?_)
    have HF4 := hid (heap_kept g5 HF3.out (fun e => by have := (HT.out.own.lt B e.symm).1; omega))
    have HZ5 : Hid ((w'.setCell ⟨B, i, none⟩ (.slice (some ⟨g, 0, none⟩) (k + 1) cap)).heap[w.heap.size]? = some (.cells #[.pointer (some ⟨R, 0, none⟩)] 79 (0, 0))) := hid (heap_kept (grown_set w' ⟨B, i, none⟩ _) (heap_kept g5 ((H3.out.block _ (lt_of_block HZT.out)).trans HZT.out) (fun e => by have := (HT.out.own.lt _ e.symm).1; omega)) (fun e => by have e9 : w.heap.size = B := (by simpa using e); have := HBW.out; omega))
    have HNX := hid (HT.out.next HRW.out HBW.out hRB hlt (show RdP sColumn R wr sk [.string y0, .int .i64 y1, .bool y2] wT from HV.out) H3.out o5 g5 gg5)
    clear o5 g5 gg5
    refine hK.out _ _ (hid (row_at HF4.out HLI.out).1) fun _ => ?_
    clear hK K
    simp only [Act.put, jA, jB, jC, jD, jE, jF]
    refine tkV 8 (.pointer (some ⟨B, i, none⟩)) rfl (by kernel_rfl) (fun _ _ _ => False.elim) (Or.inl ⟨by rfl, fun W9 _ => by simp only [jA, jB, jC]; go_simp⟩) (fun _ => hid (row_at HF4.out HLI.out).1) ?_
    simp only [Act.put, jA, jB, jC, jD, jE, jF]
    obtain ⟨q0, q1⟩ := row_at HF4.out HLI.out
    refine rdS (by kernel_rfl) rfl fun K hK => ?_
    go_simp
    refine hK.out _ _ ?_
    clear hK K q0 q1
    refine doneL (by kernel_rfl) (NoPanic.normal ?_) _
    generalize w'.setCell ⟨B, i, none⟩ (.slice (some ⟨g, 0, none⟩) (k + 1) cap) = w5 at *
    obtain ⟨p0, p1⟩ := one_cell HZ5.out
    have CE := hid (err_any w5 R _ _ HNX.out.1)
    obtain ⟨ev, hev⟩ : ∃ ev, ev = (rdF sColumn sk).2.2 := ⟨_, rfl⟩
    rw [← hev] at CE
    by_cases h0 : ev = 0
    · have HNE := hid (HNX.out.2.1 (by rw [← hev]; exact h0))
      subst h0
      clear hev
      go_wp2_with (first | (go_at_call 132; refine CE.out.mono ?_; rintro en w6 ⟨rfl, rfl⟩))
      go_roundw
      case rel => exact ⟨k + 1, _, _, _, _, by go_num, HZ5.out, HNE.out⟩
      case measure => simp [intOf]; omega
    · have HNE := hid (HNX.out.2.2 (by rw [← hev]; exact h0) hn5)
      have hbe : (ev != 0) = true := by simp [h0]
      clear hev
      go_wp2_with (first | (go_at_call 132; refine CE.out.mono ?_; rintro en w6 ⟨rfl, rfl⟩))
      (try simp only [Exit.inBlock, Exit.then]); refine bodyPost_ret (results_none rfl _ _ _) rfl ?_
      obtain ⟨m1, m2, m3, m4⟩ := HNE.out
      refine ⟨rfl, .slice (some ⟨g, 0, none⟩) (k + 1) cap, ?_, m2, ?_, m4⟩
      · simp only [rdF]; rw [← HN.out.1, ← HN.out.2]; exact m1
      · simp only [rdF]; rw [← HN.out.1, ← HN.out.2]; exact m3
  · obtain rfl : n = k := by omega
    have hki : ¬ (n : Int) < (n : Int) := by omega
    go_wp2_with fail
    go_end0
    obtain ⟨p1, p2⟩ := HT.out.done hn5
    refine ⟨rfl, .slice ao n c, ?_, HT.out.field, ?_, HT.out.keep⟩
    · simp only [rdF]; rw [← HN.out.1, ← HN.out.2]; exact p1
    · simp only [rdF]; rw [← HN.out.1, ← HN.out.2]; exact p2
end Go.Proofs.YtmdgifmigikffaaGreat
namespace Go.Proofs.YtmdgifmigikffaaGreat
open Go.RowKit Go.Deep
set_option maxHeartbeats 8000000 in
theorem rTable_any {w : World} {R : Nat} {st : Rst} (h : RAt w R st.1 st.2) (hl : st.1.length ≤ 140737488355328) :
 Calls Tryz.prog 93 #[.agg #[.pointer (some ⟨R, 0, none⟩)]] w (fun en w' => ∃ cs, en = .returned (.agg cs.toArray) ∧ RdP sTable R w st cs w') := by
 have hb : Below w.heap.size w ((w.alloc (.cells #[.pointer (some ⟨R, 0, none⟩)] 79)).alloc (.cells #[.int .i64 0, .string ⟨#[]⟩, .slice none 0 0, .slice none 0 0] 39)) := ((Below.refl _ _).alloc (Nat.le_refl _) _).alloc (by simp) _
 have hz := (Below.heap_alloc (w.alloc (.cells #[.pointer (some ⟨R, 0, none⟩)] 79)) (.cells #[.int .i64 0, .string ⟨#[]⟩, .slice none 0 0, .slice none 0 0] 39) w.heap.size (by simp)).trans (heap_alloc_new w (.cells #[.pointer (some ⟨R, 0, none⟩)] 79))
 have hB := heap_alloc2_new w (.cells #[.pointer (some ⟨R, 0, none⟩)] 79) (.cells #[.int .i64 0, .string ⟨#[]⟩, .slice none 0 0, .slice none 0 0] 39)
 obtain ⟨B, hBe⟩ : ∃ B, B = w.heap.size + 1 := ⟨_, rfl⟩
 have hRw := h.lt
 have hRB : R < B := by omega
 have HR0 := hid (h.old hb)
 rw [← hBe] at hB
 have HB0 := hid hB
 have HX0 := hid hz
 have HBW := hid hb
 have HL0 := hid hl
 clear h hb hz hB hl
 go_enter Tryz.func93, Tryz.ntmps93
 go_upto_region 1 with fail
 generalize (w.alloc (.cells #[.pointer (some ⟨R, 0, none⟩)] 79)).alloc (.cells #[.int .i64 0, .string ⟨#[]⟩, .slice none 0 0, .slice none 0 0] 39) = w0 at *
 try rw [← hBe]
 have HK0 : Hid (Keep (fun j => j = R ∨ j = B) w0 w0) := hid (Keep.refl _ _)
 have HBE := hid hBe
 clear hBe
 have y0 := (one_cell HX0.out).1
 have CQ := hid (rtake_whole 0 HR0.out HL0.out HB0.out rfl hRB)
 go_upto_region 2 with (first | (go_at_call 80; refine CQ.out.mono ?_; rintro en w1 ⟨rfl, v0, hv⟩; have HV0 := hid hv; clear hv))
 clear CQ y0
 have HB1 : Hid (w1.heap[B]? = some (.cells #[v0, .string ⟨#[]⟩, .slice none 0 0, .slice none 0 0] 39 (0, 0))) := HV0.out.2.1
 have HR1 : Hid (RAt w1 R (rdF .int st).2.1 (rdF .int st).2.2) := HV0.out.2.2.1
 have HL1 : Hid ((rdF .int st).2.1.length ≤ 140737488355328) := hid (Nat.le_trans (rd_len _ _) HL0.out)
 have HX1 := hid ((HV0.out.2.2.2.block w.heap.size (lt_of_block HX0.out) (fun e => by have e9 : w.heap.size = R ∨ w.heap.size = B := e; have := HBE.out; omega)).trans HX0.out)
 have HK1 := hid (HK0.out.trans HV0.out.2.2.2)
 have HE0_1 : Hid (EncN (fun j => B < j ∧ j < w1.heap.size) w1 .int [v0] (rdF .int st).1) := hid (EncN.mono (fun j hj => ⟨Nat.lt_of_lt_of_le (lt_of_block HB0.out) hj.1, hj.2⟩) _ HV0.out.1)
 have y0 := (one_cell HX1.out).1
 have CQ := hid (rtake_name 1 HR1.out HL1.out HB1.out rfl hRB)
 go_upto_region 3 with (first | (go_at_call 96; refine CQ.out.mono ?_; rintro en w2 ⟨rfl, v1, hv⟩; have HV1 := hid hv; clear hv))
 clear CQ y0
 have HB2 : Hid (w2.heap[B]? = some (.cells #[v0, v1, .slice none 0 0, .slice none 0 0] 39 (0, 0))) := HV1.out.2.1
 have HR2 : Hid (RAt w2 R (rdF .name (rdF .int st).2).2.1 (rdF .name (rdF .int st).2).2.2) := HV1.out.2.2.1
 have HL2 : Hid ((rdF .name (rdF .int st).2).2.1.length ≤ 140737488355328) := hid (Nat.le_trans (rd_len _ _) HL1.out)
 have HX2 := hid ((HV1.out.2.2.2.block w.heap.size (lt_of_block HX1.out) (fun e => by have e9 : w.heap.size = R ∨ w.heap.size = B := e; have := HBE.out; omega)).trans HX1.out)
 have HK2 := hid (HK1.out.trans HV1.out.2.2.2)
 have HE1_2 : Hid (EncN (fun j => B < j ∧ j < w2.heap.size) w2 .name [v1] (rdF .name (rdF .int st).2).1) := hid (EncN.mono (fun j hj => ⟨Nat.lt_of_lt_of_le (lt_of_block HB1.out) hj.1, hj.2⟩) _ HV1.out.1)
 have HE0_2 : Hid (EncN (fun j => B < j ∧ j < w2.heap.size) w2 .int [v0] (rdF .int st).1) := hid (EncN.mono (fun j hj => ⟨hj.1, Nat.lt_of_lt_of_le hj.2 HV1.out.2.2.2.size⟩) _ (EncN.keep HV1.out.2.2.2 (fun j hj e => by have e9 : j = R ∨ j = B := e; have := hj.1; omega) _ HE0_1.out))
 have y0 := (one_cell HX2.out).1
 have CQ := hid (rlist_Column 2 HR2.out HL2.out HB2.out rfl hRB)
 go_upto_region 4 with (first | (go_at_call 141; refine CQ.out.mono ?_; rintro en w3 ⟨rfl, v2, hv⟩; have HV2 := hid hv; clear hv))
 clear CQ y0
 have HB3 : Hid (w3.heap[B]? = some (.cells #[v0, v1, v2, .slice none 0 0] 39 (0, 0))) := HV2.out.2.1
 have HR3 : Hid (RAt w3 R (rdF (.list sColumn) (rdF .name (rdF .int st).2).2).2.1 (rdF (.list sColumn) (rdF .name (rdF .int st).2).2).2.2) := HV2.out.2.2.1
 have HL3 : Hid ((rdF (.list sColumn) (rdF .name (rdF .int st).2).2).2.1.length ≤ 140737488355328) := hid (Nat.le_trans (rd_len _ _) HL2.out)
 have HX3 := hid ((HV2.out.2.2.2.block w.heap.size (lt_of_block HX2.out) (fun e => by have e9 : w.heap.size = R ∨ w.heap.size = B := e; have := HBE.out; omega)).trans HX2.out)
 have HK3 := hid (HK2.out.trans HV2.out.2.2.2)
 have HE2_3 : Hid (EncN (fun j => B < j ∧ j < w3.heap.size) w3 (.list sColumn) [v2] (rdF (.list sColumn) (rdF .name (rdF .int st).2).2).1) := hid (EncN.mono (fun j hj => ⟨Nat.lt_of_lt_of_le (lt_of_block HB2.out) hj.1, hj.2⟩) _ HV2.out.1)
 have HE0_3 : Hid (EncN (fun j => B < j ∧ j < w3.heap.size) w3 .int [v0] (rdF .int st).1) := hid (EncN.mono (fun j hj => ⟨hj.1, Nat.lt_of_lt_of_le hj.2 HV2.out.2.2.2.size⟩) _ (EncN.keep HV2.out.2.2.2 (fun j hj e => by have e9 : j = R ∨ j = B := e; have := hj.1; omega) _ HE0_2.out))
 have HE1_3 : Hid (EncN (fun j => B < j ∧ j < w3.heap.size) w3 .name [v1] (rdF .name (rdF .int st).2).1) := hid (EncN.mono (fun j hj => ⟨hj.1, Nat.lt_of_lt_of_le hj.2 HV2.out.2.2.2.size⟩) _ (EncN.keep HV2.out.2.2.2 (fun j hj e => by have e9 : j = R ∨ j = B := e; have := hj.1; omega) _ HE1_2.out))
 have y0 := (one_cell HX3.out).1
 have CQ := hid (rlist_int 3 HR3.out HL3.out HB3.out rfl hRB)
 go_upto_region 5 with (first | (go_at_call 143; refine CQ.out.mono ?_; rintro en w4 ⟨rfl, v3, hv⟩; have HV3 := hid hv; clear hv))
 clear CQ y0
 have HB4 : Hid (w4.heap[B]? = some (.cells #[v0, v1, v2, v3] 39 (0, 0))) := HV3.out.2.1
 have HR4 : Hid (RAt w4 R (rdF (.list .int) (rdF (.list sColumn) (rdF .name (rdF .int st).2).2).2).2.1 (rdF (.list .int) (rdF (.list sColumn) (rdF .name (rdF .int st).2).2).2).2.2) := HV3.out.2.2.1
 have HL4 : Hid ((rdF (.list .int) (rdF (.list sColumn) (rdF .name (rdF .int st).2).2).2).2.1.length ≤ 140737488355328) := hid (Nat.le_trans (rd_len _ _) HL3.out)
 have HX4 := hid ((HV3.out.2.2.2.block w.heap.size (lt_of_block HX3.out) (fun e => by have e9 : w.heap.size = R ∨ w.heap.size = B := e; have := HBE.out; omega)).trans HX3.out)
 have HK4 := hid (HK3.out.trans HV3.out.2.2.2)
 have HE3_4 : Hid (EncN (fun j => B < j ∧ j < w4.heap.size) w4 (.list .int) [v3] (rdF (.list .int) (rdF (.list sColumn) (rdF .name (rdF .int st).2).2).2).1) := hid (EncN.mono (fun j hj => ⟨Nat.lt_of_lt_of_le (lt_of_block HB3.out) hj.1, hj.2⟩) _ HV3.out.1)
 have HE0_4 : Hid (EncN (fun j => B < j ∧ j < w4.heap.size) w4 .int [v0] (rdF .int st).1) := hid (EncN.mono (fun j hj => ⟨hj.1, Nat.lt_of_lt_of_le hj.2 HV3.out.2.2.2.size⟩) _ (EncN.keep HV3.out.2.2.2 (fun j hj e => by have e9 : j = R ∨ j = B := e; have := hj.1; omega) _ HE0_3.out))
 have HE1_4 : Hid (EncN (fun j => B < j ∧ j < w4.heap.size) w4 .name [v1] (rdF .name (rdF .int st).2).1) := hid (EncN.mono (fun j hj => ⟨hj.1, Nat.lt_of_lt_of_le hj.2 HV3.out.2.2.2.size⟩) _ (EncN.keep HV3.out.2.2.2 (fun j hj e => by have e9 : j = R ∨ j = B := e; have := hj.1; omega) _ HE1_3.out))
 have HE2_4 : Hid (EncN (fun j => B < j ∧ j < w4.heap.size) w4 (.list sColumn) [v2] (rdF (.list sColumn) (rdF .name (rdF .int st).2).2).1) := hid (EncN.mono (fun j hj => ⟨hj.1, Nat.lt_of_lt_of_le hj.2 HV3.out.2.2.2.size⟩) _ (EncN.keep HV3.out.2.2.2 (fun j hj e => by have e9 : j = R ∨ j = B := e; have := hj.1; omega) _ HE2_3.out))
 obtain ⟨y0, rfl⟩ := form_int (EncN.enc _ HE0_4.out)
 obtain ⟨y1, rfl⟩ := form_name (EncN.enc _ HE1_4.out)
 obtain ⟨y2, j2, c2, rfl⟩ := form_list (EncN.enc _ HE2_4.out)
 obtain ⟨y3, j3, c3, rfl⟩ := form_list (EncN.enc _ HE3_4.out)
 obtain ⟨q0, r0⟩ := row_at (cs := [(.int .i64 y0), (.string y1), (.slice y2 j2 c2), (.slice y3 j3 c3)]) HB4.out (i := 0) rfl
 obtain ⟨q1, r1⟩ := row_at (cs := [(.int .i64 y0), (.string y1), (.slice y2 j2 c2), (.slice y3 j3 c3)]) HB4.out (i := 1) rfl
 obtain ⟨q2, r2⟩ := row_at (cs := [(.int .i64 y0), (.string y1), (.slice y2 j2 c2), (.slice y3 j3 c3)]) HB4.out (i := 2) rfl
 obtain ⟨q3, r3⟩ := row_at (cs := [(.int .i64 y0), (.string y1), (.slice y2 j2 c2), (.slice y3 j3 c3)]) HB4.out (i := 3) rfl
 have hs0 : w4.heap[B]? = some (.cells ([(.int .i64 y0), (.string y1), (.slice y2 j2 c2), (.slice y3 j3 c3)] : List Value).toArray 39 (0, 0)) := HB4.out
 have hs1 := row_put hs0 0 (.int .i64 y0)
 have hs2 := row_put hs1 1 (.string y1)
 have hs3 := row_put hs2 2 (.slice y2 j2 c2)
 have hs4 := row_put hs3 3 (.slice y3 j3 c3)
 have hks : Keep (fun j => j = B) w4 ((((w4.setCell ⟨B, 0, none⟩ (.int .i64 y0)).setCell ⟨B, 1, none⟩ (.string y1)).setCell ⟨B, 2, none⟩ (.slice y2 j2 c2)).setCell ⟨B, 3, none⟩ (.slice y3 j3 c3)) := ((((Keep.refl (fun j => j = B) _).trans (Keep.set (X := fun j => j = B) _ ⟨B, 0, none⟩ (.int .i64 y0) rfl)).trans (Keep.set (X := fun j => j = B) _ ⟨B, 1, none⟩ (.string y1) rfl)).trans (Keep.set (X := fun j => j = B) _ ⟨B, 2, none⟩ (.slice y2 j2 c2) rfl)).trans (Keep.set (X := fun j => j = B) _ ⟨B, 3, none⟩ (.slice y3 j3 c3) rfl)
 have HSF : Hid (((((w4.setCell ⟨B, 0, none⟩ (.int .i64 y0)).setCell ⟨B, 1, none⟩ (.string y1)).setCell ⟨B, 2, none⟩ (.slice y2 j2 c2)).setCell ⟨B, 3, none⟩ (.slice y3 j3 c3)).heap[B]? = some (.cells #[(.int .i64 y0), (.string y1), (.slice y2 j2 c2), (.slice y3 j3 c3)] 39 (0, 0))) := hs4
 have HKS := hid hks
 clear hks hs0 hs1 hs2 hs3 hs4
 go_wp2_with fail
 refine bodyPost_ret (results_cell_row rfl _ _ B 39 _ (0, 0) _ rfl HSF.out Tryz.underlying39 rfl (by kernel_rfl)) rfl ?_
 have hfin : ∀ (s : Sh) (cs : List Value) (bs : List UInt8), EncN (fun j => B < j ∧ j < w4.heap.size) w4 s cs bs → EncN (fun j => w.heap.size ≤ j ∧ j < ((((w4.setCell ⟨B, 0, none⟩ (.int .i64 y0)).setCell ⟨B, 1, none⟩ (.string y1)).setCell ⟨B, 2, none⟩ (.slice y2 j2 c2)).setCell ⟨B, 3, none⟩ (.slice y3 j3 c3)).heap.size) ((((w4.setCell ⟨B, 0, none⟩ (.int .i64 y0)).setCell ⟨B, 1, none⟩ (.string y1)).setCell ⟨B, 2, none⟩ (.slice y2 j2 c2)).setCell ⟨B, 3, none⟩ (.slice y3 j3 c3)) s cs bs := fun s cs bs h => EncN.mono (fun j hj => ⟨by have := HBE.out; omega, Nat.lt_of_lt_of_le hj.2 HKS.out.size⟩) s (EncN.keep HKS.out (fun j hj e => by have e9 : j = B := e; have := hj.1; omega) s h)
 refine ⟨[(.int .i64 y0), (.string y1), (.slice y2 j2 c2), (.slice y3 j3 c3)], rfl, ?_, HR4.out.keepK HKS.out (fun j e => by have e9 : j = B := e; omega), ?_⟩
 · exact ⟨[(.int .i64 y0)], [(.string y1), (.slice y2 j2 c2), (.slice y3 j3 c3)], _, _, rfl, rfl, hfin _ _ _ HE0_4.out, ⟨[(.string y1)], [(.slice y2 j2 c2), (.slice y3 j3 c3)], _, _, rfl, rfl, hfin _ _ _ HE1_4.out, ⟨[(.slice y2 j2 c2)], [(.slice y3 j3 c3)], _, _, rfl, rfl, hfin _ _ _ HE2_4.out, ⟨[(.slice y3 j3 c3)], [], _, _, rfl, rfl, hfin _ _ _ HE3_4.out, ⟨rfl, rfl⟩⟩⟩⟩⟩
 · exact (Keep.of_below HBW.out).trans2 (HK4.out.trans (HKS.out.mono (fun j _ e => .inr e))) (fun j e => by rcases e with e | e <;> first | exact .inl e | exact .inr (by have := HBE.out; omega))
set_option maxHeartbeats 8000000 in
theorem rlist_Table {w : World} {R B : Nat} {st : Rst} {cs : List Value} {t : TypeId} (i : Nat) (h : RAt w R st.1 st.2) (hl : st.1.length ≤ 140737488355328) (hB : w.heap[B]? = some (.cells cs.toArray t (0, 0))) (hi : cs[i]? = some (.slice none 0 0)) (hRB : R < B) :
 Calls Tryz.prog 114 #[.agg #[.pointer (some ⟨R, 0, none⟩)], .pointer (some ⟨B, i, none⟩), (.func (.func 93) #[.agg #[.pointer (some ⟨R, 0, none⟩)]] #[])] w (fun en w' => en = .returned (.tuple #[]) ∧ ∃ v, TkP (.list sTable) R B w st cs t i v w') := by
 obtain ⟨i0, hi0, hz0, hz1, hz2⟩ : ∃ i0, Tryz.prog.info? 39 = some i0 ∧ i0.zero = some (.agg #[.int .i64 0, .string .empty, .slice none 0 0, .slice none 0 0]) ∧ i0.size = 4 ∧ i0.bytes = 72 := by
  have h9 : (Tryz.prog.info? 39).map (fun i => (i.zero, i.size, i.bytes)) = some (some (.agg #[.int .i64 0, .string .empty, .slice none 0 0, .slice none 0 0]), 4, 72) := by kernel_rfl
  cases hq : Tryz.prog.info? 39 with
  | none => rw [hq] at h9; cases h9
  | some q => rw [hq] at h9; simp at h9; exact ⟨q, rfl, h9⟩
 have HI0 := hid (And.intro hi0 (And.intro hz0 (And.intro hz1 hz2)))
 clear hi0 hz0 hz1 hz2
 have hb : Below w.heap.size w (w.alloc (.cells #[.pointer (some ⟨R, 0, none⟩)] 79)) := (Below.refl _ _).alloc (Nat.le_refl _) _
 have hz := heap_alloc_new w (.cells #[.pointer (some ⟨R, 0, none⟩)] 79)
 have hRw := h.lt
 have hBw := lt_of_block hB
 have HRW := hid hRw
 have HBW := hid hBw
 have H := hid (h.old hb)
 have HB := hid hb
 have HF := hid ((hb.block _ hBw).trans hB)
 have HI := hid hi
 have HZ := hid hz
 have HLE := hid hl
 clear h hB hi hb hz hl
 go_enter Tryz.func114, Tryz.ntmps114
 go_upto_region 1 with fail
 generalize w.alloc (.cells #[.pointer (some ⟨R, 0, none⟩)] 79) = w1 at *
 obtain ⟨z0, z1⟩ := one_cell HZ.out
 obtain ⟨n, hn⟩ : ∃ n, n = (lookS 5000 st.1 st.2).1 := ⟨_, rfl⟩
 obtain ⟨s1, hs1⟩ : ∃ s1 : Rst, s1 = (st.1.drop (lookS 5000 st.1 st.2).2.1, (lookS 5000 st.1 st.2).2.2) := ⟨_, rfl⟩
 have HN := hid (And.intro hn hs1)
 have hn5 : n ≤ 5000 := by rw [hn]; exact lookS_most _ _ _
 have C0 : Hid (Calls Tryz.prog 140 #[.pointer (some ⟨R, 0, none⟩), .int .i64 5000] w1 (fun en w' => en = .returned (.int .i64 (n : Int)) ∧ RAt w' R s1.1 s1.2 ∧ w1.grownBy w' (some R))) := hid ((smallR_any w1 R st.1 st.2 5000 (by decide) H.out).mono (fun en w9 h9 => by rw [hn, hs1]; exact h9))
 have HS1 : Hid (s1.1.length ≤ st.1.length) := hid (by rw [hs1]; simp)
 clear hn hs1
 go_wp2_with (first | (go_at_call 140; refine C0.out.mono ?_; rintro en w2 ⟨rfl, h2, g2⟩; have H2 := hid h2; have K2 := hid (show Keep (fun j => j = R ∨ j = B) w w2 from (Keep.of_below HB.out).trans ((Keep.of_grown (X := fun j => j = R) g2 (fun j e => by cases e; rfl)).mono (fun j _ e => .inl e))); have HF2 := hid ((g2.block B (lt_of_block HF.out) (fun e => by cases e; omega)).trans HF.out); have HZ2 := hid ((g2.block w.heap.size (lt_of_block HZ.out) (fun e => by cases e; omega)).trans HZ.out); clear h2 g2))
 clear z0 z1 C0
 go_loopw [9] (fun ix wr => ∃ (k : Nat) (M : List (List Value × List UInt8)) (ao : Option Addr) (c : Nat) (sk : Rst), ix = .int .i64 (k : Int) ∧ wr.heap[w.heap.size]? = some (.cells #[.pointer (some ⟨R, 0, none⟩)] 79 (0, 0)) ∧ TLp sTable 39 R B i w cs t n s1 wr k M ao c sk) (fun ix _ => n - (intOf ix).toNat)
 case atStart => exact ⟨0, [], none, 0, s1, rfl, HZ2.out, TLp.begin HI.out HF2.out H2.out K2.out⟩
 case round =>
  obtain ⟨k, M, ao, c, sk, rfl, hzr, ht⟩ := hrel
  have hk := ht.le
  have HT := hid ht
  have HZR := hid hzr
  clear ht hzr
  by_cases hlt : k < n
  · have hki : (k : Int) < (n : Int) := by omega
    go_upto_region 3 with fail
    have hWd : Below wr.heap.size wr wr.drew := ⟨rfl, rfl, rfl, Nat.le_refl _, fun _ _ => rfl⟩
    have HLk : Hid (sk.1.length ≤ 140737488355328) := hid (by have := HT.out.small; have := HS1.out; have := HLE.out; omega)
    have HTd : Hid (RAt wr.drew R sk.1 sk.2) := hid (HT.out.rat.old hWd)
    have HFd : Hid (wr.drew.heap[B]? = some (.cells (cs.set i (.slice ao k c)).toArray t (0, 0))) := HT.out.field
    have HLI := hid (List.getElem?_set_self (a := .slice ao k c) (List.getElem?_eq_some_iff.1 HI.out).1)
    have CN := hid (rTable_any HTd.out HLk.out)
    have HUD : Hid (∀ mc w9, RdP sTable R wr.drew sk mc w9 → RdP sTable R wr sk mc w9) := hid fun _ _ h => h.undrew
    have HZd : Hid (wr.drew.heap[w.heap.size]? = some (.cells #[.pointer (some ⟨R, 0, none⟩)] 79 (0, 0))) := HZR.out
    clear hWd
    refine wp_region_noPanic ?_
    refine wp_region_L (S := fun W => Hid (W.cell? ⟨B, i, none⟩ = some (.slice ao k c))) 9 (by kernel_rfl) ?_
    have HD0 := hid (row_at HFd.out HLI.out).1
    generalize wr.drew = Wd at *
    refine tkV 0 (.pointer (some ⟨B, i, none⟩)) rfl (by kernel_rfl) (fun _ _ _ => False.elim) (Or.inl ⟨by rfl, fun W9 _ => by simp only [jA, jB, jC]; go_simp⟩) (fun _ => HD0) ?_
    simp only [Act.put, jA, jB, jC, jD, jE, jF]
    refine tkV 1 (.pointer (some ⟨B, i, none⟩)) rfl (by kernel_rfl) (fun _ _ _ => False.elim) (Or.inl ⟨by rfl, fun W9 _ => by simp only [jA, jB, jC]; go_simp⟩) (fun _ => HD0) ?_
    simp only [Act.put, jA, jB, jC, jD, jE, jF]
    refine tkV 2 (.pointer (some ⟨B, i, none⟩)) rfl (by kernel_rfl) (fun _ _ _ => False.elim) (Or.inl ⟨by rfl, fun W9 _ => by simp only [jA, jB, jC]; go_simp⟩) (fun _ => HD0) ?_
    simp only [Act.put, jA, jB, jC, jD, jE, jF]
    refine tkV 4 (.func (.func 93) #[.agg #[.pointer (some ⟨R, 0, none⟩)]] #[]) rfl (by kernel_rfl) (fun _ _ _ => False.elim) (Or.inl ⟨by rfl, fun W9 _ => by simp only [jA, jB, jC]; go_simp⟩) (fun _ => HD0) ?_
    simp only [Act.put, jA, jB, jC, jD, jE, jF]
    refine tkL 3 (.slice ao k c) [3, 7, 9] rfl (by kernel_rfl) (fun _ _ _ => False.elim) HD0 (Or.inl ⟨by rfl, fun W9 hW => by have d9 := hW.out; clear hW; simp only [jA, jB, jC]; go_simp⟩) ?_
    simp only [Act.put, jA, jB, jC, jD, jE, jF]
    refine rdL 5 (by kernel_rfl) rfl fun K hK => ?_
    go_simp
    go_wp2_with (first | (go_at_call 93; refine CN.out.mono ?_; rintro en wT ⟨mc, rfl, hv⟩; obtain ⟨v0, v1, v2, v3, b0, b1, b2, b3, rfl, _, e0, e1, e2, e3⟩ := Table_cells (EncN.enc _ hv.1); obtain ⟨y0, rfl⟩ := form_int e0; obtain ⟨y1, rfl⟩ := form_name e1; obtain ⟨y2, j2, c2, rfl⟩ := form_list e2; obtain ⟨y3, j3, c3, rfl⟩ := form_list e3; clear e0 e1 e2 e3; have HV := hid (HUD.out _ _ hv); have HZT := hid ((hv.2.2.block w.heap.size (lt_of_block HZd.out) (fun e => by have e9 : w.heap.size = R := e; omega)).trans HZd.out); have HFT := hid ((hv.2.2.block B (lt_of_block HFd.out) (fun e => by have e9 : B = R := e; omega)).trans HFd.out); clear hv))
    refine hK.out _ _ (hid (row_at HFT.out HLI.out).1) fun _ => ?_
    clear hK K
    have H3 : Hid (Below wT.heap.size wT (wT.alloc (.cells #[.int .i64 y0, .string y1, .slice y2 j2 c2, .slice y3 j3 c3] 39))) := hid ((Below.refl _ _).alloc (Nat.le_refl _) _)
    have HR3 := hid (heap_alloc_new wT (.cells #[.int .i64 y0, .string y1, .slice y2 j2 c2, .slice y3 j3 c3] 39))
    have HF3 := hid ((H3.out.block B (lt_of_block HFT.out)).trans HFT.out)
    have HOW := hid (own_old (own_keep (X := fun j => j = R) HT.out.own (show Keep _ wr wT from HV.out.2.2) (fun j e e9 => by have e8 : j = R := e9; have := (HT.out.own.lt j e).1; omega)) H3.out)
    have HSZ : Hid (w.heap.size + 1 ≤ (wT.alloc (.cells #[.int .i64 y0, .string y1, .slice y2 j2 c2, .slice y3 j3 c3] 39)).heap.size) := hid (by have := lt_of_block HZT.out; have := H3.out.size; show _ ≤ _; omega)
    refine rdL 6 (by kernel_rfl) rfl fun K hK => ?_
    go_simp
    refine hK.out _ _ (hid (row_at HF3.out HLI.out).1) fun _ => ?_
    clear hK K
    refine rdL 7 (by kernel_rfl) rfl fun K hK => ?_
    refine step_app1 (by rfl) (.tmp 14) (.tmp 17) 47 (by rfl) (w.heap.size + 1) 39 Tryz.underlying47 HI0.out.1 HI0.out.2.1 HI0.out.2.2.1 HI0.out.2.2.2 (by simp [Value.cells]) (by decide) _ k _ (by rfl) HOW.out wT.heap.size [.int .i64 y0, .string y1, .slice y2 j2 c2, .slice y3 j3 c3] (by rfl) HR3.out rfl (fun u hu => by simp only [List.mem_cons, List.not_mem_nil, or_false] at hu; rcases hu with rfl | rfl | rfl | rfl <;> rfl) (by omega) (by decide) HSZ.out (fun g cap w' o5 g5 gg5 => ?_)
    have HF4 := hid (heap_kept g5 HF3.out (fun e => by have := (HT.out.own.lt B e.symm).1; omega))
    have HZ5 : Hid ((w'.setCell ⟨B, i, none⟩ (.slice (some ⟨g, 0, none⟩) (k + 1) cap)).heap[w.heap.size]? = some (.cells #[.pointer (some ⟨R, 0, none⟩)] 79 (0, 0))) := hid (heap_kept (grown_set w' ⟨B, i, none⟩ _) (heap_kept g5 ((H3.out.block _ (lt_of_block HZT.out)).trans HZT.out) (fun e => by have := (HT.out.own.lt _ e.symm).1; omega)) (fun e => by have e9 : w.heap.size = B := (by simpa using e); have := HBW.out; omega))
    have HNX := hid (HT.out.next HRW.out HBW.out hRB hlt (show RdP sTable R wr sk [.int .i64 y0, .string y1, .slice y2 j2 c2, .slice y3 j3 c3] wT from HV.out) H3.out o5 g5 gg5)
    clear o5 g5 gg5
    refine hK.out _ _ (hid (row_at HF4.out HLI.out).1) fun _ => ?_
    clear hK K
    simp only [Act.put, jA, jB, jC, jD, jE, jF]
    refine tkV 8 (.pointer (some ⟨B, i, none⟩)) rfl (by kernel_rfl) (fun _ _ _ => False.elim) (Or.inl ⟨by rfl, fun W9 _ => by simp only [jA, jB, jC]; go_simp⟩) (fun _ => hid (row_at HF4.out HLI.out).1) ?_
    simp only [Act.put, jA, jB, jC, jD, jE, jF]
    obtain ⟨q0, q1⟩ := row_at HF4.out HLI.out
    refine rdS (by kernel_rfl) rfl fun K hK => ?_
    go_simp
    refine hK.out _ _ ?_
    clear hK K q0 q1
    refine doneL (by kernel_rfl) (NoPanic.normal ?_) _
    generalize w'.setCell ⟨B, i, none⟩ (.slice (some ⟨g, 0, none⟩) (k + 1) cap) = w5 at *
    obtain ⟨p0, p1⟩ := one_cell HZ5.out
    have CE := hid (err_any w5 R _ _ HNX.out.1)
    obtain ⟨ev, hev⟩ : ∃ ev, ev = (rdF sTable sk).2.2 := ⟨_, rfl⟩
    rw [← hev] at CE
    by_cases h0 : ev = 0
    · have HNE := hid (HNX.out.2.1 (by rw [← hev]; exact h0))
      subst h0
      clear hev
      go_wp2_with (first | (go_at_call 132; refine CE.out.mono ?_; rintro en w6 ⟨rfl, rfl⟩))
      go_roundw
      case rel => exact ⟨k + 1, _, _, _, _, by go_num, HZ5.out, HNE.out⟩
      case measure => simp [intOf]; omega
    · have HNE := hid (HNX.out.2.2 (by rw [← hev]; exact h0) hn5)
      have hbe : (ev != 0) = true := by simp [h0]
      clear hev
      go_wp2_with (first | (go_at_call 132; refine CE.out.mono ?_; rintro en w6 ⟨rfl, rfl⟩))
      (try simp only [Exit.inBlock, Exit.then]); refine bodyPost_ret (results_none rfl _ _ _) rfl ?_
      obtain ⟨m1, m2, m3, m4⟩ := HNE.out
      refine ⟨rfl, .slice (some ⟨g, 0, none⟩) (k + 1) cap, ?_, m2, ?_, m4⟩
      · simp only [rdF]; rw [← HN.out.1, ← HN.out.2]; exact m1
      · simp only [rdF]; rw [← HN.out.1, ← HN.out.2]; exact m3
  · obtain rfl : n = k := by omega
    have hki : ¬ (n : Int) < (n : Int) := by omega
    go_wp2_with fail
    go_end0
    obtain ⟨p1, p2⟩ := HT.out.done hn5
    refine ⟨rfl, .slice ao n c, ?_, HT.out.field, ?_, HT.out.keep⟩
    · simp only [rdF]; rw [← HN.out.1, ← HN.out.2]; exact p1
    · simp only [rdF]; rw [← HN.out.1, ← HN.out.2]; exact p2
end Go.Proofs.YtmdgifmigikffaaGreat
namespace Go.Proofs.YtmdgifmigikffaaGreat
open Go.RowKit Go.Deep
set_option maxHeartbeats 8000000 in
theorem rIndex_any {w : World} {R : Nat} {st : Rst} (h : RAt w R st.1 st.2) (hl : st.1.length ≤ 140737488355328) :
 Calls Tryz.prog 95 #[.agg #[.pointer (some ⟨R, 0, none⟩)]] w (fun en w' => ∃ cs, en = .returned (.agg cs.toArray) ∧ RdP sIndex R w st cs w') := by
 have hb : Below w.heap.size w ((w.alloc (.cells #[.pointer (some ⟨R, 0, none⟩)] 79)).alloc (.cells #[.int .i64 0, .int .i64 0, .string ⟨#[]⟩, .slice none 0 0, .bool false, .int .i64 0, .bool false] 41)) := ((Below.refl _ _).alloc (Nat.le_refl _) _).alloc (by simp) _
 have hz := (Below.heap_alloc (w.alloc (.cells #[.pointer (some ⟨R, 0, none⟩)] 79)) (.cells #[.int .i64 0, .int .i64 0, .string ⟨#[]⟩, .slice none 0 0, .bool false, .int .i64 0, .bool false] 41) w.heap.size (by simp)).trans (heap_alloc_new w (.cells #[.pointer (some ⟨R, 0, none⟩)] 79))
 have hB := heap_alloc2_new w (.cells #[.pointer (some ⟨R, 0, none⟩)] 79) (.cells #[.int .i64 0, .int .i64 0, .string ⟨#[]⟩, .slice none 0 0, .bool false, .int .i64 0, .bool false] 41)
 obtain ⟨B, hBe⟩ : ∃ B, B = w.heap.size + 1 := ⟨_, rfl⟩
 have hRw := h.lt
 have hRB : R < B := by omega
 have HR0 := hid (h.old hb)
 rw [← hBe] at hB
 have HB0 := hid hB
 have HX0 := hid hz
 have HBW := hid hb
 have HL0 := hid hl
 clear h hb hz hB hl
 go_enter Tryz.func95, Tryz.ntmps95
 go_upto_region 1 with fail
 generalize (w.alloc (.cells #[.pointer (some ⟨R, 0, none⟩)] 79)).alloc (.cells #[.int .i64 0, .int .i64 0, .string ⟨#[]⟩, .slice none 0 0, .bool false, .int .i64 0, .bool false] 41) = w0 at *
 try rw [← hBe]
 have HK0 : Hid (Keep (fun j => j = R ∨ j = B) w0 w0) := hid (Keep.refl _ _)
 have HBE := hid hBe
 clear hBe
 have y0 := (one_cell HX0.out).1
 have CQ := hid (rtake_whole 0 HR0.out HL0.out HB0.out rfl hRB)
 go_upto_region 2 with (first | (go_at_call 80; refine CQ.out.mono ?_; rintro en w1 ⟨rfl, v0, hv⟩; have HV0 := hid hv; clear hv))
 clear CQ y0
 have HB1 : Hid (w1.heap[B]? = some (.cells #[v0, .int .i64 0, .string ⟨#[]⟩, .slice none 0 0, .bool false, .int .i64 0, .bool false] 41 (0, 0))) := HV0.out.2.1
 have HR1 : Hid (RAt w1 R (rdF .int st).2.1 (rdF .int st).2.2) := HV0.out.2.2.1
 have HL1 : Hid ((rdF .int st).2.1.length ≤ 140737488355328) := hid (Nat.le_trans (rd_len _ _) HL0.out)
 have HX1 := hid ((HV0.out.2.2.2.block w.heap.size (lt_of_block HX0.out) (fun e => by have e9 : w.heap.size = R ∨ w.heap.size = B := e; have := HBE.out; omega)).trans HX0.out)
 have HK1 := hid (HK0.out.trans HV0.out.2.2.2)
 have HE0_1 : Hid (EncN (fun j => B < j ∧ j < w1.heap.size) w1 .int [v0] (rdF .int st).1) := hid (EncN.mono (fun j hj => ⟨Nat.lt_of_lt_of_le (lt_of_block HB0.out) hj.1, hj.2⟩) _ HV0.out.1)
 have y0 := (one_cell HX1.out).1
 have CQ := hid (rtake_whole 1 HR1.out HL1.out HB1.out rfl hRB)
 go_upto_region 3 with (first | (go_at_call 80; refine CQ.out.mono ?_; rintro en w2 ⟨rfl, v1, hv⟩; have HV1 := hid hv; clear hv))
 clear CQ y0
 have HB2 : Hid (w2.heap[B]? = some (.cells #[v0, v1, .string ⟨#[]⟩, .slice none 0 0, .bool false, .int .i64 0, .bool false] 41 (0, 0))) := HV1.out.2.1
 have HR2 : Hid (RAt w2 R (rdF .int (rdF .int st).2).2.1 (rdF .int (rdF .int st).2).2.2) := HV1.out.2.2.1
 have HL2 : Hid ((rdF .int (rdF .int st).2).2.1.length ≤ 140737488355328) := hid (Nat.le_trans (rd_len _ _) HL1.out)
 have HX2 := hid ((HV1.out.2.2.2.block w.heap.size (lt_of_block HX1.out) (fun e => by have e9 : w.heap.size = R ∨ w.heap.size = B := e; have := HBE.out; omega)).trans HX1.out)
 have HK2 := hid (HK1.out.trans HV1.out.2.2.2)
 have HE1_2 : Hid (EncN (fun j => B < j ∧ j < w2.heap.size) w2 .int [v1] (rdF .int (rdF .int st).2).1) := hid (EncN.mono (fun j hj => ⟨Nat.lt_of_lt_of_le (lt_of_block HB1.out) hj.1, hj.2⟩) _ HV1.out.1)
 have HE0_2 : Hid (EncN (fun j => B < j ∧ j < w2.heap.size) w2 .int [v0] (rdF .int st).1) := hid (EncN.mono (fun j hj => ⟨hj.1, Nat.lt_of_lt_of_le hj.2 HV1.out.2.2.2.size⟩) _ (EncN.keep HV1.out.2.2.2 (fun j hj e => by have e9 : j = R ∨ j = B := e; have := hj.1; omega) _ HE0_1.out))
 have y0 := (one_cell HX2.out).1
 have CQ := hid (rtake_name 2 HR2.out HL2.out HB2.out rfl hRB)
 go_upto_region 4 with (first | (go_at_call 96; refine CQ.out.mono ?_; rintro en w3 ⟨rfl, v2, hv⟩; have HV2 := hid hv; clear hv))
 clear CQ y0
 have HB3 : Hid (w3.heap[B]? = some (.cells #[v0, v1, v2, .slice none 0 0, .bool false, .int .i64 0, .bool false] 41 (0, 0))) := HV2.out.2.1
 have HR3 : Hid (RAt w3 R (rdF .name (rdF .int (rdF .int st).2).2).2.1 (rdF .name (rdF .int (rdF .int st).2).2).2.2) := HV2.out.2.2.1
 have HL3 : Hid ((rdF .name (rdF .int (rdF .int st).2).2).2.1.length ≤ 140737488355328) := hid (Nat.le_trans (rd_len _ _) HL2.out)
 have HX3 := hid ((HV2.out.2.2.2.block w.heap.size (lt_of_block HX2.out) (fun e => by have e9 : w.heap.size = R ∨ w.heap.size = B := e; have := HBE.out; omega)).trans HX2.out)
 have HK3 := hid (HK2.out.trans HV2.out.2.2.2)
 have HE2_3 : Hid (EncN (fun j => B < j ∧ j < w3.heap.size) w3 .name [v2] (rdF .name (rdF .int (rdF .int st).2).2).1) := hid (EncN.mono (fun j hj => ⟨Nat.lt_of_lt_of_le (lt_of_block HB2.out) hj.1, hj.2⟩) _ HV2.out.1)
 have HE0_3 : Hid (EncN (fun j => B < j ∧ j < w3.heap.size) w3 .int [v0] (rdF .int st).1) := hid (EncN.mono (fun j hj => ⟨hj.1, Nat.lt_of_lt_of_le hj.2 HV2.out.2.2.2.size⟩) _ (EncN.keep HV2.out.2.2.2 (fun j hj e => by have e9 : j = R ∨ j = B := e; have := hj.1; omega) _ HE0_2.out))
 have HE1_3 : Hid (EncN (fun j => B < j ∧ j < w3.heap.size) w3 .int [v1] (rdF .int (rdF .int st).2).1) := hid (EncN.mono (fun j hj => ⟨hj.1, Nat.lt_of_lt_of_le hj.2 HV2.out.2.2.2.size⟩) _ (EncN.keep HV2.out.2.2.2 (fun j hj e => by have e9 : j = R ∨ j = B := e; have := hj.1; omega) _ HE1_2.out))
 have y0 := (one_cell HX3.out).1
 have CQ := hid (rlist_int 3 HR3.out HL3.out HB3.out rfl hRB)
 go_upto_region 5 with (first | (go_at_call 143; refine CQ.out.mono ?_; rintro en w4 ⟨rfl, v3, hv⟩; have HV3 := hid hv; clear hv))
 clear CQ y0
 have HB4 : Hid (w4.heap[B]? = some (.cells #[v0, v1, v2, v3, .bool false, .int .i64 0, .bool false] 41 (0, 0))) := HV3.out.2.1
 have HR4 : Hid (RAt w4 R (rdF (.list .int) (rdF .name (rdF .int (rdF .int st).2).2).2).2.1 (rdF (.list .int) (rdF .name (rdF .int (rdF .int st).2).2).2).2.2) := HV3.out.2.2.1
 have HL4 : Hid ((rdF (.list .int) (rdF .name (rdF .int (rdF .int st).2).2).2).2.1.length ≤ 140737488355328) := hid (Nat.le_trans (rd_len _ _) HL3.out)
 have HX4 := hid ((HV3.out.2.2.2.block w.heap.size (lt_of_block HX3.out) (fun e => by have e9 : w.heap.size = R ∨ w.heap.size = B := e; have := HBE.out; omega)).trans HX3.out)
 have HK4 := hid (HK3.out.trans HV3.out.2.2.2)
 have HE3_4 : Hid (EncN (fun j => B < j ∧ j < w4.heap.size) w4 (.list .int) [v3] (rdF (.list .int) (rdF .name (rdF .int (rdF .int st).2).2).2).1) := hid (EncN.mono (fun j hj => ⟨Nat.lt_of_lt_of_le (lt_of_block HB3.out) hj.1, hj.2⟩) _ HV3.out.1)
 have HE0_4 : Hid (EncN (fun j => B < j ∧ j < w4.heap.size) w4 .int [v0] (rdF .int st).1) := hid (EncN.mono (fun j hj => ⟨hj.1, Nat.lt_of_lt_of_le hj.2 HV3.out.2.2.2.size⟩) _ (EncN.keep HV3.out.2.2.2 (fun j hj e => by have e9 : j = R ∨ j = B := e; have := hj.1; omega) _ HE0_3.out))
 have HE1_4 : Hid (EncN (fun j => B < j ∧ j < w4.heap.size) w4 .int [v1] (rdF .int (rdF .int st).2).1) := hid (EncN.mono (fun j hj => ⟨hj.1, Nat.lt_of_lt_of_le hj.2 HV3.out.2.2.2.size⟩) _ (EncN.keep HV3.out.2.2.2 (fun j hj e => by have e9 : j = R ∨ j = B := e; have := hj.1; omega) _ HE1_3.out))
 have HE2_4 : Hid (EncN (fun j => B < j ∧ j < w4.heap.size) w4 .name [v2] (rdF .name (rdF .int (rdF .int st).2).2).1) := hid (EncN.mono (fun j hj => ⟨hj.1, Nat.lt_of_lt_of_le hj.2 HV3.out.2.2.2.size⟩) _ (EncN.keep HV3.out.2.2.2 (fun j hj e => by have e9 : j = R ∨ j = B := e; have := hj.1; omega) _ HE2_3.out))
 have y0 := (one_cell HX4.out).1
 have CQ := hid (rtake_flag 4 HR4.out HL4.out HB4.out rfl hRB)
 go_upto_region 6 with (first | (go_at_call 82; refine CQ.out.mono ?_; rintro en w5 ⟨rfl, v4, hv⟩; have HV4 := hid hv; clear hv))
 clear CQ y0
 have HB5 : Hid (w5.heap[B]? = some (.cells #[v0, v1, v2, v3, v4, .int .i64 0, .bool false] 41 (0, 0))) := HV4.out.2.1
 have HR5 : Hid (RAt w5 R (rdF .bool (rdF (.list .int) (rdF .name (rdF .int (rdF .int st).2).2).2).2).2.1 (rdF .bool (rdF (.list .int) (rdF .name (rdF .int (rdF .int st).2).2).2).2).2.2) := HV4.out.2.2.1
 have HL5 : Hid ((rdF .bool (rdF (.list .int) (rdF .name (rdF .int (rdF .int st).2).2).2).2).2.1.length ≤ 140737488355328) := hid (Nat.le_trans (rd_len _ _) HL4.out)
 have HX5 := hid ((HV4.out.2.2.2.block w.heap.size (lt_of_block HX4.out) (fun e => by have e9 : w.heap.size = R ∨ w.heap.size = B := e; have := HBE.out; omega)).trans HX4.out)
 have HK5 := hid (HK4.out.trans HV4.out.2.2.2)
 have HE4_5 : Hid (EncN (fun j => B < j ∧ j < w5.heap.size) w5 .bool [v4] (rdF .bool (rdF (.list .int) (rdF .name (rdF .int (rdF .int st).2).2).2).2).1) := hid (EncN.mono (fun j hj => ⟨Nat.lt_of_lt_of_le (lt_of_block HB4.out) hj.1, hj.2⟩) _ HV4.out.1)
 have HE0_5 : Hid (EncN (fun j => B < j ∧ j < w5.heap.size) w5 .int [v0] (rdF .int st).1) := hid (EncN.mono (fun j hj => ⟨hj.1, Nat.lt_of_lt_of_le hj.2 HV4.out.2.2.2.size⟩) _ (EncN.keep HV4.out.2.2.2 (fun j hj e => by have e9 : j = R ∨ j = B := e; have := hj.1; omega) _ HE0_4.out))
 have HE1_5 : Hid (EncN (fun j => B < j ∧ j < w5.heap.size) w5 .int [v1] (rdF .int (rdF .int st).2).1) := hid (EncN.mono (fun j hj => ⟨hj.1, Nat.lt_of_lt_of_le hj.2 HV4.out.2.2.2.size⟩) _ (EncN.keep HV4.out.2.2.2 (fun j hj e => by have e9 : j = R ∨ j = B := e; have := hj.1; omega) _ HE1_4.out))
 have HE2_5 : Hid (EncN (fun j => B < j ∧ j < w5.heap.size) w5 .name [v2] (rdF .name (rdF .int (rdF .int st).2).2).1) := hid (EncN.mono (fun j hj => ⟨hj.1, Nat.lt_of_lt_of_le hj.2 HV4.out.2.2.2.size⟩) _ (EncN.keep HV4.out.2.2.2 (fun j hj e => by have e9 : j = R ∨ j = B := e; have := hj.1; omega) _ HE2_4.out))
 have HE3_5 : Hid (EncN (fun j => B < j ∧ j < w5.heap.size) w5 (.list .int) [v3] (rdF (.list .int) (rdF .name (rdF .int (rdF .int st).2).2).2).1) := hid (EncN.mono (fun j hj => ⟨hj.1, Nat.lt_of_lt_of_le hj.2 HV4.out.2.2.2.size⟩) _ (EncN.keep HV4.out.2.2.2 (fun j hj e => by have e9 : j = R ∨ j = B := e; have := hj.1; omega) _ HE3_4.out))
 have y0 := (one_cell HX5.out).1
 have CQ := hid (rtake_whole 5 HR5.out HL5.out HB5.out rfl hRB)
 go_upto_region 7 with (first | (go_at_call 80; refine CQ.out.mono ?_; rintro en w6 ⟨rfl, v5, hv⟩; have HV5 := hid hv; clear hv))
 clear CQ y0
 have HB6 : Hid (w6.heap[B]? = some (.cells #[v0, v1, v2, v3, v4, v5, .bool false] 41 (0, 0))) := HV5.out.2.1
 have HR6 : Hid (RAt w6 R (rdF .int (rdF .bool (rdF (.list .int) (rdF .name (rdF .int (rdF .int st).2).2).2).2).2).2.1 (rdF .int (rdF .bool (rdF (.list .int) (rdF .name (rdF .int (rdF .int st).2).2).2).2).2).2.2) := HV5.out.2.2.1
 have HL6 : Hid ((rdF .int (rdF .bool (rdF (.list .int) (rdF .name (rdF .int (rdF .int st).2).2).2).2).2).2.1.length ≤ 140737488355328) := hid (Nat.le_trans (rd_len _ _) HL5.out)
 have HX6 := hid ((HV5.out.2.2.2.block w.heap.size (lt_of_block HX5.out) (fun e => by have e9 : w.heap.size = R ∨ w.heap.size = B := e; have := HBE.out; omega)).trans HX5.out)
 have HK6 := hid (HK5.out.trans HV5.out.2.2.2)
 have HE5_6 : Hid (EncN (fun j => B < j ∧ j < w6.heap.size) w6 .int [v5] (rdF .int (rdF .bool (rdF (.list .int) (rdF .name (rdF .int (rdF .int st).2).2).2).2).2).1) := hid (EncN.mono (fun j hj => ⟨Nat.lt_of_lt_of_le (lt_of_block HB5.out) hj.1, hj.2⟩) _ HV5.out.1)
 have HE0_6 : Hid (EncN (fun j => B < j ∧ j < w6.heap.size) w6 .int [v0] (rdF .int st).1) := hid (EncN.mono (fun j hj => ⟨hj.1, Nat.lt_of_lt_of_le hj.2 HV5.out.2.2.2.size⟩) _ (EncN.keep HV5.out.2.2.2 (fun j hj e => by have e9 : j = R ∨ j = B := e; have := hj.1; omega) _ HE0_5.out))
 have HE1_6 : Hid (EncN (fun j => B < j ∧ j < w6.heap.size) w6 .int [v1] (rdF .int (rdF .int st).2).1) := hid (EncN.mono (fun j hj => ⟨hj.1, Nat.lt_of_lt_of_le hj.2 HV5.out.2.2.2.size⟩) _ (EncN.keep HV5.out.2.2.2 (fun j hj e => by have e9 : j = R ∨ j = B := e; have := hj.1; omega) _ HE1_5.out))
 have HE2_6 : Hid (EncN (fun j => B < j ∧ j < w6.heap.size) w6 .name [v2] (rdF .name (rdF .int (rdF .int st).2).2).1) := hid (EncN.mono (fun j hj => ⟨hj.1, Nat.lt_of_lt_of_le hj.2 HV5.out.2.2.2.size⟩) _ (EncN.keep HV5.out.2.2.2 (fun j hj e => by have e9 : j = R ∨ j = B := e; have := hj.1; omega) _ HE2_5.out))
 have HE3_6 : Hid (EncN (fun j => B < j ∧ j < w6.heap.size) w6 (.list .int) [v3] (rdF (.list .int) (rdF .name (rdF .int (rdF .int st).2).2).2).1) := hid (EncN.mono (fun j hj => ⟨hj.1, Nat.lt_of_lt_of_le hj.2 HV5.out.2.2.2.size⟩) _ (EncN.keep HV5.out.2.2.2 (fun j hj e => by have e9 : j = R ∨ j = B := e; have := hj.1; omega) _ HE3_5.out))
 have HE4_6 : Hid (EncN (fun j => B < j ∧ j < w6.heap.size) w6 .bool [v4] (rdF .bool (rdF (.list .int) (rdF .name (rdF .int (rdF .int st).2).2).2).2).1) := hid (EncN.mono (fun j hj => ⟨hj.1, Nat.lt_of_lt_of_le hj.2 HV5.out.2.2.2.size⟩) _ (EncN.keep HV5.out.2.2.2 (fun j hj e => by have e9 : j = R ∨ j = B := e; have := hj.1; omega) _ HE4_5.out))
 have y0 := (one_cell HX6.out).1
 have CQ := hid (rtake_flag 6 HR6.out HL6.out HB6.out rfl hRB)
 go_upto_region 8 with (first | (go_at_call 82; refine CQ.out.mono ?_; rintro en w7 ⟨rfl, v6, hv⟩; have HV6 := hid hv; clear hv))
 clear CQ y0
 have HB7 : Hid (w7.heap[B]? = some (.cells #[v0, v1, v2, v3, v4, v5, v6] 41 (0, 0))) := HV6.out.2.1
 have HR7 : Hid (RAt w7 R (rdF .bool (rdF .int (rdF .bool (rdF (.list .int) (rdF .name (rdF .int (rdF .int st).2).2).2).2).2).2).2.1 (rdF .bool (rdF .int (rdF .bool (rdF (.list .int) (rdF .name (rdF .int (rdF .int st).2).2).2).2).2).2).2.2) := HV6.out.2.2.1
 have HL7 : Hid ((rdF .bool (rdF .int (rdF .bool (rdF (.list .int) (rdF .name (rdF .int (rdF .int st).2).2).2).2).2).2).2.1.length ≤ 140737488355328) := hid (Nat.le_trans (rd_len _ _) HL6.out)
 have HX7 := hid ((HV6.out.2.2.2.block w.heap.size (lt_of_block HX6.out) (fun e => by have e9 : w.heap.size = R ∨ w.heap.size = B := e; have := HBE.out; omega)).trans HX6.out)
 have HK7 := hid (HK6.out.trans HV6.out.2.2.2)
 have HE6_7 : Hid (EncN (fun j => B < j ∧ j < w7.heap.size) w7 .bool [v6] (rdF .bool (rdF .int (rdF .bool (rdF (.list .int) (rdF .name (rdF .int (rdF .int st).2).2).2).2).2).2).1) := hid (EncN.mono (fun j hj => ⟨Nat.lt_of_lt_of_le (lt_of_block HB6.out) hj.1, hj.2⟩) _ HV6.out.1)
 have HE0_7 : Hid (EncN (fun j => B < j ∧ j < w7.heap.size) w7 .int [v0] (rdF .int st).1) := hid (EncN.mono (fun j hj => ⟨hj.1, Nat.lt_of_lt_of_le hj.2 HV6.out.2.2.2.size⟩) _ (EncN.keep HV6.out.2.2.2 (fun j hj e => by have e9 : j = R ∨ j = B := e; have := hj.1; omega) _ HE0_6.out))
 have HE1_7 : Hid (EncN (fun j => B < j ∧ j < w7.heap.size) w7 .int [v1] (rdF .int (rdF .int st).2).1) := hid (EncN.mono (fun j hj => ⟨hj.1, Nat.lt_of_lt_of_le hj.2 HV6.out.2.2.2.size⟩) _ (EncN.keep HV6.out.2.2.2 (fun j hj e => by have e9 : j = R ∨ j = B := e; have := hj.1; omega) _ HE1_6.out))
 have HE2_7 : Hid (EncN (fun j => B < j ∧ j < w7.heap.size) w7 .name [v2] (rdF .name (rdF .int (rdF .int st).2).2).1) := hid (EncN.mono (fun j hj => ⟨hj.1, Nat.lt_of_lt_of_le hj.2 HV6.out.2.2.2.size⟩) _ (EncN.keep HV6.out.2.2.2 (fun j hj e => by have e9 : j = R ∨ j = B := e; have := hj.1; omega) _ HE2_6.out))
 have HE3_7 : Hid (EncN (fun j => B < j ∧ j < w7.heap.size) w7 (.list .int) [v3] (rdF (.list .int) (rdF .name (rdF .int (rdF .int st).2).2).2).1) := hid (EncN.mono (fun j hj => ⟨hj.1, Nat.lt_of_lt_of_le hj.2 HV6.out.2.2.2.size⟩) _ (EncN.keep HV6.out.2.2.2 (fun j hj e => by have e9 : j = R ∨ j = B := e; have := hj.1; omega) _ HE3_6.out))
 have HE4_7 : Hid (EncN (fun j => B < j ∧ j < w7.heap.size) w7 .bool [v4] (rdF .bool (rdF (.list .int) (rdF .name (rdF .int (rdF .int st).2).2).2).2).1) := hid (EncN.mono (fun j hj => ⟨hj.1, Nat.lt_of_lt_of_le hj.2 HV6.out.2.2.2.size⟩) _ (EncN.keep HV6.out.2.2.2 (fun j hj e => by have e9 : j = R ∨ j = B := e; have := hj.1; omega) _ HE4_6.out))
 have HE5_7 : Hid (EncN (fun j => B < j ∧ j < w7.heap.size) w7 .int [v5] (rdF .int (rdF .bool (rdF (.list .int) (rdF .name (rdF .int (rdF .int st).2).2).2).2).2).1) := hid (EncN.mono (fun j hj => ⟨hj.1, Nat.lt_of_lt_of_le hj.2 HV6.out.2.2.2.size⟩) _ (EncN.keep HV6.out.2.2.2 (fun j hj e => by have e9 : j = R ∨ j = B := e; have := hj.1; omega) _ HE5_6.out))
 obtain ⟨y0, rfl⟩ := form_int (EncN.enc _ HE0_7.out)
 obtain ⟨y1, rfl⟩ := form_int (EncN.enc _ HE1_7.out)
 obtain ⟨y2, rfl⟩ := form_name (EncN.enc _ HE2_7.out)
 obtain ⟨y3, j3, c3, rfl⟩ := form_list (EncN.enc _ HE3_7.out)
 obtain ⟨y4, rfl⟩ := form_bool (EncN.enc _ HE4_7.out)
 obtain ⟨y5, rfl⟩ := form_int (EncN.enc _ HE5_7.out)
 obtain ⟨y6, rfl⟩ := form_bool (EncN.enc _ HE6_7.out)
 obtain ⟨q0, r0⟩ := row_at (cs := [(.int .i64 y0), (.int .i64 y1), (.string y2), (.slice y3 j3 c3), (.bool y4), (.int .i64 y5), (.bool y6)]) HB7.out (i := 0) rfl
 obtain ⟨q1, r1⟩ := row_at (cs := [(.int .i64 y0), (.int .i64 y1), (.string y2), (.slice y3 j3 c3), (.bool y4), (.int .i64 y5), (.bool y6)]) HB7.out (i := 1) rfl
 obtain ⟨q2, r2⟩ := row_at (cs := [(.int .i64 y0), (.int .i64 y1), (.string y2), (.slice y3 j3 c3), (.bool y4), (.int .i64 y5), (.bool y6)]) HB7.out (i := 2) rfl
 obtain ⟨q3, r3⟩ := row_at (cs := [(.int .i64 y0), (.int .i64 y1), (.string y2), (.slice y3 j3 c3), (.bool y4), (.int .i64 y5), (.bool y6)]) HB7.out (i := 3) rfl
 obtain ⟨q4, r4⟩ := row_at (cs := [(.int .i64 y0), (.int .i64 y1), (.string y2), (.slice y3 j3 c3), (.bool y4), (.int .i64 y5), (.bool y6)]) HB7.out (i := 4) rfl
 obtain ⟨q5, r5⟩ := row_at (cs := [(.int .i64 y0), (.int .i64 y1), (.string y2), (.slice y3 j3 c3), (.bool y4), (.int .i64 y5), (.bool y6)]) HB7.out (i := 5) rfl
 obtain ⟨q6, r6⟩ := row_at (cs := [(.int .i64 y0), (.int .i64 y1), (.string y2), (.slice y3 j3 c3), (.bool y4), (.int .i64 y5), (.bool y6)]) HB7.out (i := 6) rfl
 have hs0 : w7.heap[B]? = some (.cells ([(.int .i64 y0), (.int .i64 y1), (.string y2), (.slice y3 j3 c3), (.bool y4), (.int .i64 y5), (.bool y6)] : List Value).toArray 41 (0, 0)) := HB7.out
 have hs1 := row_put hs0 0 (.int .i64 y0)
 have hs2 := row_put hs1 1 (.int .i64 y1)
 have hs3 := row_put hs2 2 (.string y2)
 have hs4 := row_put hs3 3 (.slice y3 j3 c3)
 have hs5 := row_put hs4 4 (.bool y4)
 have hs6 := row_put hs5 5 (.int .i64 y5)
 have hs7 := row_put hs6 6 (.bool y6)
 have hks : Keep (fun j => j = B) w7 (((((((w7.setCell ⟨B, 0, none⟩ (.int .i64 y0)).setCell ⟨B, 1, none⟩ (.int .i64 y1)).setCell ⟨B, 2, none⟩ (.string y2)).setCell ⟨B, 3, none⟩ (.slice y3 j3 c3)).setCell ⟨B, 4, none⟩ (.bool y4)).setCell ⟨B, 5, none⟩ (.int .i64 y5)).setCell ⟨B, 6, none⟩ (.bool y6)) := (((((((Keep.refl (fun j => j = B) _).trans (Keep.set (X := fun j => j = B) _ ⟨B, 0, none⟩ (.int .i64 y0) rfl)).trans (Keep.set (X := fun j => j = B) _ ⟨B, 1, none⟩ (.int .i64 y1) rfl)).trans (Keep.set (X := fun j => j = B) _ ⟨B, 2, none⟩ (.string y2) rfl)).trans (Keep.set (X := fun j => j = B) _ ⟨B, 3, none⟩ (.slice y3 j3 c3) rfl)).trans (Keep.set (X := fun j => j = B) _ ⟨B, 4, none⟩ (.bool y4) rfl)).trans (Keep.set (X := fun j => j = B) _ ⟨B, 5, none⟩ (.int .i64 y5) rfl)).trans (Keep.set (X := fun j => j = B) _ ⟨B, 6, none⟩ (.bool y6) rfl)
 have HSF : Hid ((((((((w7.setCell ⟨B, 0, none⟩ (.int .i64 y0)).setCell ⟨B, 1, none⟩ (.int .i64 y1)).setCell ⟨B, 2, none⟩ (.string y2)).setCell ⟨B, 3, none⟩ (.slice y3 j3 c3)).setCell ⟨B, 4, none⟩ (.bool y4)).setCell ⟨B, 5, none⟩ (.int .i64 y5)).setCell ⟨B, 6, none⟩ (.bool y6)).heap[B]? = some (.cells #[(.int .i64 y0), (.int .i64 y1), (.string y2), (.slice y3 j3 c3), (.bool y4), (.int .i64 y5), (.bool y6)] 41 (0, 0))) := hs7
 have HKS := hid hks
 clear hks hs0 hs1 hs2 hs3 hs4 hs5 hs6 hs7
 go_wp2_with fail
 refine bodyPost_ret (results_cell_row rfl _ _ B 41 _ (0, 0) _ rfl HSF.out Tryz.underlying41 rfl (by kernel_rfl)) rfl ?_
 have hfin : ∀ (s : Sh) (cs : List Value) (bs : List UInt8), EncN (fun j => B < j ∧ j < w7.heap.size) w7 s cs bs → EncN (fun j => w.heap.size ≤ j ∧ j < (((((((w7.setCell ⟨B, 0, none⟩ (.int .i64 y0)).setCell ⟨B, 1, none⟩ (.int .i64 y1)).setCell ⟨B, 2, none⟩ (.string y2)).setCell ⟨B, 3, none⟩ (.slice y3 j3 c3)).setCell ⟨B, 4, none⟩ (.bool y4)).setCell ⟨B, 5, none⟩ (.int .i64 y5)).setCell ⟨B, 6, none⟩ (.bool y6)).heap.size) (((((((w7.setCell ⟨B, 0, none⟩ (.int .i64 y0)).setCell ⟨B, 1, none⟩ (.int .i64 y1)).setCell ⟨B, 2, none⟩ (.string y2)).setCell ⟨B, 3, none⟩ (.slice y3 j3 c3)).setCell ⟨B, 4, none⟩ (.bool y4)).setCell ⟨B, 5, none⟩ (.int .i64 y5)).setCell ⟨B, 6, none⟩ (.bool y6)) s cs bs := fun s cs bs h => EncN.mono (fun j hj => ⟨by have := HBE.out; omega, Nat.lt_of_lt_of_le hj.2 HKS.out.size⟩) s (EncN.keep HKS.out (fun j hj e => by have e9 : j = B := e; have := hj.1; omega) s h)
 refine ⟨[(.int .i64 y0), (.int .i64 y1), (.string y2), (.slice y3 j3 c3), (.bool y4), (.int .i64 y5), (.bool y6)], rfl, ?_, HR7.out.keepK HKS.out (fun j e => by have e9 : j = B := e; omega), ?_⟩
 · exact ⟨[(.int .i64 y0)], [(.int .i64 y1), (.string y2), (.slice y3 j3 c3), (.bool y4), (.int .i64 y5), (.bool y6)], _, _, rfl, rfl, hfin _ _ _ HE0_7.out, ⟨[(.int .i64 y1)], [(.string y2), (.slice y3 j3 c3), (.bool y4), (.int .i64 y5), (.bool y6)], _, _, rfl, rfl, hfin _ _ _ HE1_7.out, ⟨[(.string y2)], [(.slice y3 j3 c3), (.bool y4), (.int .i64 y5), (.bool y6)], _, _, rfl, rfl, hfin _ _ _ HE2_7.out, ⟨[(.slice y3 j3 c3)], [(.bool y4), (.int .i64 y5), (.bool y6)], _, _, rfl, rfl, hfin _ _ _ HE3_7.out, ⟨[(.bool y4)], [(.int .i64 y5), (.bool y6)], _, _, rfl, rfl, hfin _ _ _ HE4_7.out, ⟨[(.int .i64 y5)], [(.bool y6)], _, _, rfl, rfl, hfin _ _ _ HE5_7.out, ⟨[(.bool y6)], [], _, _, rfl, rfl, hfin _ _ _ HE6_7.out, ⟨rfl, rfl⟩⟩⟩⟩⟩⟩⟩⟩
 · exact (Keep.of_below HBW.out).trans2 (HK7.out.trans (HKS.out.mono (fun j _ e => .inr e))) (fun j e => by rcases e with e | e <;> first | exact .inl e | exact .inr (by have := HBE.out; omega))
set_option maxHeartbeats 8000000 in
theorem rlist_Index {w : World} {R B : Nat} {st : Rst} {cs : List Value} {t : TypeId} (i : Nat) (h : RAt w R st.1 st.2) (hl : st.1.length ≤ 140737488355328) (hB : w.heap[B]? = some (.cells cs.toArray t (0, 0))) (hi : cs[i]? = some (.slice none 0 0)) (hRB : R < B) :
 Calls Tryz.prog 115 #[.agg #[.pointer (some ⟨R, 0, none⟩)], .pointer (some ⟨B, i, none⟩), (.func (.func 95) #[.agg #[.pointer (some ⟨R, 0, none⟩)]] #[])] w (fun en w' => en = .returned (.tuple #[]) ∧ ∃ v, TkP (.list sIndex) R B w st cs t i v w') := by
 obtain ⟨i0, hi0, hz0, hz1, hz2⟩ : ∃ i0, Tryz.prog.info? 41 = some i0 ∧ i0.zero = some (.agg #[.int .i64 0, .int .i64 0, .string .empty, .slice none 0 0, .bool false, .int .i64 0, .bool false]) ∧ i0.size = 7 ∧ i0.bytes = 80 := by
  have h9 : (Tryz.prog.info? 41).map (fun i => (i.zero, i.size, i.bytes)) = some (some (.agg #[.int .i64 0, .int .i64 0, .string .empty, .slice none 0 0, .bool false, .int .i64 0, .bool false]), 7, 80) := by kernel_rfl
  cases hq : Tryz.prog.info? 41 with
  | none => rw [hq] at h9; cases h9
  | some q => rw [hq] at h9; simp at h9; exact ⟨q, rfl, h9⟩
 have HI0 := hid (And.intro hi0 (And.intro hz0 (And.intro hz1 hz2)))
 clear hi0 hz0 hz1 hz2
 have hb : Below w.heap.size w (w.alloc (.cells #[.pointer (some ⟨R, 0, none⟩)] 79)) := (Below.refl _ _).alloc (Nat.le_refl _) _
 have hz := heap_alloc_new w (.cells #[.pointer (some ⟨R, 0, none⟩)] 79)
 have hRw := h.lt
 have hBw := lt_of_block hB
 have HRW := hid hRw
 have HBW := hid hBw
 have H := hid (h.old hb)
 have HB := hid hb
 have HF := hid ((hb.block _ hBw).trans hB)
 have HI := hid hi
 have HZ := hid hz
 have HLE := hid hl
 clear h hB hi hb hz hl
 go_enter Tryz.func115, Tryz.ntmps115
 go_upto_region 1 with fail
 generalize w.alloc (.cells #[.pointer (some ⟨R, 0, none⟩)] 79) = w1 at *
 obtain ⟨z0, z1⟩ := one_cell HZ.out
 obtain ⟨n, hn⟩ : ∃ n, n = (lookS 5000 st.1 st.2).1 := ⟨_, rfl⟩
 obtain ⟨s1, hs1⟩ : ∃ s1 : Rst, s1 = (st.1.drop (lookS 5000 st.1 st.2).2.1, (lookS 5000 st.1 st.2).2.2) := ⟨_, rfl⟩
 have HN := hid (And.intro hn hs1)
 have hn5 : n ≤ 5000 := by rw [hn]; exact lookS_most _ _ _
 have C0 : Hid (Calls Tryz.prog 140 #[.pointer (some ⟨R, 0, none⟩), .int .i64 5000] w1 (fun en w' => en = .returned (.int .i64 (n : Int)) ∧ RAt w' R s1.1 s1.2 ∧ w1.grownBy w' (some R))) := hid ((smallR_any w1 R st.1 st.2 5000 (by decide) H.out).mono (fun en w9 h9 => by rw [hn, hs1]; exact h9))
 have HS1 : Hid (s1.1.length ≤ st.1.length) := hid (by rw [hs1]; simp)
 clear hn hs1
 go_wp2_with (first | (go_at_call 140; refine C0.out.mono ?_; rintro en w2 ⟨rfl, h2, g2⟩; have H2 := hid h2; have K2 := hid (show Keep (fun j => j = R ∨ j = B) w w2 from (Keep.of_below HB.out).trans ((Keep.of_grown (X := fun j => j = R) g2 (fun j e => by cases e; rfl)).mono (fun j _ e => .inl e))); have HF2 := hid ((g2.block B (lt_of_block HF.out) (fun e => by cases e; omega)).trans HF.out); have HZ2 := hid ((g2.block w.heap.size (lt_of_block HZ.out) (fun e => by cases e; omega)).trans HZ.out); clear h2 g2))
 clear z0 z1 C0
 go_loopw [9] (fun ix wr => ∃ (k : Nat) (M : List (List Value × List UInt8)) (ao : Option Addr) (c : Nat) (sk : Rst), ix = .int .i64 (k : Int) ∧ wr.heap[w.heap.size]? = some (.cells #[.pointer (some ⟨R, 0, none⟩)] 79 (0, 0)) ∧ TLp sIndex 41 R B i w cs t n s1 wr k M ao c sk) (fun ix _ => n - (intOf ix).toNat)
 case atStart => exact ⟨0, [], none, 0, s1, rfl, HZ2.out, TLp.begin HI.out HF2.out H2.out K2.out⟩
 case round =>
  obtain ⟨k, M, ao, c, sk, rfl, hzr, ht⟩ := hrel
  have hk := ht.le
  have HT := hid ht
  have HZR := hid hzr
  clear ht hzr
  by_cases hlt : k < n
  · have hki : (k : Int) < (n : Int) := by omega
    go_upto_region 3 with fail
    have hWd : Below wr.heap.size wr wr.drew := ⟨rfl, rfl, rfl, Nat.le_refl _, fun _ _ => rfl⟩
    have HLk : Hid (sk.1.length ≤ 140737488355328) := hid (by have := HT.out.small; have := HS1.out; have := HLE.out; omega)
    have HTd : Hid (RAt wr.drew R sk.1 sk.2) := hid (HT.out.rat.old hWd)
    have HFd : Hid (wr.drew.heap[B]? = some (.cells (cs.set i (.slice ao k c)).toArray t (0, 0))) := HT.out.field
    have HLI := hid (List.getElem?_set_self (a := .slice ao k c) (List.getElem?_eq_some_iff.1 HI.out).1)
    have CN := hid (rIndex_any HTd.out HLk.out)
    have HUD : Hid (∀ mc w9, RdP sIndex R wr.drew sk mc w9 → RdP sIndex R wr sk mc w9) := hid fun _ _ h => h.undrew
    have HZd : Hid (wr.drew.heap[w.heap.size]? = some (.cells #[.pointer (some ⟨R, 0, none⟩)] 79 (0, 0))) := HZR.out
    clear hWd
    refine wp_region_noPanic ?_
    refine wp_region_L (S := fun W => Hid (W.cell? ⟨B, i, none⟩ = some (.slice ao k c))) 9 (by kernel_rfl) ?_
    have HD0 := hid (row_at HFd.out HLI.out).1
    generalize wr.drew = Wd at *
    refine tkV 0 (.pointer (some ⟨B, i, none⟩)) rfl (by kernel_rfl) (fun _ _ _ => False.elim) (Or.inl ⟨by rfl, fun W9 _ => by simp only [jA, jB, jC]; go_simp⟩) (fun _ => HD0) ?_
    simp only [Act.put, jA, jB, jC, jD, jE, jF]
    refine tkV 1 (.pointer (some ⟨B, i, none⟩)) rfl (by kernel_rfl) (fun _ _ _ => False.elim) (Or.inl ⟨by rfl, fun W9 _ => by simp only [jA, jB, jC]; go_simp⟩) (fun _ => HD0) ?_
    simp only [Act.put, jA, jB, jC, jD, jE, jF]
    refine tkV 2 (.pointer (some ⟨B, i, none⟩)) rfl (by kernel_rfl) (fun _ _ _ => False.elim) (Or.inl ⟨by rfl, fun W9 _ => by simp only [jA, jB, jC]; go_simp⟩) (fun _ => HD0) ?_
    simp only [Act.put, jA, jB, jC, jD, jE, jF]
    refine tkV 4 (.func (.func 95) #[.agg #[.pointer (some ⟨R, 0, none⟩)]] #[]) rfl (by kernel_rfl) (fun _ _ _ => False.elim) (Or.inl ⟨by rfl, fun W9 _ => by simp only [jA, jB, jC]; go_simp⟩) (fun _ => HD0) ?_
    simp only [Act.put, jA, jB, jC, jD, jE, jF]
    refine tkL 3 (.slice ao k c) [3, 7, 9] rfl (by kernel_rfl) (fun _ _ _ => False.elim) HD0 (Or.inl ⟨by rfl, fun W9 hW => by have d9 := hW.out; clear hW; simp only [jA, jB, jC]; go_simp⟩) ?_
    simp only [Act.put, jA, jB, jC, jD, jE, jF]
    refine rdL 5 (by kernel_rfl) rfl fun K hK => ?_
    go_simp
    go_wp2_with (first | (go_at_call 95; refine CN.out.mono ?_; rintro en wT ⟨mc, rfl, hv⟩; obtain ⟨v0, v1, v2, v3, v4, v5, v6, b0, b1, b2, b3, b4, b5, b6, rfl, _, e0, e1, e2, e3, e4, e5, e6⟩ := Index_cells (EncN.enc _ hv.1); obtain ⟨y0, rfl⟩ := form_int e0; obtain ⟨y1, rfl⟩ := form_int e1; obtain ⟨y2, rfl⟩ := form_name e2; obtain ⟨y3, j3, c3, rfl⟩ := form_list e3; obtain ⟨y4, rfl⟩ := form_bool e4; obtain ⟨y5, rfl⟩ := form_int e5; obtain ⟨y6, rfl⟩ := form_bool e6; clear e0 e1 e2 e3 e4 e5 e6; have HV := hid (HUD.out _ _ hv); have HZT := hid ((hv.2.2.block w.heap.size (lt_of_block HZd.out) (fun e => by have e9 : w.heap.size = R := e; omega)).trans HZd.out); have HFT := hid ((hv.2.2.block B (lt_of_block HFd.out) (fun e => by have e9 : B = R := e; omega)).trans HFd.out); clear hv))
    refine hK.out _ _ (hid (row_at HFT.out HLI.out).1) fun _ => ?_
    clear hK K
    have H3 : Hid (Below wT.heap.size wT (wT.alloc (.cells #[.int .i64 y0, .int .i64 y1, .string y2, .slice y3 j3 c3, .bool y4, .int .i64 y5, .bool y6] 41))) := hid ((Below.refl _ _).alloc (Nat.le_refl _) _)
    have HR3 := hid (heap_alloc_new wT (.cells #[.int .i64 y0, .int .i64 y1, .string y2, .slice y3 j3 c3, .bool y4, .int .i64 y5, .bool y6] 41))
    have HF3 := hid ((H3.out.block B (lt_of_block HFT.out)).trans HFT.out)
    have HOW := hid (own_old (own_keep (X := fun j => j = R) HT.out.own (show Keep _ wr wT from HV.out.2.2) (fun j e e9 => by have e8 : j = R := e9; have := (HT.out.own.lt j e).1; omega)) H3.out)
    have HSZ : Hid (w.heap.size + 1 ≤ (wT.alloc (.cells #[.int .i64 y0, .int .i64 y1, .string y2, .slice y3 j3 c3, .bool y4, .int .i64 y5, .bool y6] 41)).heap.size) := hid (by have := lt_of_block HZT.out; have := H3.out.size; show _ ≤ _; omega)
    refine rdL 6 (by kernel_rfl) rfl fun K hK => ?_
    go_simp
    refine hK.out _ _ (hid (row_at HF3.out HLI.out).1) fun _ => ?_
    clear hK K
    refine rdL 7 (by kernel_rfl) rfl fun K hK => ?_
    refine step_app1 (by rfl) (.tmp 14) (.tmp 17) 48 (by rfl) (w.heap.size + 1) 41 Tryz.underlying48 HI0.out.1 HI0.out.2.1 HI0.out.2.2.1 HI0.out.2.2.2 (by simp [Value.cells]) (by decide) _ k _ (by rfl) HOW.out wT.heap.size [.int .i64 y0, .int .i64 y1, .string y2, .slice y3 j3 c3, .bool y4, .int .i64 y5, .bool y6] (by rfl) HR3.out rfl (fun u hu => by simp only [List.mem_cons, List.not_mem_nil, or_false] at hu; rcases hu with rfl | rfl | rfl | rfl | rfl | rfl | rfl <;> rfl) (by omega) (by decide) HSZ.out (fun g cap w' o5 g5 gg5 => ?_)
    have HF4 := hid (heap_kept g5 HF3.out (fun e => by have := (HT.out.own.lt B e.symm).1; omega))
    have HZ5 : Hid ((w'.setCell ⟨B, i, none⟩ (.slice (some ⟨g, 0, none⟩) (k + 1) cap)).heap[w.heap.size]? = some (.cells #[.pointer (some ⟨R, 0, none⟩)] 79 (0, 0))) := hid (heap_kept (grown_set w' ⟨B, i, none⟩ _) (heap_kept g5 ((H3.out.block _ (lt_of_block HZT.out)).trans HZT.out) (fun e => by have := (HT.out.own.lt _ e.symm).1; omega)) (fun e => by have e9 : w.heap.size = B := (by simpa using e); have := HBW.out; omega))
    have HNX := hid (HT.out.next HRW.out HBW.out hRB hlt (show RdP sIndex R wr sk [.int .i64 y0, .int .i64 y1, .string y2, .slice y3 j3 c3, .bool y4, .int .i64 y5, .bool y6] wT from HV.out) H3.out o5 g5 gg5)
    clear o5 g5 gg5
    refine hK.out _ _ (hid (row_at HF4.out HLI.out).1) fun _ => ?_
    clear hK K
    simp only [Act.put, jA, jB, jC, jD, jE, jF]
    refine tkV 8 (.pointer (some ⟨B, i, none⟩)) rfl (by kernel_rfl) (fun _ _ _ => False.elim) (Or.inl ⟨by rfl, fun W9 _ => by simp only [jA, jB, jC]; go_simp⟩) (fun _ => hid (row_at HF4.out HLI.out).1) ?_
    simp only [Act.put, jA, jB, jC, jD, jE, jF]
    obtain ⟨q0, q1⟩ := row_at HF4.out HLI.out
    refine rdS (by kernel_rfl) rfl fun K hK => ?_
    go_simp
    refine hK.out _ _ ?_
    clear hK K q0 q1
    refine doneL (by kernel_rfl) (NoPanic.normal ?_) _
    generalize w'.setCell ⟨B, i, none⟩ (.slice (some ⟨g, 0, none⟩) (k + 1) cap) = w5 at *
    obtain ⟨p0, p1⟩ := one_cell HZ5.out
    have CE := hid (err_any w5 R _ _ HNX.out.1)
    obtain ⟨ev, hev⟩ : ∃ ev, ev = (rdF sIndex sk).2.2 := ⟨_, rfl⟩
    rw [← hev] at CE
    by_cases h0 : ev = 0
    · have HNE := hid (HNX.out.2.1 (by rw [← hev]; exact h0))
      subst h0
      clear hev
      go_wp2_with (first | (go_at_call 132; refine CE.out.mono ?_; rintro en w6 ⟨rfl, rfl⟩))
      go_roundw
      case rel => exact ⟨k + 1, _, _, _, _, by go_num, HZ5.out, HNE.out⟩
      case measure => simp [intOf]; omega
    · have HNE := hid (HNX.out.2.2 (by rw [← hev]; exact h0) hn5)
      have hbe : (ev != 0) = true := by simp [h0]
      clear hev
      go_wp2_with (first | (go_at_call 132; refine CE.out.mono ?_; rintro en w6 ⟨rfl, rfl⟩))
      (try simp only [Exit.inBlock, Exit.then]); refine bodyPost_ret (results_none rfl _ _ _) rfl ?_
      obtain ⟨m1, m2, m3, m4⟩ := HNE.out
      refine ⟨rfl, .slice (some ⟨g, 0, none⟩) (k + 1) cap, ?_, m2, ?_, m4⟩
      · simp only [rdF]; rw [← HN.out.1, ← HN.out.2]; exact m1
      · simp only [rdF]; rw [← HN.out.1, ← HN.out.2]; exact m3
  · obtain rfl : n = k := by omega
    have hki : ¬ (n : Int) < (n : Int) := by omega
    go_wp2_with fail
    go_end0
    obtain ⟨p1, p2⟩ := HT.out.done hn5
    refine ⟨rfl, .slice ao n c, ?_, HT.out.field, ?_, HT.out.keep⟩
    · simp only [rdF]; rw [← HN.out.1, ← HN.out.2]; exact p1
    · simp only [rdF]; rw [← HN.out.1, ← HN.out.2]; exact p2
end Go.Proofs.YtmdgifmigikffaaGreat
namespace Go.Proofs.YtmdgifmigikffaaGreat
open Go.RowKit Go.Deep
set_option maxHeartbeats 8000000 in
theorem rCatalog_any {w : World} {R : Nat} {st : Rst} (h : RAt w R st.1 st.2) (hl : st.1.length ≤ 140737488355328) :
 Calls Tryz.prog 48 #[.agg #[.pointer (some ⟨R, 0, none⟩)]] w (fun en w' => ∃ cs, en = .returned (.agg cs.toArray) ∧ RdP sCatalog R w st cs w') := by
 have hb : Below w.heap.size w ((w.alloc (.cells #[.pointer (some ⟨R, 0, none⟩)] 79)).alloc (.cells #[.int .i64 0, .int .i64 0, .slice none 0 0, .slice none 0 0] 50)) := ((Below.refl _ _).alloc (Nat.le_refl _) _).alloc (by simp) _
 have hz := (Below.heap_alloc (w.alloc (.cells #[.pointer (some ⟨R, 0, none⟩)] 79)) (.cells #[.int .i64 0, .int .i64 0, .slice none 0 0, .slice none 0 0] 50) w.heap.size (by simp)).trans (heap_alloc_new w (.cells #[.pointer (some ⟨R, 0, none⟩)] 79))
 have hB := heap_alloc2_new w (.cells #[.pointer (some ⟨R, 0, none⟩)] 79) (.cells #[.int .i64 0, .int .i64 0, .slice none 0 0, .slice none 0 0] 50)
 obtain ⟨B, hBe⟩ : ∃ B, B = w.heap.size + 1 := ⟨_, rfl⟩
 have hRw := h.lt
 have hRB : R < B := by omega
 have HR0 := hid (h.old hb)
 rw [← hBe] at hB
 have HB0 := hid hB
 have HX0 := hid hz
 have HBW := hid hb
 have HL0 := hid hl
 clear h hb hz hB hl
 go_enter Tryz.func48, Tryz.ntmps48
 go_upto_region 1 with fail
 generalize (w.alloc (.cells #[.pointer (some ⟨R, 0, none⟩)] 79)).alloc (.cells #[.int .i64 0, .int .i64 0, .slice none 0 0, .slice none 0 0] 50) = w0 at *
 try rw [← hBe]
 have HK0 : Hid (Keep (fun j => j = R ∨ j = B) w0 w0) := hid (Keep.refl _ _)
 have HBE := hid hBe
 clear hBe
 have y0 := (one_cell HX0.out).1
 have CQ := hid (rtake_whole 0 HR0.out HL0.out HB0.out rfl hRB)
 go_upto_region 2 with (first | (go_at_call 80; refine CQ.out.mono ?_; rintro en w1 ⟨rfl, v0, hv⟩; have HV0 := hid hv; clear hv))
 clear CQ y0
 have HB1 : Hid (w1.heap[B]? = some (.cells #[v0, .int .i64 0, .slice none 0 0, .slice none 0 0] 50 (0, 0))) := HV0.out.2.1
 have HR1 : Hid (RAt w1 R (rdF .int st).2.1 (rdF .int st).2.2) := HV0.out.2.2.1
 have HL1 : Hid ((rdF .int st).2.1.length ≤ 140737488355328) := hid (Nat.le_trans (rd_len _ _) HL0.out)
 have HX1 := hid ((HV0.out.2.2.2.block w.heap.size (lt_of_block HX0.out) (fun e => by have e9 : w.heap.size = R ∨ w.heap.size = B := e; have := HBE.out; omega)).trans HX0.out)
 have HK1 := hid (HK0.out.trans HV0.out.2.2.2)
 have HE0_1 : Hid (EncN (fun j => B < j ∧ j < w1.heap.size) w1 .int [v0] (rdF .int st).1) := hid (EncN.mono (fun j hj => ⟨Nat.lt_of_lt_of_le (lt_of_block HB0.out) hj.1, hj.2⟩) _ HV0.out.1)
 have y0 := (one_cell HX1.out).1
 have CQ := hid (rtake_whole 1 HR1.out HL1.out HB1.out rfl hRB)
 go_upto_region 3 with (first | (go_at_call 80; refine CQ.out.mono ?_; rintro en w2 ⟨rfl, v1, hv⟩; have HV1 := hid hv; clear hv))
 clear CQ y0
 have HB2 : Hid (w2.heap[B]? = some (.cells #[v0, v1, .slice none 0 0, .slice none 0 0] 50 (0, 0))) := HV1.out.2.1
 have HR2 : Hid (RAt w2 R (rdF .int (rdF .int st).2).2.1 (rdF .int (rdF .int st).2).2.2) := HV1.out.2.2.1
 have HL2 : Hid ((rdF .int (rdF .int st).2).2.1.length ≤ 140737488355328) := hid (Nat.le_trans (rd_len _ _) HL1.out)
 have HX2 := hid ((HV1.out.2.2.2.block w.heap.size (lt_of_block HX1.out) (fun e => by have e9 : w.heap.size = R ∨ w.heap.size = B := e; have := HBE.out; omega)).trans HX1.out)
 have HK2 := hid (HK1.out.trans HV1.out.2.2.2)
 have HE1_2 : Hid (EncN (fun j => B < j ∧ j < w2.heap.size) w2 .int [v1] (rdF .int (rdF .int st).2).1) := hid (EncN.mono (fun j hj => ⟨Nat.lt_of_lt_of_le (lt_of_block HB1.out) hj.1, hj.2⟩) _ HV1.out.1)
 have HE0_2 : Hid (EncN (fun j => B < j ∧ j < w2.heap.size) w2 .int [v0] (rdF .int st).1) := hid (EncN.mono (fun j hj => ⟨hj.1, Nat.lt_of_lt_of_le hj.2 HV1.out.2.2.2.size⟩) _ (EncN.keep HV1.out.2.2.2 (fun j hj e => by have e9 : j = R ∨ j = B := e; have := hj.1; omega) _ HE0_1.out))
 have y0 := (one_cell HX2.out).1
 have CQ := hid (rlist_Table 2 HR2.out HL2.out HB2.out rfl hRB)
 go_upto_region 4 with (first | (go_at_call 114; refine CQ.out.mono ?_; rintro en w3 ⟨rfl, v2, hv⟩; have HV2 := hid hv; clear hv))
 clear CQ y0
 have HB3 : Hid (w3.heap[B]? = some (.cells #[v0, v1, v2, .slice none 0 0] 50 (0, 0))) := HV2.out.2.1
 have HR3 : Hid (RAt w3 R (rdF (.list sTable) (rdF .int (rdF .int st).2).2).2.1 (rdF (.list sTable) (rdF .int (rdF .int st).2).2).2.2) := HV2.out.2.2.1
 have HL3 : Hid ((rdF (.list sTable) (rdF .int (rdF .int st).2).2).2.1.length ≤ 140737488355328) := hid (Nat.le_trans (rd_len _ _) HL2.out)
 have HX3 := hid ((HV2.out.2.2.2.block w.heap.size (lt_of_block HX2.out) (fun e => by have e9 : w.heap.size = R ∨ w.heap.size = B := e; have := HBE.out; omega)).trans HX2.out)
 have HK3 := hid (HK2.out.trans HV2.out.2.2.2)
 have HE2_3 : Hid (EncN (fun j => B < j ∧ j < w3.heap.size) w3 (.list sTable) [v2] (rdF (.list sTable) (rdF .int (rdF .int st).2).2).1) := hid (EncN.mono (fun j hj => ⟨Nat.lt_of_lt_of_le (lt_of_block HB2.out) hj.1, hj.2⟩) _ HV2.out.1)
 have HE0_3 : Hid (EncN (fun j => B < j ∧ j < w3.heap.size) w3 .int [v0] (rdF .int st).1) := hid (EncN.mono (fun j hj => ⟨hj.1, Nat.lt_of_lt_of_le hj.2 HV2.out.2.2.2.size⟩) _ (EncN.keep HV2.out.2.2.2 (fun j hj e => by have e9 : j = R ∨ j = B := e; have := hj.1; omega) _ HE0_2.out))
 have HE1_3 : Hid (EncN (fun j => B < j ∧ j < w3.heap.size) w3 .int [v1] (rdF .int (rdF .int st).2).1) := hid (EncN.mono (fun j hj => ⟨hj.1, Nat.lt_of_lt_of_le hj.2 HV2.out.2.2.2.size⟩) _ (EncN.keep HV2.out.2.2.2 (fun j hj e => by have e9 : j = R ∨ j = B := e; have := hj.1; omega) _ HE1_2.out))
 have y0 := (one_cell HX3.out).1
 have CQ := hid (rlist_Index 3 HR3.out HL3.out HB3.out rfl hRB)
 go_upto_region 5 with (first | (go_at_call 115; refine CQ.out.mono ?_; rintro en w4 ⟨rfl, v3, hv⟩; have HV3 := hid hv; clear hv))
 clear CQ y0
 have HB4 : Hid (w4.heap[B]? = some (.cells #[v0, v1, v2, v3] 50 (0, 0))) := HV3.out.2.1
 have HR4 : Hid (RAt w4 R (rdF (.list sIndex) (rdF (.list sTable) (rdF .int (rdF .int st).2).2).2).2.1 (rdF (.list sIndex) (rdF (.list sTable) (rdF .int (rdF .int st).2).2).2).2.2) := HV3.out.2.2.1
 have HL4 : Hid ((rdF (.list sIndex) (rdF (.list sTable) (rdF .int (rdF .int st).2).2).2).2.1.length ≤ 140737488355328) := hid (Nat.le_trans (rd_len _ _) HL3.out)
 have HX4 := hid ((HV3.out.2.2.2.block w.heap.size (lt_of_block HX3.out) (fun e => by have e9 : w.heap.size = R ∨ w.heap.size = B := e; have := HBE.out; omega)).trans HX3.out)
 have HK4 := hid (HK3.out.trans HV3.out.2.2.2)
 have HE3_4 : Hid (EncN (fun j => B < j ∧ j < w4.heap.size) w4 (.list sIndex) [v3] (rdF (.list sIndex) (rdF (.list sTable) (rdF .int (rdF .int st).2).2).2).1) := hid (EncN.mono (fun j hj => ⟨Nat.lt_of_lt_of_le (lt_of_block HB3.out) hj.1, hj.2⟩) _ HV3.out.1)
 have HE0_4 : Hid (EncN (fun j => B < j ∧ j < w4.heap.size) w4 .int [v0] (rdF .int st).1) := hid (EncN.mono (fun j hj => ⟨hj.1, Nat.lt_of_lt_of_le hj.2 HV3.out.2.2.2.size⟩) _ (EncN.keep HV3.out.2.2.2 (fun j hj e => by have e9 : j = R ∨ j = B := e; have := hj.1; omega) _ HE0_3.out))
 have HE1_4 : Hid (EncN (fun j => B < j ∧ j < w4.heap.size) w4 .int [v1] (rdF .int (rdF .int st).2).1) := hid (EncN.mono (fun j hj => ⟨hj.1, Nat.lt_of_lt_of_le hj.2 HV3.out.2.2.2.size⟩) _ (EncN.keep HV3.out.2.2.2 (fun j hj e => by have e9 : j = R ∨ j = B := e; have := hj.1; omega) _ HE1_3.out))
 have HE2_4 : Hid (EncN (fun j => B < j ∧ j < w4.heap.size) w4 (.list sTable) [v2] (rdF (.list sTable) (rdF .int (rdF .int st).2).2).1) := hid (EncN.mono (fun j hj => ⟨hj.1, Nat.lt_of_lt_of_le hj.2 HV3.out.2.2.2.size⟩) _ (EncN.keep HV3.out.2.2.2 (fun j hj e => by have e9 : j = R ∨ j = B := e; have := hj.1; omega) _ HE2_3.out))
 obtain ⟨y0, rfl⟩ := form_int (EncN.enc _ HE0_4.out)
 obtain ⟨y1, rfl⟩ := form_int (EncN.enc _ HE1_4.out)
 obtain ⟨y2, j2, c2, rfl⟩ := form_list (EncN.enc _ HE2_4.out)
 obtain ⟨y3, j3, c3, rfl⟩ := form_list (EncN.enc _ HE3_4.out)
 obtain ⟨q0, r0⟩ := row_at (cs := [(.int .i64 y0), (.int .i64 y1), (.slice y2 j2 c2), (.slice y3 j3 c3)]) HB4.out (i := 0) rfl
 obtain ⟨q1, r1⟩ := row_at (cs := [(.int .i64 y0), (.int .i64 y1), (.slice y2 j2 c2), (.slice y3 j3 c3)]) HB4.out (i := 1) rfl
 obtain ⟨q2, r2⟩ := row_at (cs := [(.int .i64 y0), (.int .i64 y1), (.slice y2 j2 c2), (.slice y3 j3 c3)]) HB4.out (i := 2) rfl
 obtain ⟨q3, r3⟩ := row_at (cs := [(.int .i64 y0), (.int .i64 y1), (.slice y2 j2 c2), (.slice y3 j3 c3)]) HB4.out (i := 3) rfl
 have hs0 : w4.heap[B]? = some (.cells ([(.int .i64 y0), (.int .i64 y1), (.slice y2 j2 c2), (.slice y3 j3 c3)] : List Value).toArray 50 (0, 0)) := HB4.out
 have hs1 := row_put hs0 0 (.int .i64 y0)
 have hs2 := row_put hs1 1 (.int .i64 y1)
 have hs3 := row_put hs2 2 (.slice y2 j2 c2)
 have hs4 := row_put hs3 3 (.slice y3 j3 c3)
 have hks : Keep (fun j => j = B) w4 ((((w4.setCell ⟨B, 0, none⟩ (.int .i64 y0)).setCell ⟨B, 1, none⟩ (.int .i64 y1)).setCell ⟨B, 2, none⟩ (.slice y2 j2 c2)).setCell ⟨B, 3, none⟩ (.slice y3 j3 c3)) := ((((Keep.refl (fun j => j = B) _).trans (Keep.set (X := fun j => j = B) _ ⟨B, 0, none⟩ (.int .i64 y0) rfl)).trans (Keep.set (X := fun j => j = B) _ ⟨B, 1, none⟩ (.int .i64 y1) rfl)).trans (Keep.set (X := fun j => j = B) _ ⟨B, 2, none⟩ (.slice y2 j2 c2) rfl)).trans (Keep.set (X := fun j => j = B) _ ⟨B, 3, none⟩ (.slice y3 j3 c3) rfl)
 have HSF : Hid (((((w4.setCell ⟨B, 0, none⟩ (.int .i64 y0)).setCell ⟨B, 1, none⟩ (.int .i64 y1)).setCell ⟨B, 2, none⟩ (.slice y2 j2 c2)).setCell ⟨B, 3, none⟩ (.slice y3 j3 c3)).heap[B]? = some (.cells #[(.int .i64 y0), (.int .i64 y1), (.slice y2 j2 c2), (.slice y3 j3 c3)] 50 (0, 0))) := hs4
 have HKS := hid hks
 clear hks hs0 hs1 hs2 hs3 hs4
 go_wp2_with fail
 refine bodyPost_ret (results_cell_row rfl _ _ B 50 _ (0, 0) _ rfl HSF.out Tryz.underlying50 rfl (by kernel_rfl)) rfl ?_
 have hfin : ∀ (s : Sh) (cs : List Value) (bs : List UInt8), EncN (fun j => B < j ∧ j < w4.heap.size) w4 s cs bs → EncN (fun j => w.heap.size ≤ j ∧ j < ((((w4.setCell ⟨B, 0, none⟩ (.int .i64 y0)).setCell ⟨B, 1, none⟩ (.int .i64 y1)).setCell ⟨B, 2, none⟩ (.slice y2 j2 c2)).setCell ⟨B, 3, none⟩ (.slice y3 j3 c3)).heap.size) ((((w4.setCell ⟨B, 0, none⟩ (.int .i64 y0)).setCell ⟨B, 1, none⟩ (.int .i64 y1)).setCell ⟨B, 2, none⟩ (.slice y2 j2 c2)).setCell ⟨B, 3, none⟩ (.slice y3 j3 c3)) s cs bs := fun s cs bs h => EncN.mono (fun j hj => ⟨by have := HBE.out; omega, Nat.lt_of_lt_of_le hj.2 HKS.out.size⟩) s (EncN.keep HKS.out (fun j hj e => by have e9 : j = B := e; have := hj.1; omega) s h)
 refine ⟨[(.int .i64 y0), (.int .i64 y1), (.slice y2 j2 c2), (.slice y3 j3 c3)], rfl, ?_, HR4.out.keepK HKS.out (fun j e => by have e9 : j = B := e; omega), ?_⟩
 · exact ⟨[(.int .i64 y0)], [(.int .i64 y1), (.slice y2 j2 c2), (.slice y3 j3 c3)], _, _, rfl, rfl, hfin _ _ _ HE0_4.out, ⟨[(.int .i64 y1)], [(.slice y2 j2 c2), (.slice y3 j3 c3)], _, _, rfl, rfl, hfin _ _ _ HE1_4.out, ⟨[(.slice y2 j2 c2)], [(.slice y3 j3 c3)], _, _, rfl, rfl, hfin _ _ _ HE2_4.out, ⟨[(.slice y3 j3 c3)], [], _, _, rfl, rfl, hfin _ _ _ HE3_4.out, ⟨rfl, rfl⟩⟩⟩⟩⟩
 · exact (Keep.of_below HBW.out).trans2 (HK4.out.trans (HKS.out.mono (fun j _ e => .inr e))) (fun j e => by rcases e with e | e <;> first | exact .inl e | exact .inr (by have := HBE.out; omega))
end Go.Proofs.YtmdgifmigikffaaGreat
