import Derived.WalkKit
import Derived.OpenShut
import Derived.Test.YtmdgifmigikffaaGreatRows
import Derived.WalkSpells
import Derived.WalkLawsBesides
import Derived.Laws.AppendOwnNone
import Derived.ProofKit
import Derived.ShutString
import Derived.ChangeOld
import Derived.Below
import Derived.SizedLaws
import Derived.Deep.Slices
import Derived.Deep.AppendLies
import Derived.Deep.RegionHeld
import Derived.Deep.Strs
import Derived.Deep.RegionHeld3
import Derived.Lib.ConvBytes
import Derived.Laws.AppendOwn
import Derived.Deep.CutRange
import Derived.Deep.MidRow
import Derived.Great.Walk
import Derived.Great.BuildSlice
import Derived.Test.YtmdgifmigikffaaGreatWX1
import Derived.Test.YtmdgifmigikffaaGreatWX2
import Derived.Test.YtmdgifmigikffaaGreatWX3
import Derived.Test.YtmdgifmigikffaaGreatWX4
import Derived.Test.YtmdgifmigikffaaGreatWX5
import Derived.Test.YtmdgifmigikffaaGreatWX6
set_option linter.unusedVariables false
set_option linter.unusedSimpArgs false
set_option maxRecDepth 100000
namespace Go.Proofs.YtmdgifmigikffaaGreat
open Go.RowKit Go.Deep
set_option maxHeartbeats 8000000 in
theorem rSet_any {w : World} {R : Nat} {st : Rst} (h : RAt w R st.1 st.2) (hl : st.1.length ≤ 140737488355328) :
 Calls Tryz.prog 152 #[.agg #[.pointer (some ⟨R, 0, none⟩)]] w (fun en w' => ∃ cs, en = .returned (.agg cs.toArray) ∧ RdP sSet R w st cs w') := by
 have hb : Below w.heap.size w ((w.alloc (.cells #[.pointer (some ⟨R, 0, none⟩)] 79)).alloc (.cells #[.int .i64 0, .int .i64 0, .int .i64 0, .string ⟨#[]⟩] 203)) := ((Below.refl _ _).alloc (Nat.le_refl _) _).alloc (by simp) _
 have hz := (Below.heap_alloc (w.alloc (.cells #[.pointer (some ⟨R, 0, none⟩)] 79)) (.cells #[.int .i64 0, .int .i64 0, .int .i64 0, .string ⟨#[]⟩] 203) w.heap.size (by simp)).trans (heap_alloc_new w (.cells #[.pointer (some ⟨R, 0, none⟩)] 79))
 have hB := heap_alloc2_new w (.cells #[.pointer (some ⟨R, 0, none⟩)] 79) (.cells #[.int .i64 0, .int .i64 0, .int .i64 0, .string ⟨#[]⟩] 203)
 obtain ⟨B, hBe⟩ : ∃ B, B = w.heap.size + 1 := ⟨_, rfl⟩
 have hRw := h.lt
 have hRB : R < B := by omega
 have HR0 := hid (h.old hb)
 rw [← hBe] at hB
 have HB0 := hid hB
 have HX0 := hid hz
 have HBW := hid hb
 have HL0 := hid hl
 clear h hb hz hB hl
 go_enter Tryz.func152, Tryz.ntmps152
 go_upto_region 1 with fail
 generalize (w.alloc (.cells #[.pointer (some ⟨R, 0, none⟩)] 79)).alloc (.cells #[.int .i64 0, .int .i64 0, .int .i64 0, .string ⟨#[]⟩] 203) = w0 at *
 try rw [← hBe]
 have HK0 : Hid (Keep (fun j => j = R ∨ j = B) w0 w0) := hid (Keep.refl _ _)
 have HBE := hid hBe
 clear hBe
 have y0 := (one_cell HX0.out).1
 have CQ := hid (rtake_whole 0 HR0.out HL0.out HB0.out rfl hRB)
 go_upto_region 2 with (first | (go_at_call 80; refine CQ.out.mono ?_; rintro en w1 ⟨rfl, v0, hv⟩; have HV0 := hid hv; clear hv))
 clear CQ y0
 have HB1 : Hid (w1.heap[B]? = some (.cells #[v0, .int .i64 0, .int .i64 0, .string ⟨#[]⟩] 203 (0, 0))) := HV0.out.2.1
 have HR1 : Hid (RAt w1 R (rdF .int st).2.1 (rdF .int st).2.2) := HV0.out.2.2.1
 have HL1 : Hid ((rdF .int st).2.1.length ≤ 140737488355328) := hid (Nat.le_trans (rd_len _ _) HL0.out)
 have HX1 := hid ((HV0.out.2.2.2.block w.heap.size (lt_of_block HX0.out) (fun e => by have e9 : w.heap.size = R ∨ w.heap.size = B := e; have := HBE.out; omega)).trans HX0.out)
 have HK1 := hid (HK0.out.trans HV0.out.2.2.2)
 have HE0_1 := hid (EncN.top HB0.out HV0.out.1)
 have y0 := (one_cell HX1.out).1
 have CQ := hid (stake_Value_1 HR1.out HL1.out HB1.out rfl rfl rfl hRB)
 go_upto_region 3 with (first | (go_at_call 170; refine CQ.out.mono ?_; rintro en w2 ⟨rfl, v1_0, v1_1, v1_2, hv⟩; have HV1 := hid hv; clear hv))
 clear CQ y0
 have HB2 : Hid (w2.heap[B]? = some (.cells #[v0, v1_0, v1_1, v1_2] 203 (0, 0))) := HV1.out.2.1
 have HR2 : Hid (RAt w2 R (rdF sValue (rdF .int st).2).2.1 (rdF sValue (rdF .int st).2).2.2) := HV1.out.2.2.1
 have HL2 : Hid ((rdF sValue (rdF .int st).2).2.1.length ≤ 140737488355328) := hid (Nat.le_trans (rd_len _ _) HL1.out)
 have HX2 := hid ((HV1.out.2.2.2.block w.heap.size (lt_of_block HX1.out) (fun e => by have e9 : w.heap.size = R ∨ w.heap.size = B := e; have := HBE.out; omega)).trans HX1.out)
 have HK2 := hid (HK1.out.trans HV1.out.2.2.2)
 have HE1_2 := hid (EncN.top HB1.out HV1.out.1)
 have HE0_2 := hid (EncN.hopc hRB HV1.out.2.2.2 HE0_1.out)
 clear HE0_1
 obtain ⟨y0, rfl⟩ := form_int (EncN.enc _ HE0_2.out)
 obtain ⟨⟨f1_y0, rfl⟩, ⟨f1_y1, rfl⟩, ⟨f1_y2, rfl⟩⟩ := Value_forms (EncN.enc _ HE1_2.out)
 obtain ⟨q0, r0⟩ := row_at (cs := [(.int .i64 y0), (.int .i64 f1_y0), (.int .i64 f1_y1), (.string f1_y2)]) HB2.out (i := 0) rfl
 obtain ⟨q1, r1⟩ := row_at (cs := [(.int .i64 y0), (.int .i64 f1_y0), (.int .i64 f1_y1), (.string f1_y2)]) HB2.out (i := 1) rfl
 obtain ⟨q2, r2⟩ := row_at (cs := [(.int .i64 y0), (.int .i64 f1_y0), (.int .i64 f1_y1), (.string f1_y2)]) HB2.out (i := 2) rfl
 obtain ⟨q3, r3⟩ := row_at (cs := [(.int .i64 y0), (.int .i64 f1_y0), (.int .i64 f1_y1), (.string f1_y2)]) HB2.out (i := 3) rfl
 have hs0 : w2.heap[B]? = some (.cells ([(.int .i64 y0), (.int .i64 f1_y0), (.int .i64 f1_y1), (.string f1_y2)] : List Value).toArray 203 (0, 0)) := HB2.out
 have hs1 := row_put hs0 0 (.int .i64 y0)
 have hs2 := row_put hs1 1 (.int .i64 f1_y0)
 have hs3 := row_put hs2 2 (.int .i64 f1_y1)
 have hs4 := row_put hs3 3 (.string f1_y2)
 have hks : Keep (fun j => j = B) w2 ((((w2.setCell ⟨B, 0, none⟩ (.int .i64 y0)).setCell ⟨B, 1, none⟩ (.int .i64 f1_y0)).setCell ⟨B, 2, none⟩ (.int .i64 f1_y1)).setCell ⟨B, 3, none⟩ (.string f1_y2)) := ((((Keep.refl (fun j => j = B) _).trans (Keep.set (X := fun j => j = B) _ ⟨B, 0, none⟩ (.int .i64 y0) rfl)).trans (Keep.set (X := fun j => j = B) _ ⟨B, 1, none⟩ (.int .i64 f1_y0) rfl)).trans (Keep.set (X := fun j => j = B) _ ⟨B, 2, none⟩ (.int .i64 f1_y1) rfl)).trans (Keep.set (X := fun j => j = B) _ ⟨B, 3, none⟩ (.string f1_y2) rfl)
 have HSF : Hid (((((w2.setCell ⟨B, 0, none⟩ (.int .i64 y0)).setCell ⟨B, 1, none⟩ (.int .i64 f1_y0)).setCell ⟨B, 2, none⟩ (.int .i64 f1_y1)).setCell ⟨B, 3, none⟩ (.string f1_y2)).heap[B]? = some (.cells #[(.int .i64 y0), (.int .i64 f1_y0), (.int .i64 f1_y1), (.string f1_y2)] 203 (0, 0))) := hs4
 have HKS := hid hks
 clear hks hs0 hs1 hs2 hs3 hs4
 go_wp2_with fail
 refine bodyPost_ret (results_cell_row rfl _ _ B 203 _ (0, 0) _ rfl HSF.out Tryz.underlying203 rfl (by kernel_rfl)) rfl ?_
 have hfin : ∀ (s : Sh) (cs : List Value) (bs : List UInt8), EncN (fun j => B < j ∧ j < w2.heap.size) w2 s cs bs → EncN (fun j => w.heap.size ≤ j ∧ j < ((((w2.setCell ⟨B, 0, none⟩ (.int .i64 y0)).setCell ⟨B, 1, none⟩ (.int .i64 f1_y0)).setCell ⟨B, 2, none⟩ (.int .i64 f1_y1)).setCell ⟨B, 3, none⟩ (.string f1_y2)).heap.size) ((((w2.setCell ⟨B, 0, none⟩ (.int .i64 y0)).setCell ⟨B, 1, none⟩ (.int .i64 f1_y0)).setCell ⟨B, 2, none⟩ (.int .i64 f1_y1)).setCell ⟨B, 3, none⟩ (.string f1_y2)) s cs bs := fun s cs bs h => EncN.mono (fun j hj => ⟨by have := HBE.out; omega, Nat.lt_of_lt_of_le hj.2 HKS.out.size⟩) s (EncN.keep HKS.out (fun j hj e => by have e9 : j = B := e; have := hj.1; omega) s h)
 refine ⟨[(.int .i64 y0), (.int .i64 f1_y0), (.int .i64 f1_y1), (.string f1_y2)], rfl, ?_, HR2.out.keepK HKS.out (fun j e => by have e9 : j = B := e; omega), ?_⟩
 · exact ⟨[(.int .i64 y0)], [(.int .i64 f1_y0), (.int .i64 f1_y1), (.string f1_y2)], _, _, rfl, rfl, hfin _ _ _ HE0_2.out, ⟨[(.int .i64 f1_y0), (.int .i64 f1_y1), (.string f1_y2)], [], _, _, rfl, rfl, hfin _ _ _ HE1_2.out, ⟨rfl, rfl⟩⟩⟩
 · exact (Keep.of_below HBW.out).trans2 (HK2.out.trans (HKS.out.mono (fun j _ e => .inr e))) (fun j e => by rcases e with e | e <;> first | exact .inl e | exact .inr (by have := HBE.out; omega))
set_option maxHeartbeats 8000000 in
theorem rlist_Set {w : World} {R B : Nat} {st : Rst} {cs : List Value} {t : TypeId} (i : Nat) (h : RAt w R st.1 st.2) (hl : st.1.length ≤ 140737488355328) (hB : w.heap[B]? = some (.cells cs.toArray t (0, 0))) (hi : cs[i]? = some (.slice none 0 0)) (hRB : R < B) :
 Calls Tryz.prog 151 #[.agg #[.pointer (some ⟨R, 0, none⟩)], .pointer (some ⟨B, i, none⟩), (.func (.func 152) #[.agg #[.pointer (some ⟨R, 0, none⟩)]] #[])] w (fun en w' => en = .returned (.tuple #[]) ∧ ∃ v, TkP (.list sSet) R B w st cs t i v w') := by
 obtain ⟨i0, hi0, hz0, hz1, hz2⟩ : ∃ i0, Tryz.prog.info? 203 = some i0 ∧ i0.zero = some (.agg #[.int .i64 0, .int .i64 0, .int .i64 0, .string .empty]) ∧ i0.size = 4 ∧ i0.bytes = 40 := by
  have h9 : (Tryz.prog.info? 203).map (fun i => (i.zero, i.size, i.bytes)) = some (some (.agg #[.int .i64 0, .int .i64 0, .int .i64 0, .string .empty]), 4, 40) := by kernel_rfl
  cases hq : Tryz.prog.info? 203 with
  | none => rw [hq] at h9; cases h9
  | some q => rw [hq] at h9; simp at h9; exact ⟨q, rfl, h9⟩
 have HI0 := hid (And.intro hi0 (And.intro hz0 (And.intro hz1 hz2)))
 clear hi0 hz0 hz1 hz2
 have hb : Below w.heap.size w (w.alloc (.cells #[.pointer (some ⟨R, 0, none⟩)] 79)) := (Below.refl _ _).alloc (Nat.le_refl _) _
 have hz := heap_alloc_new w (.cells #[.pointer (some ⟨R, 0, none⟩)] 79)
 have hRw := h.lt
 have hBw := lt_of_block hB
 have HRW := hid hRw
 have HBW := hid hBw
 have H := hid (h.old hb)
 have HB := hid hb
 have HF := hid ((hb.block _ hBw).trans hB)
 have HI := hid hi
 have HZ := hid hz
 have HLE := hid hl
 clear h hB hi hb hz hl
 go_enter Tryz.func151, Tryz.ntmps151
 go_upto_region 1 with fail
 generalize w.alloc (.cells #[.pointer (some ⟨R, 0, none⟩)] 79) = w1 at *
 obtain ⟨z0, z1⟩ := one_cell HZ.out
 obtain ⟨n, hn⟩ : ∃ n, n = (lookS 5000 st.1 st.2).1 := ⟨_, rfl⟩
 obtain ⟨s1, hs1⟩ : ∃ s1 : Rst, s1 = (st.1.drop (lookS 5000 st.1 st.2).2.1, (lookS 5000 st.1 st.2).2.2) := ⟨_, rfl⟩
 have HN := hid (And.intro hn hs1)
 have hn5 : n ≤ 5000 := by rw [hn]; exact lookS_most _ _ _
 have C0 : Hid (Calls Tryz.prog 140 #[.pointer (some ⟨R, 0, none⟩), .int .i64 5000] w1 (fun en w' => en = .returned (.int .i64 (n : Int)) ∧ RAt w' R s1.1 s1.2 ∧ w1.grownBy w' (some R))) := hid ((smallR_any w1 R st.1 st.2 5000 (by decide) H.out).mono (fun en w9 h9 => by rw [hn, hs1]; exact h9))
 have HS1 : Hid (s1.1.length ≤ st.1.length) := hid (by rw [hs1]; simp)
 clear hn hs1
 go_wp2_with (first | (go_at_call 140; refine C0.out.mono ?_; rintro en w2 ⟨rfl, h2, g2⟩; have H2 := hid h2; have K2 := hid (show Keep (fun j => j = R ∨ j = B) w w2 from (Keep.of_below HB.out).trans ((Keep.of_grown (X := fun j => j = R) g2 (fun j e => by cases e; rfl)).mono (fun j _ e => .inl e))); have HF2 := hid ((g2.block B (lt_of_block HF.out) (fun e => by cases e; omega)).trans HF.out); have HZ2 := hid ((g2.block w.heap.size (lt_of_block HZ.out) (fun e => by cases e; omega)).trans HZ.out); clear h2 g2))
 clear z0 z1 C0
 go_loopw [9] (fun ix wr => ∃ (k : Nat) (M : List (List Value × List UInt8)) (ao : Option Addr) (c : Nat) (sk : Rst), ix = .int .i64 (k : Int) ∧ wr.heap[w.heap.size]? = some (.cells #[.pointer (some ⟨R, 0, none⟩)] 79 (0, 0)) ∧ TLp sSet 203 R B i w cs t n s1 wr k M ao c sk) (fun ix _ => n - (intOf ix).toNat)
 case atStart => exact ⟨0, [], none, 0, s1, rfl, HZ2.out, TLp.begin HI.out HF2.out H2.out K2.out⟩
 case round =>
  obtain ⟨k, M, ao, c, sk, rfl, hzr, ht⟩ := hrel
  have hk := ht.le
  have HT := hid ht
  have HZR := hid hzr
  clear ht hzr
  by_cases hlt : k < n
  · have hki : (k : Int) < (n : Int) := by omega
    go_upto_region 3 with fail
    have hWd : Below wr.heap.size wr wr.drew := ⟨rfl, rfl, rfl, Nat.le_refl _, fun _ _ => rfl⟩
    have HLk : Hid (sk.1.length ≤ 140737488355328) := hid (by have := HT.out.small; have := HS1.out; have := HLE.out; omega)
    have HTd : Hid (RAt wr.drew R sk.1 sk.2) := hid (HT.out.rat.old hWd)
    have HFd : Hid (wr.drew.heap[B]? = some (.cells (cs.set i (.slice ao k c)).toArray t (0, 0))) := HT.out.field
    have HLI := hid (List.getElem?_set_self (a := .slice ao k c) (List.getElem?_eq_some_iff.1 HI.out).1)
    have CN := hid (rSet_any HTd.out HLk.out)
    have HUD : Hid (∀ mc w9, RdP sSet R wr.drew sk mc w9 → RdP sSet R wr sk mc w9) := hid fun _ _ h => h.undrew
    have HZd : Hid (wr.drew.heap[w.heap.size]? = some (.cells #[.pointer (some ⟨R, 0, none⟩)] 79 (0, 0))) := HZR.out
    clear hWd
    refine wp_region_noPanic ?_
    refine wp_region_L (S := fun W => Hid (W.cell? ⟨B, i, none⟩ = some (.slice ao k c))) 9 (by kernel_rfl) ?_
    have HD0 := hid (row_at HFd.out HLI.out).1
    generalize wr.drew = Wd at *
    refine tkV 0 (.pointer (some ⟨B, i, none⟩)) rfl (by kernel_rfl) (fun _ _ _ => False.elim) (Or.inl ⟨by rfl, fun W9 _ => by simp only [jA, jB, jC]; go_simp⟩) (fun _ => HD0) ?_
    simp only [Act.put, jA, jB, jC, jD, jE, jF]
    refine tkV 1 (.pointer (some ⟨B, i, none⟩)) rfl (by kernel_rfl) (fun _ _ _ => False.elim) (Or.inl ⟨by rfl, fun W9 _ => by simp only [jA, jB, jC]; go_simp⟩) (fun _ => HD0) ?_
    simp only [Act.put, jA, jB, jC, jD, jE, jF]
    refine tkV 2 (.pointer (some ⟨B, i, none⟩)) rfl (by kernel_rfl) (fun _ _ _ => False.elim) (Or.inl ⟨by rfl, fun W9 _ => by simp only [jA, jB, jC]; go_simp⟩) (fun _ => HD0) ?_
    simp only [Act.put, jA, jB, jC, jD, jE, jF]
    refine tkV 4 (.func (.func 152) #[.agg #[.pointer (some ⟨R, 0, none⟩)]] #[]) rfl (by kernel_rfl) (fun _ _ _ => False.elim) (Or.inl ⟨by rfl, fun W9 _ => by simp only [jA, jB, jC]; go_simp⟩) (fun _ => HD0) ?_
    simp only [Act.put, jA, jB, jC, jD, jE, jF]
    refine tkL 3 (.slice ao k c) [3, 7, 9] rfl (by kernel_rfl) (fun _ _ _ => False.elim) HD0 (Or.inl ⟨by rfl, fun W9 hW => by have d9 := hW.out; clear hW; simp only [jA, jB, jC]; go_simp⟩) ?_
    simp only [Act.put, jA, jB, jC, jD, jE, jF]
    refine rdL 5 (by kernel_rfl) rfl fun K hK => ?_
    go_simp
    go_wp2_with (first | (go_at_call 152; refine CN.out.mono ?_; rintro en wT ⟨mc, rfl, hv⟩; obtain ⟨v0, v1, v2, v3, b0, b1, b2, b3, rfl, _, e0, e1, e2, e3⟩ := Set_cells (EncN.enc _ hv.1); obtain ⟨y0, rfl⟩ := form_int e0; obtain ⟨y1, rfl⟩ := form_int e1; obtain ⟨y2, rfl⟩ := form_int e2; obtain ⟨y3, rfl⟩ := form_name e3; clear e0 e1 e2 e3; have HV := hid (HUD.out _ _ hv); have HZT := hid ((hv.2.2.block w.heap.size (lt_of_block HZd.out) (fun e => by have e9 : w.heap.size = R := e; omega)).trans HZd.out); have HFT := hid ((hv.2.2.block B (lt_of_block HFd.out) (fun e => by have e9 : B = R := e; omega)).trans HFd.out); clear hv))
    refine hK.out _ _ (hid (row_at HFT.out HLI.out).1) fun _ => ?_
    clear hK K
    have H3 : Hid (Below wT.heap.size wT (wT.alloc (.cells #[.int .i64 y0, .int .i64 y1, .int .i64 y2, .string y3] 203))) := hid ((Below.refl _ _).alloc (Nat.le_refl _) _)
    have HR3 := hid (heap_alloc_new wT (.cells #[.int .i64 y0, .int .i64 y1, .int .i64 y2, .string y3] 203))
    have HF3 := hid ((H3.out.block B (lt_of_block HFT.out)).trans HFT.out)
    have HOW := hid (own_old (own_keep (X := fun j => j = R) HT.out.own (show Keep _ wr wT from HV.out.2.2) (fun j e e9 => by have e8 : j = R := e9; have := (HT.out.own.lt j e).1; omega)) H3.out)
    have HSZ : Hid (w.heap.size + 1 ≤ (wT.alloc (.cells #[.int .i64 y0, .int .i64 y1, .int .i64 y2, .string y3] 203)).heap.size) := hid (by have := lt_of_block HZT.out; have := H3.out.size; show _ ≤ _; omega)
    refine rdL 6 (by kernel_rfl) rfl fun K hK => ?_
    go_simp
    refine hK.out _ _ (hid (row_at HF3.out HLI.out).1) fun _ => ?_
    clear hK K
    refine rdL 7 (by kernel_rfl) rfl fun K hK => ?_
    refine step_app1 (by rfl) (.tmp 14) (.tmp 17) 126 (by rfl) (w.heap.size + 1) 203 Tryz.underlying126 HI0.out.1 HI0.out.2.1 HI0.out.2.2.1 HI0.out.2.2.2 (by simp [Value.cells]) (by decide) _ k _ (by rfl) HOW.out wT.heap.size [.int .i64 y0, .int .i64 y1, .int .i64 y2, .string y3] (by rfl) HR3.out rfl (fun u hu => by simp only [List.mem_cons, List.not_mem_nil, or_false] at hu; rcases hu with rfl | rfl | rfl | rfl <;> rfl) (by omega) (by decide) HSZ.out (fun g cap w' o5 g5 gg5 => ?_)
    have HF4 := hid (heap_kept g5 HF3.out (fun e => by have := (HT.out.own.lt B e.symm).1; omega))
    have HZ5 : Hid ((w'.setCell ⟨B, i, none⟩ (.slice (some ⟨g, 0, none⟩) (k + 1) cap)).heap[w.heap.size]? = some (.cells #[.pointer (some ⟨R, 0, none⟩)] 79 (0, 0))) := hid (heap_kept (grown_set w' ⟨B, i, none⟩ _) (heap_kept g5 ((H3.out.block _ (lt_of_block HZT.out)).trans HZT.out) (fun e => by have := (HT.out.own.lt _ e.symm).1; omega)) (fun e => by have e9 : w.heap.size = B := (by simpa using e); have := HBW.out; omega))
    have HNX := hid (HT.out.next HRW.out HBW.out hRB hlt (show RdP sSet R wr sk [.int .i64 y0, .int .i64 y1, .int .i64 y2, .string y3] wT from HV.out) H3.out o5 g5 gg5)
    clear o5 g5 gg5
    refine hK.out _ _ (hid (row_at HF4.out HLI.out).1) fun _ => ?_
    clear hK K
    simp only [Act.put, jA, jB, jC, jD, jE, jF]
    refine tkV 8 (.pointer (some ⟨B, i, none⟩)) rfl (by kernel_rfl) (fun _ _ _ => False.elim) (Or.inl ⟨by rfl, fun W9 _ => by simp only [jA, jB, jC]; go_simp⟩) (fun _ => hid (row_at HF4.out HLI.out).1) ?_
    simp only [Act.put, jA, jB, jC, jD, jE, jF]
    obtain ⟨q0, q1⟩ := row_at HF4.out HLI.out
    refine rdS (by kernel_rfl) rfl fun K hK => ?_
    go_simp
    refine hK.out _ _ ?_
    clear hK K q0 q1
    refine doneL (by kernel_rfl) (NoPanic.normal ?_) _
    generalize w'.setCell ⟨B, i, none⟩ (.slice (some ⟨g, 0, none⟩) (k + 1) cap) = w5 at *
    obtain ⟨p0, p1⟩ := one_cell HZ5.out
    have CE := hid (err_any w5 R _ _ HNX.out.1)
    obtain ⟨ev, hev⟩ : ∃ ev, ev = (rdF sSet sk).2.2 := ⟨_, rfl⟩
    rw [← hev] at CE
    by_cases h0 : ev = 0
    · have HNE := hid (HNX.out.2.1 (by rw [← hev]; exact h0))
      subst h0
      clear hev
      go_wp2_with (first | (go_at_call 132; refine CE.out.mono ?_; rintro en w6 ⟨rfl, rfl⟩))
      go_roundw
      case rel => exact ⟨k + 1, _, _, _, _, by go_num, HZ5.out, HNE.out⟩
      case measure => simp [intOf]; omega
    · have HNE := hid (HNX.out.2.2 (by rw [← hev]; exact h0) hn5)
      have hbe : (ev != 0) = true := by simp [h0]
      clear hev
      go_wp2_with (first | (go_at_call 132; refine CE.out.mono ?_; rintro en w6 ⟨rfl, rfl⟩))
      (try simp only [Exit.inBlock, Exit.then]); refine bodyPost_ret (results_none rfl _ _ _) rfl ?_
      obtain ⟨m1, m2, m3, m4⟩ := HNE.out
      refine ⟨rfl, .slice (some ⟨g, 0, none⟩) (k + 1) cap, ?_, m2, ?_, m4⟩
      · simp only [rdF]; rw [← HN.out.1, ← HN.out.2]; exact m1
      · simp only [rdF]; rw [← HN.out.1, ← HN.out.2]; exact m3
  · obtain rfl : n = k := by omega
    have hki : ¬ (n : Int) < (n : Int) := by omega
    go_wp2_with fail
    go_end0
    obtain ⟨p1, p2⟩ := HT.out.done hn5
    refine ⟨rfl, .slice ao n c, ?_, HT.out.field, ?_, HT.out.keep⟩
    · simp only [rdF]; rw [← HN.out.1, ← HN.out.2]; exact p1
    · simp only [rdF]; rw [← HN.out.1, ← HN.out.2]; exact p2
end Go.Proofs.YtmdgifmigikffaaGreat
namespace Go.Proofs.YtmdgifmigikffaaGreat
open Go.RowKit Go.Deep
theorem rdc1_Op (s r : Sh) (st : Rst) : (rdF (.cons s r) st).1 = (rdF s st).1 ++ (rdF r (rdF s st).2).1 := rfl
theorem rdc2_Op (s r : Sh) (st : Rst) : (rdF (.cons s r) st).2 = (rdF r (rdF s st).2).2 := rfl
theorem rdn1_Op (st : Rst) : (rdF .nil st).1 = [] := rfl
theorem rdn2_Op (st : Rst) : (rdF .nil st).2 = st := rfl
set_option maxHeartbeats 8000000 in
theorem rOp_any {w : World} {R : Nat} {st : Rst} (h : RAt w R st.1 st.2) (hl : st.1.length ≤ 140737488355328) :
 Calls Tryz.prog 117 #[.agg #[.pointer (some ⟨R, 0, none⟩)]] w (fun en w' => ∃ cs, en = .returned (.agg cs.toArray) ∧ RdP sOp R w st cs w') := by
 have hb : Below w.heap.size w ((w.alloc (.cells #[.pointer (some ⟨R, 0, none⟩)] 79)).alloc (.cells #[.int .i64 0, .string ⟨#[]⟩, .string ⟨#[]⟩, .slice none 0 0, .slice none 0 0, .slice none 0 0, .slice none 0 0, .slice none 0 0, .int .i64 0, .bool false, .slice none 0 0] 129)) := ((Below.refl _ _).alloc (Nat.le_refl _) _).alloc (by simp) _
 have hz := (Below.heap_alloc (w.alloc (.cells #[.pointer (some ⟨R, 0, none⟩)] 79)) (.cells #[.int .i64 0, .string ⟨#[]⟩, .string ⟨#[]⟩, .slice none 0 0, .slice none 0 0, .slice none 0 0, .slice none 0 0, .slice none 0 0, .int .i64 0, .bool false, .slice none 0 0] 129) w.heap.size (by simp)).trans (heap_alloc_new w (.cells #[.pointer (some ⟨R, 0, none⟩)] 79))
 have hB := heap_alloc2_new w (.cells #[.pointer (some ⟨R, 0, none⟩)] 79) (.cells #[.int .i64 0, .string ⟨#[]⟩, .string ⟨#[]⟩, .slice none 0 0, .slice none 0 0, .slice none 0 0, .slice none 0 0, .slice none 0 0, .int .i64 0, .bool false, .slice none 0 0] 129)
 obtain ⟨B, hBe⟩ : ∃ B, B = w.heap.size + 1 := ⟨_, rfl⟩
 have hRw := h.lt
 have hRB : R < B := by omega
 have HR0 := hid (h.old hb)
 rw [← hBe] at hB
 have HB0 := hid hB
 have HX0 := hid hz
 have HBW := hid hb
 have HL0 := hid hl
 clear h hb hz hB hl
 go_enter Tryz.func117, Tryz.ntmps117
 go_upto_region 1 with fail
 generalize (w.alloc (.cells #[.pointer (some ⟨R, 0, none⟩)] 79)).alloc (.cells #[.int .i64 0, .string ⟨#[]⟩, .string ⟨#[]⟩, .slice none 0 0, .slice none 0 0, .slice none 0 0, .slice none 0 0, .slice none 0 0, .int .i64 0, .bool false, .slice none 0 0] 129) = w0 at *
 try rw [← hBe]
 have HK0 : Hid (Keep (fun j => j = R ∨ j = B) w0 w0) := hid (Keep.refl _ _)
 have HBE := hid hBe
 clear hBe
 have y0 := (one_cell HX0.out).1
 have CQ := hid (rtake_whole 0 HR0.out HL0.out HB0.out rfl hRB)
 go_upto_region 2 with (first | (go_at_call 80; refine CQ.out.mono ?_; rintro en w1 ⟨rfl, v0, hv⟩; have HV0 := hid hv; clear hv))
 clear CQ y0
 have HB1 : Hid (w1.heap[B]? = some (.cells #[v0, .string ⟨#[]⟩, .string ⟨#[]⟩, .slice none 0 0, .slice none 0 0, .slice none 0 0, .slice none 0 0, .slice none 0 0, .int .i64 0, .bool false, .slice none 0 0] 129 (0, 0))) := HV0.out.2.1
 have HR1 : Hid (RAt w1 R (rdF .int st).2.1 (rdF .int st).2.2) := HV0.out.2.2.1
 have HL1 : Hid ((rdF .int st).2.1.length ≤ 140737488355328) := hid (Nat.le_trans (rd_len _ _) HL0.out)
 have HX1 := hid ((HV0.out.2.2.2.block w.heap.size (lt_of_block HX0.out) (fun e => by have e9 : w.heap.size = R ∨ w.heap.size = B := e; have := HBE.out; omega)).trans HX0.out)
 have HK1 := hid (HK0.out.trans HV0.out.2.2.2)
 have HE0_1 := hid (EncN.top HB0.out HV0.out.1)
 have y0 := (one_cell HX1.out).1
 have CQ := hid (rtake_name 1 HR1.out HL1.out HB1.out rfl hRB)
 go_upto_region 3 with (first | (go_at_call 96; refine CQ.out.mono ?_; rintro en w2 ⟨rfl, v1, hv⟩; have HV1 := hid hv; clear hv))
 clear CQ y0
 have HB2 : Hid (w2.heap[B]? = some (.cells #[v0, v1, .string ⟨#[]⟩, .slice none 0 0, .slice none 0 0, .slice none 0 0, .slice none 0 0, .slice none 0 0, .int .i64 0, .bool false, .slice none 0 0] 129 (0, 0))) := HV1.out.2.1
 have HR2 : Hid (RAt w2 R (rdF .name (rdF .int st).2).2.1 (rdF .name (rdF .int st).2).2.2) := HV1.out.2.2.1
 have HL2 : Hid ((rdF .name (rdF .int st).2).2.1.length ≤ 140737488355328) := hid (Nat.le_trans (rd_len _ _) HL1.out)
 have HX2 := hid ((HV1.out.2.2.2.block w.heap.size (lt_of_block HX1.out) (fun e => by have e9 : w.heap.size = R ∨ w.heap.size = B := e; have := HBE.out; omega)).trans HX1.out)
 have HK2 := hid (HK1.out.trans HV1.out.2.2.2)
 have HE1_2 := hid (EncN.top HB1.out HV1.out.1)
 have HE0_2 := hid (EncN.hopc hRB HV1.out.2.2.2 HE0_1.out)
 clear HE0_1
 have y0 := (one_cell HX2.out).1
 have CQ := hid (rtake_name 2 HR2.out HL2.out HB2.out rfl hRB)
 go_upto_region 4 with (first | (go_at_call 96; refine CQ.out.mono ?_; rintro en w3 ⟨rfl, v2, hv⟩; have HV2 := hid hv; clear hv))
 clear CQ y0
 have HB3 : Hid (w3.heap[B]? = some (.cells #[v0, v1, v2, .slice none 0 0, .slice none 0 0, .slice none 0 0, .slice none 0 0, .slice none 0 0, .int .i64 0, .bool false, .slice none 0 0] 129 (0, 0))) := HV2.out.2.1
 have HR3 : Hid (RAt w3 R (rdF .name (rdF .name (rdF .int st).2).2).2.1 (rdF .name (rdF .name (rdF .int st).2).2).2.2) := HV2.out.2.2.1
 have HL3 : Hid ((rdF .name (rdF .name (rdF .int st).2).2).2.1.length ≤ 140737488355328) := hid (Nat.le_trans (rd_len _ _) HL2.out)
 have HX3 := hid ((HV2.out.2.2.2.block w.heap.size (lt_of_block HX2.out) (fun e => by have e9 : w.heap.size = R ∨ w.heap.size = B := e; have := HBE.out; omega)).trans HX2.out)
 have HK3 := hid (HK2.out.trans HV2.out.2.2.2)
 have HE2_3 := hid (EncN.top HB2.out HV2.out.1)
 have HE0_3 := hid (EncN.hopc hRB HV2.out.2.2.2 HE0_2.out)
 have HE1_3 := hid (EncN.hopc hRB HV2.out.2.2.2 HE1_2.out)
 clear HE0_2 HE1_2
 have y0 := (one_cell HX3.out).1
 have CQ := hid (rlist_Value 3 HR3.out HL3.out HB3.out rfl hRB)
 go_upto_region 5 with (first | (go_at_call 149; refine CQ.out.mono ?_; rintro en w4 ⟨rfl, v3, hv⟩; have HV3 := hid hv; clear hv))
 clear CQ y0
 have HB4 : Hid (w4.heap[B]? = some (.cells #[v0, v1, v2, v3, .slice none 0 0, .slice none 0 0, .slice none 0 0, .slice none 0 0, .int .i64 0, .bool false, .slice none 0 0] 129 (0, 0))) := HV3.out.2.1
 have HR4 : Hid (RAt w4 R (rdF (.list sValue) (rdF .name (rdF .name (rdF .int st).2).2).2).2.1 (rdF (.list sValue) (rdF .name (rdF .name (rdF .int st).2).2).2).2.2) := HV3.out.2.2.1
 have HL4 : Hid ((rdF (.list sValue) (rdF .name (rdF .name (rdF .int st).2).2).2).2.1.length ≤ 140737488355328) := hid (Nat.le_trans (rd_len _ _) HL3.out)
 have HX4 := hid ((HV3.out.2.2.2.block w.heap.size (lt_of_block HX3.out) (fun e => by have e9 : w.heap.size = R ∨ w.heap.size = B := e; have := HBE.out; omega)).trans HX3.out)
 have HK4 := hid (HK3.out.trans HV3.out.2.2.2)
 have HE3_4 := hid (EncN.top HB3.out HV3.out.1)
 have HE0_4 := hid (EncN.hopc hRB HV3.out.2.2.2 HE0_3.out)
 have HE1_4 := hid (EncN.hopc hRB HV3.out.2.2.2 HE1_3.out)
 have HE2_4 := hid (EncN.hopc hRB HV3.out.2.2.2 HE2_3.out)
 clear HE0_3 HE1_3 HE2_3
 have y0 := (one_cell HX4.out).1
 have CQ := hid (rlist_Value 4 HR4.out HL4.out HB4.out rfl hRB)
 go_upto_region 6 with (first | (go_at_call 149; refine CQ.out.mono ?_; rintro en w5 ⟨rfl, v4, hv⟩; have HV4 := hid hv; clear hv))
 clear CQ y0
 have HB5 : Hid (w5.heap[B]? = some (.cells #[v0, v1, v2, v3, v4, .slice none 0 0, .slice none 0 0, .slice none 0 0, .int .i64 0, .bool false, .slice none 0 0] 129 (0, 0))) := HV4.out.2.1
 have HR5 : Hid (RAt w5 R (rdF (.list sValue) (rdF (.list sValue) (rdF .name (rdF .name (rdF .int st).2).2).2).2).2.1 (rdF (.list sValue) (rdF (.list sValue) (rdF .name (rdF .name (rdF .int st).2).2).2).2).2.2) := HV4.out.2.2.1
 have HL5 : Hid ((rdF (.list sValue) (rdF (.list sValue) (rdF .name (rdF .name (rdF .int st).2).2).2).2).2.1.length ≤ 140737488355328) := hid (Nat.le_trans (rd_len _ _) HL4.out)
 have HX5 := hid ((HV4.out.2.2.2.block w.heap.size (lt_of_block HX4.out) (fun e => by have e9 : w.heap.size = R ∨ w.heap.size = B := e; have := HBE.out; omega)).trans HX4.out)
 have HK5 := hid (HK4.out.trans HV4.out.2.2.2)
 have HE4_5 := hid (EncN.top HB4.out HV4.out.1)
 have HE0_5 := hid (EncN.hopc hRB HV4.out.2.2.2 HE0_4.out)
 have HE1_5 := hid (EncN.hopc hRB HV4.out.2.2.2 HE1_4.out)
 have HE2_5 := hid (EncN.hopc hRB HV4.out.2.2.2 HE2_4.out)
 have HE3_5 := hid (EncN.hopc hRB HV4.out.2.2.2 HE3_4.out)
 clear HE0_4 HE1_4 HE2_4 HE3_4
 have y0 := (one_cell HX5.out).1
 have CQ := hid (rlist_Set 5 HR5.out HL5.out HB5.out rfl hRB)
 go_upto_region 7 with (first | (go_at_call 151; refine CQ.out.mono ?_; rintro en w6 ⟨rfl, v5, hv⟩; have HV5 := hid hv; clear hv))
 clear CQ y0
 have HB6 : Hid (w6.heap[B]? = some (.cells #[v0, v1, v2, v3, v4, v5, .slice none 0 0, .slice none 0 0, .int .i64 0, .bool false, .slice none 0 0] 129 (0, 0))) := HV5.out.2.1
 have HR6 : Hid (RAt w6 R (rdF (.list sSet) (rdF (.list sValue) (rdF (.list sValue) (rdF .name (rdF .name (rdF .int st).2).2).2).2).2).2.1 (rdF (.list sSet) (rdF (.list sValue) (rdF (.list sValue) (rdF .name (rdF .name (rdF .int st).2).2).2).2).2).2.2) := HV5.out.2.2.1
 have HL6 : Hid ((rdF (.list sSet) (rdF (.list sValue) (rdF (.list sValue) (rdF .name (rdF .name (rdF .int st).2).2).2).2).2).2.1.length ≤ 140737488355328) := hid (Nat.le_trans (rd_len _ _) HL5.out)
 have HX6 := hid ((HV5.out.2.2.2.block w.heap.size (lt_of_block HX5.out) (fun e => by have e9 : w.heap.size = R ∨ w.heap.size = B := e; have := HBE.out; omega)).trans HX5.out)
 have HK6 := hid (HK5.out.trans HV5.out.2.2.2)
 have HE5_6 := hid (EncN.top HB5.out HV5.out.1)
 have HE0_6 := hid (EncN.hopc hRB HV5.out.2.2.2 HE0_5.out)
 have HE1_6 := hid (EncN.hopc hRB HV5.out.2.2.2 HE1_5.out)
 have HE2_6 := hid (EncN.hopc hRB HV5.out.2.2.2 HE2_5.out)
 have HE3_6 := hid (EncN.hopc hRB HV5.out.2.2.2 HE3_5.out)
 have HE4_6 := hid (EncN.hopc hRB HV5.out.2.2.2 HE4_5.out)
 clear HE0_5 HE1_5 HE2_5 HE3_5 HE4_5
 have y0 := (one_cell HX6.out).1
 have CQ := hid (rlist_Value 6 HR6.out HL6.out HB6.out rfl hRB)
 go_upto_region 8 with (first | (go_at_call 149; refine CQ.out.mono ?_; rintro en w7 ⟨rfl, v6, hv⟩; have HV6 := hid hv; clear hv))
 clear CQ y0
 have HB7 : Hid (w7.heap[B]? = some (.cells #[v0, v1, v2, v3, v4, v5, v6, .slice none 0 0, .int .i64 0, .bool false, .slice none 0 0] 129 (0, 0))) := HV6.out.2.1
 have HR7 : Hid (RAt w7 R (rdF (.list sValue) (rdF (.list sSet) (rdF (.list sValue) (rdF (.list sValue) (rdF .name (rdF .name (rdF .int st).2).2).2).2).2).2).2.1 (rdF (.list sValue) (rdF (.list sSet) (rdF (.list sValue) (rdF (.list sValue) (rdF .name (rdF .name (rdF .int st).2).2).2).2).2).2).2.2) := HV6.out.2.2.1
 have HL7 : Hid ((rdF (.list sValue) (rdF (.list sSet) (rdF (.list sValue) (rdF (.list sValue) (rdF .name (rdF .name (rdF .int st).2).2).2).2).2).2).2.1.length ≤ 140737488355328) := hid (Nat.le_trans (rd_len _ _) HL6.out)
 have HX7 := hid ((HV6.out.2.2.2.block w.heap.size (lt_of_block HX6.out) (fun e => by have e9 : w.heap.size = R ∨ w.heap.size = B := e; have := HBE.out; omega)).trans HX6.out)
 have HK7 := hid (HK6.out.trans HV6.out.2.2.2)
 have HE6_7 := hid (EncN.top HB6.out HV6.out.1)
 have HE0_7 := hid (EncN.hopc hRB HV6.out.2.2.2 HE0_6.out)
 have HE1_7 := hid (EncN.hopc hRB HV6.out.2.2.2 HE1_6.out)
 have HE2_7 := hid (EncN.hopc hRB HV6.out.2.2.2 HE2_6.out)
 have HE3_7 := hid (EncN.hopc hRB HV6.out.2.2.2 HE3_6.out)
 have HE4_7 := hid (EncN.hopc hRB HV6.out.2.2.2 HE4_6.out)
 have HE5_7 := hid (EncN.hopc hRB HV6.out.2.2.2 HE5_6.out)
 clear HE0_6 HE1_6 HE2_6 HE3_6 HE4_6 HE5_6
 have y0 := (one_cell HX7.out).1
 have CQ := hid (rlist_Value 7 HR7.out HL7.out HB7.out rfl hRB)
 go_upto_region 9 with (first | (go_at_call 149; refine CQ.out.mono ?_; rintro en w8 ⟨rfl, v7, hv⟩; have HV7 := hid hv; clear hv))
 clear CQ y0
 have HB8 : Hid (w8.heap[B]? = some (.cells #[v0, v1, v2, v3, v4, v5, v6, v7, .int .i64 0, .bool false, .slice none 0 0] 129 (0, 0))) := HV7.out.2.1
 have HR8 : Hid (RAt w8 R (rdF (.list sValue) (rdF (.list sValue) (rdF (.list sSet) (rdF (.list sValue) (rdF (.list sValue) (rdF .name (rdF .name (rdF .int st).2).2).2).2).2).2).2).2.1 (rdF (.list sValue) (rdF (.list sValue) (rdF (.list sSet) (rdF (.list sValue) (rdF (.list sValue) (rdF .name (rdF .name (rdF .int st).2).2).2).2).2).2).2).2.2) := HV7.out.2.2.1
 have HL8 : Hid ((rdF (.list sValue) (rdF (.list sValue) (rdF (.list sSet) (rdF (.list sValue) (rdF (.list sValue) (rdF .name (rdF .name (rdF .int st).2).2).2).2).2).2).2).2.1.length ≤ 140737488355328) := hid (Nat.le_trans (rd_len _ _) HL7.out)
 have HX8 := hid ((HV7.out.2.2.2.block w.heap.size (lt_of_block HX7.out) (fun e => by have e9 : w.heap.size = R ∨ w.heap.size = B := e; have := HBE.out; omega)).trans HX7.out)
 have HK8 := hid (HK7.out.trans HV7.out.2.2.2)
 have HE7_8 := hid (EncN.top HB7.out HV7.out.1)
 have HE0_8 := hid (EncN.hopc hRB HV7.out.2.2.2 HE0_7.out)
 have HE1_8 := hid (EncN.hopc hRB HV7.out.2.2.2 HE1_7.out)
 have HE2_8 := hid (EncN.hopc hRB HV7.out.2.2.2 HE2_7.out)
 have HE3_8 := hid (EncN.hopc hRB HV7.out.2.2.2 HE3_7.out)
 have HE4_8 := hid (EncN.hopc hRB HV7.out.2.2.2 HE4_7.out)
 have HE5_8 := hid (EncN.hopc hRB HV7.out.2.2.2 HE5_7.out)
 have HE6_8 := hid (EncN.hopc hRB HV7.out.2.2.2 HE6_7.out)
 clear HE0_7 HE1_7 HE2_7 HE3_7 HE4_7 HE5_7 HE6_7
 have y0 := (one_cell HX8.out).1
 have CQ := hid (rtake_whole 8 HR8.out HL8.out HB8.out rfl hRB)
 go_upto_region 10 with (first | (go_at_call 80; refine CQ.out.mono ?_; rintro en w9 ⟨rfl, v8, hv⟩; have HV8 := hid hv; clear hv))
 clear CQ y0
 have HB9 : Hid (w9.heap[B]? = some (.cells #[v0, v1, v2, v3, v4, v5, v6, v7, v8, .bool false, .slice none 0 0] 129 (0, 0))) := HV8.out.2.1
 have HR9 : Hid (RAt w9 R (rdF .int (rdF (.list sValue) (rdF (.list sValue) (rdF (.list sSet) (rdF (.list sValue) (rdF (.list sValue) (rdF .name (rdF .name (rdF .int st).2).2).2).2).2).2).2).2).2.1 (rdF .int (rdF (.list sValue) (rdF (.list sValue) (rdF (.list sSet) (rdF (.list sValue) (rdF (.list sValue) (rdF .name (rdF .name (rdF .int st).2).2).2).2).2).2).2).2).2.2) := HV8.out.2.2.1
 have HL9 : Hid ((rdF .int (rdF (.list sValue) (rdF (.list sValue) (rdF (.list sSet) (rdF (.list sValue) (rdF (.list sValue) (rdF .name (rdF .name (rdF .int st).2).2).2).2).2).2).2).2).2.1.length ≤ 140737488355328) := hid (Nat.le_trans (rd_len _ _) HL8.out)
 have HX9 := hid ((HV8.out.2.2.2.block w.heap.size (lt_of_block HX8.out) (fun e => by have e9 : w.heap.size = R ∨ w.heap.size = B := e; have := HBE.out; omega)).trans HX8.out)
 have HK9 := hid (HK8.out.trans HV8.out.2.2.2)
 have HE8_9 := hid (EncN.top HB8.out HV8.out.1)
 have HE0_9 := hid (EncN.hopc hRB HV8.out.2.2.2 HE0_8.out)
 have HE1_9 := hid (EncN.hopc hRB HV8.out.2.2.2 HE1_8.out)
 have HE2_9 := hid (EncN.hopc hRB HV8.out.2.2.2 HE2_8.out)
 have HE3_9 := hid (EncN.hopc hRB HV8.out.2.2.2 HE3_8.out)
 have HE4_9 := hid (EncN.hopc hRB HV8.out.2.2.2 HE4_8.out)
 have HE5_9 := hid (EncN.hopc hRB HV8.out.2.2.2 HE5_8.out)
 have HE6_9 := hid (EncN.hopc hRB HV8.out.2.2.2 HE6_8.out)
 have HE7_9 := hid (EncN.hopc hRB HV8.out.2.2.2 HE7_8.out)
 clear HE0_8 HE1_8 HE2_8 HE3_8 HE4_8 HE5_8 HE6_8 HE7_8
 have y0 := (one_cell HX9.out).1
 have CQ := hid (rtake_flag 9 HR9.out HL9.out HB9.out rfl hRB)
 go_upto_region 11 with (first | (go_at_call 82; refine CQ.out.mono ?_; rintro en w10 ⟨rfl, v9, hv⟩; have HV9 := hid hv; clear hv))
 clear CQ y0
 have HB10 : Hid (w10.heap[B]? = some (.cells #[v0, v1, v2, v3, v4, v5, v6, v7, v8, v9, .slice none 0 0] 129 (0, 0))) := HV9.out.2.1
 have HR10 : Hid (RAt w10 R (rdF .bool (rdF .int (rdF (.list sValue) (rdF (.list sValue) (rdF (.list sSet) (rdF (.list sValue) (rdF (.list sValue) (rdF .name (rdF .name (rdF .int st).2).2).2).2).2).2).2).2).2).2.1 (rdF .bool (rdF .int (rdF (.list sValue) (rdF (.list sValue) (rdF (.list sSet) (rdF (.list sValue) (rdF (.list sValue) (rdF .name (rdF .name (rdF .int st).2).2).2).2).2).2).2).2).2).2.2) := HV9.out.2.2.1
 have HL10 : Hid ((rdF .bool (rdF .int (rdF (.list sValue) (rdF (.list sValue) (rdF (.list sSet) (rdF (.list sValue) (rdF (.list sValue) (rdF .name (rdF .name (rdF .int st).2).2).2).2).2).2).2).2).2).2.1.length ≤ 140737488355328) := hid (Nat.le_trans (rd_len _ _) HL9.out)
 have HX10 := hid ((HV9.out.2.2.2.block w.heap.size (lt_of_block HX9.out) (fun e => by have e9 : w.heap.size = R ∨ w.heap.size = B := e; have := HBE.out; omega)).trans HX9.out)
 have HK10 := hid (HK9.out.trans HV9.out.2.2.2)
 have HE9_10 := hid (EncN.top HB9.out HV9.out.1)
 have HE0_10 := hid (EncN.hopc hRB HV9.out.2.2.2 HE0_9.out)
 have HE1_10 := hid (EncN.hopc hRB HV9.out.2.2.2 HE1_9.out)
 have HE2_10 := hid (EncN.hopc hRB HV9.out.2.2.2 HE2_9.out)
 have HE3_10 := hid (EncN.hopc hRB HV9.out.2.2.2 HE3_9.out)
 have HE4_10 := hid (EncN.hopc hRB HV9.out.2.2.2 HE4_9.out)
 have HE5_10 := hid (EncN.hopc hRB HV9.out.2.2.2 HE5_9.out)
 have HE6_10 := hid (EncN.hopc hRB HV9.out.2.2.2 HE6_9.out)
 have HE7_10 := hid (EncN.hopc hRB HV9.out.2.2.2 HE7_9.out)
 have HE8_10 := hid (EncN.hopc hRB HV9.out.2.2.2 HE8_9.out)
 clear HE0_9 HE1_9 HE2_9 HE3_9 HE4_9 HE5_9 HE6_9 HE7_9 HE8_9
 have y0 := (one_cell HX10.out).1
 have CQ := hid (rlist_data 10 HR10.out HL10.out HB10.out rfl hRB)
 go_upto_region 12 with (first | (go_at_call 153; refine CQ.out.mono ?_; rintro en w11 ⟨rfl, v10, hv⟩; have HV10 := hid hv; clear hv))
 clear CQ y0
 have HB11 : Hid (w11.heap[B]? = some (.cells #[v0, v1, v2, v3, v4, v5, v6, v7, v8, v9, v10] 129 (0, 0))) := HV10.out.2.1
 have HR11 : Hid (RAt w11 R (rdF (.list .data) (rdF .bool (rdF .int (rdF (.list sValue) (rdF (.list sValue) (rdF (.list sSet) (rdF (.list sValue) (rdF (.list sValue) (rdF .name (rdF .name (rdF .int st).2).2).2).2).2).2).2).2).2).2).2.1 (rdF (.list .data) (rdF .bool (rdF .int (rdF (.list sValue) (rdF (.list sValue) (rdF (.list sSet) (rdF (.list sValue) (rdF (.list sValue) (rdF .name (rdF .name (rdF .int st).2).2).2).2).2).2).2).2).2).2).2.2) := HV10.out.2.2.1
 have HL11 : Hid ((rdF (.list .data) (rdF .bool (rdF .int (rdF (.list sValue) (rdF (.list sValue) (rdF (.list sSet) (rdF (.list sValue) (rdF (.list sValue) (rdF .name (rdF .name (rdF .int st).2).2).2).2).2).2).2).2).2).2).2.1.length ≤ 140737488355328) := hid (Nat.le_trans (rd_len _ _) HL10.out)
 have HX11 := hid ((HV10.out.2.2.2.block w.heap.size (lt_of_block HX10.out) (fun e => by have e9 : w.heap.size = R ∨ w.heap.size = B := e; have := HBE.out; omega)).trans HX10.out)
 have HK11 := hid (HK10.out.trans HV10.out.2.2.2)
 have HE10_11 := hid (EncN.top HB10.out HV10.out.1)
 have HE0_11 := hid (EncN.hopc hRB HV10.out.2.2.2 HE0_10.out)
 have HE1_11 := hid (EncN.hopc hRB HV10.out.2.2.2 HE1_10.out)
 have HE2_11 := hid (EncN.hopc hRB HV10.out.2.2.2 HE2_10.out)
 have HE3_11 := hid (EncN.hopc hRB HV10.out.2.2.2 HE3_10.out)
 have HE4_11 := hid (EncN.hopc hRB HV10.out.2.2.2 HE4_10.out)
 have HE5_11 := hid (EncN.hopc hRB HV10.out.2.2.2 HE5_10.out)
 have HE6_11 := hid (EncN.hopc hRB HV10.out.2.2.2 HE6_10.out)
 have HE7_11 := hid (EncN.hopc hRB HV10.out.2.2.2 HE7_10.out)
 have HE8_11 := hid (EncN.hopc hRB HV10.out.2.2.2 HE8_10.out)
 have HE9_11 := hid (EncN.hopc hRB HV10.out.2.2.2 HE9_10.out)
 clear HE0_10 HE1_10 HE2_10 HE3_10 HE4_10 HE5_10 HE6_10 HE7_10 HE8_10 HE9_10
 obtain ⟨y0, rfl⟩ := form_int (EncN.enc _ HE0_11.out)
 obtain ⟨y1, rfl⟩ := form_name (EncN.enc _ HE1_11.out)
 obtain ⟨y2, rfl⟩ := form_name (EncN.enc _ HE2_11.out)
 obtain ⟨y3, j3, c3, rfl⟩ := form_list (EncN.enc _ HE3_11.out)
 obtain ⟨y4, j4, c4, rfl⟩ := form_list (EncN.enc _ HE4_11.out)
 obtain ⟨y5, j5, c5, rfl⟩ := form_list (EncN.enc _ HE5_11.out)
 obtain ⟨y6, j6, c6, rfl⟩ := form_list (EncN.enc _ HE6_11.out)
 obtain ⟨y7, j7, c7, rfl⟩ := form_list (EncN.enc _ HE7_11.out)
 obtain ⟨y8, rfl⟩ := form_int (EncN.enc _ HE8_11.out)
 obtain ⟨y9, rfl⟩ := form_bool (EncN.enc _ HE9_11.out)
 obtain ⟨y10, j10, c10, rfl⟩ := form_list (EncN.enc _ HE10_11.out)
 have HBN : Hid (w11.heap[B]? = some (.cells (#[(.int .i64 y0), (.string y1), (.string y2), (.slice y3 j3 c3), (.slice y4 j4 c4), (.slice y5 j5 c5), (.slice y6 j6 c6), (.slice y7 j7 c7), (.int .i64 y8), (.bool y9), (.slice y10 j10 c10)] : Array Value) 129 (0, 0))) := HB11
 clear HB1 HB2 HB3 HB4 HB5 HB6 HB7 HB8 HB9 HB10 HB11
 have LD := cells_load (cs := [(.int .i64 y0), (.string y1), (.string y2), (.slice y3 j3 c3), (.slice y4 j4 c4), (.slice y5 j5 c5), (.slice y6 j6 c6), (.slice y7 j7 c7), (.int .i64 y8), (.bool y9), (.slice y10 j10 c10)]) (fun i u hi => (row_at HBN.out hi).1) Tryz.underlying129 rfl (by kernel_rfl)
 have HLD := hid LD
 clear LD
 apply wp_region_lit
 refine Great.wpList_readTo rfl (some 53) rfl (.agg #[(.int .i64 y0), (.string y1), (.string y2), (.slice y3 j3 c3), (.slice y4 j4 c4), (.slice y5 j5 c5), (.slice y6 j6 c6), (.slice y7 j7 c7), (.int .i64 y8), (.bool y9), (.slice y10 j10 c10)]) (exec_load rfl HLD.out) ?_
 simp only [Act.put, jA, jB, jC, jD, jE, jF]
 refine Go.wpList_store_rowTo rfl 129 _ _ rfl rfl B #[(.int .i64 y0), (.string y1), (.string y2), (.slice y3 j3 c3), (.slice y4 j4 c4), (.slice y5 j5 c5), (.slice y6 j6 c6), (.slice y7 j7 c7), (.int .i64 y8), (.bool y9), (.slice y10 j10 c10)] rfl rfl 129 #[(.int .i64 y0), (.string y1), (.string y2), (.slice y3 j3 c3), (.slice y4 j4 c4), (.slice y5 j5 c5), (.slice y6 j6 c6), (.slice y7 j7 c7), (.int .i64 y8), (.bool y9), (.slice y10 j10 c10)] HBN.out (by as_aux_lemma => kernel_rfl) rfl (by simp [Value.oneCell']) ?_
 rw [setRow_same HBN.out]
 go_wp2_with fail
 refine bodyPost_ret (results_cell_row rfl _ _ B 129 _ (0, 0) _ rfl HBN.out Tryz.underlying129 rfl (by kernel_rfl)) rfl ?_
 have hfin : ∀ (s : Sh) (cs : List Value) (bs : List UInt8), EncN (fun j => B < j ∧ j < w11.heap.size) w11 s cs bs → EncN (fun j => w.heap.size ≤ j ∧ j < w11.heap.size) w11 s cs bs := fun s cs bs h => EncN.mono (fun j hj => ⟨by have := HBE.out; omega, hj.2⟩) s h
 have hR9 : RAt w11 R (rdF sOp st).2.1 (rdF sOp st).2.2 := by
  have h9 := HR11.out
  simp only [sOp, rdc2_Op, rdn2_Op]
  exact h9
 refine ⟨[(.int .i64 y0), (.string y1), (.string y2), (.slice y3 j3 c3), (.slice y4 j4 c4), (.slice y5 j5 c5), (.slice y6 j6 c6), (.slice y7 j7 c7), (.int .i64 y8), (.bool y9), (.slice y10 j10 c10)], rfl, ?_, hR9, ?_⟩
 · simp only [sOp, rdc1_Op, rdc2_Op, rdn1_Op]
   exact ⟨[(.int .i64 y0)], [(.string y1), (.string y2), (.slice y3 j3 c3), (.slice y4 j4 c4), (.slice y5 j5 c5), (.slice y6 j6 c6), (.slice y7 j7 c7), (.int .i64 y8), (.bool y9), (.slice y10 j10 c10)], _, _, rfl, rfl, hfin _ _ _ HE0_11.out, ⟨[(.string y1)], [(.string y2), (.slice y3 j3 c3), (.slice y4 j4 c4), (.slice y5 j5 c5), (.slice y6 j6 c6), (.slice y7 j7 c7), (.int .i64 y8), (.bool y9), (.slice y10 j10 c10)], _, _, rfl, rfl, hfin _ _ _ HE1_11.out, ⟨[(.string y2)], [(.slice y3 j3 c3), (.slice y4 j4 c4), (.slice y5 j5 c5), (.slice y6 j6 c6), (.slice y7 j7 c7), (.int .i64 y8), (.bool y9), (.slice y10 j10 c10)], _, _, rfl, rfl, hfin _ _ _ HE2_11.out, ⟨[(.slice y3 j3 c3)], [(.slice y4 j4 c4), (.slice y5 j5 c5), (.slice y6 j6 c6), (.slice y7 j7 c7), (.int .i64 y8), (.bool y9), (.slice y10 j10 c10)], _, _, rfl, rfl, hfin _ _ _ HE3_11.out, ⟨[(.slice y4 j4 c4)], [(.slice y5 j5 c5), (.slice y6 j6 c6), (.slice y7 j7 c7), (.int .i64 y8), (.bool y9), (.slice y10 j10 c10)], _, _, rfl, rfl, hfin _ _ _ HE4_11.out, ⟨[(.slice y5 j5 c5)], [(.slice y6 j6 c6), (.slice y7 j7 c7), (.int .i64 y8), (.bool y9), (.slice y10 j10 c10)], _, _, rfl, rfl, hfin _ _ _ HE5_11.out, ⟨[(.slice y6 j6 c6)], [(.slice y7 j7 c7), (.int .i64 y8), (.bool y9), (.slice y10 j10 c10)], _, _, rfl, rfl, hfin _ _ _ HE6_11.out, ⟨[(.slice y7 j7 c7)], [(.int .i64 y8), (.bool y9), (.slice y10 j10 c10)], _, _, rfl, rfl, hfin _ _ _ HE7_11.out, ⟨[(.int .i64 y8)], [(.bool y9), (.slice y10 j10 c10)], _, _, rfl, rfl, hfin _ _ _ HE8_11.out, ⟨[(.bool y9)], [(.slice y10 j10 c10)], _, _, rfl, rfl, hfin _ _ _ HE9_11.out, ⟨[(.slice y10 j10 c10)], [], _, _, rfl, rfl, hfin _ _ _ HE10_11.out, ⟨rfl, rfl⟩⟩⟩⟩⟩⟩⟩⟩⟩⟩⟩⟩
 · exact (Keep.of_below HBW.out).trans2 HK11.out (fun j e => by rcases e with e | e <;> first | exact .inl e | exact .inr (by have := HBE.out; omega))
set_option maxHeartbeats 8000000 in
theorem rlist_Op {w : World} {R B : Nat} {st : Rst} {cs : List Value} {t : TypeId} (i : Nat) (h : RAt w R st.1 st.2) (hl : st.1.length ≤ 140737488355328) (hB : w.heap[B]? = some (.cells cs.toArray t (0, 0))) (hi : cs[i]? = some (.slice none 0 0)) (hRB : R < B) :
 Calls Tryz.prog 116 #[.agg #[.pointer (some ⟨R, 0, none⟩)], .pointer (some ⟨B, i, none⟩), (.func (.func 117) #[.agg #[.pointer (some ⟨R, 0, none⟩)]] #[])] w (fun en w' => en = .returned (.tuple #[]) ∧ ∃ v, TkP (.list sOp) R B w st cs t i v w') := by
 obtain ⟨i0, hi0, hz0, hz1, hz2⟩ : ∃ i0, Tryz.prog.info? 129 = some i0 ∧ i0.zero = some (.agg #[.int .i64 0, .string .empty, .string .empty, .slice none 0 0, .slice none 0 0, .slice none 0 0, .slice none 0 0, .slice none 0 0, .int .i64 0, .bool false, .slice none 0 0]) ∧ i0.size = 11 ∧ i0.bytes = 200 := by
  have h9 : (Tryz.prog.info? 129).map (fun i => (i.zero, i.size, i.bytes)) = some (some (.agg #[.int .i64 0, .string .empty, .string .empty, .slice none 0 0, .slice none 0 0, .slice none 0 0, .slice none 0 0, .slice none 0 0, .int .i64 0, .bool false, .slice none 0 0]), 11, 200) := by kernel_rfl
  cases hq : Tryz.prog.info? 129 with
  | none => rw [hq] at h9; cases h9
  | some q => rw [hq] at h9; simp at h9; exact ⟨q, rfl, h9⟩
 have HI0 := hid (And.intro hi0 (And.intro hz0 (And.intro hz1 hz2)))
 clear hi0 hz0 hz1 hz2
 have hb : Below w.heap.size w (w.alloc (.cells #[.pointer (some ⟨R, 0, none⟩)] 79)) := (Below.refl _ _).alloc (Nat.le_refl _) _
 have hz := heap_alloc_new w (.cells #[.pointer (some ⟨R, 0, none⟩)] 79)
 have hRw := h.lt
 have hBw := lt_of_block hB
 have HRW := hid hRw
 have HBW := hid hBw
 have H := hid (h.old hb)
 have HB := hid hb
 have HF := hid ((hb.block _ hBw).trans hB)
 have HI := hid hi
 have HZ := hid hz
 have HLE := hid hl
 clear h hB hi hb hz hl
 go_enter Tryz.func116, Tryz.ntmps116
 go_upto_region 1 with fail
 generalize w.alloc (.cells #[.pointer (some ⟨R, 0, none⟩)] 79) = w1 at *
 obtain ⟨z0, z1⟩ := one_cell HZ.out
 obtain ⟨n, hn⟩ : ∃ n, n = (lookS 5000 st.1 st.2).1 := ⟨_, rfl⟩
 obtain ⟨s1, hs1⟩ : ∃ s1 : Rst, s1 = (st.1.drop (lookS 5000 st.1 st.2).2.1, (lookS 5000 st.1 st.2).2.2) := ⟨_, rfl⟩
 have HN := hid (And.intro hn hs1)
 have hn5 : n ≤ 5000 := by rw [hn]; exact lookS_most _ _ _
 have C0 : Hid (Calls Tryz.prog 140 #[.pointer (some ⟨R, 0, none⟩), .int .i64 5000] w1 (fun en w' => en = .returned (.int .i64 (n : Int)) ∧ RAt w' R s1.1 s1.2 ∧ w1.grownBy w' (some R))) := hid ((smallR_any w1 R st.1 st.2 5000 (by decide) H.out).mono (fun en w9 h9 => by rw [hn, hs1]; exact h9))
 have HS1 : Hid (s1.1.length ≤ st.1.length) := hid (by rw [hs1]; simp)
 clear hn hs1
 go_wp2_with (first | (go_at_call 140; refine C0.out.mono ?_; rintro en w2 ⟨rfl, h2, g2⟩; have H2 := hid h2; have K2 := hid (show Keep (fun j => j = R ∨ j = B) w w2 from (Keep.of_below HB.out).trans ((Keep.of_grown (X := fun j => j = R) g2 (fun j e => by cases e; rfl)).mono (fun j _ e => .inl e))); have HF2 := hid ((g2.block B (lt_of_block HF.out) (fun e => by cases e; omega)).trans HF.out); have HZ2 := hid ((g2.block w.heap.size (lt_of_block HZ.out) (fun e => by cases e; omega)).trans HZ.out); clear h2 g2))
 clear z0 z1 C0
 go_loopw [9] (fun ix wr => ∃ (k : Nat) (M : List (List Value × List UInt8)) (ao : Option Addr) (c : Nat) (sk : Rst), ix = .int .i64 (k : Int) ∧ wr.heap[w.heap.size]? = some (.cells #[.pointer (some ⟨R, 0, none⟩)] 79 (0, 0)) ∧ TLp sOp 129 R B i w cs t n s1 wr k M ao c sk) (fun ix _ => n - (intOf ix).toNat)
 case atStart => exact ⟨0, [], none, 0, s1, rfl, HZ2.out, TLp.begin HI.out HF2.out H2.out K2.out⟩
 case round =>
  obtain ⟨k, M, ao, c, sk, rfl, hzr, ht⟩ := hrel
  have hk := ht.le
  have HT := hid ht
  have HZR := hid hzr
  clear ht hzr
  by_cases hlt : k < n
  · have hki : (k : Int) < (n : Int) := by omega
    go_upto_region 3 with fail
    have hWd : Below wr.heap.size wr wr.drew := ⟨rfl, rfl, rfl, Nat.le_refl _, fun _ _ => rfl⟩
    have HLk : Hid (sk.1.length ≤ 140737488355328) := hid (by have := HT.out.small; have := HS1.out; have := HLE.out; omega)
    have HTd : Hid (RAt wr.drew R sk.1 sk.2) := hid (HT.out.rat.old hWd)
    have HFd : Hid (wr.drew.heap[B]? = some (.cells (cs.set i (.slice ao k c)).toArray t (0, 0))) := HT.out.field
    have HLI := hid (List.getElem?_set_self (a := .slice ao k c) (List.getElem?_eq_some_iff.1 HI.out).1)
    have CN := hid (rOp_any HTd.out HLk.out)
    have HUD : Hid (∀ mc w9, RdP sOp R wr.drew sk mc w9 → RdP sOp R wr sk mc w9) := hid fun _ _ h => h.undrew
    have HZd : Hid (wr.drew.heap[w.heap.size]? = some (.cells #[.pointer (some ⟨R, 0, none⟩)] 79 (0, 0))) := HZR.out
    clear hWd
    refine wp_region_noPanic ?_
    refine wp_region_L (S := fun W => Hid (W.cell? ⟨B, i, none⟩ = some (.slice ao k c))) 9 (by kernel_rfl) ?_
    have HD0 := hid (row_at HFd.out HLI.out).1
    generalize wr.drew = Wd at *
    refine tkV 0 (.pointer (some ⟨B, i, none⟩)) rfl (by kernel_rfl) (fun _ _ _ => False.elim) (Or.inl ⟨by rfl, fun W9 _ => by simp only [jA, jB, jC]; go_simp⟩) (fun _ => HD0) ?_
    simp only [Act.put, jA, jB, jC, jD, jE, jF]
    refine tkV 1 (.pointer (some ⟨B, i, none⟩)) rfl (by kernel_rfl) (fun _ _ _ => False.elim) (Or.inl ⟨by rfl, fun W9 _ => by simp only [jA, jB, jC]; go_simp⟩) (fun _ => HD0) ?_
    simp only [Act.put, jA, jB, jC, jD, jE, jF]
    refine tkV 2 (.pointer (some ⟨B, i, none⟩)) rfl (by kernel_rfl) (fun _ _ _ => False.elim) (Or.inl ⟨by rfl, fun W9 _ => by simp only [jA, jB, jC]; go_simp⟩) (fun _ => HD0) ?_
    simp only [Act.put, jA, jB, jC, jD, jE, jF]
    refine tkV 4 (.func (.func 117) #[.agg #[.pointer (some ⟨R, 0, none⟩)]] #[]) rfl (by kernel_rfl) (fun _ _ _ => False.elim) (Or.inl ⟨by rfl, fun W9 _ => by simp only [jA, jB, jC]; go_simp⟩) (fun _ => HD0) ?_
    simp only [Act.put, jA, jB, jC, jD, jE, jF]
    refine tkL 3 (.slice ao k c) [3, 7, 9] rfl (by kernel_rfl) (fun _ _ _ => False.elim) HD0 (Or.inl ⟨by rfl, fun W9 hW => by have d9 := hW.out; clear hW; simp only [jA, jB, jC]; go_simp⟩) ?_
    simp only [Act.put, jA, jB, jC, jD, jE, jF]
    refine rdL 5 (by kernel_rfl) rfl fun K hK => ?_
    go_simp
    go_wp2_with (first | (go_at_call 117; refine CN.out.mono ?_; rintro en wT ⟨mc, rfl, hv⟩; obtain ⟨v0, v1, v2, v3, v4, v5, v6, v7, v8, v9, v10, b0, b1, b2, b3, b4, b5, b6, b7, b8, b9, b10, rfl, _, e0, e1, e2, e3, e4, e5, e6, e7, e8, e9, e10⟩ := Op_cells (EncN.enc _ hv.1); obtain ⟨y0, rfl⟩ := form_int e0; obtain ⟨y1, rfl⟩ := form_name e1; obtain ⟨y2, rfl⟩ := form_name e2; obtain ⟨y3, j3, c3, rfl⟩ := form_list e3; obtain ⟨y4, j4, c4, rfl⟩ := form_list e4; obtain ⟨y5, j5, c5, rfl⟩ := form_list e5; obtain ⟨y6, j6, c6, rfl⟩ := form_list e6; obtain ⟨y7, j7, c7, rfl⟩ := form_list e7; obtain ⟨y8, rfl⟩ := form_int e8; obtain ⟨y9, rfl⟩ := form_bool e9; obtain ⟨y10, j10, c10, rfl⟩ := form_list e10; clear e0 e1 e2 e3 e4 e5 e6 e7 e8 e9 e10; have HV := hid (HUD.out _ _ hv); have HZT := hid ((hv.2.2.block w.heap.size (lt_of_block HZd.out) (fun e => by have e9 : w.heap.size = R := e; omega)).trans HZd.out); have HFT := hid ((hv.2.2.block B (lt_of_block HFd.out) (fun e => by have e9 : B = R := e; omega)).trans HFd.out); clear hv))
    refine hK.out _ _ (hid (row_at HFT.out HLI.out).1) fun _ => ?_
    clear hK K
    have H3 : Hid (Below wT.heap.size wT (wT.alloc (.cells #[.int .i64 y0, .string y1, .string y2, .slice y3 j3 c3, .slice y4 j4 c4, .slice y5 j5 c5, .slice y6 j6 c6, .slice y7 j7 c7, .int .i64 y8, .bool y9, .slice y10 j10 c10] 129))) := hid ((Below.refl _ _).alloc (Nat.le_refl _) _)
    have HR3 := hid (heap_alloc_new wT (.cells #[.int .i64 y0, .string y1, .string y2, .slice y3 j3 c3, .slice y4 j4 c4, .slice y5 j5 c5, .slice y6 j6 c6, .slice y7 j7 c7, .int .i64 y8, .bool y9, .slice y10 j10 c10] 129))
    have HF3 := hid ((H3.out.block B (lt_of_block HFT.out)).trans HFT.out)
    have HOW := hid (own_old (own_keep (X := fun j => j = R) HT.out.own (show Keep _ wr wT from HV.out.2.2) (fun j e e9 => by have e8 : j = R := e9; have := (HT.out.own.lt j e).1; omega)) H3.out)
    have HSZ : Hid (w.heap.size + 1 ≤ (wT.alloc (.cells #[.int .i64 y0, .string y1, .string y2, .slice y3 j3 c3, .slice y4 j4 c4, .slice y5 j5 c5, .slice y6 j6 c6, .slice y7 j7 c7, .int .i64 y8, .bool y9, .slice y10 j10 c10] 129)).heap.size) := hid (by have := lt_of_block HZT.out; have := H3.out.size; show _ ≤ _; omega)
    refine rdL 6 (by kernel_rfl) rfl fun K hK => ?_
    go_simp
    refine hK.out _ _ (hid (row_at HF3.out HLI.out).1) fun _ => ?_
    clear hK K
    refine rdL 7 (by kernel_rfl) rfl fun K hK => ?_
    refine step_app1 (by rfl) (.tmp 14) (.tmp 17) 60 (by rfl) (w.heap.size + 1) 129 Tryz.underlying60 HI0.out.1 HI0.out.2.1 HI0.out.2.2.1 HI0.out.2.2.2 (by simp [Value.cells]) (by decide) _ k _ (by rfl) HOW.out wT.heap.size [.int .i64 y0, .string y1, .string y2, .slice y3 j3 c3, .slice y4 j4 c4, .slice y5 j5 c5, .slice y6 j6 c6, .slice y7 j7 c7, .int .i64 y8, .bool y9, .slice y10 j10 c10] (by rfl) HR3.out rfl (fun u hu => by simp only [List.mem_cons, List.not_mem_nil, or_false] at hu; rcases hu with rfl | rfl | rfl | rfl | rfl | rfl | rfl | rfl | rfl | rfl | rfl <;> rfl) (by omega) (by decide) HSZ.out (fun g cap w' o5 g5 gg5 => ?_)
    have HF4 := hid (heap_kept g5 HF3.out (fun e => by have := (HT.out.own.lt B e.symm).1; omega))
    have HZ5 : Hid ((w'.setCell ⟨B, i, none⟩ (.slice (some ⟨g, 0, none⟩) (k + 1) cap)).heap[w.heap.size]? = some (.cells #[.pointer (some ⟨R, 0, none⟩)] 79 (0, 0))) := hid (heap_kept (grown_set w' ⟨B, i, none⟩ _) (heap_kept g5 ((H3.out.block _ (lt_of_block HZT.out)).trans HZT.out) (fun e => by have := (HT.out.own.lt _ e.symm).1; omega)) (fun e => by have e9 : w.heap.size = B := (by simpa using e); have := HBW.out; omega))
    have HNX := hid (HT.out.next HRW.out HBW.out hRB hlt (show RdP sOp R wr sk [.int .i64 y0, .string y1, .string y2, .slice y3 j3 c3, .slice y4 j4 c4, .slice y5 j5 c5, .slice y6 j6 c6, .slice y7 j7 c7, .int .i64 y8, .bool y9, .slice y10 j10 c10] wT from HV.out) H3.out o5 g5 gg5)
    clear o5 g5 gg5
    refine hK.out _ _ (hid (row_at HF4.out HLI.out).1) fun _ => ?_
    clear hK K
    simp only [Act.put, jA, jB, jC, jD, jE, jF]
    refine tkV 8 (.pointer (some ⟨B, i, none⟩)) rfl (by kernel_rfl) (fun _ _ _ => False.elim) (Or.inl ⟨by rfl, fun W9 _ => by simp only [jA, jB, jC]; go_simp⟩) (fun _ => hid (row_at HF4.out HLI.out).1) ?_
    simp only [Act.put, jA, jB, jC, jD, jE, jF]
    obtain ⟨q0, q1⟩ := row_at HF4.out HLI.out
    refine rdS (by kernel_rfl) rfl fun K hK => ?_
    go_simp
    refine hK.out _ _ ?_
    clear hK K q0 q1
    refine doneL (by kernel_rfl) (NoPanic.normal ?_) _
    generalize w'.setCell ⟨B, i, none⟩ (.slice (some ⟨g, 0, none⟩) (k + 1) cap) = w5 at *
    obtain ⟨p0, p1⟩ := one_cell HZ5.out
    have CE := hid (err_any w5 R _ _ HNX.out.1)
    obtain ⟨ev, hev⟩ : ∃ ev, ev = (rdF sOp sk).2.2 := ⟨_, rfl⟩
    rw [← hev] at CE
    by_cases h0 : ev = 0
    · have HNE := hid (HNX.out.2.1 (by rw [← hev]; exact h0))
      subst h0
      clear hev
      go_wp2_with (first | (go_at_call 132; refine CE.out.mono ?_; rintro en w6 ⟨rfl, rfl⟩))
      go_roundw
      case rel => exact ⟨k + 1, _, _, _, _, by go_num, HZ5.out, HNE.out⟩
      case measure => simp [intOf]; omega
    · have HNE := hid (HNX.out.2.2 (by rw [← hev]; exact h0) hn5)
      have hbe : (ev != 0) = true := by simp [h0]
      clear hev
      go_wp2_with (first | (go_at_call 132; refine CE.out.mono ?_; rintro en w6 ⟨rfl, rfl⟩))
      (try simp only [Exit.inBlock, Exit.then]); refine bodyPost_ret (results_none rfl _ _ _) rfl ?_
      obtain ⟨m1, m2, m3, m4⟩ := HNE.out
      refine ⟨rfl, .slice (some ⟨g, 0, none⟩) (k + 1) cap, ?_, m2, ?_, m4⟩
      · simp only [rdF]; rw [← HN.out.1, ← HN.out.2]; exact m1
      · simp only [rdF]; rw [← HN.out.1, ← HN.out.2]; exact m3
  · obtain rfl : n = k := by omega
    have hki : ¬ (n : Int) < (n : Int) := by omega
    go_wp2_with fail
    go_end0
    obtain ⟨p1, p2⟩ := HT.out.done hn5
    refine ⟨rfl, .slice ao n c, ?_, HT.out.field, ?_, HT.out.keep⟩
    · simp only [rdF]; rw [← HN.out.1, ← HN.out.2]; exact p1
    · simp only [rdF]; rw [← HN.out.1, ← HN.out.2]; exact p2
end Go.Proofs.YtmdgifmigikffaaGreat
namespace Go.Proofs.YtmdgifmigikffaaGreat
open Go.RowKit Go.Deep
theorem Table_forms {W : World} {v0 v1 v2 v3 : Value} {b : List UInt8} (h : Enc W sTable [v0, v1, v2, v3] b) : (∃ y0 : Int, v0 = .int .i64 y0) ∧ (∃ y1 : ByteArray, v1 = .string y1) ∧ (∃ (y2 : Option Addr) (j2 c2 : Nat), v2 = .slice y2 j2 c2) ∧ (∃ (y3 : Option Addr) (j3 c3 : Nat), v3 = .slice y3 j3 c3) := by
 obtain ⟨a0, a1, a2, a3, b0, b1, b2, b3, hc, _, e0, e1, e2, e3⟩ := Table_cells h
 simp only [List.cons.injEq, and_true] at hc
 obtain ⟨rfl, rfl, rfl, rfl⟩ := hc
 exact ⟨form_int e0, form_name e1, form_list e2, form_list e3⟩
set_option maxHeartbeats 4000000 in
theorem stake_Table_13 {w : World} {R B : Nat} {st : Rst} {cs : List Value} {t : TypeId} {u0 u1 u2 u3 : Value} (h : RAt w R st.1 st.2) (hl : st.1.length ≤ 140737488355328) (hB : w.heap[B]? = some (.cells cs.toArray t (0, 0))) (hi0 : cs[13]? = some u0) (hi1 : cs[14]? = some u1) (hi2 : cs[15]? = some u2) (hi3 : cs[16]? = some u3) (hRB : R < B) :
 Calls Tryz.prog 92 #[.pointer (some ⟨B, 13, none⟩), (.func (.func 93) #[.agg #[.pointer (some ⟨R, 0, none⟩)]] #[])] w (fun en w' => en = .returned (.tuple #[]) ∧ ∃ v0 v1 v2 v3, TkS sTable R B w st cs t 13 [v0, v1, v2, v3] w') := by
 have C := hid (rTable_any h hl)
 have HB := hid hB
 have HI0 := hid hi0
 have HI1 := hid hi1
 have HI2 := hid hi2
 have HI3 := hid hi3
 clear hB h hi0 hi1 hi2 hi3
 go_enter Tryz.func92, Tryz.ntmps92
 go_wp2_with (first | (go_at_call 93; refine C.out.mono ?_; rintro en w2 ⟨mc, rfl, hv⟩; obtain ⟨k0, k1, k2, k3, b0, b1, b2, b3, rfl, _, e0, e1, e2, e3⟩ := Table_cells (EncN.enc _ hv.1); obtain ⟨y0, rfl⟩ := form_int e0; obtain ⟨y1, rfl⟩ := form_name e1; obtain ⟨y2, j2, c2, rfl⟩ := form_list e2; obtain ⟨y3, j3, c3, rfl⟩ := form_list e3; clear e0 e1 e2 e3; have HV := hid hv; have hB2 := (hv.2.2.block B (lt_of_block HB.out) (fun e => by have e9 : B = R := e; omega)).trans HB.out; clear hv; obtain ⟨z0, x0⟩ := row_at hB2 HI0.out; obtain ⟨z1, x1⟩ := row_at hB2 HI1.out; obtain ⟨z2, x2⟩ := row_at hB2 HI2.out; obtain ⟨z3, x3⟩ := row_at hB2 HI3.out; clear hB2))
 go_end0
 exact ⟨rfl, _, _, _, _, HV.out.storeS HB.out hRB 13⟩
set_option maxHeartbeats 4000000 in
theorem stake_Table_2 {w : World} {R B : Nat} {st : Rst} {cs : List Value} {t : TypeId} {u0 u1 u2 u3 : Value} (h : RAt w R st.1 st.2) (hl : st.1.length ≤ 140737488355328) (hB : w.heap[B]? = some (.cells cs.toArray t (0, 0))) (hi0 : cs[2]? = some u0) (hi1 : cs[3]? = some u1) (hi2 : cs[4]? = some u2) (hi3 : cs[5]? = some u3) (hRB : R < B) :
 Calls Tryz.prog 92 #[.pointer (some ⟨B, 2, none⟩), (.func (.func 93) #[.agg #[.pointer (some ⟨R, 0, none⟩)]] #[])] w (fun en w' => en = .returned (.tuple #[]) ∧ ∃ v0 v1 v2 v3, TkS sTable R B w st cs t 2 [v0, v1, v2, v3] w') := by
 have C := hid (rTable_any h hl)
 have HB := hid hB
 have HI0 := hid hi0
 have HI1 := hid hi1
 have HI2 := hid hi2
 have HI3 := hid hi3
 clear hB h hi0 hi1 hi2 hi3
 go_enter Tryz.func92, Tryz.ntmps92
 go_wp2_with (first | (go_at_call 93; refine C.out.mono ?_; rintro en w2 ⟨mc, rfl, hv⟩; obtain ⟨k0, k1, k2, k3, b0, b1, b2, b3, rfl, _, e0, e1, e2, e3⟩ := Table_cells (EncN.enc _ hv.1); obtain ⟨y0, rfl⟩ := form_int e0; obtain ⟨y1, rfl⟩ := form_name e1; obtain ⟨y2, j2, c2, rfl⟩ := form_list e2; obtain ⟨y3, j3, c3, rfl⟩ := form_list e3; clear e0 e1 e2 e3; have HV := hid hv; have hB2 := (hv.2.2.block B (lt_of_block HB.out) (fun e => by have e9 : B = R := e; omega)).trans HB.out; clear hv; obtain ⟨z0, x0⟩ := row_at hB2 HI0.out; obtain ⟨z1, x1⟩ := row_at hB2 HI1.out; obtain ⟨z2, x2⟩ := row_at hB2 HI2.out; obtain ⟨z3, x3⟩ := row_at hB2 HI3.out; clear hB2))
 go_end0
 exact ⟨rfl, _, _, _, _, HV.out.storeS HB.out hRB 2⟩
end Go.Proofs.YtmdgifmigikffaaGreat
namespace Go.Proofs.YtmdgifmigikffaaGreat
open Go.RowKit Go.Deep
theorem Index_forms {W : World} {v0 v1 v2 v3 v4 v5 v6 : Value} {b : List UInt8} (h : Enc W sIndex [v0, v1, v2, v3, v4, v5, v6] b) : (∃ y0 : Int, v0 = .int .i64 y0) ∧ (∃ y1 : Int, v1 = .int .i64 y1) ∧ (∃ y2 : ByteArray, v2 = .string y2) ∧ (∃ (y3 : Option Addr) (j3 c3 : Nat), v3 = .slice y3 j3 c3) ∧ (∃ y4 : Bool, v4 = .bool y4) ∧ (∃ y5 : Int, v5 = .int .i64 y5) ∧ (∃ y6 : Bool, v6 = .bool y6) := by
 obtain ⟨a0, a1, a2, a3, a4, a5, a6, b0, b1, b2, b3, b4, b5, b6, hc, _, e0, e1, e2, e3, e4, e5, e6⟩ := Index_cells h
 simp only [List.cons.injEq, and_true] at hc
 obtain ⟨rfl, rfl, rfl, rfl, rfl, rfl, rfl⟩ := hc
 exact ⟨form_int e0, form_int e1, form_name e2, form_list e3, form_bool e4, form_int e5, form_bool e6⟩
set_option maxHeartbeats 4000000 in
theorem stake_Index_17 {w : World} {R B : Nat} {st : Rst} {cs : List Value} {t : TypeId} {u0 u1 u2 u3 u4 u5 u6 : Value} (h : RAt w R st.1 st.2) (hl : st.1.length ≤ 140737488355328) (hB : w.heap[B]? = some (.cells cs.toArray t (0, 0))) (hi0 : cs[17]? = some u0) (hi1 : cs[18]? = some u1) (hi2 : cs[19]? = some u2) (hi3 : cs[20]? = some u3) (hi4 : cs[21]? = some u4) (hi5 : cs[22]? = some u5) (hi6 : cs[23]? = some u6) (hRB : R < B) :
 Calls Tryz.prog 94 #[.pointer (some ⟨B, 17, none⟩), (.func (.func 95) #[.agg #[.pointer (some ⟨R, 0, none⟩)]] #[])] w (fun en w' => en = .returned (.tuple #[]) ∧ ∃ v0 v1 v2 v3 v4 v5 v6, TkS sIndex R B w st cs t 17 [v0, v1, v2, v3, v4, v5, v6] w') := by
 have C := hid (rIndex_any h hl)
 have HB := hid hB
 have HI0 := hid hi0
 have HI1 := hid hi1
 have HI2 := hid hi2
 have HI3 := hid hi3
 have HI4 := hid hi4
 have HI5 := hid hi5
 have HI6 := hid hi6
 clear hB h hi0 hi1 hi2 hi3 hi4 hi5 hi6
 go_enter Tryz.func94, Tryz.ntmps94
 go_wp2_with (first | (go_at_call 95; refine C.out.mono ?_; rintro en w2 ⟨mc, rfl, hv⟩; obtain ⟨k0, k1, k2, k3, k4, k5, k6, b0, b1, b2, b3, b4, b5, b6, rfl, _, e0, e1, e2, e3, e4, e5, e6⟩ := Index_cells (EncN.enc _ hv.1); obtain ⟨y0, rfl⟩ := form_int e0; obtain ⟨y1, rfl⟩ := form_int e1; obtain ⟨y2, rfl⟩ := form_name e2; obtain ⟨y3, j3, c3, rfl⟩ := form_list e3; obtain ⟨y4, rfl⟩ := form_bool e4; obtain ⟨y5, rfl⟩ := form_int e5; obtain ⟨y6, rfl⟩ := form_bool e6; clear e0 e1 e2 e3 e4 e5 e6; have HV := hid hv; have hB2 := (hv.2.2.block B (lt_of_block HB.out) (fun e => by have e9 : B = R := e; omega)).trans HB.out; clear hv; obtain ⟨z0, x0⟩ := row_at hB2 HI0.out; obtain ⟨z1, x1⟩ := row_at hB2 HI1.out; obtain ⟨z2, x2⟩ := row_at hB2 HI2.out; obtain ⟨z3, x3⟩ := row_at hB2 HI3.out; obtain ⟨z4, x4⟩ := row_at hB2 HI4.out; obtain ⟨z5, x5⟩ := row_at hB2 HI5.out; obtain ⟨z6, x6⟩ := row_at hB2 HI6.out; clear hB2))
 go_end0
 exact ⟨rfl, _, _, _, _, _, _, _, HV.out.storeS HB.out hRB 17⟩
set_option maxHeartbeats 4000000 in
theorem stake_Index_6 {w : World} {R B : Nat} {st : Rst} {cs : List Value} {t : TypeId} {u0 u1 u2 u3 u4 u5 u6 : Value} (h : RAt w R st.1 st.2) (hl : st.1.length ≤ 140737488355328) (hB : w.heap[B]? = some (.cells cs.toArray t (0, 0))) (hi0 : cs[6]? = some u0) (hi1 : cs[7]? = some u1) (hi2 : cs[8]? = some u2) (hi3 : cs[9]? = some u3) (hi4 : cs[10]? = some u4) (hi5 : cs[11]? = some u5) (hi6 : cs[12]? = some u6) (hRB : R < B) :
 Calls Tryz.prog 94 #[.pointer (some ⟨B, 6, none⟩), (.func (.func 95) #[.agg #[.pointer (some ⟨R, 0, none⟩)]] #[])] w (fun en w' => en = .returned (.tuple #[]) ∧ ∃ v0 v1 v2 v3 v4 v5 v6, TkS sIndex R B w st cs t 6 [v0, v1, v2, v3, v4, v5, v6] w') := by
 have C := hid (rIndex_any h hl)
 have HB := hid hB
 have HI0 := hid hi0
 have HI1 := hid hi1
 have HI2 := hid hi2
 have HI3 := hid hi3
 have HI4 := hid hi4
 have HI5 := hid hi5
 have HI6 := hid hi6
 clear hB h hi0 hi1 hi2 hi3 hi4 hi5 hi6
 go_enter Tryz.func94, Tryz.ntmps94
 go_wp2_with (first | (go_at_call 95; refine C.out.mono ?_; rintro en w2 ⟨mc, rfl, hv⟩; obtain ⟨k0, k1, k2, k3, k4, k5, k6, b0, b1, b2, b3, b4, b5, b6, rfl, _, e0, e1, e2, e3, e4, e5, e6⟩ := Index_cells (EncN.enc _ hv.1); obtain ⟨y0, rfl⟩ := form_int e0; obtain ⟨y1, rfl⟩ := form_int e1; obtain ⟨y2, rfl⟩ := form_name e2; obtain ⟨y3, j3, c3, rfl⟩ := form_list e3; obtain ⟨y4, rfl⟩ := form_bool e4; obtain ⟨y5, rfl⟩ := form_int e5; obtain ⟨y6, rfl⟩ := form_bool e6; clear e0 e1 e2 e3 e4 e5 e6; have HV := hid hv; have hB2 := (hv.2.2.block B (lt_of_block HB.out) (fun e => by have e9 : B = R := e; omega)).trans HB.out; clear hv; obtain ⟨z0, x0⟩ := row_at hB2 HI0.out; obtain ⟨z1, x1⟩ := row_at hB2 HI1.out; obtain ⟨z2, x2⟩ := row_at hB2 HI2.out; obtain ⟨z3, x3⟩ := row_at hB2 HI3.out; obtain ⟨z4, x4⟩ := row_at hB2 HI4.out; obtain ⟨z5, x5⟩ := row_at hB2 HI5.out; obtain ⟨z6, x6⟩ := row_at hB2 HI6.out; clear hB2))
 go_end0
 exact ⟨rfl, _, _, _, _, _, _, _, HV.out.storeS HB.out hRB 6⟩
end Go.Proofs.YtmdgifmigikffaaGreat
namespace Go.Proofs.YtmdgifmigikffaaGreat
open Go.RowKit Go.Deep
theorem rdc1_Ask (s r : Sh) (st : Rst) : (rdF (.cons s r) st).1 = (rdF s st).1 ++ (rdF r (rdF s st).2).1 := rfl
theorem rdc2_Ask (s r : Sh) (st : Rst) : (rdF (.cons s r) st).2 = (rdF r (rdF s st).2).2 := rfl
theorem rdn1_Ask (st : Rst) : (rdF .nil st).1 = [] := rfl
theorem rdn2_Ask (st : Rst) : (rdF .nil st).2 = st := rfl
set_option maxHeartbeats 8000000 in
theorem rAsk_any {w : World} {R : Nat} {st : Rst} (h : RAt w R st.1 st.2) (hl : st.1.length ≤ 140737488355328) :
 Calls Tryz.prog 50 #[.agg #[.pointer (some ⟨R, 0, none⟩)]] w (fun en w' => ∃ cs, en = .returned (.agg cs.toArray) ∧ RdP sAsk R w st cs w') := by
 have hb : Below w.heap.size w ((w.alloc (.cells #[.pointer (some ⟨R, 0, none⟩)] 79)).alloc (.cells #[.int .i64 0, .slice none 0 0, .int .i64 0, .string ⟨#[]⟩, .slice none 0 0, .slice none 0 0, .int .i64 0, .int .i64 0, .string ⟨#[]⟩, .slice none 0 0, .bool false, .int .i64 0, .bool false, .string ⟨#[]⟩, .int .i64 0, .slice none 0 0] 62)) := ((Below.refl _ _).alloc (Nat.le_refl _) _).alloc (by simp) _
 have hz := (Below.heap_alloc (w.alloc (.cells #[.pointer (some ⟨R, 0, none⟩)] 79)) (.cells #[.int .i64 0, .slice none 0 0, .int .i64 0, .string ⟨#[]⟩, .slice none 0 0, .slice none 0 0, .int .i64 0, .int .i64 0, .string ⟨#[]⟩, .slice none 0 0, .bool false, .int .i64 0, .bool false, .string ⟨#[]⟩, .int .i64 0, .slice none 0 0] 62) w.heap.size (by simp)).trans (heap_alloc_new w (.cells #[.pointer (some ⟨R, 0, none⟩)] 79))
 have hB := heap_alloc2_new w (.cells #[.pointer (some ⟨R, 0, none⟩)] 79) (.cells #[.int .i64 0, .slice none 0 0, .int .i64 0, .string ⟨#[]⟩, .slice none 0 0, .slice none 0 0, .int .i64 0, .int .i64 0, .string ⟨#[]⟩, .slice none 0 0, .bool false, .int .i64 0, .bool false, .string ⟨#[]⟩, .int .i64 0, .slice none 0 0] 62)
 obtain ⟨B, hBe⟩ : ∃ B, B = w.heap.size + 1 := ⟨_, rfl⟩
 have hRw := h.lt
 have hRB : R < B := by omega
 have HR0 := hid (h.old hb)
 rw [← hBe] at hB
 have HB0 := hid hB
 have HX0 := hid hz
 have HBW := hid hb
 have HL0 := hid hl
 clear h hb hz hB hl
 go_enter Tryz.func50, Tryz.ntmps50
 go_upto_region 1 with fail
 generalize (w.alloc (.cells #[.pointer (some ⟨R, 0, none⟩)] 79)).alloc (.cells #[.int .i64 0, .slice none 0 0, .int .i64 0, .string ⟨#[]⟩, .slice none 0 0, .slice none 0 0, .int .i64 0, .int .i64 0, .string ⟨#[]⟩, .slice none 0 0, .bool false, .int .i64 0, .bool false, .string ⟨#[]⟩, .int .i64 0, .slice none 0 0] 62) = w0 at *
 try rw [← hBe]
 have HK0 : Hid (Keep (fun j => j = R ∨ j = B) w0 w0) := hid (Keep.refl _ _)
 have HBE := hid hBe
 clear hBe
 have y0 := (one_cell HX0.out).1
 have CQ := hid (rtake_whole 0 HR0.out HL0.out HB0.out rfl hRB)
 go_upto_region 2 with (first | (go_at_call 80; refine CQ.out.mono ?_; rintro en w1 ⟨rfl, v0, hv⟩; have HV0 := hid hv; clear hv))
 clear CQ y0
 have HB1 : Hid (w1.heap[B]? = some (.cells #[v0, .slice none 0 0, .int .i64 0, .string ⟨#[]⟩, .slice none 0 0, .slice none 0 0, .int .i64 0, .int .i64 0, .string ⟨#[]⟩, .slice none 0 0, .bool false, .int .i64 0, .bool false, .string ⟨#[]⟩, .int .i64 0, .slice none 0 0] 62 (0, 0))) := HV0.out.2.1
 have HR1 : Hid (RAt w1 R (rdF .int st).2.1 (rdF .int st).2.2) := HV0.out.2.2.1
 have HL1 : Hid ((rdF .int st).2.1.length ≤ 140737488355328) := hid (Nat.le_trans (rd_len _ _) HL0.out)
 have HX1 := hid ((HV0.out.2.2.2.block w.heap.size (lt_of_block HX0.out) (fun e => by have e9 : w.heap.size = R ∨ w.heap.size = B := e; have := HBE.out; omega)).trans HX0.out)
 have HK1 := hid (HK0.out.trans HV0.out.2.2.2)
 have HE0_1 := hid (EncN.top HB0.out HV0.out.1)
 have y0 := (one_cell HX1.out).1
 have CQ := hid (rlist_Op 1 HR1.out HL1.out HB1.out rfl hRB)
 go_upto_region 3 with (first | (go_at_call 116; refine CQ.out.mono ?_; rintro en w2 ⟨rfl, v1, hv⟩; have HV1 := hid hv; clear hv))
 clear CQ y0
 have HB2 : Hid (w2.heap[B]? = some (.cells #[v0, v1, .int .i64 0, .string ⟨#[]⟩, .slice none 0 0, .slice none 0 0, .int .i64 0, .int .i64 0, .string ⟨#[]⟩, .slice none 0 0, .bool false, .int .i64 0, .bool false, .string ⟨#[]⟩, .int .i64 0, .slice none 0 0] 62 (0, 0))) := HV1.out.2.1
 have HR2 : Hid (RAt w2 R (rdF (.list sOp) (rdF .int st).2).2.1 (rdF (.list sOp) (rdF .int st).2).2.2) := HV1.out.2.2.1
 have HL2 : Hid ((rdF (.list sOp) (rdF .int st).2).2.1.length ≤ 140737488355328) := hid (Nat.le_trans (rd_len _ _) HL1.out)
 have HX2 := hid ((HV1.out.2.2.2.block w.heap.size (lt_of_block HX1.out) (fun e => by have e9 : w.heap.size = R ∨ w.heap.size = B := e; have := HBE.out; omega)).trans HX1.out)
 have HK2 := hid (HK1.out.trans HV1.out.2.2.2)
 have HE1_2 := hid (EncN.top HB1.out HV1.out.1)
 have HE0_2 := hid (EncN.hopc hRB HV1.out.2.2.2 HE0_1.out)
 clear HE0_1
 have y0 := (one_cell HX2.out).1
 have CQ := hid (stake_Table_2 HR2.out HL2.out HB2.out rfl rfl rfl rfl hRB)
 go_upto_region 4 with (first | (go_at_call 92; refine CQ.out.mono ?_; rintro en w3 ⟨rfl, v2_0, v2_1, v2_2, v2_3, hv⟩; have HV2 := hid hv; clear hv))
 clear CQ y0
 have HB3 : Hid (w3.heap[B]? = some (.cells #[v0, v1, v2_0, v2_1, v2_2, v2_3, .int .i64 0, .int .i64 0, .string ⟨#[]⟩, .slice none 0 0, .bool false, .int .i64 0, .bool false, .string ⟨#[]⟩, .int .i64 0, .slice none 0 0] 62 (0, 0))) := HV2.out.2.1
 have HR3 : Hid (RAt w3 R (rdF sTable (rdF (.list sOp) (rdF .int st).2).2).2.1 (rdF sTable (rdF (.list sOp) (rdF .int st).2).2).2.2) := HV2.out.2.2.1
 have HL3 : Hid ((rdF sTable (rdF (.list sOp) (rdF .int st).2).2).2.1.length ≤ 140737488355328) := hid (Nat.le_trans (rd_len _ _) HL2.out)
 have HX3 := hid ((HV2.out.2.2.2.block w.heap.size (lt_of_block HX2.out) (fun e => by have e9 : w.heap.size = R ∨ w.heap.size = B := e; have := HBE.out; omega)).trans HX2.out)
 have HK3 := hid (HK2.out.trans HV2.out.2.2.2)
 have HE2_3 := hid (EncN.top HB2.out HV2.out.1)
 have HE0_3 := hid (EncN.hopc hRB HV2.out.2.2.2 HE0_2.out)
 have HE1_3 := hid (EncN.hopc hRB HV2.out.2.2.2 HE1_2.out)
 clear HE0_2 HE1_2
 have y0 := (one_cell HX3.out).1
 have CQ := hid (stake_Index_6 HR3.out HL3.out HB3.out rfl rfl rfl rfl rfl rfl rfl hRB)
 go_upto_region 5 with (first | (go_at_call 94; refine CQ.out.mono ?_; rintro en w4 ⟨rfl, v3_0, v3_1, v3_2, v3_3, v3_4, v3_5, v3_6, hv⟩; have HV3 := hid hv; clear hv))
 clear CQ y0
 have HB4 : Hid (w4.heap[B]? = some (.cells #[v0, v1, v2_0, v2_1, v2_2, v2_3, v3_0, v3_1, v3_2, v3_3, v3_4, v3_5, v3_6, .string ⟨#[]⟩, .int .i64 0, .slice none 0 0] 62 (0, 0))) := HV3.out.2.1
 have HR4 : Hid (RAt w4 R (rdF sIndex (rdF sTable (rdF (.list sOp) (rdF .int st).2).2).2).2.1 (rdF sIndex (rdF sTable (rdF (.list sOp) (rdF .int st).2).2).2).2.2) := HV3.out.2.2.1
 have HL4 : Hid ((rdF sIndex (rdF sTable (rdF (.list sOp) (rdF .int st).2).2).2).2.1.length ≤ 140737488355328) := hid (Nat.le_trans (rd_len _ _) HL3.out)
 have HX4 := hid ((HV3.out.2.2.2.block w.heap.size (lt_of_block HX3.out) (fun e => by have e9 : w.heap.size = R ∨ w.heap.size = B := e; have := HBE.out; omega)).trans HX3.out)
 have HK4 := hid (HK3.out.trans HV3.out.2.2.2)
 have HE3_4 := hid (EncN.top HB3.out HV3.out.1)
 have HE0_4 := hid (EncN.hopc hRB HV3.out.2.2.2 HE0_3.out)
 have HE1_4 := hid (EncN.hopc hRB HV3.out.2.2.2 HE1_3.out)
 have HE2_4 := hid (EncN.hopc hRB HV3.out.2.2.2 HE2_3.out)
 clear HE0_3 HE1_3 HE2_3
 have y0 := (one_cell HX4.out).1
 have CQ := hid (rtake_name 13 HR4.out HL4.out HB4.out rfl hRB)
 go_upto_region 6 with (first | (go_at_call 96; refine CQ.out.mono ?_; rintro en w5 ⟨rfl, v4, hv⟩; have HV4 := hid hv; clear hv))
 clear CQ y0
 have HB5 : Hid (w5.heap[B]? = some (.cells #[v0, v1, v2_0, v2_1, v2_2, v2_3, v3_0, v3_1, v3_2, v3_3, v3_4, v3_5, v3_6, v4, .int .i64 0, .slice none 0 0] 62 (0, 0))) := HV4.out.2.1
 have HR5 : Hid (RAt w5 R (rdF .name (rdF sIndex (rdF sTable (rdF (.list sOp) (rdF .int st).2).2).2).2).2.1 (rdF .name (rdF sIndex (rdF sTable (rdF (.list sOp) (rdF .int st).2).2).2).2).2.2) := HV4.out.2.2.1
 have HL5 : Hid ((rdF .name (rdF sIndex (rdF sTable (rdF (.list sOp) (rdF .int st).2).2).2).2).2.1.length ≤ 140737488355328) := hid (Nat.le_trans (rd_len _ _) HL4.out)
 have HX5 := hid ((HV4.out.2.2.2.block w.heap.size (lt_of_block HX4.out) (fun e => by have e9 : w.heap.size = R ∨ w.heap.size = B := e; have := HBE.out; omega)).trans HX4.out)
 have HK5 := hid (HK4.out.trans HV4.out.2.2.2)
 have HE4_5 := hid (EncN.top HB4.out HV4.out.1)
 have HE0_5 := hid (EncN.hopc hRB HV4.out.2.2.2 HE0_4.out)
 have HE1_5 := hid (EncN.hopc hRB HV4.out.2.2.2 HE1_4.out)
 have HE2_5 := hid (EncN.hopc hRB HV4.out.2.2.2 HE2_4.out)
 have HE3_5 := hid (EncN.hopc hRB HV4.out.2.2.2 HE3_4.out)
 clear HE0_4 HE1_4 HE2_4 HE3_4
 have y0 := (one_cell HX5.out).1
 have CQ := hid (rtake_whole 14 HR5.out HL5.out HB5.out rfl hRB)
 go_upto_region 7 with (first | (go_at_call 80; refine CQ.out.mono ?_; rintro en w6 ⟨rfl, v5, hv⟩; have HV5 := hid hv; clear hv))
 clear CQ y0
 have HB6 : Hid (w6.heap[B]? = some (.cells #[v0, v1, v2_0, v2_1, v2_2, v2_3, v3_0, v3_1, v3_2, v3_3, v3_4, v3_5, v3_6, v4, v5, .slice none 0 0] 62 (0, 0))) := HV5.out.2.1
 have HR6 : Hid (RAt w6 R (rdF .int (rdF .name (rdF sIndex (rdF sTable (rdF (.list sOp) (rdF .int st).2).2).2).2).2).2.1 (rdF .int (rdF .name (rdF sIndex (rdF sTable (rdF (.list sOp) (rdF .int st).2).2).2).2).2).2.2) := HV5.out.2.2.1
 have HL6 : Hid ((rdF .int (rdF .name (rdF sIndex (rdF sTable (rdF (.list sOp) (rdF .int st).2).2).2).2).2).2.1.length ≤ 140737488355328) := hid (Nat.le_trans (rd_len _ _) HL5.out)
 have HX6 := hid ((HV5.out.2.2.2.block w.heap.size (lt_of_block HX5.out) (fun e => by have e9 : w.heap.size = R ∨ w.heap.size = B := e; have := HBE.out; omega)).trans HX5.out)
 have HK6 := hid (HK5.out.trans HV5.out.2.2.2)
 have HE5_6 := hid (EncN.top HB5.out HV5.out.1)
 have HE0_6 := hid (EncN.hopc hRB HV5.out.2.2.2 HE0_5.out)
 have HE1_6 := hid (EncN.hopc hRB HV5.out.2.2.2 HE1_5.out)
 have HE2_6 := hid (EncN.hopc hRB HV5.out.2.2.2 HE2_5.out)
 have HE3_6 := hid (EncN.hopc hRB HV5.out.2.2.2 HE3_5.out)
 have HE4_6 := hid (EncN.hopc hRB HV5.out.2.2.2 HE4_5.out)
 clear HE0_5 HE1_5 HE2_5 HE3_5 HE4_5
 have y0 := (one_cell HX6.out).1
 have CQ := hid (rtake_data 15 HR6.out HL6.out HB6.out rfl hRB)
 go_upto_region 8 with (first | (go_at_call 74; refine CQ.out.mono ?_; rintro en w7 ⟨rfl, v6, hv⟩; have HV6 := hid hv; clear hv))
 clear CQ y0
 have HB7 : Hid (w7.heap[B]? = some (.cells #[v0, v1, v2_0, v2_1, v2_2, v2_3, v3_0, v3_1, v3_2, v3_3, v3_4, v3_5, v3_6, v4, v5, v6] 62 (0, 0))) := HV6.out.2.1
 have HR7 : Hid (RAt w7 R (rdF .data (rdF .int (rdF .name (rdF sIndex (rdF sTable (rdF (.list sOp) (rdF .int st).2).2).2).2).2).2).2.1 (rdF .data (rdF .int (rdF .name (rdF sIndex (rdF sTable (rdF (.list sOp) (rdF .int st).2).2).2).2).2).2).2.2) := HV6.out.2.2.1
 have HL7 : Hid ((rdF .data (rdF .int (rdF .name (rdF sIndex (rdF sTable (rdF (.list sOp) (rdF .int st).2).2).2).2).2).2).2.1.length ≤ 140737488355328) := hid (Nat.le_trans (rd_len _ _) HL6.out)
 have HX7 := hid ((HV6.out.2.2.2.block w.heap.size (lt_of_block HX6.out) (fun e => by have e9 : w.heap.size = R ∨ w.heap.size = B := e; have := HBE.out; omega)).trans HX6.out)
 have HK7 := hid (HK6.out.trans HV6.out.2.2.2)
 have HE6_7 := hid (EncN.top HB6.out HV6.out.1)
 have HE0_7 := hid (EncN.hopc hRB HV6.out.2.2.2 HE0_6.out)
 have HE1_7 := hid (EncN.hopc hRB HV6.out.2.2.2 HE1_6.out)
 have HE2_7 := hid (EncN.hopc hRB HV6.out.2.2.2 HE2_6.out)
 have HE3_7 := hid (EncN.hopc hRB HV6.out.2.2.2 HE3_6.out)
 have HE4_7 := hid (EncN.hopc hRB HV6.out.2.2.2 HE4_6.out)
 have HE5_7 := hid (EncN.hopc hRB HV6.out.2.2.2 HE5_6.out)
 clear HE0_6 HE1_6 HE2_6 HE3_6 HE4_6 HE5_6
 obtain ⟨y0, rfl⟩ := form_int (EncN.enc _ HE0_7.out)
 obtain ⟨y1, j1, c1, rfl⟩ := form_list (EncN.enc _ HE1_7.out)
 obtain ⟨⟨f2_y0, rfl⟩, ⟨f2_y1, rfl⟩, ⟨f2_y2, f2_j2, f2_c2, rfl⟩, ⟨f2_y3, f2_j3, f2_c3, rfl⟩⟩ := Table_forms (EncN.enc _ HE2_7.out)
 obtain ⟨⟨f3_y0, rfl⟩, ⟨f3_y1, rfl⟩, ⟨f3_y2, rfl⟩, ⟨f3_y3, f3_j3, f3_c3, rfl⟩, ⟨f3_y4, rfl⟩, ⟨f3_y5, rfl⟩, ⟨f3_y6, rfl⟩⟩ := Index_forms (EncN.enc _ HE3_7.out)
 obtain ⟨y4, rfl⟩ := form_name (EncN.enc _ HE4_7.out)
 obtain ⟨y5, rfl⟩ := form_int (EncN.enc _ HE5_7.out)
 obtain ⟨y6, j6, c6, rfl⟩ := form_data (EncN.enc _ HE6_7.out)
 have HBN : Hid (w7.heap[B]? = some (.cells (#[(.int .i64 y0), (.slice y1 j1 c1), (.int .i64 f2_y0), (.string f2_y1), (.slice f2_y2 f2_j2 f2_c2), (.slice f2_y3 f2_j3 f2_c3), (.int .i64 f3_y0), (.int .i64 f3_y1), (.string f3_y2), (.slice f3_y3 f3_j3 f3_c3), (.bool f3_y4), (.int .i64 f3_y5), (.bool f3_y6), (.string y4), (.int .i64 y5), (.slice y6 j6 c6)] : Array Value) 62 (0, 0))) := HB7
 clear HB1 HB2 HB3 HB4 HB5 HB6 HB7
 have LD := cells_load (cs := [(.int .i64 y0), (.slice y1 j1 c1), (.int .i64 f2_y0), (.string f2_y1), (.slice f2_y2 f2_j2 f2_c2), (.slice f2_y3 f2_j3 f2_c3), (.int .i64 f3_y0), (.int .i64 f3_y1), (.string f3_y2), (.slice f3_y3 f3_j3 f3_c3), (.bool f3_y4), (.int .i64 f3_y5), (.bool f3_y6), (.string y4), (.int .i64 y5), (.slice y6 j6 c6)]) (fun i u hi => (row_at HBN.out hi).1) Tryz.underlying62 rfl (by kernel_rfl)
 have HLD := hid LD
 clear LD
 apply wp_region_lit
 refine Great.wpList_readTo rfl (some 32) rfl (.agg #[(.int .i64 y0), (.slice y1 j1 c1), (.int .i64 f2_y0), (.string f2_y1), (.slice f2_y2 f2_j2 f2_c2), (.slice f2_y3 f2_j3 f2_c3), (.int .i64 f3_y0), (.int .i64 f3_y1), (.string f3_y2), (.slice f3_y3 f3_j3 f3_c3), (.bool f3_y4), (.int .i64 f3_y5), (.bool f3_y6), (.string y4), (.int .i64 y5), (.slice y6 j6 c6)]) (exec_load rfl HLD.out) ?_
 simp only [Act.put, jA, jB, jC, jD, jE, jF]
 refine Go.wpList_store_rowTo rfl 62 _ _ rfl rfl B #[(.int .i64 y0), (.slice y1 j1 c1), (.int .i64 f2_y0), (.string f2_y1), (.slice f2_y2 f2_j2 f2_c2), (.slice f2_y3 f2_j3 f2_c3), (.int .i64 f3_y0), (.int .i64 f3_y1), (.string f3_y2), (.slice f3_y3 f3_j3 f3_c3), (.bool f3_y4), (.int .i64 f3_y5), (.bool f3_y6), (.string y4), (.int .i64 y5), (.slice y6 j6 c6)] rfl rfl 62 #[(.int .i64 y0), (.slice y1 j1 c1), (.int .i64 f2_y0), (.string f2_y1), (.slice f2_y2 f2_j2 f2_c2), (.slice f2_y3 f2_j3 f2_c3), (.int .i64 f3_y0), (.int .i64 f3_y1), (.string f3_y2), (.slice f3_y3 f3_j3 f3_c3), (.bool f3_y4), (.int .i64 f3_y5), (.bool f3_y6), (.string y4), (.int .i64 y5), (.slice y6 j6 c6)] HBN.out (by as_aux_lemma => kernel_rfl) rfl (by simp [Value.oneCell']) ?_
 rw [setRow_same HBN.out]
 go_wp2_with fail
 refine bodyPost_ret (results_cell_row rfl _ _ B 62 _ (0, 0) _ rfl HBN.out Tryz.underlying62 rfl (by kernel_rfl)) rfl ?_
 have hfin : ∀ (s : Sh) (cs : List Value) (bs : List UInt8), EncN (fun j => B < j ∧ j < w7.heap.size) w7 s cs bs → EncN (fun j => w.heap.size ≤ j ∧ j < w7.heap.size) w7 s cs bs := fun s cs bs h => EncN.mono (fun j hj => ⟨by have := HBE.out; omega, hj.2⟩) s h
 have hR9 : RAt w7 R (rdF sAsk st).2.1 (rdF sAsk st).2.2 := by
  have h9 := HR7.out
  simp only [sAsk, rdc2_Ask, rdn2_Ask]
  exact h9
 refine ⟨[(.int .i64 y0), (.slice y1 j1 c1), (.int .i64 f2_y0), (.string f2_y1), (.slice f2_y2 f2_j2 f2_c2), (.slice f2_y3 f2_j3 f2_c3), (.int .i64 f3_y0), (.int .i64 f3_y1), (.string f3_y2), (.slice f3_y3 f3_j3 f3_c3), (.bool f3_y4), (.int .i64 f3_y5), (.bool f3_y6), (.string y4), (.int .i64 y5), (.slice y6 j6 c6)], rfl, ?_, hR9, ?_⟩
 · simp only [sAsk, rdc1_Ask, rdc2_Ask, rdn1_Ask]
   exact ⟨[(.int .i64 y0)], [(.slice y1 j1 c1), (.int .i64 f2_y0), (.string f2_y1), (.slice f2_y2 f2_j2 f2_c2), (.slice f2_y3 f2_j3 f2_c3), (.int .i64 f3_y0), (.int .i64 f3_y1), (.string f3_y2), (.slice f3_y3 f3_j3 f3_c3), (.bool f3_y4), (.int .i64 f3_y5), (.bool f3_y6), (.string y4), (.int .i64 y5), (.slice y6 j6 c6)], _, _, rfl, rfl, hfin _ _ _ HE0_7.out, ⟨[(.slice y1 j1 c1)], [(.int .i64 f2_y0), (.string f2_y1), (.slice f2_y2 f2_j2 f2_c2), (.slice f2_y3 f2_j3 f2_c3), (.int .i64 f3_y0), (.int .i64 f3_y1), (.string f3_y2), (.slice f3_y3 f3_j3 f3_c3), (.bool f3_y4), (.int .i64 f3_y5), (.bool f3_y6), (.string y4), (.int .i64 y5), (.slice y6 j6 c6)], _, _, rfl, rfl, hfin _ _ _ HE1_7.out, ⟨[(.int .i64 f2_y0), (.string f2_y1), (.slice f2_y2 f2_j2 f2_c2), (.slice f2_y3 f2_j3 f2_c3)], [(.int .i64 f3_y0), (.int .i64 f3_y1), (.string f3_y2), (.slice f3_y3 f3_j3 f3_c3), (.bool f3_y4), (.int .i64 f3_y5), (.bool f3_y6), (.string y4), (.int .i64 y5), (.slice y6 j6 c6)], _, _, rfl, rfl, hfin _ _ _ HE2_7.out, ⟨[(.int .i64 f3_y0), (.int .i64 f3_y1), (.string f3_y2), (.slice f3_y3 f3_j3 f3_c3), (.bool f3_y4), (.int .i64 f3_y5), (.bool f3_y6)], [(.string y4), (.int .i64 y5), (.slice y6 j6 c6)], _, _, rfl, rfl, hfin _ _ _ HE3_7.out, ⟨[(.string y4)], [(.int .i64 y5), (.slice y6 j6 c6)], _, _, rfl, rfl, hfin _ _ _ HE4_7.out, ⟨[(.int .i64 y5)], [(.slice y6 j6 c6)], _, _, rfl, rfl, hfin _ _ _ HE5_7.out, ⟨[(.slice y6 j6 c6)], [], _, _, rfl, rfl, hfin _ _ _ HE6_7.out, ⟨rfl, rfl⟩⟩⟩⟩⟩⟩⟩⟩
 · exact (Keep.of_below HBW.out).trans2 HK7.out (fun j e => by rcases e with e | e <;> first | exact .inl e | exact .inr (by have := HBE.out; omega))
end Go.Proofs.YtmdgifmigikffaaGreat
