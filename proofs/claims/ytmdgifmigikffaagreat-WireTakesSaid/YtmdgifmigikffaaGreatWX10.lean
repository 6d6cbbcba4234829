import Derived.WalkKit
import Derived.OpenShut
import Derived.Test.YtmdgifmigikffaaGreatRows
import Derived.WalkSpells
import Derived.WalkLawsBesides
import Derived.Laws.AppendOwnNone
import Derived.ProofKit
import Derived.ShutString
import Derived.ChangeOld
import Derived.Below
import Derived.SizedLaws
import Derived.Deep.Slices
import Derived.Deep.AppendLies
import Derived.Deep.RegionHeld
import Derived.Deep.Strs
import Derived.Deep.RegionHeld3
import Derived.Lib.ConvBytes
import Derived.Laws.AppendOwn
import Derived.Deep.CutRange
import Derived.Deep.MidRow
import Derived.Great.Walk
import Derived.Great.BuildSlice
import Derived.Test.YtmdgifmigikffaaGreatWX1
import Derived.Test.YtmdgifmigikffaaGreatWX2
import Derived.Test.YtmdgifmigikffaaGreatWX3
import Derived.Test.YtmdgifmigikffaaGreatWX4
import Derived.Test.YtmdgifmigikffaaGreatWX5
import Derived.Test.YtmdgifmigikffaaGreatWX6
import Derived.Test.YtmdgifmigikffaaGreatWX7
import Derived.Test.YtmdgifmigikffaaGreatWX8
import Derived.Test.YtmdgifmigikffaaGreatWX9
set_option linter.unusedVariables false
set_option linter.unusedSimpArgs false
set_option maxRecDepth 100000
namespace Go.Proofs.YtmdgifmigikffaaGreat
open Go.RowKit Go.Deep
set_option maxHeartbeats 8000000 in
theorem rWrite_any {w : World} {R : Nat} {st : Rst} (h : RAt w R st.1 st.2) (hl : st.1.length ≤ 140737488355328) :
 Calls Tryz.prog 91 #[.agg #[.pointer (some ⟨R, 0, none⟩)]] w (fun en w' => ∃ cs, en = .returned (.agg cs.toArray) ∧ RdP sWrite R w st cs w') := by
 have hb : Below w.heap.size w ((w.alloc (.cells #[.pointer (some ⟨R, 0, none⟩)] 79)).alloc (.cells #[.slice none 0 0, .slice none 0 0, .bool false] 116)) := ((Below.refl _ _).alloc (Nat.le_refl _) _).alloc (by simp) _
 have hz := (Below.heap_alloc (w.alloc (.cells #[.pointer (some ⟨R, 0, none⟩)] 79)) (.cells #[.slice none 0 0, .slice none 0 0, .bool false] 116) w.heap.size (by simp)).trans (heap_alloc_new w (.cells #[.pointer (some ⟨R, 0, none⟩)] 79))
 have hB := heap_alloc2_new w (.cells #[.pointer (some ⟨R, 0, none⟩)] 79) (.cells #[.slice none 0 0, .slice none 0 0, .bool false] 116)
 obtain ⟨B, hBe⟩ : ∃ B, B = w.heap.size + 1 := ⟨_, rfl⟩
 have hRw := h.lt
 have hRB : R < B := by omega
 have HR0 := hid (h.old hb)
 rw [← hBe] at hB
 have HB0 := hid hB
 have HX0 := hid hz
 have HBW := hid hb
 have HL0 := hid hl
 clear h hb hz hB hl
 go_enter Tryz.func91, Tryz.ntmps91
 go_upto_region 1 with fail
 generalize (w.alloc (.cells #[.pointer (some ⟨R, 0, none⟩)] 79)).alloc (.cells #[.slice none 0 0, .slice none 0 0, .bool false] 116) = w0 at *
 try rw [← hBe]
 have HK0 : Hid (Keep (fun j => j = R ∨ j = B) w0 w0) := hid (Keep.refl _ _)
 have HBE := hid hBe
 clear hBe
 have y0 := (one_cell HX0.out).1
 have CQ := hid (rtake_data 0 HR0.out HL0.out HB0.out rfl hRB)
 go_upto_region 2 with (first | (go_at_call 74; refine CQ.out.mono ?_; rintro en w1 ⟨rfl, v0, hv⟩; have HV0 := hid hv; clear hv))
 clear CQ y0
 have HB1 : Hid (w1.heap[B]? = some (.cells #[v0, .slice none 0 0, .bool false] 116 (0, 0))) := HV0.out.2.1
 have HR1 : Hid (RAt w1 R (rdF .data st).2.1 (rdF .data st).2.2) := HV0.out.2.2.1
 have HL1 : Hid ((rdF .data st).2.1.length ≤ 140737488355328) := hid (Nat.le_trans (rd_len _ _) HL0.out)
 have HX1 := hid ((HV0.out.2.2.2.block w.heap.size (lt_of_block HX0.out) (fun e => by have e9 : w.heap.size = R ∨ w.heap.size = B := e; have := HBE.out; omega)).trans HX0.out)
 have HK1 := hid (HK0.out.trans HV0.out.2.2.2)
 have HE0_1 := hid (EncN.top HB0.out HV0.out.1)
 have y0 := (one_cell HX1.out).1
 have CQ := hid (rtake_data 1 HR1.out HL1.out HB1.out rfl hRB)
 go_upto_region 3 with (first | (go_at_call 74; refine CQ.out.mono ?_; rintro en w2 ⟨rfl, v1, hv⟩; have HV1 := hid hv; clear hv))
 clear CQ y0
 have HB2 : Hid (w2.heap[B]? = some (.cells #[v0, v1, .bool false] 116 (0, 0))) := HV1.out.2.1
 have HR2 : Hid (RAt w2 R (rdF .data (rdF .data st).2).2.1 (rdF .data (rdF .data st).2).2.2) := HV1.out.2.2.1
 have HL2 : Hid ((rdF .data (rdF .data st).2).2.1.length ≤ 140737488355328) := hid (Nat.le_trans (rd_len _ _) HL1.out)
 have HX2 := hid ((HV1.out.2.2.2.block w.heap.size (lt_of_block HX1.out) (fun e => by have e9 : w.heap.size = R ∨ w.heap.size = B := e; have := HBE.out; omega)).trans HX1.out)
 have HK2 := hid (HK1.out.trans HV1.out.2.2.2)
 have HE1_2 := hid (EncN.top HB1.out HV1.out.1)
 have HE0_2 := hid (EncN.hopc hRB HV1.out.2.2.2 HE0_1.out)
 clear HE0_1
 have y0 := (one_cell HX2.out).1
 have CQ := hid (rtake_flag 2 HR2.out HL2.out HB2.out rfl hRB)
 go_upto_region 4 with (first | (go_at_call 82; refine CQ.out.mono ?_; rintro en w3 ⟨rfl, v2, hv⟩; have HV2 := hid hv; clear hv))
 clear CQ y0
 have HB3 : Hid (w3.heap[B]? = some (.cells #[v0, v1, v2] 116 (0, 0))) := HV2.out.2.1
 have HR3 : Hid (RAt w3 R (rdF .bool (rdF .data (rdF .data st).2).2).2.1 (rdF .bool (rdF .data (rdF .data st).2).2).2.2) := HV2.out.2.2.1
 have HL3 : Hid ((rdF .bool (rdF .data (rdF .data st).2).2).2.1.length ≤ 140737488355328) := hid (Nat.le_trans (rd_len _ _) HL2.out)
 have HX3 := hid ((HV2.out.2.2.2.block w.heap.size (lt_of_block HX2.out) (fun e => by have e9 : w.heap.size = R ∨ w.heap.size = B := e; have := HBE.out; omega)).trans HX2.out)
 have HK3 := hid (HK2.out.trans HV2.out.2.2.2)
 have HE2_3 := hid (EncN.top HB2.out HV2.out.1)
 have HE0_3 := hid (EncN.hopc hRB HV2.out.2.2.2 HE0_2.out)
 have HE1_3 := hid (EncN.hopc hRB HV2.out.2.2.2 HE1_2.out)
 clear HE0_2 HE1_2
 obtain ⟨y0, j0, c0, rfl⟩ := form_data (EncN.enc _ HE0_3.out)
 obtain ⟨y1, j1, c1, rfl⟩ := form_data (EncN.enc _ HE1_3.out)
 obtain ⟨y2, rfl⟩ := form_bool (EncN.enc _ HE2_3.out)
 obtain ⟨q0, r0⟩ := row_at (cs := [(.slice y0 j0 c0), (.slice y1 j1 c1), (.bool y2)]) HB3.out (i := 0) rfl
 obtain ⟨q1, r1⟩ := row_at (cs := [(.slice y0 j0 c0), (.slice y1 j1 c1), (.bool y2)]) HB3.out (i := 1) rfl
 obtain ⟨q2, r2⟩ := row_at (cs := [(.slice y0 j0 c0), (.slice y1 j1 c1), (.bool y2)]) HB3.out (i := 2) rfl
 have hs0 : w3.heap[B]? = some (.cells ([(.slice y0 j0 c0), (.slice y1 j1 c1), (.bool y2)] : List Value).toArray 116 (0, 0)) := HB3.out
 have hs1 := row_put hs0 0 (.slice y0 j0 c0)
 have hs2 := row_put hs1 1 (.slice y1 j1 c1)
 have hs3 := row_put hs2 2 (.bool y2)
 have hks : Keep (fun j => j = B) w3 (((w3.setCell ⟨B, 0, none⟩ (.slice y0 j0 c0)).setCell ⟨B, 1, none⟩ (.slice y1 j1 c1)).setCell ⟨B, 2, none⟩ (.bool y2)) := (((Keep.refl (fun j => j = B) _).trans (Keep.set (X := fun j => j = B) _ ⟨B, 0, none⟩ (.slice y0 j0 c0) rfl)).trans (Keep.set (X := fun j => j = B) _ ⟨B, 1, none⟩ (.slice y1 j1 c1) rfl)).trans (Keep.set (X := fun j => j = B) _ ⟨B, 2, none⟩ (.bool y2) rfl)
 have HSF : Hid ((((w3.setCell ⟨B, 0, none⟩ (.slice y0 j0 c0)).setCell ⟨B, 1, none⟩ (.slice y1 j1 c1)).setCell ⟨B, 2, none⟩ (.bool y2)).heap[B]? = some (.cells #[(.slice y0 j0 c0), (.slice y1 j1 c1), (.bool y2)] 116 (0, 0))) := hs3
 have HKS := hid hks
 clear hks hs0 hs1 hs2 hs3
 go_wp2_with fail
 refine bodyPost_ret (results_cell_row rfl _ _ B 116 _ (0, 0) _ rfl HSF.out Tryz.underlying116 rfl (by kernel_rfl)) rfl ?_
 have hfin : ∀ (s : Sh) (cs : List Value) (bs : List UInt8), EncN (fun j => B < j ∧ j < w3.heap.size) w3 s cs bs → EncN (fun j => w.heap.size ≤ j ∧ j < (((w3.setCell ⟨B, 0, none⟩ (.slice y0 j0 c0)).setCell ⟨B, 1, none⟩ (.slice y1 j1 c1)).setCell ⟨B, 2, none⟩ (.bool y2)).heap.size) (((w3.setCell ⟨B, 0, none⟩ (.slice y0 j0 c0)).setCell ⟨B, 1, none⟩ (.slice y1 j1 c1)).setCell ⟨B, 2, none⟩ (.bool y2)) s cs bs := fun s cs bs h => EncN.mono (fun j hj => ⟨by have := HBE.out; omega, Nat.lt_of_lt_of_le hj.2 HKS.out.size⟩) s (EncN.keep HKS.out (fun j hj e => by have e9 : j = B := e; have := hj.1; omega) s h)
 refine ⟨[(.slice y0 j0 c0), (.slice y1 j1 c1), (.bool y2)], rfl, ?_, HR3.out.keepK HKS.out (fun j e => by have e9 : j = B := e; omega), ?_⟩
 · exact ⟨[(.slice y0 j0 c0)], [(.slice y1 j1 c1), (.bool y2)], _, _, rfl, rfl, hfin _ _ _ HE0_3.out, ⟨[(.slice y1 j1 c1)], [(.bool y2)], _, _, rfl, rfl, hfin _ _ _ HE1_3.out, ⟨[(.bool y2)], [], _, _, rfl, rfl, hfin _ _ _ HE2_3.out, ⟨rfl, rfl⟩⟩⟩⟩
 · exact (Keep.of_below HBW.out).trans2 (HK3.out.trans (HKS.out.mono (fun j _ e => .inr e))) (fun j e => by rcases e with e | e <;> first | exact .inl e | exact .inr (by have := HBE.out; omega))
set_option maxHeartbeats 8000000 in
theorem rlist_Write {w : World} {R B : Nat} {st : Rst} {cs : List Value} {t : TypeId} (i : Nat) (h : RAt w R st.1 st.2) (hl : st.1.length ≤ 140737488355328) (hB : w.heap[B]? = some (.cells cs.toArray t (0, 0))) (hi : cs[i]? = some (.slice none 0 0)) (hRB : R < B) :
 Calls Tryz.prog 90 #[.agg #[.pointer (some ⟨R, 0, none⟩)], .pointer (some ⟨B, i, none⟩), (.func (.func 91) #[.agg #[.pointer (some ⟨R, 0, none⟩)]] #[])] w (fun en w' => en = .returned (.tuple #[]) ∧ ∃ v, TkP (.list sWrite) R B w st cs t i v w') := by
 obtain ⟨i0, hi0, hz0, hz1, hz2⟩ : ∃ i0, Tryz.prog.info? 116 = some i0 ∧ i0.zero = some (.agg #[.slice none 0 0, .slice none 0 0, .bool false]) ∧ i0.size = 3 ∧ i0.bytes = 56 := by
  have h9 : (Tryz.prog.info? 116).map (fun i => (i.zero, i.size, i.bytes)) = some (some (.agg #[.slice none 0 0, .slice none 0 0, .bool false]), 3, 56) := by kernel_rfl
  cases hq : Tryz.prog.info? 116 with
  | none => rw [hq] at h9; cases h9
  | some q => rw [hq] at h9; simp at h9; exact ⟨q, rfl, h9⟩
 have HI0 := hid (And.intro hi0 (And.intro hz0 (And.intro hz1 hz2)))
 clear hi0 hz0 hz1 hz2
 have hb : Below w.heap.size w (w.alloc (.cells #[.pointer (some ⟨R, 0, none⟩)] 79)) := (Below.refl _ _).alloc (Nat.le_refl _) _
 have hz := heap_alloc_new w (.cells #[.pointer (some ⟨R, 0, none⟩)] 79)
 have hRw := h.lt
 have hBw := lt_of_block hB
 have HRW := hid hRw
 have HBW := hid hBw
 have H := hid (h.old hb)
 have HB := hid hb
 have HF := hid ((hb.block _ hBw).trans hB)
 have HI := hid hi
 have HZ := hid hz
 have HLE := hid hl
 clear h hB hi hb hz hl
 go_enter Tryz.func90, Tryz.ntmps90
 go_upto_region 1 with fail
 generalize w.alloc (.cells #[.pointer (some ⟨R, 0, none⟩)] 79) = w1 at *
 obtain ⟨z0, z1⟩ := one_cell HZ.out
 obtain ⟨n, hn⟩ : ∃ n, n = (lookS 5000 st.1 st.2).1 := ⟨_, rfl⟩
 obtain ⟨s1, hs1⟩ : ∃ s1 : Rst, s1 = (st.1.drop (lookS 5000 st.1 st.2).2.1, (lookS 5000 st.1 st.2).2.2) := ⟨_, rfl⟩
 have HN := hid (And.intro hn hs1)
 have hn5 : n ≤ 5000 := by rw [hn]; exact lookS_most _ _ _
 have C0 : Hid (Calls Tryz.prog 140 #[.pointer (some ⟨R, 0, none⟩), .int .i64 5000] w1 (fun en w' => en = .returned (.int .i64 (n : Int)) ∧ RAt w' R s1.1 s1.2 ∧ w1.grownBy w' (some R))) := hid ((smallR_any w1 R st.1 st.2 5000 (by decide) H.out).mono (fun en w9 h9 => by rw [hn, hs1]; exact h9))
 have HS1 : Hid (s1.1.length ≤ st.1.length) := hid (by rw [hs1]; simp)
 clear hn hs1
 go_wp2_with (first | (go_at_call 140; refine C0.out.mono ?_; rintro en w2 ⟨rfl, h2, g2⟩; have H2 := hid h2; have K2 := hid (show Keep (fun j => j = R ∨ j = B) w w2 from (Keep.of_below HB.out).trans ((Keep.of_grown (X := fun j => j = R) g2 (fun j e => by cases e; rfl)).mono (fun j _ e => .inl e))); have HF2 := hid ((g2.block B (lt_of_block HF.out) (fun e => by cases e; omega)).trans HF.out); have HZ2 := hid ((g2.block w.heap.size (lt_of_block HZ.out) (fun e => by cases e; omega)).trans HZ.out); clear h2 g2))
 clear z0 z1 C0
 go_loopw [9] (fun ix wr => ∃ (k : Nat) (M : List (List Value × List UInt8)) (ao : Option Addr) (c : Nat) (sk : Rst), ix = .int .i64 (k : Int) ∧ wr.heap[w.heap.size]? = some (.cells #[.pointer (some ⟨R, 0, none⟩)] 79 (0, 0)) ∧ TLp sWrite 116 R B i w cs t n s1 wr k M ao c sk) (fun ix _ => n - (intOf ix).toNat)
 case atStart => exact ⟨0, [], none, 0, s1, rfl, HZ2.out, TLp.begin HI.out HF2.out H2.out K2.out⟩
 case round =>
  obtain ⟨k, M, ao, c, sk, rfl, hzr, ht⟩ := hrel
  have hk := ht.le
  have HT := hid ht
  have HZR := hid hzr
  clear ht hzr
  by_cases hlt : k < n
  · have hki : (k : Int) < (n : Int) := by omega
    go_upto_region 3 with fail
    have hWd : Below wr.heap.size wr wr.drew := ⟨rfl, rfl, rfl, Nat.le_refl _, fun _ _ => rfl⟩
    have HLk : Hid (sk.1.length ≤ 140737488355328) := hid (by have := HT.out.small; have := HS1.out; have := HLE.out; omega)
    have HTd : Hid (RAt wr.drew R sk.1 sk.2) := hid (HT.out.rat.old hWd)
    have HFd : Hid (wr.drew.heap[B]? = some (.cells (cs.set i (.slice ao k c)).toArray t (0, 0))) := HT.out.field
    have HLI := hid (List.getElem?_set_self (a := .slice ao k c) (List.getElem?_eq_some_iff.1 HI.out).1)
    have CN := hid (rWrite_any HTd.out HLk.out)
    have HUD : Hid (∀ mc w9, RdP sWrite R wr.drew sk mc w9 → RdP sWrite R wr sk mc w9) := hid fun _ _ h => h.undrew
    have HZd : Hid (wr.drew.heap[w.heap.size]? = some (.cells #[.pointer (some ⟨R, 0, none⟩)] 79 (0, 0))) := HZR.out
    clear hWd
    refine wp_region_noPanic ?_
    refine wp_region_L (S := fun W => Hid (W.cell? ⟨B, i, none⟩ = some (.slice ao k c))) 9 (by kernel_rfl) ?_
    have HD0 := hid (row_at HFd.out HLI.out).1
    generalize wr.drew = Wd at *
    refine tkV 0 (.pointer (some ⟨B, i, none⟩)) rfl (by kernel_rfl) (fun _ _ _ => False.elim) (Or.inl ⟨by rfl, fun W9 _ => by simp only [jA, jB, jC]; go_simp⟩) (fun _ => HD0) ?_
    simp only [Act.put, jA, jB, jC, jD, jE, jF]
    refine tkV 1 (.pointer (some ⟨B, i, none⟩)) rfl (by kernel_rfl) (fun _ _ _ => False.elim) (Or.inl ⟨by rfl, fun W9 _ => by simp only [jA, jB, jC]; go_simp⟩) (fun _ => HD0) ?_
    simp only [Act.put, jA, jB, jC, jD, jE, jF]
    refine tkV 2 (.pointer (some ⟨B, i, none⟩)) rfl (by kernel_rfl) (fun _ _ _ => False.elim) (Or.inl ⟨by rfl, fun W9 _ => by simp only [jA, jB, jC]; go_simp⟩) (fun _ => HD0) ?_
    simp only [Act.put, jA, jB, jC, jD, jE, jF]
    refine tkV 4 (.func (.func 91) #[.agg #[.pointer (some ⟨R, 0, none⟩)]] #[]) rfl (by kernel_rfl) (fun _ _ _ => False.elim) (Or.inl ⟨by rfl, fun W9 _ => by simp only [jA, jB, jC]; go_simp⟩) (fun _ => HD0) ?_
    simp only [Act.put, jA, jB, jC, jD, jE, jF]
    refine tkL 3 (.slice ao k c) [3, 7, 9] rfl (by kernel_rfl) (fun _ _ _ => False.elim) HD0 (Or.inl ⟨by rfl, fun W9 hW => by have d9 := hW.out; clear hW; simp only [jA, jB, jC]; go_simp⟩) ?_
    simp only [Act.put, jA, jB, jC, jD, jE, jF]
    refine rdL 5 (by kernel_rfl) rfl fun K hK => ?_
    go_simp
    go_wp2_with (first | (go_at_call 91; refine CN.out.mono ?_; rintro en wT ⟨mc, rfl, hv⟩; obtain ⟨v0, v1, v2, b0, b1, b2, rfl, _, e0, e1, e2⟩ := Write_cells (EncN.enc _ hv.1); obtain ⟨y0, j0, c0, rfl⟩ := form_data e0; obtain ⟨y1, j1, c1, rfl⟩ := form_data e1; obtain ⟨y2, rfl⟩ := form_bool e2; clear e0 e1 e2; have HV := hid (HUD.out _ _ hv); have HZT := hid ((hv.2.2.block w.heap.size (lt_of_block HZd.out) (fun e => by have e9 : w.heap.size = R := e; omega)).trans HZd.out); have HFT := hid ((hv.2.2.block B (lt_of_block HFd.out) (fun e => by have e9 : B = R := e; omega)).trans HFd.out); clear hv))
    refine hK.out _ _ (hid (row_at HFT.out HLI.out).1) fun _ => ?_
    clear hK K
    have H3 : Hid (Below wT.heap.size wT (wT.alloc (.cells #[.slice y0 j0 c0, .slice y1 j1 c1, .bool y2] 116))) := hid ((Below.refl _ _).alloc (Nat.le_refl _) _)
    have HR3 := hid (heap_alloc_new wT (.cells #[.slice y0 j0 c0, .slice y1 j1 c1, .bool y2] 116))
    have HF3 := hid ((H3.out.block B (lt_of_block HFT.out)).trans HFT.out)
    have HOW := hid (own_old (own_keep (X := fun j => j = R) HT.out.own (show Keep _ wr wT from HV.out.2.2) (fun j e e9 => by have e8 : j = R := e9; have := (HT.out.own.lt j e).1; omega)) H3.out)
    have HSZ : Hid (w.heap.size + 1 ≤ (wT.alloc (.cells #[.slice y0 j0 c0, .slice y1 j1 c1, .bool y2] 116)).heap.size) := hid (by have := lt_of_block HZT.out; have := H3.out.size; show _ ≤ _; omega)
    refine rdL 6 (by kernel_rfl) rfl fun K hK => ?_
    go_simp
    refine hK.out _ _ (hid (row_at HF3.out HLI.out).1) fun _ => ?_
    clear hK K
    refine rdL 7 (by kernel_rfl) rfl fun K hK => ?_
    refine step_app1 (by rfl) (.tmp 14) (.tmp 17) 35 (by rfl) (w.heap.size + 1) 116 Tryz.underlying35 HI0.out.1 HI0.out.2.1 HI0.out.2.2.1 HI0.out.2.2.2 (by simp [Value.cells]) (by decide) _ k _ (by rfl) HOW.out wT.heap.size [.slice y0 j0 c0, .slice y1 j1 c1, .bool y2] (by rfl) HR3.out rfl (fun u hu => by simp only [List.mem_cons, List.not_mem_nil, or_false] at hu; rcases hu with rfl | rfl | rfl <;> rfl) (by omega) (by decide) HSZ.out (fun g cap w' o5 g5 gg5 => ?_)
    have HF4 := hid (heap_kept g5 HF3.out (fun e => by have := (HT.out.own.lt B e.symm).1; omega))
    have HZ5 : Hid ((w'.setCell ⟨B, i, none⟩ (.slice (some ⟨g, 0, none⟩) (k + 1) cap)).heap[w.heap.size]? = some (.cells #[.pointer (some ⟨R, 0, none⟩)] 79 (0, 0))) := hid (heap_kept (grown_set w' ⟨B, i, none⟩ _) (heap_kept g5 ((H3.out.block _ (lt_of_block HZT.out)).trans HZT.out) (fun e => by have := (HT.out.own.lt _ e.symm).1; omega)) (fun e => by have e9 : w.heap.size = B := (by simpa using e); have := HBW.out; omega))
    have HNX := hid (HT.out.next HRW.out HBW.out hRB hlt (show RdP sWrite R wr sk [.slice y0 j0 c0, .slice y1 j1 c1, .bool y2] wT from HV.out) H3.out o5 g5 gg5)
    clear o5 g5 gg5
    refine hK.out _ _ (hid (row_at HF4.out HLI.out).1) fun _ => ?_
    clear hK K
    simp only [Act.put, jA, jB, jC, jD, jE, jF]
    refine tkV 8 (.pointer (some ⟨B, i, none⟩)) rfl (by kernel_rfl) (fun _ _ _ => False.elim) (Or.inl ⟨by rfl, fun W9 _ => by simp only [jA, jB, jC]; go_simp⟩) (fun _ => hid (row_at HF4.out HLI.out).1) ?_
    simp only [Act.put, jA, jB, jC, jD, jE, jF]
    obtain ⟨q0, q1⟩ := row_at HF4.out HLI.out
    refine rdS (by kernel_rfl) rfl fun K hK => ?_
    go_simp
    refine hK.out _ _ ?_
    clear hK K q0 q1
    refine doneL (by kernel_rfl) (NoPanic.normal ?_) _
    generalize w'.setCell ⟨B, i, none⟩ (.slice (some ⟨g, 0, none⟩) (k + 1) cap) = w5 at *
    obtain ⟨p0, p1⟩ := one_cell HZ5.out
    have CE := hid (err_any w5 R _ _ HNX.out.1)
    obtain ⟨ev, hev⟩ : ∃ ev, ev = (rdF sWrite sk).2.2 := ⟨_, rfl⟩
    rw [← hev] at CE
    by_cases h0 : ev = 0
    · have HNE := hid (HNX.out.2.1 (by rw [← hev]; exact h0))
      subst h0
      clear hev
      go_wp2_with (first | (go_at_call 132; refine CE.out.mono ?_; rintro en w6 ⟨rfl, rfl⟩))
      go_roundw
      case rel => exact ⟨k + 1, _, _, _, _, by go_num, HZ5.out, HNE.out⟩
      case measure => simp [intOf]; omega
    · have HNE := hid (HNX.out.2.2 (by rw [← hev]; exact h0) hn5)
      have hbe : (ev != 0) = true := by simp [h0]
      clear hev
      go_wp2_with (first | (go_at_call 132; refine CE.out.mono ?_; rintro en w6 ⟨rfl, rfl⟩))
      (try simp only [Exit.inBlock, Exit.then]); refine bodyPost_ret (results_none rfl _ _ _) rfl ?_
      obtain ⟨m1, m2, m3, m4⟩ := HNE.out
      refine ⟨rfl, .slice (some ⟨g, 0, none⟩) (k + 1) cap, ?_, m2, ?_, m4⟩
      · simp only [rdF]; rw [← HN.out.1, ← HN.out.2]; exact m1
      · simp only [rdF]; rw [← HN.out.1, ← HN.out.2]; exact m3
  · obtain rfl : n = k := by omega
    have hki : ¬ (n : Int) < (n : Int) := by omega
    go_wp2_with fail
    go_end0
    obtain ⟨p1, p2⟩ := HT.out.done hn5
    refine ⟨rfl, .slice ao n c, ?_, HT.out.field, ?_, HT.out.keep⟩
    · simp only [rdF]; rw [← HN.out.1, ← HN.out.2]; exact p1
    · simp only [rdF]; rw [← HN.out.1, ← HN.out.2]; exact p2
end Go.Proofs.YtmdgifmigikffaaGreat
namespace Go.Proofs.YtmdgifmigikffaaGreat
open Go.RowKit Go.Deep
theorem rdc1_Command (s r : Sh) (st : Rst) : (rdF (.cons s r) st).1 = (rdF s st).1 ++ (rdF r (rdF s st).2).1 := rfl
theorem rdc2_Command (s r : Sh) (st : Rst) : (rdF (.cons s r) st).2 = (rdF r (rdF s st).2).2 := rfl
theorem rdn1_Command (st : Rst) : (rdF .nil st).1 = [] := rfl
theorem rdn2_Command (st : Rst) : (rdF .nil st).2 = st := rfl
set_option maxHeartbeats 8000000 in
theorem rCommand_any {w : World} {R : Nat} {st : Rst} (h : RAt w R st.1 st.2) (hl : st.1.length ≤ 140737488355328) :
 Calls Tryz.prog 32 #[.agg #[.pointer (some ⟨R, 0, none⟩)]] w (fun en w' => ∃ cs, en = .returned (.agg cs.toArray) ∧ RdP sCommand R w st cs w') := by
 have hb : Below w.heap.size w ((w.alloc (.cells #[.pointer (some ⟨R, 0, none⟩)] 79)).alloc (.cells #[.int .i64 0, .int .i64 0, .int .u64 0, .int .i64 0, .int .i64 0, .int .i64 0, .bool false, .slice none 0 0, .slice none 0 0, .slice none 0 0, .slice none 0 0, .slice none 0 0, .slice none 0 0, .int .i64 0, .string ⟨#[]⟩, .slice none 0 0, .slice none 0 0, .int .i64 0, .int .i64 0, .string ⟨#[]⟩, .slice none 0 0, .bool false, .int .i64 0, .bool false, .string ⟨#[]⟩] 43)) := ((Below.refl _ _).alloc (Nat.le_refl _) _).alloc (by simp) _
 have hz := (Below.heap_alloc (w.alloc (.cells #[.pointer (some ⟨R, 0, none⟩)] 79)) (.cells #[.int .i64 0, .int .i64 0, .int .u64 0, .int .i64 0, .int .i64 0, .int .i64 0, .bool false, .slice none 0 0, .slice none 0 0, .slice none 0 0, .slice none 0 0, .slice none 0 0, .slice none 0 0, .int .i64 0, .string ⟨#[]⟩, .slice none 0 0, .slice none 0 0, .int .i64 0, .int .i64 0, .string ⟨#[]⟩, .slice none 0 0, .bool false, .int .i64 0, .bool false, .string ⟨#[]⟩] 43) w.heap.size (by simp)).trans (heap_alloc_new w (.cells #[.pointer (some ⟨R, 0, none⟩)] 79))
 have hB := heap_alloc2_new w (.cells #[.pointer (some ⟨R, 0, none⟩)] 79) (.cells #[.int .i64 0, .int .i64 0, .int .u64 0, .int .i64 0, .int .i64 0, .int .i64 0, .bool false, .slice none 0 0, .slice none 0 0, .slice none 0 0, .slice none 0 0, .slice none 0 0, .slice none 0 0, .int .i64 0, .string ⟨#[]⟩, .slice none 0 0, .slice none 0 0, .int .i64 0, .int .i64 0, .string ⟨#[]⟩, .slice none 0 0, .bool false, .int .i64 0, .bool false, .string ⟨#[]⟩] 43)
 obtain ⟨B, hBe⟩ : ∃ B, B = w.heap.size + 1 := ⟨_, rfl⟩
 have hRw := h.lt
 have hRB : R < B := by omega
 have HR0 := hid (h.old hb)
 rw [← hBe] at hB
 have HB0 := hid hB
 have HX0 := hid hz
 have HBW := hid hb
 have HL0 := hid hl
 clear h hb hz hB hl
 go_enter Tryz.func32, Tryz.ntmps32
 go_upto_region 1 with fail
 generalize (w.alloc (.cells #[.pointer (some ⟨R, 0, none⟩)] 79)).alloc (.cells #[.int .i64 0, .int .i64 0, .int .u64 0, .int .i64 0, .int .i64 0, .int .i64 0, .bool false, .slice none 0 0, .slice none 0 0, .slice none 0 0, .slice none 0 0, .slice none 0 0, .slice none 0 0, .int .i64 0, .string ⟨#[]⟩, .slice none 0 0, .slice none 0 0, .int .i64 0, .int .i64 0, .string ⟨#[]⟩, .slice none 0 0, .bool false, .int .i64 0, .bool false, .string ⟨#[]⟩] 43) = w0 at *
 try rw [← hBe]
 have HK0 : Hid (Keep (fun j => j = R ∨ j = B) w0 w0) := hid (Keep.refl _ _)
 have HBE := hid hBe
 clear hBe
 have y0 := (one_cell HX0.out).1
 have CQ := hid (rtake_whole 0 HR0.out HL0.out HB0.out rfl hRB)
 go_upto_region 2 with (first | (go_at_call 80; refine CQ.out.mono ?_; rintro en w1 ⟨rfl, v0, hv⟩; have HV0 := hid hv; clear hv))
 clear CQ y0
 have HB1 : Hid (w1.heap[B]? = some (.cells #[v0, .int .i64 0, .int .u64 0, .int .i64 0, .int .i64 0, .int .i64 0, .bool false, .slice none 0 0, .slice none 0 0, .slice none 0 0, .slice none 0 0, .slice none 0 0, .slice none 0 0, .int .i64 0, .string ⟨#[]⟩, .slice none 0 0, .slice none 0 0, .int .i64 0, .int .i64 0, .string ⟨#[]⟩, .slice none 0 0, .bool false, .int .i64 0, .bool false, .string ⟨#[]⟩] 43 (0, 0))) := HV0.out.2.1
 have HR1 : Hid (RAt w1 R (rdF .int st).2.1 (rdF .int st).2.2) := HV0.out.2.2.1
 have HL1 : Hid ((rdF .int st).2.1.length ≤ 140737488355328) := hid (Nat.le_trans (rd_len _ _) HL0.out)
 have HX1 := hid ((HV0.out.2.2.2.block w.heap.size (lt_of_block HX0.out) (fun e => by have e9 : w.heap.size = R ∨ w.heap.size = B := e; have := HBE.out; omega)).trans HX0.out)
 have HK1 := hid (HK0.out.trans HV0.out.2.2.2)
 have HE0_1 := hid (EncN.top HB0.out HV0.out.1)
 have y0 := (one_cell HX1.out).1
 have CQ := hid (rtake_whole 1 HR1.out HL1.out HB1.out rfl hRB)
 go_upto_region 3 with (first | (go_at_call 80; refine CQ.out.mono ?_; rintro en w2 ⟨rfl, v1, hv⟩; have HV1 := hid hv; clear hv))
 clear CQ y0
 have HB2 : Hid (w2.heap[B]? = some (.cells #[v0, v1, .int .u64 0, .int .i64 0, .int .i64 0, .int .i64 0, .bool false, .slice none 0 0, .slice none 0 0, .slice none 0 0, .slice none 0 0, .slice none 0 0, .slice none 0 0, .int .i64 0, .string ⟨#[]⟩, .slice none 0 0, .slice none 0 0, .int .i64 0, .int .i64 0, .string ⟨#[]⟩, .slice none 0 0, .bool false, .int .i64 0, .bool false, .string ⟨#[]⟩] 43 (0, 0))) := HV1.out.2.1
 have HR2 : Hid (RAt w2 R (rdF .int (rdF .int st).2).2.1 (rdF .int (rdF .int st).2).2.2) := HV1.out.2.2.1
 have HL2 : Hid ((rdF .int (rdF .int st).2).2.1.length ≤ 140737488355328) := hid (Nat.le_trans (rd_len _ _) HL1.out)
 have HX2 := hid ((HV1.out.2.2.2.block w.heap.size (lt_of_block HX1.out) (fun e => by have e9 : w.heap.size = R ∨ w.heap.size = B := e; have := HBE.out; omega)).trans HX1.out)
 have HK2 := hid (HK1.out.trans HV1.out.2.2.2)
 have HE1_2 := hid (EncN.top HB1.out HV1.out.1)
 have HE0_2 := hid (EncN.hopc hRB HV1.out.2.2.2 HE0_1.out)
 clear HE0_1
 have y0 := (one_cell HX2.out).1
 have CQ := hid (rtake_num9 2 HR2.out HL2.out HB2.out rfl hRB)
 go_upto_region 4 with (first | (go_at_call 72; refine CQ.out.mono ?_; rintro en w3 ⟨rfl, v2, hv⟩; have HV2 := hid hv; clear hv))
 clear CQ y0
 have HB3 : Hid (w3.heap[B]? = some (.cells #[v0, v1, v2, .int .i64 0, .int .i64 0, .int .i64 0, .bool false, .slice none 0 0, .slice none 0 0, .slice none 0 0, .slice none 0 0, .slice none 0 0, .slice none 0 0, .int .i64 0, .string ⟨#[]⟩, .slice none 0 0, .slice none 0 0, .int .i64 0, .int .i64 0, .string ⟨#[]⟩, .slice none 0 0, .bool false, .int .i64 0, .bool false, .string ⟨#[]⟩] 43 (0, 0))) := HV2.out.2.1
 have HR3 : Hid (RAt w3 R (rdF .num (rdF .int (rdF .int st).2).2).2.1 (rdF .num (rdF .int (rdF .int st).2).2).2.2) := HV2.out.2.2.1
 have HL3 : Hid ((rdF .num (rdF .int (rdF .int st).2).2).2.1.length ≤ 140737488355328) := hid (Nat.le_trans (rd_len _ _) HL2.out)
 have HX3 := hid ((HV2.out.2.2.2.block w.heap.size (lt_of_block HX2.out) (fun e => by have e9 : w.heap.size = R ∨ w.heap.size = B := e; have := HBE.out; omega)).trans HX2.out)
 have HK3 := hid (HK2.out.trans HV2.out.2.2.2)
 have HE2_3 := hid (EncN.top HB2.out HV2.out.1)
 have HE0_3 := hid (EncN.hopc hRB HV2.out.2.2.2 HE0_2.out)
 have HE1_3 := hid (EncN.hopc hRB HV2.out.2.2.2 HE1_2.out)
 clear HE0_2 HE1_2
 have y0 := (one_cell HX3.out).1
 have CQ := hid (rtake_whole 3 HR3.out HL3.out HB3.out rfl hRB)
 go_upto_region 5 with (first | (go_at_call 80; refine CQ.out.mono ?_; rintro en w4 ⟨rfl, v3, hv⟩; have HV3 := hid hv; clear hv))
 clear CQ y0
 have HB4 : Hid (w4.heap[B]? = some (.cells #[v0, v1, v2, v3, .int .i64 0, .int .i64 0, .bool false, .slice none 0 0, .slice none 0 0, .slice none 0 0, .slice none 0 0, .slice none 0 0, .slice none 0 0, .int .i64 0, .string ⟨#[]⟩, .slice none 0 0, .slice none 0 0, .int .i64 0, .int .i64 0, .string ⟨#[]⟩, .slice none 0 0, .bool false, .int .i64 0, .bool false, .string ⟨#[]⟩] 43 (0, 0))) := HV3.out.2.1
 have HR4 : Hid (RAt w4 R (rdF .int (rdF .num (rdF .int (rdF .int st).2).2).2).2.1 (rdF .int (rdF .num (rdF .int (rdF .int st).2).2).2).2.2) := HV3.out.2.2.1
 have HL4 : Hid ((rdF .int (rdF .num (rdF .int (rdF .int st).2).2).2).2.1.length ≤ 140737488355328) := hid (Nat.le_trans (rd_len _ _) HL3.out)
 have HX4 := hid ((HV3.out.2.2.2.block w.heap.size (lt_of_block HX3.out) (fun e => by have e9 : w.heap.size = R ∨ w.heap.size = B := e; have := HBE.out; omega)).trans HX3.out)
 have HK4 := hid (HK3.out.trans HV3.out.2.2.2)
 have HE3_4 := hid (EncN.top HB3.out HV3.out.1)
 have HE0_4 := hid (EncN.hopc hRB HV3.out.2.2.2 HE0_3.out)
 have HE1_4 := hid (EncN.hopc hRB HV3.out.2.2.2 HE1_3.out)
 have HE2_4 := hid (EncN.hopc hRB HV3.out.2.2.2 HE2_3.out)
 clear HE0_3 HE1_3 HE2_3
 have y0 := (one_cell HX4.out).1
 have CQ := hid (rtake_whole 4 HR4.out HL4.out HB4.out rfl hRB)
 go_upto_region 6 with (first | (go_at_call 80; refine CQ.out.mono ?_; rintro en w5 ⟨rfl, v4, hv⟩; have HV4 := hid hv; clear hv))
 clear CQ y0
 have HB5 : Hid (w5.heap[B]? = some (.cells #[v0, v1, v2, v3, v4, .int .i64 0, .bool false, .slice none 0 0, .slice none 0 0, .slice none 0 0, .slice none 0 0, .slice none 0 0, .slice none 0 0, .int .i64 0, .string ⟨#[]⟩, .slice none 0 0, .slice none 0 0, .int .i64 0, .int .i64 0, .string ⟨#[]⟩, .slice none 0 0, .bool false, .int .i64 0, .bool false, .string ⟨#[]⟩] 43 (0, 0))) := HV4.out.2.1
 have HR5 : Hid (RAt w5 R (rdF .int (rdF .int (rdF .num (rdF .int (rdF .int st).2).2).2).2).2.1 (rdF .int (rdF .int (rdF .num (rdF .int (rdF .int st).2).2).2).2).2.2) := HV4.out.2.2.1
 have HL5 : Hid ((rdF .int (rdF .int (rdF .num (rdF .int (rdF .int st).2).2).2).2).2.1.length ≤ 140737488355328) := hid (Nat.le_trans (rd_len _ _) HL4.out)
 have HX5 := hid ((HV4.out.2.2.2.block w.heap.size (lt_of_block HX4.out) (fun e => by have e9 : w.heap.size = R ∨ w.heap.size = B := e; have := HBE.out; omega)).trans HX4.out)
 have HK5 := hid (HK4.out.trans HV4.out.2.2.2)
 have HE4_5 := hid (EncN.top HB4.out HV4.out.1)
 have HE0_5 := hid (EncN.hopc hRB HV4.out.2.2.2 HE0_4.out)
 have HE1_5 := hid (EncN.hopc hRB HV4.out.2.2.2 HE1_4.out)
 have HE2_5 := hid (EncN.hopc hRB HV4.out.2.2.2 HE2_4.out)
 have HE3_5 := hid (EncN.hopc hRB HV4.out.2.2.2 HE3_4.out)
 clear HE0_4 HE1_4 HE2_4 HE3_4
 have y0 := (one_cell HX5.out).1
 have CQ := hid (rtake_whole 5 HR5.out HL5.out HB5.out rfl hRB)
 go_upto_region 7 with (first | (go_at_call 80; refine CQ.out.mono ?_; rintro en w6 ⟨rfl, v5, hv⟩; have HV5 := hid hv; clear hv))
 clear CQ y0
 have HB6 : Hid (w6.heap[B]? = some (.cells #[v0, v1, v2, v3, v4, v5, .bool false, .slice none 0 0, .slice none 0 0, .slice none 0 0, .slice none 0 0, .slice none 0 0, .slice none 0 0, .int .i64 0, .string ⟨#[]⟩, .slice none 0 0, .slice none 0 0, .int .i64 0, .int .i64 0, .string ⟨#[]⟩, .slice none 0 0, .bool false, .int .i64 0, .bool false, .string ⟨#[]⟩] 43 (0, 0))) := HV5.out.2.1
 have HR6 : Hid (RAt w6 R (rdF .int (rdF .int (rdF .int (rdF .num (rdF .int (rdF .int st).2).2).2).2).2).2.1 (rdF .int (rdF .int (rdF .int (rdF .num (rdF .int (rdF .int st).2).2).2).2).2).2.2) := HV5.out.2.2.1
 have HL6 : Hid ((rdF .int (rdF .int (rdF .int (rdF .num (rdF .int (rdF .int st).2).2).2).2).2).2.1.length ≤ 140737488355328) := hid (Nat.le_trans (rd_len _ _) HL5.out)
 have HX6 := hid ((HV5.out.2.2.2.block w.heap.size (lt_of_block HX5.out) (fun e => by have e9 : w.heap.size = R ∨ w.heap.size = B := e; have := HBE.out; omega)).trans HX5.out)
 have HK6 := hid (HK5.out.trans HV5.out.2.2.2)
 have HE5_6 := hid (EncN.top HB5.out HV5.out.1)
 have HE0_6 := hid (EncN.hopc hRB HV5.out.2.2.2 HE0_5.out)
 have HE1_6 := hid (EncN.hopc hRB HV5.out.2.2.2 HE1_5.out)
 have HE2_6 := hid (EncN.hopc hRB HV5.out.2.2.2 HE2_5.out)
 have HE3_6 := hid (EncN.hopc hRB HV5.out.2.2.2 HE3_5.out)
 have HE4_6 := hid (EncN.hopc hRB HV5.out.2.2.2 HE4_5.out)
 clear HE0_5 HE1_5 HE2_5 HE3_5 HE4_5
 have y0 := (one_cell HX6.out).1
 have CQ := hid (rtake_flag 6 HR6.out HL6.out HB6.out rfl hRB)
 go_upto_region 8 with (first | (go_at_call 82; refine CQ.out.mono ?_; rintro en w7 ⟨rfl, v6, hv⟩; have HV6 := hid hv; clear hv))
 clear CQ y0
 have HB7 : Hid (w7.heap[B]? = some (.cells #[v0, v1, v2, v3, v4, v5, v6, .slice none 0 0, .slice none 0 0, .slice none 0 0, .slice none 0 0, .slice none 0 0, .slice none 0 0, .int .i64 0, .string ⟨#[]⟩, .slice none 0 0, .slice none 0 0, .int .i64 0, .int .i64 0, .string ⟨#[]⟩, .slice none 0 0, .bool false, .int .i64 0, .bool false, .string ⟨#[]⟩] 43 (0, 0))) := HV6.out.2.1
 have HR7 : Hid (RAt w7 R (rdF .bool (rdF .int (rdF .int (rdF .int (rdF .num (rdF .int (rdF .int st).2).2).2).2).2).2).2.1 (rdF .bool (rdF .int (rdF .int (rdF .int (rdF .num (rdF .int (rdF .int st).2).2).2).2).2).2).2.2) := HV6.out.2.2.1
 have HL7 : Hid ((rdF .bool (rdF .int (rdF .int (rdF .int (rdF .num (rdF .int (rdF .int st).2).2).2).2).2).2).2.1.length ≤ 140737488355328) := hid (Nat.le_trans (rd_len _ _) HL6.out)
 have HX7 := hid ((HV6.out.2.2.2.block w.heap.size (lt_of_block HX6.out) (fun e => by have e9 : w.heap.size = R ∨ w.heap.size = B := e; have := HBE.out; omega)).trans HX6.out)
 have HK7 := hid (HK6.out.trans HV6.out.2.2.2)
 have HE6_7 := hid (EncN.top HB6.out HV6.out.1)
 have HE0_7 := hid (EncN.hopc hRB HV6.out.2.2.2 HE0_6.out)
 have HE1_7 := hid (EncN.hopc hRB HV6.out.2.2.2 HE1_6.out)
 have HE2_7 := hid (EncN.hopc hRB HV6.out.2.2.2 HE2_6.out)
 have HE3_7 := hid (EncN.hopc hRB HV6.out.2.2.2 HE3_6.out)
 have HE4_7 := hid (EncN.hopc hRB HV6.out.2.2.2 HE4_6.out)
 have HE5_7 := hid (EncN.hopc hRB HV6.out.2.2.2 HE5_6.out)
 clear HE0_6 HE1_6 HE2_6 HE3_6 HE4_6 HE5_6
 have y0 := (one_cell HX7.out).1
 have CQ := hid (rtake_data 7 HR7.out HL7.out HB7.out rfl hRB)
 go_upto_region 9 with (first | (go_at_call 74; refine CQ.out.mono ?_; rintro en w8 ⟨rfl, v7, hv⟩; have HV7 := hid hv; clear hv))
 clear CQ y0
 have HB8 : Hid (w8.heap[B]? = some (.cells #[v0, v1, v2, v3, v4, v5, v6, v7, .slice none 0 0, .slice none 0 0, .slice none 0 0, .slice none 0 0, .slice none 0 0, .int .i64 0, .string ⟨#[]⟩, .slice none 0 0, .slice none 0 0, .int .i64 0, .int .i64 0, .string ⟨#[]⟩, .slice none 0 0, .bool false, .int .i64 0, .bool false, .string ⟨#[]⟩] 43 (0, 0))) := HV7.out.2.1
 have HR8 : Hid (RAt w8 R (rdF .data (rdF .bool (rdF .int (rdF .int (rdF .int (rdF .num (rdF .int (rdF .int st).2).2).2).2).2).2).2).2.1 (rdF .data (rdF .bool (rdF .int (rdF .int (rdF .int (rdF .num (rdF .int (rdF .int st).2).2).2).2).2).2).2).2.2) := HV7.out.2.2.1
 have HL8 : Hid ((rdF .data (rdF .bool (rdF .int (rdF .int (rdF .int (rdF .num (rdF .int (rdF .int st).2).2).2).2).2).2).2).2.1.length ≤ 140737488355328) := hid (Nat.le_trans (rd_len _ _) HL7.out)
 have HX8 := hid ((HV7.out.2.2.2.block w.heap.size (lt_of_block HX7.out) (fun e => by have e9 : w.heap.size = R ∨ w.heap.size = B := e; have := HBE.out; omega)).trans HX7.out)
 have HK8 := hid (HK7.out.trans HV7.out.2.2.2)
 have HE7_8 := hid (EncN.top HB7.out HV7.out.1)
 have HE0_8 := hid (EncN.hopc hRB HV7.out.2.2.2 HE0_7.out)
 have HE1_8 := hid (EncN.hopc hRB HV7.out.2.2.2 HE1_7.out)
 have HE2_8 := hid (EncN.hopc hRB HV7.out.2.2.2 HE2_7.out)
 have HE3_8 := hid (EncN.hopc hRB HV7.out.2.2.2 HE3_7.out)
 have HE4_8 := hid (EncN.hopc hRB HV7.out.2.2.2 HE4_7.out)
 have HE5_8 := hid (EncN.hopc hRB HV7.out.2.2.2 HE5_7.out)
 have HE6_8 := hid (EncN.hopc hRB HV7.out.2.2.2 HE6_7.out)
 clear HE0_7 HE1_7 HE2_7 HE3_7 HE4_7 HE5_7 HE6_7
 have y0 := (one_cell HX8.out).1
 have CQ := hid (stake_Span_8 HR8.out HL8.out HB8.out rfl rfl hRB)
 go_upto_region 10 with (first | (go_at_call 84; refine CQ.out.mono ?_; rintro en w9 ⟨rfl, v8_0, v8_1, hv⟩; have HV8 := hid hv; clear hv))
 clear CQ y0
 have HB9 : Hid (w9.heap[B]? = some (.cells #[v0, v1, v2, v3, v4, v5, v6, v7, v8_0, v8_1, .slice none 0 0, .slice none 0 0, .slice none 0 0, .int .i64 0, .string ⟨#[]⟩, .slice none 0 0, .slice none 0 0, .int .i64 0, .int .i64 0, .string ⟨#[]⟩, .slice none 0 0, .bool false, .int .i64 0, .bool false, .string ⟨#[]⟩] 43 (0, 0))) := HV8.out.2.1
 have HR9 : Hid (RAt w9 R (rdF sSpan (rdF .data (rdF .bool (rdF .int (rdF .int (rdF .int (rdF .num (rdF .int (rdF .int st).2).2).2).2).2).2).2).2).2.1 (rdF sSpan (rdF .data (rdF .bool (rdF .int (rdF .int (rdF .int (rdF .num (rdF .int (rdF .int st).2).2).2).2).2).2).2).2).2.2) := HV8.out.2.2.1
 have HL9 : Hid ((rdF sSpan (rdF .data (rdF .bool (rdF .int (rdF .int (rdF .int (rdF .num (rdF .int (rdF .int st).2).2).2).2).2).2).2).2).2.1.length ≤ 140737488355328) := hid (Nat.le_trans (rd_len _ _) HL8.out)
 have HX9 := hid ((HV8.out.2.2.2.block w.heap.size (lt_of_block HX8.out) (fun e => by have e9 : w.heap.size = R ∨ w.heap.size = B := e; have := HBE.out; omega)).trans HX8.out)
 have HK9 := hid (HK8.out.trans HV8.out.2.2.2)
 have HE8_9 := hid (EncN.top HB8.out HV8.out.1)
 have HE0_9 := hid (EncN.hopc hRB HV8.out.2.2.2 HE0_8.out)
 have HE1_9 := hid (EncN.hopc hRB HV8.out.2.2.2 HE1_8.out)
 have HE2_9 := hid (EncN.hopc hRB HV8.out.2.2.2 HE2_8.out)
 have HE3_9 := hid (EncN.hopc hRB HV8.out.2.2.2 HE3_8.out)
 have HE4_9 := hid (EncN.hopc hRB HV8.out.2.2.2 HE4_8.out)
 have HE5_9 := hid (EncN.hopc hRB HV8.out.2.2.2 HE5_8.out)
 have HE6_9 := hid (EncN.hopc hRB HV8.out.2.2.2 HE6_8.out)
 have HE7_9 := hid (EncN.hopc hRB HV8.out.2.2.2 HE7_8.out)
 clear HE0_8 HE1_8 HE2_8 HE3_8 HE4_8 HE5_8 HE6_8 HE7_8
 have y0 := (one_cell HX9.out).1
 have CQ := hid (rlist_Pair 10 HR9.out HL9.out HB9.out rfl hRB)
 go_upto_region 11 with (first | (go_at_call 86; refine CQ.out.mono ?_; rintro en w10 ⟨rfl, v9, hv⟩; have HV9 := hid hv; clear hv))
 clear CQ y0
 have HB10 : Hid (w10.heap[B]? = some (.cells #[v0, v1, v2, v3, v4, v5, v6, v7, v8_0, v8_1, v9, .slice none 0 0, .slice none 0 0, .int .i64 0, .string ⟨#[]⟩, .slice none 0 0, .slice none 0 0, .int .i64 0, .int .i64 0, .string ⟨#[]⟩, .slice none 0 0, .bool false, .int .i64 0, .bool false, .string ⟨#[]⟩] 43 (0, 0))) := HV9.out.2.1
 have HR10 : Hid (RAt w10 R (rdF (.list sPair) (rdF sSpan (rdF .data (rdF .bool (rdF .int (rdF .int (rdF .int (rdF .num (rdF .int (rdF .int st).2).2).2).2).2).2).2).2).2).2.1 (rdF (.list sPair) (rdF sSpan (rdF .data (rdF .bool (rdF .int (rdF .int (rdF .int (rdF .num (rdF .int (rdF .int st).2).2).2).2).2).2).2).2).2).2.2) := HV9.out.2.2.1
 have HL10 : Hid ((rdF (.list sPair) (rdF sSpan (rdF .data (rdF .bool (rdF .int (rdF .int (rdF .int (rdF .num (rdF .int (rdF .int st).2).2).2).2).2).2).2).2).2).2.1.length ≤ 140737488355328) := hid (Nat.le_trans (rd_len _ _) HL9.out)
 have HX10 := hid ((HV9.out.2.2.2.block w.heap.size (lt_of_block HX9.out) (fun e => by have e9 : w.heap.size = R ∨ w.heap.size = B := e; have := HBE.out; omega)).trans HX9.out)
 have HK10 := hid (HK9.out.trans HV9.out.2.2.2)
 have HE9_10 := hid (EncN.top HB9.out HV9.out.1)
 have HE0_10 := hid (EncN.hopc hRB HV9.out.2.2.2 HE0_9.out)
 have HE1_10 := hid (EncN.hopc hRB HV9.out.2.2.2 HE1_9.out)
 have HE2_10 := hid (EncN.hopc hRB HV9.out.2.2.2 HE2_9.out)
 have HE3_10 := hid (EncN.hopc hRB HV9.out.2.2.2 HE3_9.out)
 have HE4_10 := hid (EncN.hopc hRB HV9.out.2.2.2 HE4_9.out)
 have HE5_10 := hid (EncN.hopc hRB HV9.out.2.2.2 HE5_9.out)
 have HE6_10 := hid (EncN.hopc hRB HV9.out.2.2.2 HE6_9.out)
 have HE7_10 := hid (EncN.hopc hRB HV9.out.2.2.2 HE7_9.out)
 have HE8_10 := hid (EncN.hopc hRB HV9.out.2.2.2 HE8_9.out)
 clear HE0_9 HE1_9 HE2_9 HE3_9 HE4_9 HE5_9 HE6_9 HE7_9 HE8_9
 have y0 := (one_cell HX10.out).1
 have CQ := hid (rlist_Seen 11 HR10.out HL10.out HB10.out rfl hRB)
 go_upto_region 12 with (first | (go_at_call 88; refine CQ.out.mono ?_; rintro en w11 ⟨rfl, v10, hv⟩; have HV10 := hid hv; clear hv))
 clear CQ y0
 have HB11 : Hid (w11.heap[B]? = some (.cells #[v0, v1, v2, v3, v4, v5, v6, v7, v8_0, v8_1, v9, v10, .slice none 0 0, .int .i64 0, .string ⟨#[]⟩, .slice none 0 0, .slice none 0 0, .int .i64 0, .int .i64 0, .string ⟨#[]⟩, .slice none 0 0, .bool false, .int .i64 0, .bool false, .string ⟨#[]⟩] 43 (0, 0))) := HV10.out.2.1
 have HR11 : Hid (RAt w11 R (rdF (.list sSeen) (rdF (.list sPair) (rdF sSpan (rdF .data (rdF .bool (rdF .int (rdF .int (rdF .int (rdF .num (rdF .int (rdF .int st).2).2).2).2).2).2).2).2).2).2).2.1 (rdF (.list sSeen) (rdF (.list sPair) (rdF sSpan (rdF .data (rdF .bool (rdF .int (rdF .int (rdF .int (rdF .num (rdF .int (rdF .int st).2).2).2).2).2).2).2).2).2).2).2.2) := HV10.out.2.2.1
 have HL11 : Hid ((rdF (.list sSeen) (rdF (.list sPair) (rdF sSpan (rdF .data (rdF .bool (rdF .int (rdF .int (rdF .int (rdF .num (rdF .int (rdF .int st).2).2).2).2).2).2).2).2).2).2).2.1.length ≤ 140737488355328) := hid (Nat.le_trans (rd_len _ _) HL10.out)
 have HX11 := hid ((HV10.out.2.2.2.block w.heap.size (lt_of_block HX10.out) (fun e => by have e9 : w.heap.size = R ∨ w.heap.size = B := e; have := HBE.out; omega)).trans HX10.out)
 have HK11 := hid (HK10.out.trans HV10.out.2.2.2)
 have HE10_11 := hid (EncN.top HB10.out HV10.out.1)
 have HE0_11 := hid (EncN.hopc hRB HV10.out.2.2.2 HE0_10.out)
 have HE1_11 := hid (EncN.hopc hRB HV10.out.2.2.2 HE1_10.out)
 have HE2_11 := hid (EncN.hopc hRB HV10.out.2.2.2 HE2_10.out)
 have HE3_11 := hid (EncN.hopc hRB HV10.out.2.2.2 HE3_10.out)
 have HE4_11 := hid (EncN.hopc hRB HV10.out.2.2.2 HE4_10.out)
 have HE5_11 := hid (EncN.hopc hRB HV10.out.2.2.2 HE5_10.out)
 have HE6_11 := hid (EncN.hopc hRB HV10.out.2.2.2 HE6_10.out)
 have HE7_11 := hid (EncN.hopc hRB HV10.out.2.2.2 HE7_10.out)
 have HE8_11 := hid (EncN.hopc hRB HV10.out.2.2.2 HE8_10.out)
 have HE9_11 := hid (EncN.hopc hRB HV10.out.2.2.2 HE9_10.out)
 clear HE0_10 HE1_10 HE2_10 HE3_10 HE4_10 HE5_10 HE6_10 HE7_10 HE8_10 HE9_10
 have y0 := (one_cell HX11.out).1
 have CQ := hid (rlist_Write 12 HR11.out HL11.out HB11.out rfl hRB)
 go_upto_region 13 with (first | (go_at_call 90; refine CQ.out.mono ?_; rintro en w12 ⟨rfl, v11, hv⟩; have HV11 := hid hv; clear hv))
 clear CQ y0
 have HB12 : Hid (w12.heap[B]? = some (.cells #[v0, v1, v2, v3, v4, v5, v6, v7, v8_0, v8_1, v9, v10, v11, .int .i64 0, .string ⟨#[]⟩, .slice none 0 0, .slice none 0 0, .int .i64 0, .int .i64 0, .string ⟨#[]⟩, .slice none 0 0, .bool false, .int .i64 0, .bool false, .string ⟨#[]⟩] 43 (0, 0))) := HV11.out.2.1
 have HR12 : Hid (RAt w12 R (rdF (.list sWrite) (rdF (.list sSeen) (rdF (.list sPair) (rdF sSpan (rdF .data (rdF .bool (rdF .int (rdF .int (rdF .int (rdF .num (rdF .int (rdF .int st).2).2).2).2).2).2).2).2).2).2).2).2.1 (rdF (.list sWrite) (rdF (.list sSeen) (rdF (.list sPair) (rdF sSpan (rdF .data (rdF .bool (rdF .int (rdF .int (rdF .int (rdF .num (rdF .int (rdF .int st).2).2).2).2).2).2).2).2).2).2).2).2.2) := HV11.out.2.2.1
 have HL12 : Hid ((rdF (.list sWrite) (rdF (.list sSeen) (rdF (.list sPair) (rdF sSpan (rdF .data (rdF .bool (rdF .int (rdF .int (rdF .int (rdF .num (rdF .int (rdF .int st).2).2).2).2).2).2).2).2).2).2).2).2.1.length ≤ 140737488355328) := hid (Nat.le_trans (rd_len _ _) HL11.out)
 have HX12 := hid ((HV11.out.2.2.2.block w.heap.size (lt_of_block HX11.out) (fun e => by have e9 : w.heap.size = R ∨ w.heap.size = B := e; have := HBE.out; omega)).trans HX11.out)
 have HK12 := hid (HK11.out.trans HV11.out.2.2.2)
 have HE11_12 := hid (EncN.top HB11.out HV11.out.1)
 have HE0_12 := hid (EncN.hopc hRB HV11.out.2.2.2 HE0_11.out)
 have HE1_12 := hid (EncN.hopc hRB HV11.out.2.2.2 HE1_11.out)
 have HE2_12 := hid (EncN.hopc hRB HV11.out.2.2.2 HE2_11.out)
 have HE3_12 := hid (EncN.hopc hRB HV11.out.2.2.2 HE3_11.out)
 have HE4_12 := hid (EncN.hopc hRB HV11.out.2.2.2 HE4_11.out)
 have HE5_12 := hid (EncN.hopc hRB HV11.out.2.2.2 HE5_11.out)
 have HE6_12 := hid (EncN.hopc hRB HV11.out.2.2.2 HE6_11.out)
 have HE7_12 := hid (EncN.hopc hRB HV11.out.2.2.2 HE7_11.out)
 have HE8_12 := hid (EncN.hopc hRB HV11.out.2.2.2 HE8_11.out)
 have HE9_12 := hid (EncN.hopc hRB HV11.out.2.2.2 HE9_11.out)
 have HE10_12 := hid (EncN.hopc hRB HV11.out.2.2.2 HE10_11.out)
 clear HE0_11 HE1_11 HE2_11 HE3_11 HE4_11 HE5_11 HE6_11 HE7_11 HE8_11 HE9_11 HE10_11
 have y0 := (one_cell HX12.out).1
 have CQ := hid (stake_Table_13 HR12.out HL12.out HB12.out rfl rfl rfl rfl hRB)
 go_upto_region 14 with (first | (go_at_call 92; refine CQ.out.mono ?_; rintro en w13 ⟨rfl, v12_0, v12_1, v12_2, v12_3, hv⟩; have HV12 := hid hv; clear hv))
 clear CQ y0
 have HB13 : Hid (w13.heap[B]? = some (.cells #[v0, v1, v2, v3, v4, v5, v6, v7, v8_0, v8_1, v9, v10, v11, v12_0, v12_1, v12_2, v12_3, .int .i64 0, .int .i64 0, .string ⟨#[]⟩, .slice none 0 0, .bool false, .int .i64 0, .bool false, .string ⟨#[]⟩] 43 (0, 0))) := HV12.out.2.1
 have HR13 : Hid (RAt w13 R (rdF sTable (rdF (.list sWrite) (rdF (.list sSeen) (rdF (.list sPair) (rdF sSpan (rdF .data (rdF .bool (rdF .int (rdF .int (rdF .int (rdF .num (rdF .int (rdF .int st).2).2).2).2).2).2).2).2).2).2).2).2).2.1 (rdF sTable (rdF (.list sWrite) (rdF (.list sSeen) (rdF (.list sPair) (rdF sSpan (rdF .data (rdF .bool (rdF .int (rdF .int (rdF .int (rdF .num (rdF .int (rdF .int st).2).2).2).2).2).2).2).2).2).2).2).2).2.2) := HV12.out.2.2.1
 have HL13 : Hid ((rdF sTable (rdF (.list sWrite) (rdF (.list sSeen) (rdF (.list sPair) (rdF sSpan (rdF .data (rdF .bool (rdF .int (rdF .int (rdF .int (rdF .num (rdF .int (rdF .int st).2).2).2).2).2).2).2).2).2).2).2).2).2.1.length ≤ 140737488355328) := hid (Nat.le_trans (rd_len _ _) HL12.out)
 have HX13 := hid ((HV12.out.2.2.2.block w.heap.size (lt_of_block HX12.out) (fun e => by have e9 : w.heap.size = R ∨ w.heap.size = B := e; have := HBE.out; omega)).trans HX12.out)
 have HK13 := hid (HK12.out.trans HV12.out.2.2.2)
 have HE12_13 := hid (EncN.top HB12.out HV12.out.1)
 have HE0_13 := hid (EncN.hopc hRB HV12.out.2.2.2 HE0_12.out)
 have HE1_13 := hid (EncN.hopc hRB HV12.out.2.2.2 HE1_12.out)
 have HE2_13 := hid (EncN.hopc hRB HV12.out.2.2.2 HE2_12.out)
 have HE3_13 := hid (EncN.hopc hRB HV12.out.2.2.2 HE3_12.out)
 have HE4_13 := hid (EncN.hopc hRB HV12.out.2.2.2 HE4_12.out)
 have HE5_13 := hid (EncN.hopc hRB HV12.out.2.2.2 HE5_12.out)
 have HE6_13 := hid (EncN.hopc hRB HV12.out.2.2.2 HE6_12.out)
 have HE7_13 := hid (EncN.hopc hRB HV12.out.2.2.2 HE7_12.out)
 have HE8_13 := hid (EncN.hopc hRB HV12.out.2.2.2 HE8_12.out)
 have HE9_13 := hid (EncN.hopc hRB HV12.out.2.2.2 HE9_12.out)
 have HE10_13 := hid (EncN.hopc hRB HV12.out.2.2.2 HE10_12.out)
 have HE11_13 := hid (EncN.hopc hRB HV12.out.2.2.2 HE11_12.out)
 clear HE0_12 HE1_12 HE2_12 HE3_12 HE4_12 HE5_12 HE6_12 HE7_12 HE8_12 HE9_12 HE10_12 HE11_12
 have y0 := (one_cell HX13.out).1
 have CQ := hid (stake_Index_17 HR13.out HL13.out HB13.out rfl rfl rfl rfl rfl rfl rfl hRB)
 go_upto_region 15 with (first | (go_at_call 94; refine CQ.out.mono ?_; rintro en w14 ⟨rfl, v13_0, v13_1, v13_2, v13_3, v13_4, v13_5, v13_6, hv⟩; have HV13 := hid hv; clear hv))
 clear CQ y0
 have HB14 : Hid (w14.heap[B]? = some (.cells #[v0, v1, v2, v3, v4, v5, v6, v7, v8_0, v8_1, v9, v10, v11, v12_0, v12_1, v12_2, v12_3, v13_0, v13_1, v13_2, v13_3, v13_4, v13_5, v13_6, .string ⟨#[]⟩] 43 (0, 0))) := HV13.out.2.1
 have HR14 : Hid (RAt w14 R (rdF sIndex (rdF sTable (rdF (.list sWrite) (rdF (.list sSeen) (rdF (.list sPair) (rdF sSpan (rdF .data (rdF .bool (rdF .int (rdF .int (rdF .int (rdF .num (rdF .int (rdF .int st).2).2).2).2).2).2).2).2).2).2).2).2).2).2.1 (rdF sIndex (rdF sTable (rdF (.list sWrite) (rdF (.list sSeen) (rdF (.list sPair) (rdF sSpan (rdF .data (rdF .bool (rdF .int (rdF .int (rdF .int (rdF .num (rdF .int (rdF .int st).2).2).2).2).2).2).2).2).2).2).2).2).2).2.2) := HV13.out.2.2.1
 have HL14 : Hid ((rdF sIndex (rdF sTable (rdF (.list sWrite) (rdF (.list sSeen) (rdF (.list sPair) (rdF sSpan (rdF .data (rdF .bool (rdF .int (rdF .int (rdF .int (rdF .num (rdF .int (rdF .int st).2).2).2).2).2).2).2).2).2).2).2).2).2).2.1.length ≤ 140737488355328) := hid (Nat.le_trans (rd_len _ _) HL13.out)
 have HX14 := hid ((HV13.out.2.2.2.block w.heap.size (lt_of_block HX13.out) (fun e => by have e9 : w.heap.size = R ∨ w.heap.size = B := e; have := HBE.out; omega)).trans HX13.out)
 have HK14 := hid (HK13.out.trans HV13.out.2.2.2)
 have HE13_14 := hid (EncN.top HB13.out HV13.out.1)
 have HE0_14 := hid (EncN.hopc hRB HV13.out.2.2.2 HE0_13.out)
 have HE1_14 := hid (EncN.hopc hRB HV13.out.2.2.2 HE1_13.out)
 have HE2_14 := hid (EncN.hopc hRB HV13.out.2.2.2 HE2_13.out)
 have HE3_14 := hid (EncN.hopc hRB HV13.out.2.2.2 HE3_13.out)
 have HE4_14 := hid (EncN.hopc hRB HV13.out.2.2.2 HE4_13.out)
 have HE5_14 := hid (EncN.hopc hRB HV13.out.2.2.2 HE5_13.out)
 have HE6_14 := hid (EncN.hopc hRB HV13.out.2.2.2 HE6_13.out)
 have HE7_14 := hid (EncN.hopc hRB HV13.out.2.2.2 HE7_13.out)
 have HE8_14 := hid (EncN.hopc hRB HV13.out.2.2.2 HE8_13.out)
 have HE9_14 := hid (EncN.hopc hRB HV13.out.2.2.2 HE9_13.out)
 have HE10_14 := hid (EncN.hopc hRB HV13.out.2.2.2 HE10_13.out)
 have HE11_14 := hid (EncN.hopc hRB HV13.out.2.2.2 HE11_13.out)
 have HE12_14 := hid (EncN.hopc hRB HV13.out.2.2.2 HE12_13.out)
 clear HE0_13 HE1_13 HE2_13 HE3_13 HE4_13 HE5_13 HE6_13 HE7_13 HE8_13 HE9_13 HE10_13 HE11_13 HE12_13
 have y0 := (one_cell HX14.out).1
 have CQ := hid (rtake_name 24 HR14.out HL14.out HB14.out rfl hRB)
 go_upto_region 16 with (first | (go_at_call 96; refine CQ.out.mono ?_; rintro en w15 ⟨rfl, v14, hv⟩; have HV14 := hid hv; clear hv))
 clear CQ y0
 have HB15 : Hid (w15.heap[B]? = some (.cells #[v0, v1, v2, v3, v4, v5, v6, v7, v8_0, v8_1, v9, v10, v11, v12_0, v12_1, v12_2, v12_3, v13_0, v13_1, v13_2, v13_3, v13_4, v13_5, v13_6, v14] 43 (0, 0))) := HV14.out.2.1
 have HR15 : Hid (RAt w15 R (rdF .name (rdF sIndex (rdF sTable (rdF (.list sWrite) (rdF (.list sSeen) (rdF (.list sPair) (rdF sSpan (rdF .data (rdF .bool (rdF .int (rdF .int (rdF .int (rdF .num (rdF .int (rdF .int st).2).2).2).2).2).2).2).2).2).2).2).2).2).2).2.1 (rdF .name (rdF sIndex (rdF sTable (rdF (.list sWrite) (rdF (.list sSeen) (rdF (.list sPair) (rdF sSpan (rdF .data (rdF .bool (rdF .int (rdF .int (rdF .int (rdF .num (rdF .int (rdF .int st).2).2).2).2).2).2).2).2).2).2).2).2).2).2).2.2) := HV14.out.2.2.1
 have HL15 : Hid ((rdF .name (rdF sIndex (rdF sTable (rdF (.list sWrite) (rdF (.list sSeen) (rdF (.list sPair) (rdF sSpan (rdF .data (rdF .bool (rdF .int (rdF .int (rdF .int (rdF .num (rdF .int (rdF .int st).2).2).2).2).2).2).2).2).2).2).2).2).2).2).2.1.length ≤ 140737488355328) := hid (Nat.le_trans (rd_len _ _) HL14.out)
 have HX15 := hid ((HV14.out.2.2.2.block w.heap.size (lt_of_block HX14.out) (fun e => by have e9 : w.heap.size = R ∨ w.heap.size = B := e; have := HBE.out; omega)).trans HX14.out)
 have HK15 := hid (HK14.out.trans HV14.out.2.2.2)
 have HE14_15 := hid (EncN.top HB14.out HV14.out.1)
 have HE0_15 := hid (EncN.hopc hRB HV14.out.2.2.2 HE0_14.out)
 have HE1_15 := hid (EncN.hopc hRB HV14.out.2.2.2 HE1_14.out)
 have HE2_15 := hid (EncN.hopc hRB HV14.out.2.2.2 HE2_14.out)
 have HE3_15 := hid (EncN.hopc hRB HV14.out.2.2.2 HE3_14.out)
 have HE4_15 := hid (EncN.hopc hRB HV14.out.2.2.2 HE4_14.out)
 have HE5_15 := hid (EncN.hopc hRB HV14.out.2.2.2 HE5_14.out)
 have HE6_15 := hid (EncN.hopc hRB HV14.out.2.2.2 HE6_14.out)
 have HE7_15 := hid (EncN.hopc hRB HV14.out.2.2.2 HE7_14.out)
 have HE8_15 := hid (EncN.hopc hRB HV14.out.2.2.2 HE8_14.out)
 have HE9_15 := hid (EncN.hopc hRB HV14.out.2.2.2 HE9_14.out)
 have HE10_15 := hid (EncN.hopc hRB HV14.out.2.2.2 HE10_14.out)
 have HE11_15 := hid (EncN.hopc hRB HV14.out.2.2.2 HE11_14.out)
 have HE12_15 := hid (EncN.hopc hRB HV14.out.2.2.2 HE12_14.out)
 have HE13_15 := hid (EncN.hopc hRB HV14.out.2.2.2 HE13_14.out)
 clear HE0_14 HE1_14 HE2_14 HE3_14 HE4_14 HE5_14 HE6_14 HE7_14 HE8_14 HE9_14 HE10_14 HE11_14 HE12_14 HE13_14
 obtain ⟨y0, rfl⟩ := form_int (EncN.enc _ HE0_15.out)
 obtain ⟨y1, rfl⟩ := form_int (EncN.enc _ HE1_15.out)
 obtain ⟨y2, rfl⟩ := form_num (EncN.enc _ HE2_15.out)
 obtain ⟨y3, rfl⟩ := form_int (EncN.enc _ HE3_15.out)
 obtain ⟨y4, rfl⟩ := form_int (EncN.enc _ HE4_15.out)
 obtain ⟨y5, rfl⟩ := form_int (EncN.enc _ HE5_15.out)
 obtain ⟨y6, rfl⟩ := form_bool (EncN.enc _ HE6_15.out)
 obtain ⟨y7, j7, c7, rfl⟩ := form_data (EncN.enc _ HE7_15.out)
 obtain ⟨⟨f8_y0, f8_j0, f8_c0, rfl⟩, ⟨f8_y1, f8_j1, f8_c1, rfl⟩⟩ := Span_forms (EncN.enc _ HE8_15.out)
 obtain ⟨y9, j9, c9, rfl⟩ := form_list (EncN.enc _ HE9_15.out)
 obtain ⟨y10, j10, c10, rfl⟩ := form_list (EncN.enc _ HE10_15.out)
 obtain ⟨y11, j11, c11, rfl⟩ := form_list (EncN.enc _ HE11_15.out)
 obtain ⟨⟨f12_y0, rfl⟩, ⟨f12_y1, rfl⟩, ⟨f12_y2, f12_j2, f12_c2, rfl⟩, ⟨f12_y3, f12_j3, f12_c3, rfl⟩⟩ := Table_forms (EncN.enc _ HE12_15.out)
 obtain ⟨⟨f13_y0, rfl⟩, ⟨f13_y1, rfl⟩, ⟨f13_y2, rfl⟩, ⟨f13_y3, f13_j3, f13_c3, rfl⟩, ⟨f13_y4, rfl⟩, ⟨f13_y5, rfl⟩, ⟨f13_y6, rfl⟩⟩ := Index_forms (EncN.enc _ HE13_15.out)
 obtain ⟨y14, rfl⟩ := form_name (EncN.enc _ HE14_15.out)
 have HBN : Hid (w15.heap[B]? = some (.cells (#[(.int .i64 y0), (.int .i64 y1), (.int .u64 (y2 : Int)), (.int .i64 y3), (.int .i64 y4), (.int .i64 y5), (.bool y6), (.slice y7 j7 c7), (.slice f8_y0 f8_j0 f8_c0), (.slice f8_y1 f8_j1 f8_c1), (.slice y9 j9 c9), (.slice y10 j10 c10), (.slice y11 j11 c11), (.int .i64 f12_y0), (.string f12_y1), (.slice f12_y2 f12_j2 f12_c2), (.slice f12_y3 f12_j3 f12_c3), (.int .i64 f13_y0), (.int .i64 f13_y1), (.string f13_y2), (.slice f13_y3 f13_j3 f13_c3), (.bool f13_y4), (.int .i64 f13_y5), (.bool f13_y6), (.string y14)] : Array Value) 43 (0, 0))) := HB15
 clear HB1 HB2 HB3 HB4 HB5 HB6 HB7 HB8 HB9 HB10 HB11 HB12 HB13 HB14 HB15
 have LD := cells_load (cs := [(.int .i64 y0), (.int .i64 y1), (.int .u64 (y2 : Int)), (.int .i64 y3), (.int .i64 y4), (.int .i64 y5), (.bool y6), (.slice y7 j7 c7), (.slice f8_y0 f8_j0 f8_c0), (.slice f8_y1 f8_j1 f8_c1), (.slice y9 j9 c9), (.slice y10 j10 c10), (.slice y11 j11 c11), (.int .i64 f12_y0), (.string f12_y1), (.slice f12_y2 f12_j2 f12_c2), (.slice f12_y3 f12_j3 f12_c3), (.int .i64 f13_y0), (.int .i64 f13_y1), (.string f13_y2), (.slice f13_y3 f13_j3 f13_c3), (.bool f13_y4), (.int .i64 f13_y5), (.bool f13_y6), (.string y14)]) (fun i u hi => (row_at HBN.out hi).1) Tryz.underlying43 rfl (by kernel_rfl)
 have HLD := hid LD
 clear LD
 apply wp_region_lit
 refine Great.wpList_readTo rfl (some 67) rfl (.agg #[(.int .i64 y0), (.int .i64 y1), (.int .u64 (y2 : Int)), (.int .i64 y3), (.int .i64 y4), (.int .i64 y5), (.bool y6), (.slice y7 j7 c7), (.slice f8_y0 f8_j0 f8_c0), (.slice f8_y1 f8_j1 f8_c1), (.slice y9 j9 c9), (.slice y10 j10 c10), (.slice y11 j11 c11), (.int .i64 f12_y0), (.string f12_y1), (.slice f12_y2 f12_j2 f12_c2), (.slice f12_y3 f12_j3 f12_c3), (.int .i64 f13_y0), (.int .i64 f13_y1), (.string f13_y2), (.slice f13_y3 f13_j3 f13_c3), (.bool f13_y4), (.int .i64 f13_y5), (.bool f13_y6), (.string y14)]) (exec_load rfl HLD.out) ?_
 simp only [Act.put, jA, jB, jC, jD, jE, jF]
 refine Go.wpList_store_rowTo rfl 43 _ _ rfl rfl B #[(.int .i64 y0), (.int .i64 y1), (.int .u64 (y2 : Int)), (.int .i64 y3), (.int .i64 y4), (.int .i64 y5), (.bool y6), (.slice y7 j7 c7), (.slice f8_y0 f8_j0 f8_c0), (.slice f8_y1 f8_j1 f8_c1), (.slice y9 j9 c9), (.slice y10 j10 c10), (.slice y11 j11 c11), (.int .i64 f12_y0), (.string f12_y1), (.slice f12_y2 f12_j2 f12_c2), (.slice f12_y3 f12_j3 f12_c3), (.int .i64 f13_y0), (.int .i64 f13_y1), (.string f13_y2), (.slice f13_y3 f13_j3 f13_c3), (.bool f13_y4), (.int .i64 f13_y5), (.bool f13_y6), (.string y14)] rfl rfl 43 #[(.int .i64 y0), (.int .i64 y1), (.int .u64 (y2 : Int)), (.int .i64 y3), (.int .i64 y4), (.int .i64 y5), (.bool y6), (.slice y7 j7 c7), (.slice f8_y0 f8_j0 f8_c0), (.slice f8_y1 f8_j1 f8_c1), (.slice y9 j9 c9), (.slice y10 j10 c10), (.slice y11 j11 c11), (.int .i64 f12_y0), (.string f12_y1), (.slice f12_y2 f12_j2 f12_c2), (.slice f12_y3 f12_j3 f12_c3), (.int .i64 f13_y0), (.int .i64 f13_y1), (.string f13_y2), (.slice f13_y3 f13_j3 f13_c3), (.bool f13_y4), (.int .i64 f13_y5), (.bool f13_y6), (.string y14)] HBN.out (by as_aux_lemma => kernel_rfl) rfl (by simp [Value.oneCell']) ?_
 rw [setRow_same HBN.out]
 go_wp2_with fail
 refine bodyPost_ret (results_cell_row rfl _ _ B 43 _ (0, 0) _ rfl HBN.out Tryz.underlying43 rfl (by kernel_rfl)) rfl ?_
 have hfin : ∀ (s : Sh) (cs : List Value) (bs : List UInt8), EncN (fun j => B < j ∧ j < w15.heap.size) w15 s cs bs → EncN (fun j => w.heap.size ≤ j ∧ j < w15.heap.size) w15 s cs bs := fun s cs bs h => EncN.mono (fun j hj => ⟨by have := HBE.out; omega, hj.2⟩) s h
 have hR9 : RAt w15 R (rdF sCommand st).2.1 (rdF sCommand st).2.2 := by
  have h9 := HR15.out
  simp only [sCommand, rdc2_Command, rdn2_Command]
  exact h9
 refine ⟨[(.int .i64 y0), (.int .i64 y1), (.int .u64 (y2 : Int)), (.int .i64 y3), (.int .i64 y4), (.int .i64 y5), (.bool y6), (.slice y7 j7 c7), (.slice f8_y0 f8_j0 f8_c0), (.slice f8_y1 f8_j1 f8_c1), (.slice y9 j9 c9), (.slice y10 j10 c10), (.slice y11 j11 c11), (.int .i64 f12_y0), (.string f12_y1), (.slice f12_y2 f12_j2 f12_c2), (.slice f12_y3 f12_j3 f12_c3), (.int .i64 f13_y0), (.int .i64 f13_y1), (.string f13_y2), (.slice f13_y3 f13_j3 f13_c3), (.bool f13_y4), (.int .i64 f13_y5), (.bool f13_y6), (.string y14)], rfl, ?_, hR9, ?_⟩
 · simp only [sCommand, rdc1_Command, rdc2_Command, rdn1_Command]
   exact ⟨[(.int .i64 y0)], [(.int .i64 y1), (.int .u64 (y2 : Int)), (.int .i64 y3), (.int .i64 y4), (.int .i64 y5), (.bool y6), (.slice y7 j7 c7), (.slice f8_y0 f8_j0 f8_c0), (.slice f8_y1 f8_j1 f8_c1), (.slice y9 j9 c9), (.slice y10 j10 c10), (.slice y11 j11 c11), (.int .i64 f12_y0), (.string f12_y1), (.slice f12_y2 f12_j2 f12_c2), (.slice f12_y3 f12_j3 f12_c3), (.int .i64 f13_y0), (.int .i64 f13_y1), (.string f13_y2), (.slice f13_y3 f13_j3 f13_c3), (.bool f13_y4), (.int .i64 f13_y5), (.bool f13_y6), (.string y14)], _, _, rfl, rfl, hfin _ _ _ HE0_15.out, ⟨[(.int .i64 y1)], [(.int .u64 (y2 : Int)), (.int .i64 y3), (.int .i64 y4), (.int .i64 y5), (.bool y6), (.slice y7 j7 c7), (.slice f8_y0 f8_j0 f8_c0), (.slice f8_y1 f8_j1 f8_c1), (.slice y9 j9 c9), (.slice y10 j10 c10), (.slice y11 j11 c11), (.int .i64 f12_y0), (.string f12_y1), (.slice f12_y2 f12_j2 f12_c2), (.slice f12_y3 f12_j3 f12_c3), (.int .i64 f13_y0), (.int .i64 f13_y1), (.string f13_y2), (.slice f13_y3 f13_j3 f13_c3), (.bool f13_y4), (.int .i64 f13_y5), (.bool f13_y6), (.string y14)], _, _, rfl, rfl, hfin _ _ _ HE1_15.out, ⟨[(.int .u64 (y2 : Int))], [(.int .i64 y3), (.int .i64 y4), (.int .i64 y5), (.bool y6), (.slice y7 j7 c7), (.slice f8_y0 f8_j0 f8_c0), (.slice f8_y1 f8_j1 f8_c1), (.slice y9 j9 c9), (.slice y10 j10 c10), (.slice y11 j11 c11), (.int .i64 f12_y0), (.string f12_y1), (.slice f12_y2 f12_j2 f12_c2), (.slice f12_y3 f12_j3 f12_c3), (.int .i64 f13_y0), (.int .i64 f13_y1), (.string f13_y2), (.slice f13_y3 f13_j3 f13_c3), (.bool f13_y4), (.int .i64 f13_y5), (.bool f13_y6), (.string y14)], _, _, rfl, rfl, hfin _ _ _ HE2_15.out, ⟨[(.int .i64 y3)], [(.int .i64 y4), (.int .i64 y5), (.bool y6), (.slice y7 j7 c7), (.slice f8_y0 f8_j0 f8_c0), (.slice f8_y1 f8_j1 f8_c1), (.slice y9 j9 c9), (.slice y10 j10 c10), (.slice y11 j11 c11), (.int .i64 f12_y0), (.string f12_y1), (.slice f12_y2 f12_j2 f12_c2), (.slice f12_y3 f12_j3 f12_c3), (.int .i64 f13_y0), (.int .i64 f13_y1), (.string f13_y2), (.slice f13_y3 f13_j3 f13_c3), (.bool f13_y4), (.int .i64 f13_y5), (.bool f13_y6), (.string y14)], _, _, rfl, rfl, hfin _ _ _ HE3_15.out, ⟨[(.int .i64 y4)], [(.int .i64 y5), (.bool y6), (.slice y7 j7 c7), (.slice f8_y0 f8_j0 f8_c0), (.slice f8_y1 f8_j1 f8_c1), (.slice y9 j9 c9), (.slice y10 j10 c10), (.slice y11 j11 c11), (.int .i64 f12_y0), (.string f12_y1), (.slice f12_y2 f12_j2 f12_c2), (.slice f12_y3 f12_j3 f12_c3), (.int .i64 f13_y0), (.int .i64 f13_y1), (.string f13_y2), (.slice f13_y3 f13_j3 f13_c3), (.bool f13_y4), (.int .i64 f13_y5), (.bool f13_y6), (.string y14)], _, _, rfl, rfl, hfin _ _ _ HE4_15.out, ⟨[(.int .i64 y5)], [(.bool y6), (.slice y7 j7 c7), (.slice f8_y0 f8_j0 f8_c0), (.slice f8_y1 f8_j1 f8_c1), (.slice y9 j9 c9), (.slice y10 j10 c10), (.slice y11 j11 c11), (.int .i64 f12_y0), (.string f12_y1), (.slice f12_y2 f12_j2 f12_c2), (.slice f12_y3 f12_j3 f12_c3), (.int .i64 f13_y0), (.int .i64 f13_y1), (.string f13_y2), (.slice f13_y3 f13_j3 f13_c3), (.bool f13_y4), (.int .i64 f13_y5), (.bool f13_y6), (.string y14)], _, _, rfl, rfl, hfin _ _ _ HE5_15.out, ⟨[(.bool y6)], [(.slice y7 j7 c7), (.slice f8_y0 f8_j0 f8_c0), (.slice f8_y1 f8_j1 f8_c1), (.slice y9 j9 c9), (.slice y10 j10 c10), (.slice y11 j11 c11), (.int .i64 f12_y0), (.string f12_y1), (.slice f12_y2 f12_j2 f12_c2), (.slice f12_y3 f12_j3 f12_c3), (.int .i64 f13_y0), (.int .i64 f13_y1), (.string f13_y2), (.slice f13_y3 f13_j3 f13_c3), (.bool f13_y4), (.int .i64 f13_y5), (.bool f13_y6), (.string y14)], _, _, rfl, rfl, hfin _ _ _ HE6_15.out, ⟨[(.slice y7 j7 c7)], [(.slice f8_y0 f8_j0 f8_c0), (.slice f8_y1 f8_j1 f8_c1), (.slice y9 j9 c9), (.slice y10 j10 c10), (.slice y11 j11 c11), (.int .i64 f12_y0), (.string f12_y1), (.slice f12_y2 f12_j2 f12_c2), (.slice f12_y3 f12_j3 f12_c3), (.int .i64 f13_y0), (.int .i64 f13_y1), (.string f13_y2), (.slice f13_y3 f13_j3 f13_c3), (.bool f13_y4), (.int .i64 f13_y5), (.bool f13_y6), (.string y14)], _, _, rfl, rfl, hfin _ _ _ HE7_15.out, ⟨[(.slice f8_y0 f8_j0 f8_c0), (.slice f8_y1 f8_j1 f8_c1)], [(.slice y9 j9 c9), (.slice y10 j10 c10), (.slice y11 j11 c11), (.int .i64 f12_y0), (.string f12_y1), (.slice f12_y2 f12_j2 f12_c2), (.slice f12_y3 f12_j3 f12_c3), (.int .i64 f13_y0), (.int .i64 f13_y1), (.string f13_y2), (.slice f13_y3 f13_j3 f13_c3), (.bool f13_y4), (.int .i64 f13_y5), (.bool f13_y6), (.string y14)], _, _, rfl, rfl, hfin _ _ _ HE8_15.out, ⟨[(.slice y9 j9 c9)], [(.slice y10 j10 c10), (.slice y11 j11 c11), (.int .i64 f12_y0), (.string f12_y1), (.slice f12_y2 f12_j2 f12_c2), (.slice f12_y3 f12_j3 f12_c3), (.int .i64 f13_y0), (.int .i64 f13_y1), (.string f13_y2), (.slice f13_y3 f13_j3 f13_c3), (.bool f13_y4), (.int .i64 f13_y5), (.bool f13_y6), (.string y14)], _, _, rfl, rfl, hfin _ _ _ HE9_15.out, ⟨[(.slice y10 j10 c10)], [(.slice y11 j11 c11), (.int .i64 f12_y0), (.string f12_y1), (.slice f12_y2 f12_j2 f12_c2), (.slice f12_y3 f12_j3 f12_c3), (.int .i64 f13_y0), (.int .i64 f13_y1), (.string f13_y2), (.slice f13_y3 f13_j3 f13_c3), (.bool f13_y4), (.int .i64 f13_y5), (.bool f13_y6), (.string y14)], _, _, rfl, rfl, hfin _ _ _ HE10_15.out, ⟨[(.slice y11 j11 c11)], [(.int .i64 f12_y0), (.string f12_y1), (.slice f12_y2 f12_j2 f12_c2), (.slice f12_y3 f12_j3 f12_c3), (.int .i64 f13_y0), (.int .i64 f13_y1), (.string f13_y2), (.slice f13_y3 f13_j3 f13_c3), (.bool f13_y4), (.int .i64 f13_y5), (.bool f13_y6), (.string y14)], _, _, rfl, rfl, hfin _ _ _ HE11_15.out, ⟨[(.int .i64 f12_y0), (.string f12_y1), (.slice f12_y2 f12_j2 f12_c2), (.slice f12_y3 f12_j3 f12_c3)], [(.int .i64 f13_y0), (.int .i64 f13_y1), (.string f13_y2), (.slice f13_y3 f13_j3 f13_c3), (.bool f13_y4), (.int .i64 f13_y5), (.bool f13_y6), (.string y14)], _, _, rfl, rfl, hfin _ _ _ HE12_15.out, ⟨[(.int .i64 f13_y0), (.int .i64 f13_y1), (.string f13_y2), (.slice f13_y3 f13_j3 f13_c3), (.bool f13_y4), (.int .i64 f13_y5), (.bool f13_y6)], [(.string y14)], _, _, rfl, rfl, hfin _ _ _ HE13_15.out, ⟨[(.string y14)], [], _, _, rfl, rfl, hfin _ _ _ HE14_15.out, ⟨rfl, rfl⟩⟩⟩⟩⟩⟩⟩⟩⟩⟩⟩⟩⟩⟩⟩⟩
 · exact (Keep.of_below HBW.out).trans2 HK15.out (fun j e => by rcases e with e | e <;> first | exact .inl e | exact .inr (by have := HBE.out; omega))
end Go.Proofs.YtmdgifmigikffaaGreat
namespace Go.Proofs.YtmdgifmigikffaaGreat
open Go.RowKit Go.Deep
def zCommand : List Value := [.int .i64 0, .int .i64 0, .int .u64 0, .int .i64 0, .int .i64 0, .int .i64 0, .bool false, .slice none 0 0, .slice none 0 0, .slice none 0 0, .slice none 0 0, .slice none 0 0, .slice none 0 0, .int .i64 0, .string ⟨#[]⟩, .slice none 0 0, .slice none 0 0, .int .i64 0, .int .i64 0, .string ⟨#[]⟩, .slice none 0 0, .bool false, .int .i64 0, .bool false, .string ⟨#[]⟩]
theorem wpList_callAny {P : Program} {ops : Array Oper} {rest : List Oper} {o : Oper} {a : Act} {w : World} {Q : Exit → Act → World → Prop} (hg : o.guard = none) (d : Option Tmp) (hd : o.dst = d)
 (f : FuncId) (args : Array Value) (hrun : (execOp a.eval o).run P w = .ok (.enter f args) w) {F : Ending → World → Prop} (hc : Calls P f args w F)
 (h : ∀ e w'', F e w'' → ∃ v, e = .returned v ∧ wpList P ops Q rest (a.put d v) w'') : wpList P ops Q (o :: rest) a w := by
 subst hd
 refine wpList_plain hg fun K hK => ?_
 unfold Oper.wp
 rw [hrun, Oper.upon_enter]
 refine hc.mono fun e w'' hh => ?_
 obtain ⟨v, rfl, h9⟩ := h e w'' hh
 exact hK _ _ h9
theorem alloc_Command (ρ : Operand → Value) (w : World) (d : Option Tmp) (t : TypeId) (p : String) (af : Array Edge) : (execOp ρ { dst := d, op := .alloc 43, type := t, pos := p, after := af, guard := none }).run Tryz.prog w = .ok (.value (.pointer (some ⟨w.heap.size, 0, none⟩))) (w.alloc (.cells zCommand.toArray 43)) := by as_aux_lemma => kernel_rfl
theorem EncN.row {N : Nat → Prop} {w : World} {s : Sh} {cs : List Value} {bs : List UInt8} (h : EncN N w s cs bs) : cs.toArray.size = s.wid ∧ cs.toArray.all (·.oneCell') = true := by
 obtain ⟨h1, h2⟩ := Enc.wide s (EncN.enc s h)
 refine ⟨by simpa using h1, ?_⟩
 rw [List.all_toArray, List.all_eq_true]
 exact h2
theorem zCommand_row : zCommand.toArray.size = 25 ∧ zCommand.toArray.all (·.oneCell') = true := ⟨rfl, by simp [zCommand, Value.oneCell']⟩
def AlCommand (R : Nat) (w : World) (st : Rst) (en : Ending) (w' : World) : Prop := ∃ cs : List Value, en = .returned (.tuple #[.agg cs.toArray, .int .i64 (endS (rdF sCommand st).2.1 (rdF sCommand st).2.2)]) ∧ ((endS (rdF sCommand st).2.1 (rdF sCommand st).2.2) = 0 → EncN (fun j => w.heap.size ≤ j ∧ j < w'.heap.size) w' sCommand cs (rdF sCommand st).1) ∧ ((endS (rdF sCommand st).2.1 (rdF sCommand st).2.2) ≠ 0 → cs = zCommand) ∧ Keep (fun j => j = R) w w'
set_option maxHeartbeats 8000000 in
theorem aloneCommand_any {w : World} {R : Nat} {st : Rst} (h : RAt w R st.1 st.2) (hl : st.1.length ≤ 140737488355328) :
 Calls Tryz.prog 31 #[.agg #[.pointer (some ⟨R, 0, none⟩)], (.func (.func 32) #[.agg #[.pointer (some ⟨R, 0, none⟩)]] #[])] w (AlCommand R w st) := by
 have hb : Below w.heap.size w ((w.alloc (.cells #[.pointer (some ⟨R, 0, none⟩)] 79)).alloc (.cells zCommand.toArray 43)) := ((Below.refl _ _).alloc (Nat.le_refl _) _).alloc (by simp) _
 have hz := (Below.heap_alloc (w.alloc (.cells #[.pointer (some ⟨R, 0, none⟩)] 79)) (.cells zCommand.toArray 43) w.heap.size (by simp)).trans (heap_alloc_new w (.cells #[.pointer (some ⟨R, 0, none⟩)] 79))
 have hB := heap_alloc2_new w (.cells #[.pointer (some ⟨R, 0, none⟩)] 79) (.cells zCommand.toArray 43)
 obtain ⟨B, hBe⟩ : ∃ B, B = w.heap.size + 1 := ⟨_, rfl⟩
 have hRw := h.lt
 have hRB : R < B := by omega
 have HR0 := hid (h.old hb)
 rw [← hBe] at hB
 have HB0 := hid hB
 have HX0 := hid hz
 have HBW := hid hb
 have HL0 := hid hl
 clear h hb hz hB hl
 go_enter Tryz.func31, Tryz.ntmps31
 go_upto_region 1 with fail
 have hW0 : (w.alloc (.cells #[.pointer (some ⟨R, 0, none⟩)] 79)).alloc (.cells #[.int .i64 0, .int .i64 0, .int .u64 0, .int .i64 0, .int .i64 0, .int .i64 0, .bool false, .slice none 0 0, .slice none 0 0, .slice none 0 0, .slice none 0 0, .slice none 0 0, .slice none 0 0, .int .i64 0, .string ⟨#[]⟩, .slice none 0 0, .slice none 0 0, .int .i64 0, .int .i64 0, .string ⟨#[]⟩, .slice none 0 0, .bool false, .int .i64 0, .bool false, .string ⟨#[]⟩] 43) = ((w.alloc (.cells #[.pointer (some ⟨R, 0, none⟩)] 79)).alloc (.cells zCommand.toArray 43)) := rfl
 rw [hW0]
 clear hW0
 generalize ((w.alloc (.cells #[.pointer (some ⟨R, 0, none⟩)] 79)).alloc (.cells zCommand.toArray 43)) = w0 at *
 try rw [← hBe]
 have HBE := hid hBe
 clear hBe
 have CQ := hid (rCommand_any HR0.out HL0.out)
 have zr := zCommand_row
 have HZR := hid zr
 clear zr
 apply wp_region_lit
 refine Great.wpList_readTo rfl (some 9) rfl (.func (.func 32) #[.agg #[.pointer (some ⟨R, 0, none⟩)]] #[]) (by rfl) ?_
 simp only [Act.put, jA, jB, jC, jD, jE, jF]
 refine wpList_callAny rfl (some 10) rfl 32 #[.agg #[.pointer (some ⟨R, 0, none⟩)]] (by as_aux_lemma => kernel_rfl) CQ.out ?_
 rintro en w1 ⟨mc, rfl, hv⟩
 refine ⟨_, rfl, ?_⟩
 simp only [Act.put, jA, jB, jC, jD, jE, jF]
 obtain ⟨hV1, hV2⟩ := EncN.row hv.1
 have HV := hid hv
 clear hv
 refine Great.wpList_allocTo rfl (some 6) rfl _ _ (alloc_Command _ w1 _ _ _ _) ?_
 simp only [Act.put, jA, jB, jC, jD, jE, jF]
 obtain ⟨V, hV⟩ : ∃ V, V = mc.toArray := ⟨_, rfl⟩
 rw [← hV] at hV1 hV2 ⊢
 have hVi : (Tryz.prog.info? 43).map (·.size) = some V.size := by rw [hV1]; kernel_rfl
 have HVI := hid hVi
 have hx1 := heap_alloc_new w1 (.cells zCommand.toArray 43)
 have hb2 : Below w1.heap.size w1 (w1.alloc (.cells zCommand.toArray 43)) := (Below.refl _ _).alloc (Nat.le_refl _) _
 have hHS := (HZR.out.1.trans (show 25 = V.size from hV1.symm))
 refine Go.wpList_store_rowTo rfl 43 _ _ rfl rfl w1.heap.size V rfl rfl 43 zCommand.toArray hx1 hVi hHS hV2 ?_
 have hK9 : Keep (fun j => j = w1.heap.size) w1 ((w1.alloc (.cells zCommand.toArray 43)).setRow w1.heap.size V) := (Keep.of_below (X := fun j => j = w1.heap.size) hb2).trans (setRow_keep _ _ _)
 have hxx := setRow_heap (w1.alloc (.cells zCommand.toArray 43)) w1.heap.size _ V _ _ hx1
 obtain ⟨X, hX⟩ : ∃ X, X = w1.heap.size := ⟨_, rfl⟩
 rw [← hX] at hK9 hxx ⊢
 clear hb2 hx1 CQ hHS
 generalize (w1.alloc (.cells zCommand.toArray 43)).setRow X V = w2 at *
 have hs1 : X ≤ w2.heap.size := by rw [hX]; exact hK9.size
 have HV2 := hid (EncN.mono (fun j hj => (⟨hj.1, Nat.lt_of_lt_of_le hj.2 hK9.size⟩ : w0.heap.size ≤ j ∧ j < w2.heap.size)) _ (EncN.keep hK9 (fun j hj e => by have e9 : j = X := e; have := hj.2; omega) _ HV.out.1))
 have hRlt : R < X := by rw [hX]; exact HV.out.2.1.lt
 have HR2 := hid (HV.out.2.1.keepK hK9 (fun k e => by have e9 : k = X := e; omega))
 have hS1 : B < X := by rw [hX]; exact Nat.lt_of_lt_of_le (lt_of_block HB0.out) HV.out.2.2.size
 have hw8 := lt_of_block HX0.out
 have hwX : w.heap.size < X := by have := HBE.out; omega
 have HB2 : Hid (w2.heap[B]? = some (.cells zCommand.toArray 43 (0, 0))) := hid ((hK9.block B (by omega) (fun e => by have e9 : B = X := e; omega)).trans ((HV.out.2.2.block B (lt_of_block HB0.out) (fun e => by have e9 : B = R := e; omega)).trans HB0.out))
 have HX2 := hid ((hK9.block w.heap.size (by omega) (fun e => by have e9 : w.heap.size = X := e; omega)).trans ((HV.out.2.2.block w.heap.size (lt_of_block HX0.out) (fun e => by have e9 : w.heap.size = R := e; omega)).trans HX0.out))
 have HXX : Hid (w2.heap[X]? = some (.cells V 43 (0, 0))) := hid hxx
 have HK2 : Hid (Keep (fun j => j = R) w0 w2) := hid (HV.out.2.2.trans2 hK9 (fun j e => .inr (by have e9 : j = X := e; have := HV.out.2.2.size; omega)))
 have HS1 : Hid (B < X) := hid hS1
 clear hK9 hxx hRlt hS1 hs1 hw8 hwX
 have HXE := hid hX
 have HVE := hid hV
 have HVS := hid hV1
 have HVO := hid hV2
 clear hX hV hV1 hV2 hVi
 obtain ⟨ev, hev⟩ : ∃ ev, ev = (endS (rdF sCommand st).2.1 (rdF sCommand st).2.2) := ⟨_, rfl⟩
 have CE : Hid (Calls Tryz.prog 71 #[.pointer (some ⟨R, 0, none⟩)] w2 (fun en w' => en = .returned (.int .i64 ev) ∧ w2 = w')) := hid (by rw [hev]; exact endR_any w2 R _ _ HR2.out)
 have HEV := hid hev
 clear hev
 have x0 := (one_cell HX2.out).1
 by_cases h0 : ev = 0
 · subst h0
   have hl9 : V = V.toList.toArray := by simp
   have LD := cells_load (V := w2) (B := X) (cs := V.toList) (fun i u hi => (row_at (by rw [← hl9]; exact HXX.out) hi).1) Tryz.underlying43 rfl (by rw [Array.length_toList]; exact HVI.out)
   rw [← hl9] at LD
   clear hl9
   have HLD := hid LD
   clear LD
   have HSF := hid (setRow_heap w2 B _ V _ _ HB2.out)
   have HKS := hid (setRow_keep w2 B V)
   go_upto_region 6 with (first | (go_at_call 71; refine CE.out.mono ?_; rintro en w3 ⟨rfl, rfl⟩))
   apply wp_region_lit
   refine Great.wpList_readTo rfl (some 18) rfl (.agg V) (exec_load rfl HLD.out) ?_
   simp only [Act.put, jA, jB, jC, jD, jE, jF]
   refine Go.wpList_store_rowTo rfl 43 _ _ rfl rfl B V rfl rfl 43 zCommand.toArray HB2.out HVI.out (HZR.out.1.trans (show 25 = V.size from HVS.out.symm)) HVO.out ?_
   generalize w2.setRow B V = w5 at *
   go_wp2_with fail
   refine bodyPost_ret (results_cell2 rfl _ _ B 43 _ (0, 0) _ rfl HSF.out Tryz.underlying43 rfl HVI.out) rfl ?_
   refine ⟨mc, by rw [← HEV.out, ← HVE.out]; rfl, fun _ => EncN.mono (fun j hj => ⟨Nat.le_trans HBW.out.size hj.1, Nat.lt_of_lt_of_le hj.2 HKS.out.size⟩) _ (EncN.keep HKS.out (fun j hj e => by have e9 : j = B := e; have a9 := lt_of_block HB0.out; have := hj.1; omega) _ HV2.out), fun h9 => absurd HEV.out.symm h9, ?_⟩
   exact ((Keep.of_below HBW.out).trans HK2.out).trans2 HKS.out (fun j e => .inr (by have e9 : j = B := e; have := HBE.out; omega))
 · have hbe : (ev != 0) = true := by simp [h0]
   have hb3 : Below w2.heap.size w2 (w2.alloc (.cells zCommand.toArray 43)) := (Below.refl _ _).alloc (Nat.le_refl _) _
   have hx3 := heap_alloc_new w2 (.cells zCommand.toArray 43)
   have hB3 := (hb3.block B (lt_of_block HB2.out)).trans HB2.out
   have hzi : (Tryz.prog.info? 43).map (·.size) = some zCommand.toArray.size := by rw [HZR.out.1]; kernel_rfl
   have HZI := hid hzi
   have LD := cells_load (cs := zCommand) (fun i u hi => (row_at hx3 hi).1) Tryz.underlying43 rfl hzi
   have HLD := hid LD
   clear LD hx3 hzi
   have HBB : Hid ((w2.alloc (.cells zCommand.toArray 43)).heap[B]? = some (.cells zCommand.toArray 43 (0, 0))) := hid hB3
   have HB3 := hid hb3
   clear hb3 hB3
   go_upto_region 5 with (first | (go_at_call 71; refine CE.out.mono ?_; rintro en w3 ⟨rfl, rfl⟩))
   have hW9 : w2.alloc (.cells #[.int .i64 0, .int .i64 0, .int .u64 0, .int .i64 0, .int .i64 0, .int .i64 0, .bool false, .slice none 0 0, .slice none 0 0, .slice none 0 0, .slice none 0 0, .slice none 0 0, .slice none 0 0, .int .i64 0, .string ⟨#[]⟩, .slice none 0 0, .slice none 0 0, .int .i64 0, .int .i64 0, .string ⟨#[]⟩, .slice none 0 0, .bool false, .int .i64 0, .bool false, .string ⟨#[]⟩] 43) = w2.alloc (.cells zCommand.toArray 43) := rfl
   rw [hW9]
   clear hW9
   generalize w2.alloc (.cells zCommand.toArray 43) = w4 at *
   apply wp_region_lit
   refine Great.wpList_readTo rfl (some 16) rfl (.agg zCommand.toArray) (exec_load rfl HLD.out) ?_
   simp only [Act.put, jA, jB, jC, jD, jE, jF]
   refine Great.wpList_readTo rfl (some 17) rfl (.int .i64 ev) (by rfl) ?_
   simp only [Act.put, jA, jB, jC, jD, jE, jF]
   refine Go.wpList_store_rowTo rfl 43 _ _ rfl rfl B zCommand.toArray rfl rfl 43 zCommand.toArray HBB.out HZI.out rfl HZR.out.2 ?_
   rw [setRow_same HBB.out]
   go_wp2_with fail
   refine bodyPost_ret (results_cell2 rfl _ _ B 43 _ (0, 0) _ rfl HBB.out Tryz.underlying43 rfl HZI.out) rfl ?_
   refine ⟨zCommand, by rw [← HEV.out]; rfl, fun h9 => absurd (HEV.out.trans h9) h0, fun _ => rfl, ?_⟩
   exact (((Keep.of_below HBW.out).trans HK2.out).trans (Keep.of_below HB3.out))
end Go.Proofs.YtmdgifmigikffaaGreat
namespace Go.Proofs.YtmdgifmigikffaaGreat
open Go.RowKit Go.Deep
theorem AlCommand_row {E : Int} {N : Nat → Prop} {w : World} {cs : List Value} {bs : List UInt8} (h1 : E = 0 → EncN N w sCommand cs bs) (h2 : E ≠ 0 → cs = zCommand) : cs.toArray.size = 25 ∧ cs.toArray.all (·.oneCell') = true := by
 by_cases h : E = 0
 · exact EncN.row (h1 h)
 · rw [h2 h]; exact zCommand_row
def TkCommand (w : World) (l : List UInt8) (en : Ending) (w' : World) : Prop := ∃ cs : List Value, en = .returned (.tuple #[.agg cs.toArray, .int .i64 (endS (rdF sCommand (l, 0)).2.1 (rdF sCommand (l, 0)).2.2)]) ∧ ((endS (rdF sCommand (l, 0)).2.1 (rdF sCommand (l, 0)).2.2) = 0 → EncN (fun j => w.heap.size ≤ j ∧ j < w'.heap.size) w' sCommand cs (rdF sCommand (l, 0)).1) ∧ ((endS (rdF sCommand (l, 0)).2.1 (rdF sCommand (l, 0)).2.2) ≠ 0 → cs = zCommand) ∧ Below w.heap.size w w'
set_option maxHeartbeats 8000000 in
theorem takeCommand_any (x : Value) (l : List UInt8) (w : World) (hx : Rd w x l) (hl : l.length ≤ 140737488355328) : Calls Tryz.prog 8 #[x] w (TkCommand w l) := by
 have hb : Below w.heap.size w (w.alloc (.cells zCommand.toArray 43)) := (Below.refl _ _).alloc (Nat.le_refl _) _
 have hB := heap_alloc_new w (.cells zCommand.toArray 43)
 have CN := hid (new_any (w.alloc (.cells zCommand.toArray 43)) x l (hx.old hb) hl)
 have HB := hid hB
 have HBW := hid hb
 have HL := hid hl
 clear hb hB hx hl
 go_enter Tryz.func8, Tryz.ntmps8
 go_upto_region 1 with fail
 have hW0 : w.alloc (.cells #[.int .i64 0, .int .i64 0, .int .u64 0, .int .i64 0, .int .i64 0, .int .i64 0, .bool false, .slice none 0 0, .slice none 0 0, .slice none 0 0, .slice none 0 0, .slice none 0 0, .slice none 0 0, .int .i64 0, .string ⟨#[]⟩, .slice none 0 0, .slice none 0 0, .int .i64 0, .int .i64 0, .string ⟨#[]⟩, .slice none 0 0, .bool false, .int .i64 0, .bool false, .string ⟨#[]⟩] 43) = w.alloc (.cells zCommand.toArray 43) := rfl
 rw [hW0]
 clear hW0
 generalize w.alloc (.cells zCommand.toArray 43) = w1 at *
 go_upto_region 2 with (first | (go_at_call 24; refine CN.out.mono ?_; rintro en w2 ⟨R, rfl, hR1, hr, hb2⟩; have HR := hid hr; have HRB := hid (Nat.lt_of_lt_of_le (lt_of_block HB.out) hR1); have HB2 := hid ((hb2.block _ (lt_of_block HB.out)).trans HB.out); have HW2 := hid hb2; clear hr hR1 hb2))
 have hb3 : Below w2.heap.size w2 (w2.alloc (.cells #[.pointer (some ⟨R, 0, none⟩)] 79)) := (Below.refl _ _).alloc (Nat.le_refl _) _
 have hx3 := heap_alloc_new w2 (.cells #[.pointer (some ⟨R, 0, none⟩)] 79)
 have HR3 := hid (HR.out.old hb3)
 have HB3 := hid ((hb3.block _ (lt_of_block HB2.out)).trans HB2.out)
 have HW3 := hid (HW2.out.trans (hb3.mono HW2.out.size))
 clear hb3
 have LD := cells_load (cs := [.pointer (some ⟨R, 0, none⟩)]) (fun i u hi => (row_at hx3 hi).1) Tryz.underlying79 rfl (by kernel_rfl)
 clear hx3
 obtain ⟨X, hX⟩ : ∃ X, X = w2.heap.size := ⟨_, rfl⟩
 rw [← hX] at LD
 generalize w2.alloc (.cells #[.pointer (some ⟨R, 0, none⟩)] 79) = w3 at *
 try rw [← hX]
 clear hX
 have CA := hid (aloneCommand_any (st := (l, 0)) HR3.out HL.out)
 have zr := zCommand_row
 have HZR := hid zr
 clear zr
 apply wp_region_lit
 refine Great.wpList_readTo rfl (some 8) rfl (.agg #[.pointer (some ⟨R, 0, none⟩)]) (exec_load rfl LD) ?_
 simp only [Act.put, jA, jB, jC, jD, jE, jF]
 refine Great.wpList_readTo rfl (some 9) rfl (.agg #[.pointer (some ⟨R, 0, none⟩)]) (exec_load rfl LD) ?_
 simp only [Act.put, jA, jB, jC, jD, jE, jF]
 refine Great.wpList_readTo rfl (some 10) rfl (.func (.func 32) #[.agg #[.pointer (some ⟨R, 0, none⟩)]] #[]) (by as_aux_lemma => kernel_rfl) ?_
 simp only [Act.put, jA, jB, jC, jD, jE, jF]
 refine wpList_callAny rfl (some 11) rfl 31 #[.agg #[.pointer (some ⟨R, 0, none⟩)], (.func (.func 32) #[.agg #[.pointer (some ⟨R, 0, none⟩)]] #[])] (by as_aux_lemma => kernel_rfl) CA.out ?_
 rintro en w4 ⟨cs, rfl, h1, h2, hk⟩
 refine ⟨_, rfl, ?_⟩
 simp only [Act.put, jA, jB, jC, jD, jE, jF]
 obtain ⟨hv1, hv2⟩ := AlCommand_row h1 h2
 obtain ⟨V, hV⟩ : ∃ V, V = cs.toArray := ⟨_, rfl⟩
 rw [← hV] at hv1 hv2 ⊢
 obtain ⟨ev, hev⟩ : ∃ ev, ev = (endS (rdF sCommand (l, 0)).2.1 (rdF sCommand (l, 0)).2.2) := ⟨_, rfl⟩
 rw [show (endS (rdF sCommand ((l, 0) : Rst)).2.1 (rdF sCommand ((l, 0) : Rst)).2.2) = ev from hev.symm] at h1 h2 ⊢
 have hB4 := (hk.block _ (lt_of_block HB3.out) (fun e => by have e9 : w.heap.size = R := e; have := HRB.out; omega)).trans HB3.out
 refine Great.wpList_readTo rfl (some 12) rfl (.agg V) (by as_aux_lemma => kernel_rfl) ?_
 simp only [Act.put, jA, jB, jC, jD, jE, jF]
 refine Great.wpList_readTo rfl (some 13) rfl (.int .i64 ev) (by as_aux_lemma => kernel_rfl) ?_
 simp only [Act.put, jA, jB, jC, jD, jE, jF]
 have hVi : (Tryz.prog.info? 43).map (·.size) = some V.size := by rw [hv1]; kernel_rfl
 refine Go.wpList_store_rowTo rfl 43 _ _ rfl rfl w.heap.size V rfl rfl 43 zCommand.toArray hB4 hVi (HZR.out.1.trans (show 25 = V.size from hv1.symm)) hv2 ?_
 have HSF := hid (setRow_heap w4 w.heap.size _ V _ _ hB4)
 have HKS := hid (setRow_keep w4 w.heap.size V)
 have H1 := hid h1
 have H2 := hid h2
 have HK := hid hk
 have HVI := hid hVi
 have HVE := hid hV
 have HEV := hid hev
 clear h1 h2 hk hVi hV hv1 hv2 hev hB4 LD
 generalize w4.setRow w.heap.size V = w5 at *
 go_wp2_with fail
 refine bodyPost_ret (results_cell2 rfl _ _ w.heap.size 43 _ (0, 0) _ rfl HSF.out Tryz.underlying43 rfl HVI.out) rfl ?_
 have a1 := HBW.out.size
 have a2 := lt_of_block HB.out
 have a3 := HW3.out.size
 refine ⟨cs, by rw [← HEV.out, ← HVE.out]; rfl, fun h0 => EncN.mono (fun j hj => ⟨by have := hj.1; omega, Nat.lt_of_lt_of_le hj.2 HKS.out.size⟩) _ (EncN.keep HKS.out (fun j hj e => by have e9 : j = w.heap.size := e; have := hj.1; omega) _ (H1.out (HEV.out.trans h0))), fun h0 => H2.out (fun e => h0 (HEV.out.symm.trans e)), ?_⟩
 exact (((Keep.of_below (X := fun _ => False) HBW.out).trans (Keep.of_below (X := fun _ => False) (HW3.out.mono (Nat.le_refl _)))).trans2 HK.out (fun j e => .inr (by have e9 : j = R := e; have := HRB.out; omega))).trans2 HKS.out (fun j e => .inr (by have e9 : j = w.heap.size := e; omega)) |>.below (Nat.le_refl _) (fun k e => e.elim)
end Go.Proofs.YtmdgifmigikffaaGreat
