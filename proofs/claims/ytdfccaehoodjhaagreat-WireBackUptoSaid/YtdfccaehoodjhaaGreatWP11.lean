import Derived.WalkKit
import Derived.OpenShut
import Derived.Test.YtdfccaehoodjhaaGreatRows
import Derived.WalkSpells
import Derived.WalkLawsBesides
import Derived.Laws.AppendOwnNone
import Derived.ProofKit
import Derived.ShutString
import Derived.ChangeOld
import Derived.Below
import Derived.SizedLaws
import Derived.Deep.Slices
import Derived.Deep.AppendLies
import Derived.Deep.Strs
import Derived.Deep.RegionHeld3
import Derived.Lib.ConvBytes
import Derived.Laws.AppendOwn
import Derived.Deep.CutRange
import Derived.Deep.MidRow
import Derived.Great.Walk
import Derived.Great.BuildSlice
import Derived.Test.YtdfccaehoodjhaaGreatWP1
import Derived.Test.YtdfccaehoodjhaaGreatWP2
import Derived.Test.YtdfccaehoodjhaaGreatWP3
import Derived.Test.YtdfccaehoodjhaaGreatWP4
import Derived.Test.YtdfccaehoodjhaaGreatWP5
import Derived.Test.YtdfccaehoodjhaaGreatWP6
import Derived.Test.YtdfccaehoodjhaaGreatWP7
import Derived.Test.YtdfccaehoodjhaaGreatWP10
set_option linter.unusedVariables false
set_option linter.unusedSimpArgs false
set_option linter.unusedVariables false
set_option linter.unusedSimpArgs false
set_option maxRecDepth 100000
namespace Go.Proofs.YtdfccaehoodjhaaGreat
open Go.RowKit Go.Deep

set_option maxHeartbeats 8000000 in
theorem rOwner_any {w : World} {R : Nat} {st : Rst} (h : RAt w R st.1 st.2) (hl : st.1.length ≤ 140737488355328) :
    Calls Tryz.prog 173 #[.agg #[.pointer (some ⟨R, 0, none⟩)]] w (fun en w' => ∃ cs, en = .returned (.agg cs.toArray) ∧ RdP sOwner R w st cs w') := by
  have hb : Below w.heap.size w ((w.alloc (.cells #[.pointer (some ⟨R, 0, none⟩)] 85)).alloc (.cells #[.int .i64 0, .slice none 0 0] 205)) := ((Below.refl _ _).alloc (Nat.le_refl _) _).alloc (by simp) _
  have hz := (Below.heap_alloc (w.alloc (.cells #[.pointer (some ⟨R, 0, none⟩)] 85)) (.cells #[.int .i64 0, .slice none 0 0] 205) w.heap.size (by simp)).trans (heap_alloc_new w (.cells #[.pointer (some ⟨R, 0, none⟩)] 85))
  have hB := heap_alloc2_new w (.cells #[.pointer (some ⟨R, 0, none⟩)] 85) (.cells #[.int .i64 0, .slice none 0 0] 205)
  obtain ⟨B, hBe⟩ : ∃ B, B = w.heap.size + 1 := ⟨_, rfl⟩
  have hRw := h.lt
  have hRB : R < B := by omega
  have HR0 := hid (h.old hb)
  rw [← hBe] at hB
  have HB0 := hid hB
  have HX0 := hid hz
  have HBW := hid hb
  have HL0 := hid hl
  clear h hb hz hB hl
  go_enter Tryz.func173, Tryz.ntmps173
  go_upto_region 1 with fail
  generalize (w.alloc (.cells #[.pointer (some ⟨R, 0, none⟩)] 85)).alloc (.cells #[.int .i64 0, .slice none 0 0] 205) = w0 at *
  try rw [← hBe]
  have HK0 : Hid (Keep (fun j => j = R ∨ j = B) w0 w0) := hid (Keep.refl _ _)
  have HBE := hid hBe
  clear hBe
  have y0 := (one_cell HX0.out).1
  have CQ := hid (rtake_whole 0 HR0.out HL0.out HB0.out rfl hRB)
  go_upto_region 2 with (first | (go_at_call 88; refine CQ.out.mono ?_; rintro en w1 ⟨rfl, v0, hv⟩; have HV0 := hid hv; clear hv))
  clear CQ y0
  have HB1 : Hid (w1.heap[B]? = some (.cells #[v0, .slice none 0 0] 205 (0, 0))) := HV0.out.2.1
  have HR1 : Hid (RAt w1 R (rdF .int st).2.1 (rdF .int st).2.2) := HV0.out.2.2.1
  have HL1 : Hid ((rdF .int st).2.1.length ≤ 140737488355328) := hid (Nat.le_trans (rd_len _ _) HL0.out)
  have HX1 := hid ((HV0.out.2.2.2.block w.heap.size (lt_of_block HX0.out) (fun e => by have e9 : w.heap.size = R ∨ w.heap.size = B := e; have := HBE.out; omega)).trans HX0.out)
  have HK1 := hid (HK0.out.trans HV0.out.2.2.2)
  have HE0_1 : Hid (EncN (fun j => B < j ∧ j < w1.heap.size) w1 .int [v0] (rdF .int st).1) := hid (EncN.mono (fun j hj => ⟨Nat.lt_of_lt_of_le (lt_of_block HB0.out) hj.1, hj.2⟩) _ HV0.out.1)
  have y0 := (one_cell HX1.out).1
  have CQ := hid (rtake_data 1 HR1.out HL1.out HB1.out rfl hRB)
  go_upto_region 3 with (first | (go_at_call 82; refine CQ.out.mono ?_; rintro en w2 ⟨rfl, v1, hv⟩; have HV1 := hid hv; clear hv))
  clear CQ y0
  have HB2 : Hid (w2.heap[B]? = some (.cells #[v0, v1] 205 (0, 0))) := HV1.out.2.1
  have HR2 : Hid (RAt w2 R (rdF .data (rdF .int st).2).2.1 (rdF .data (rdF .int st).2).2.2) := HV1.out.2.2.1
  have HL2 : Hid ((rdF .data (rdF .int st).2).2.1.length ≤ 140737488355328) := hid (Nat.le_trans (rd_len _ _) HL1.out)
  have HX2 := hid ((HV1.out.2.2.2.block w.heap.size (lt_of_block HX1.out) (fun e => by have e9 : w.heap.size = R ∨ w.heap.size = B := e; have := HBE.out; omega)).trans HX1.out)
  have HK2 := hid (HK1.out.trans HV1.out.2.2.2)
  have HE1_2 : Hid (EncN (fun j => B < j ∧ j < w2.heap.size) w2 .data [v1] (rdF .data (rdF .int st).2).1) := hid (EncN.mono (fun j hj => ⟨Nat.lt_of_lt_of_le (lt_of_block HB1.out) hj.1, hj.2⟩) _ HV1.out.1)
  have HE0_2 : Hid (EncN (fun j => B < j ∧ j < w2.heap.size) w2 .int [v0] (rdF .int st).1) := hid (EncN.mono (fun j hj => ⟨hj.1, Nat.lt_of_lt_of_le hj.2 HV1.out.2.2.2.size⟩) _ (EncN.keep HV1.out.2.2.2 (fun j hj e => by have e9 : j = R ∨ j = B := e; have := hj.1; omega) _ HE0_1.out))
  clear HE0_1
  obtain ⟨y0, rfl⟩ := form_int (EncN.enc _ HE0_2.out)
  obtain ⟨y1, j1, c1, rfl⟩ := form_data (EncN.enc _ HE1_2.out)
  obtain ⟨q0, r0⟩ := row_at (cs := [(.int .i64 y0), (.slice y1 j1 c1)]) HB2.out (i := 0) rfl
  obtain ⟨q1, r1⟩ := row_at (cs := [(.int .i64 y0), (.slice y1 j1 c1)]) HB2.out (i := 1) rfl
  have hs0 : w2.heap[B]? = some (.cells ([(.int .i64 y0), (.slice y1 j1 c1)] : List Value).toArray 205 (0, 0)) := HB2.out
  have hs1 := row_put hs0 0 (.int .i64 y0)
  have hs2 := row_put hs1 1 (.slice y1 j1 c1)
  have hks : Keep (fun j => j = B) w2 ((w2.setCell ⟨B, 0, none⟩ (.int .i64 y0)).setCell ⟨B, 1, none⟩ (.slice y1 j1 c1)) := ((Keep.refl (fun j => j = B) _).trans (Keep.set (X := fun j => j = B) _ ⟨B, 0, none⟩ (.int .i64 y0) rfl)).trans (Keep.set (X := fun j => j = B) _ ⟨B, 1, none⟩ (.slice y1 j1 c1) rfl)
  have HSF : Hid (((w2.setCell ⟨B, 0, none⟩ (.int .i64 y0)).setCell ⟨B, 1, none⟩ (.slice y1 j1 c1)).heap[B]? = some (.cells #[(.int .i64 y0), (.slice y1 j1 c1)] 205 (0, 0))) := hs2
  have HKS := hid hks
  clear hks hs0 hs1 hs2
  go_wp2_with fail
  refine bodyPost_ret (results_cell_row rfl _ _ B 205 _ (0, 0) _ rfl HSF.out Tryz.underlying205 rfl (by kernel_rfl)) rfl ?_
  have hfin : ∀ (s : Sh) (cs : List Value) (bs : List UInt8), EncN (fun j => B < j ∧ j < w2.heap.size) w2 s cs bs → EncN (fun j => w.heap.size ≤ j ∧ j < ((w2.setCell ⟨B, 0, none⟩ (.int .i64 y0)).setCell ⟨B, 1, none⟩ (.slice y1 j1 c1)).heap.size) ((w2.setCell ⟨B, 0, none⟩ (.int .i64 y0)).setCell ⟨B, 1, none⟩ (.slice y1 j1 c1)) s cs bs := fun s cs bs h => EncN.mono (fun j hj => ⟨by have := HBE.out; omega, Nat.lt_of_lt_of_le hj.2 HKS.out.size⟩) s (EncN.keep HKS.out (fun j hj e => by have e9 : j = B := e; have := hj.1; omega) s h)
  refine ⟨[(.int .i64 y0), (.slice y1 j1 c1)], rfl, ?_, HR2.out.keepK HKS.out (fun j e => by have e9 : j = B := e; omega), ?_⟩
  · exact ⟨[(.int .i64 y0)], [(.slice y1 j1 c1)], _, _, rfl, rfl, hfin _ _ _ HE0_2.out, ⟨[(.slice y1 j1 c1)], [], _, _, rfl, rfl, hfin _ _ _ HE1_2.out, ⟨rfl, rfl⟩⟩⟩
  · exact (Keep.of_below HBW.out).trans2 (HK2.out.trans (HKS.out.mono (fun j _ e => .inr e))) (fun j e => by rcases e with e | e <;> first | exact .inl e | exact .inr (by have := HBE.out; omega))

set_option maxHeartbeats 8000000 in
theorem rlist_Owner {w : World} {R B : Nat} {st : Rst} {cs : List Value} {t : TypeId} (i : Nat) (h : RAt w R st.1 st.2) (hl : st.1.length ≤ 140737488355328) (hB : w.heap[B]? = some (.cells cs.toArray t (0, 0))) (hi : cs[i]? = some (.slice none 0 0)) (hRB : R < B) :
    Calls Tryz.prog 172 #[.agg #[.pointer (some ⟨R, 0, none⟩)], .pointer (some ⟨B, i, none⟩), (.func (.func 173) #[.agg #[.pointer (some ⟨R, 0, none⟩)]] #[])] w (fun en w' => en = .returned (.tuple #[]) ∧ ∃ v, TkP (.list sOwner) R B w st cs t i v w') := by
  obtain ⟨i0, hi0, hz0, hz1, hz2⟩ : ∃ i0, Tryz.prog.info? 205 = some i0 ∧ i0.zero = some (.agg #[.int .i64 0, .slice none 0 0]) ∧ i0.size = 2 ∧ i0.bytes = 32 := by
    have h9 : (Tryz.prog.info? 205).map (fun i => (i.zero, i.size, i.bytes)) = some (some (.agg #[.int .i64 0, .slice none 0 0]), 2, 32) := by kernel_rfl
    cases hq : Tryz.prog.info? 205 with
    | none => rw [hq] at h9; cases h9
    | some q => rw [hq] at h9; simp at h9; exact ⟨q, rfl, h9⟩
  have HI0 := hid (And.intro hi0 (And.intro hz0 (And.intro hz1 hz2)))
  clear hi0 hz0 hz1 hz2
  have hb : Below w.heap.size w (w.alloc (.cells #[.pointer (some ⟨R, 0, none⟩)] 85)) := (Below.refl _ _).alloc (Nat.le_refl _) _
  have hz := heap_alloc_new w (.cells #[.pointer (some ⟨R, 0, none⟩)] 85)
  have hRw := h.lt
  have hBw := lt_of_block hB
  have HRW := hid hRw
  have HBW := hid hBw
  have H := hid (h.old hb)
  have HB := hid hb
  have HF := hid ((hb.block _ hBw).trans hB)
  have HI := hid hi
  have HZ := hid hz
  have HLE := hid hl
  clear h hB hi hb hz hl
  go_enter Tryz.func172, Tryz.ntmps172
  go_upto_region 1 with fail
  generalize w.alloc (.cells #[.pointer (some ⟨R, 0, none⟩)] 85) = w1 at *
  obtain ⟨z0, z1⟩ := one_cell HZ.out
  obtain ⟨n, hn⟩ : ∃ n, n = (lookS 5000 st.1 st.2).1 := ⟨_, rfl⟩
  obtain ⟨s1, hs1⟩ : ∃ s1 : Rst, s1 = (st.1.drop (lookS 5000 st.1 st.2).2.1, (lookS 5000 st.1 st.2).2.2) := ⟨_, rfl⟩
  have HN := hid (And.intro hn hs1)
  have hn5 : n ≤ 5000 := by rw [hn]; exact lookS_most _ _ _
  have C0 : Hid (Calls Tryz.prog 166 #[.pointer (some ⟨R, 0, none⟩), .int .i64 5000] w1 (fun en w' => en = .returned (.int .i64 (n : Int)) ∧ RAt w' R s1.1 s1.2 ∧ w1.grownBy w' (some R))) := hid ((smallR_any w1 R st.1 st.2 5000 (by decide) H.out).mono (fun en w9 h9 => by rw [hn, hs1]; exact h9))
  have HS1 : Hid (s1.1.length ≤ st.1.length) := hid (by rw [hs1]; simp)
  clear hn hs1
  go_wp2_with (first | (go_at_call 166; refine C0.out.mono ?_; rintro en w2 ⟨rfl, h2, g2⟩; have H2 := hid h2; have K2 := hid (show Keep (fun j => j = R ∨ j = B) w w2 from (Keep.of_below HB.out).trans ((Keep.of_grown (X := fun j => j = R) g2 (fun j e => by cases e; rfl)).mono (fun j _ e => .inl e))); have HF2 := hid ((g2.block B (lt_of_block HF.out) (fun e => by cases e; omega)).trans HF.out); have HZ2 := hid ((g2.block w.heap.size (lt_of_block HZ.out) (fun e => by cases e; omega)).trans HZ.out); clear h2 g2))
  clear z0 z1 C0
  go_loopw [9] (fun ix wr => ∃ (k : Nat) (M : List (List Value × List UInt8)) (ao : Option Addr) (c : Nat) (sk : Rst), ix = .int .i64 (k : Int) ∧ wr.heap[w.heap.size]? = some (.cells #[.pointer (some ⟨R, 0, none⟩)] 85 (0, 0)) ∧ TLp sOwner 205 R B i w cs t n s1 wr k M ao c sk) (fun ix _ => n - (intOf ix).toNat)
  case atStart => exact ⟨0, [], none, 0, s1, rfl, HZ2.out, TLp.begin HI.out HF2.out H2.out K2.out⟩
  case round =>
    obtain ⟨k, M, ao, c, sk, rfl, hzr, ht⟩ := hrel
    have hk := ht.le
    have HT := hid ht
    have HZR := hid hzr
    clear ht hzr
    by_cases hlt : k < n
    · have hki : (k : Int) < (n : Int) := by omega
      go_upto_region 3 with fail
      have hWd : Below wr.heap.size wr wr.drew := ⟨rfl, rfl, rfl, Nat.le_refl _, fun _ _ => rfl⟩
      have HLk : Hid (sk.1.length ≤ 140737488355328) := hid (by have := HT.out.small; have := HS1.out; have := HLE.out; omega)
      have HTd : Hid (RAt wr.drew R sk.1 sk.2) := hid (HT.out.rat.old hWd)
      have HFd : Hid (wr.drew.heap[B]? = some (.cells (cs.set i (.slice ao k c)).toArray t (0, 0))) := HT.out.field
      have hli : (cs.set i (.slice ao k c))[i]? = some (.slice ao k c) := List.getElem?_set_self (List.getElem?_eq_some_iff.1 HI.out).1
      have HLI := hid hli
      clear hli
      have CN := hid (rOwner_any HTd.out HLk.out)
      have HUD : Hid (∀ mc w9, RdP sOwner R wr.drew sk mc w9 → RdP sOwner R wr sk mc w9) := hid fun _ _ h => h.undrew
      have HZd : Hid (wr.drew.heap[w.heap.size]? = some (.cells #[.pointer (some ⟨R, 0, none⟩)] 85 (0, 0))) := HZR.out
      refine wp_region_noPanic ?_
      refine wp_region_held_drew (S := fun _ => Hid True) (by kernel_rfl) (hid trivial) (fun hHeld => ?_)
      clear hWd
      obtain ⟨d0, d1⟩ := row_at HFd.out HLI.out
      generalize wr.drew = Wd at *
      have HD0 := hid d0
      clear d0 d1
      refine wpAnyH_take (i := 0) (v := (.pointer (some ⟨B, i, none⟩))) rfl (by kernel_rfl) (by kernel_rfl) (by kernel_rfl) (fun _ _ _ h => (show False from h).elim) ?xyRLOwner1 ?xhRLOwner1 ?xrRLOwner1
      case xhRLOwner1 => exact hHeld
      case xyRLOwner1 => exact Or.inl ⟨by rfl, fun W9 hW => by clear hHeld; simp only [List.getElem_toArray, List.getElem_cons_succ, List.getElem_cons_zero]; go_simp⟩
      simp only [Act.put, List.getElem_toArray, List.getElem_cons_succ, List.getElem_cons_zero, List.setIfInBounds_toArray, List.set_cons_succ, List.set_cons_zero]
      refine wpAnyH_take (i := 1) (v := (.pointer (some ⟨B, i, none⟩))) rfl (by kernel_rfl) (by kernel_rfl) (by kernel_rfl) (fun _ _ _ h => (show False from h).elim) ?xyRLOwner2 ?xhRLOwner2 ?xrRLOwner2
      case xhRLOwner2 => exact hHeld
      case xyRLOwner2 => exact Or.inl ⟨by rfl, fun W9 hW => by clear hHeld; simp only [List.getElem_toArray, List.getElem_cons_succ, List.getElem_cons_zero]; go_simp⟩
      simp only [Act.put, List.getElem_toArray, List.getElem_cons_succ, List.getElem_cons_zero, List.setIfInBounds_toArray, List.set_cons_succ, List.set_cons_zero]
      refine wpAnyH_take (i := 2) (v := (.pointer (some ⟨B, i, none⟩))) rfl (by kernel_rfl) (by kernel_rfl) (by kernel_rfl) (fun _ _ _ h => (show False from h).elim) ?xyRLOwner3 ?xhRLOwner3 ?xrRLOwner3
      case xhRLOwner3 => exact hHeld
      case xyRLOwner3 => exact Or.inl ⟨by rfl, fun W9 hW => by clear hHeld; simp only [List.getElem_toArray, List.getElem_cons_succ, List.getElem_cons_zero]; go_simp⟩
      simp only [Act.put, List.getElem_toArray, List.getElem_cons_succ, List.getElem_cons_zero, List.setIfInBounds_toArray, List.set_cons_succ, List.set_cons_zero]
      refine wpAnyH_take (i := 4) (v := (.func (.func 173) #[.agg #[.pointer (some ⟨R, 0, none⟩)]] #[])) rfl (by kernel_rfl) (by kernel_rfl) (by kernel_rfl) (fun _ _ _ h => (show False from h).elim) ?xyRLOwner4 ?xhRLOwner4 ?xrRLOwner4
      case xhRLOwner4 => exact hHeld
      case xyRLOwner4 => exact Or.inl ⟨by rfl, fun W9 hW => by clear hHeld; simp only [List.getElem_toArray, List.getElem_cons_succ, List.getElem_cons_zero]; go_simp⟩
      simp only [Act.put, List.getElem_toArray, List.getElem_cons_succ, List.getElem_cons_zero, List.setIfInBounds_toArray, List.set_cons_succ, List.set_cons_zero]
      refine wpAnyH_ready (rs := [3, 5]) (by kernel_rfl) (by simp) ?_
      refine AllReadyH.cons rfl (fun K hK => ?_) (AllReadyH.cons rfl (fun K hK => ?_) AllReadyH.nil)
      · have d0 := HD0.out
        go_simp
        refine hK.out _ _ (hid trivial) (fun hHeld => ?_)
        clear hK K d0
        refine wpAnyH_ready (rs := [5]) (by kernel_rfl) (by simp) ?_
        refine AllReadyH.cons rfl (fun K hK => ?_) AllReadyH.nil
        go_simp
        go_wp2_with (first | (go_at_call 173; refine CN.out.mono ?_; rintro en wT ⟨mc, rfl, hv⟩; obtain ⟨v0, v1, b0, b1, rfl, _, e0, e1⟩ := Owner_cells (EncN.enc _ hv.1); obtain ⟨y0, rfl⟩ := form_int e0; obtain ⟨y1, j1, c1, rfl⟩ := form_data e1; clear e0 e1; have HV := hid (HUD.out _ _ hv); have HZT := hid ((hv.2.2.block w.heap.size (lt_of_block HZd.out) (fun e => by have e9 : w.heap.size = R := e; omega)).trans HZd.out); have HFT := hid ((hv.2.2.block B (lt_of_block HFd.out) (fun e => by have e9 : B = R := e; omega)).trans HFd.out); have hdT := (World.cell?_of_block (w := Wd) (w' := wT) (a := ⟨B, i, none⟩) (hv.2.2.block B (lt_of_block HFd.out) (fun e => by have e9 : B = R := e; omega))).trans HD0.out; have HDT := hid hdT; clear hv hdT))
        refine hK.out _ _ (hid trivial) (fun hHeld => ?_)
        clear hK K
        have H3 : Hid (Below wT.heap.size wT (wT.alloc (.cells #[.int .i64 y0, .slice y1 j1 c1] 205))) := hid ((Below.refl _ _).alloc (Nat.le_refl _) _)
        have HR3 := hid (heap_alloc_new wT (.cells #[.int .i64 y0, .slice y1 j1 c1] 205))
        have HOW : Hid ((wT.alloc (.cells #[.int .i64 y0, .slice y1 j1 c1] 205)).ownsRow (w.heap.size + 1) 205 2 (.slice ao k c) k (M.map (·.1)).flatten) := hid (own_old (own_keep (X := fun j => j = R) HT.out.own (show Keep _ wr wT from HV.out.2.2) (fun j e e9 => by have e8 : j = R := e9; have := (HT.out.own.lt j e).1; omega)) H3.out)
        have HSZ : Hid (w.heap.size + 1 ≤ (wT.alloc (.cells #[.int .i64 y0, .slice y1 j1 c1] 205)).heap.size) := hid (by have := lt_of_block HZT.out; have := H3.out.size; show _ ≤ _; omega)
        refine wpAnyH_ready (rs := [6]) (by kernel_rfl) (by simp) ?_
        refine AllReadyH.cons rfl (fun K hK => ?_) AllReadyH.nil
        go_simp
        refine hK.out _ _ (hid trivial) (fun hHeld => ?_)
        clear hK K
        refine wpAnyH_ready (rs := [7]) (by kernel_rfl) (by simp) ?_
        refine AllReadyH.cons rfl (fun K hK => ?_) AllReadyH.nil
        refine step_app1 (by rfl) (.tmp 14) (.tmp 17) 51 (by rfl) (w.heap.size + 1) 205 Tryz.underlying51 HI0.out.1 HI0.out.2.1 HI0.out.2.2.1 HI0.out.2.2.2 (by simp [Value.cells]) (by decide) _ k _ (by rfl) HOW.out wT.heap.size [.int .i64 y0, .slice y1 j1 c1] (by rfl) HR3.out rfl (fun u hu => by simp only [List.mem_cons, List.not_mem_nil, or_false] at hu; rcases hu with rfl | rfl <;> rfl) (by omega) (by decide) HSZ.out (fun g cap w' o5 g5 gg5 => ?_)
        have HF4 : Hid (w'.heap[B]? = some (.cells (cs.set i (.slice ao k c)).toArray t (0, 0))) := hid (heap_kept g5 ((H3.out.block B (lt_of_block HFT.out)).trans HFT.out) (fun e => by have := (HT.out.own.lt B e.symm).1; omega))
        have HZ5 : Hid ((w'.setCell ⟨B, i, none⟩ (.slice (some ⟨g, 0, none⟩) (k + 1) cap)).heap[w.heap.size]? = some (.cells #[.pointer (some ⟨R, 0, none⟩)] 85 (0, 0))) := hid (heap_kept (grown_set w' ⟨B, i, none⟩ _) (heap_kept g5 ((H3.out.block _ (lt_of_block HZT.out)).trans HZT.out) (fun e => by have := (HT.out.own.lt _ e.symm).1; omega)) (fun e => by have e9 : w.heap.size = B := (by simpa using e); exact Nat.lt_irrefl _ (Nat.lt_of_lt_of_le HBW.out (Nat.le_of_eq e9))))
        have HNX := hid (HT.out.next HRW.out HBW.out hRB hlt (show RdP sOwner R wr sk [.int .i64 y0, .slice y1 j1 c1] wT from HV.out) H3.out o5 g5 gg5)
        clear o5 g5 gg5
        refine hK.out _ _ (hid trivial) (fun hHeld => ?_)
        clear hK K
        simp only [Act.put, List.getElem_toArray, List.getElem_cons_succ, List.getElem_cons_zero, List.setIfInBounds_toArray, List.set_cons_succ, List.set_cons_zero]
        refine wpAnyH_take (i := 8) (v := (.pointer (some ⟨B, i, none⟩))) rfl (by kernel_rfl) (by kernel_rfl) (by kernel_rfl) (fun _ _ _ h => (show False from h).elim) ?xyRLOwner5 ?xhRLOwner5 ?xrRLOwner5
        case xhRLOwner5 => exact hHeld
        case xyRLOwner5 => exact Or.inl ⟨by rfl, fun W9 hW => by clear hHeld; simp only [List.getElem_toArray, List.getElem_cons_succ, List.getElem_cons_zero]; go_simp⟩
        simp only [Act.put, List.getElem_toArray, List.getElem_cons_succ, List.getElem_cons_zero, List.setIfInBounds_toArray, List.set_cons_succ, List.set_cons_zero]
        obtain ⟨q0, q1⟩ := row_at HF4.out HLI.out
        refine wpAnyH_ready (rs := [9]) (by kernel_rfl) (by simp) ?_
        refine AllReadyH.cons rfl (fun K hK => ?_) AllReadyH.nil
        go_simp
        refine hK.out _ _ (hid trivial) (fun hHeld => ?_)
        clear hK K
        refine wpAnyH_done (by kernel_rfl) ?_ _
        refine NoPanic.normal ?_
        clear q0 q1
        generalize w'.setCell ⟨B, i, none⟩ (.slice (some ⟨g, 0, none⟩) (k + 1) cap) = w5 at *
        obtain ⟨p0, p1⟩ := one_cell HZ5.out
        have CE := hid (err_any w5 R _ _ HNX.out.1)
        obtain ⟨ev, hev⟩ : ∃ ev, ev = (rdF sOwner sk).2.2 := ⟨_, rfl⟩
        rw [← hev] at CE
        by_cases h0 : ev = 0
        · have HNE := hid (HNX.out.2.1 (by rw [← hev]; exact h0))
          subst h0
          clear hev
          go_wp2_with (first | (go_at_call 158; refine CE.out.mono ?_; rintro en w6 ⟨rfl, rfl⟩))
          go_roundw
          case rel => exact ⟨k + 1, _, _, _, _, by go_num, HZ5.out, HNE.out⟩
          case measure => simp [intOf]; omega
        · have HNE := hid (HNX.out.2.2 (by rw [← hev]; exact h0) hn5)
          have hbe : (ev != 0) = true := by simp [h0]
          clear hev
          go_wp2_with (first | (go_at_call 158; refine CE.out.mono ?_; rintro en w6 ⟨rfl, rfl⟩))
          (try simp only [Exit.inBlock, Exit.then]); refine bodyPost_ret (results_none rfl _ _ _) rfl ?_
          obtain ⟨m1, m2, m3, m4⟩ := HNE.out
          refine ⟨rfl, .slice (some ⟨g, 0, none⟩) (k + 1) cap, ?_, m2, ?_, m4⟩
          · simp only [rdF]; rw [← HN.out.1, ← HN.out.2]; exact m1
          · simp only [rdF]; rw [← HN.out.1, ← HN.out.2]; exact m3
      · go_simp
        go_wp2_with (first | (go_at_call 173; refine CN.out.mono ?_; rintro en wT ⟨mc, rfl, hv⟩; obtain ⟨v0, v1, b0, b1, rfl, _, e0, e1⟩ := Owner_cells (EncN.enc _ hv.1); obtain ⟨y0, rfl⟩ := form_int e0; obtain ⟨y1, j1, c1, rfl⟩ := form_data e1; clear e0 e1; have HV := hid (HUD.out _ _ hv); have HZT := hid ((hv.2.2.block w.heap.size (lt_of_block HZd.out) (fun e => by have e9 : w.heap.size = R := e; omega)).trans HZd.out); have HFT := hid ((hv.2.2.block B (lt_of_block HFd.out) (fun e => by have e9 : B = R := e; omega)).trans HFd.out); have hdT := (World.cell?_of_block (w := Wd) (w' := wT) (a := ⟨B, i, none⟩) (hv.2.2.block B (lt_of_block HFd.out) (fun e => by have e9 : B = R := e; omega))).trans HD0.out; have HDT := hid hdT; clear hv hdT))
        refine hK.out _ _ (hid trivial) (fun hHeld => ?_)
        clear hK K
        have H3 : Hid (Below wT.heap.size wT (wT.alloc (.cells #[.int .i64 y0, .slice y1 j1 c1] 205))) := hid ((Below.refl _ _).alloc (Nat.le_refl _) _)
        have HR3 := hid (heap_alloc_new wT (.cells #[.int .i64 y0, .slice y1 j1 c1] 205))
        have HOW : Hid ((wT.alloc (.cells #[.int .i64 y0, .slice y1 j1 c1] 205)).ownsRow (w.heap.size + 1) 205 2 (.slice ao k c) k (M.map (·.1)).flatten) := hid (own_old (own_keep (X := fun j => j = R) HT.out.own (show Keep _ wr wT from HV.out.2.2) (fun j e e9 => by have e8 : j = R := e9; have := (HT.out.own.lt j e).1; omega)) H3.out)
        have HSZ : Hid (w.heap.size + 1 ≤ (wT.alloc (.cells #[.int .i64 y0, .slice y1 j1 c1] 205)).heap.size) := hid (by have := lt_of_block HZT.out; have := H3.out.size; show _ ≤ _; omega)
        refine wpAnyH_ready (rs := [3, 6]) (by kernel_rfl) (by simp) ?_
        refine AllReadyH.cons rfl (fun K hK => ?_) (AllReadyH.cons rfl (fun K hK => ?_) AllReadyH.nil)
        · have d1 := HDT.out
          go_simp
          refine hK.out _ _ (hid trivial) (fun hHeld => ?_)
          clear hK K d1
          refine wpAnyH_ready (rs := [6]) (by kernel_rfl) (by simp) ?_
          refine AllReadyH.cons rfl (fun K hK => ?_) AllReadyH.nil
          go_simp
          refine hK.out _ _ (hid trivial) (fun hHeld => ?_)
          clear hK K
          refine wpAnyH_ready (rs := [7]) (by kernel_rfl) (by simp) ?_
          refine AllReadyH.cons rfl (fun K hK => ?_) AllReadyH.nil
          refine step_app1 (by rfl) (.tmp 14) (.tmp 17) 51 (by rfl) (w.heap.size + 1) 205 Tryz.underlying51 HI0.out.1 HI0.out.2.1 HI0.out.2.2.1 HI0.out.2.2.2 (by simp [Value.cells]) (by decide) _ k _ (by rfl) HOW.out wT.heap.size [.int .i64 y0, .slice y1 j1 c1] (by rfl) HR3.out rfl (fun u hu => by simp only [List.mem_cons, List.not_mem_nil, or_false] at hu; rcases hu with rfl | rfl <;> rfl) (by omega) (by decide) HSZ.out (fun g cap w' o5 g5 gg5 => ?_)
          have HF4 : Hid (w'.heap[B]? = some (.cells (cs.set i (.slice ao k c)).toArray t (0, 0))) := hid (heap_kept g5 ((H3.out.block B (lt_of_block HFT.out)).trans HFT.out) (fun e => by have := (HT.out.own.lt B e.symm).1; omega))
          have HZ5 : Hid ((w'.setCell ⟨B, i, none⟩ (.slice (some ⟨g, 0, none⟩) (k + 1) cap)).heap[w.heap.size]? = some (.cells #[.pointer (some ⟨R, 0, none⟩)] 85 (0, 0))) := hid (heap_kept (grown_set w' ⟨B, i, none⟩ _) (heap_kept g5 ((H3.out.block _ (lt_of_block HZT.out)).trans HZT.out) (fun e => by have := (HT.out.own.lt _ e.symm).1; omega)) (fun e => by have e9 : w.heap.size = B := (by simpa using e); exact Nat.lt_irrefl _ (Nat.lt_of_lt_of_le HBW.out (Nat.le_of_eq e9))))
          have HNX := hid (HT.out.next HRW.out HBW.out hRB hlt (show RdP sOwner R wr sk [.int .i64 y0, .slice y1 j1 c1] wT from HV.out) H3.out o5 g5 gg5)
          clear o5 g5 gg5
          refine hK.out _ _ (hid trivial) (fun hHeld => ?_)
          clear hK K
          simp only [Act.put, List.getElem_toArray, List.getElem_cons_succ, List.getElem_cons_zero, List.setIfInBounds_toArray, List.set_cons_succ, List.set_cons_zero]
          refine wpAnyH_take (i := 8) (v := (.pointer (some ⟨B, i, none⟩))) rfl (by kernel_rfl) (by kernel_rfl) (by kernel_rfl) (fun _ _ _ h => (show False from h).elim) ?xyRLOwner6 ?xhRLOwner6 ?xrRLOwner6
          case xhRLOwner6 => exact hHeld
          case xyRLOwner6 => exact Or.inl ⟨by rfl, fun W9 hW => by clear hHeld; simp only [List.getElem_toArray, List.getElem_cons_succ, List.getElem_cons_zero]; go_simp⟩
          simp only [Act.put, List.getElem_toArray, List.getElem_cons_succ, List.getElem_cons_zero, List.setIfInBounds_toArray, List.set_cons_succ, List.set_cons_zero]
          obtain ⟨q0, q1⟩ := row_at HF4.out HLI.out
          refine wpAnyH_ready (rs := [9]) (by kernel_rfl) (by simp) ?_
          refine AllReadyH.cons rfl (fun K hK => ?_) AllReadyH.nil
          go_simp
          refine hK.out _ _ (hid trivial) (fun hHeld => ?_)
          clear hK K
          refine wpAnyH_done (by kernel_rfl) ?_ _
          refine NoPanic.normal ?_
          clear q0 q1
          generalize w'.setCell ⟨B, i, none⟩ (.slice (some ⟨g, 0, none⟩) (k + 1) cap) = w5 at *
          obtain ⟨p0, p1⟩ := one_cell HZ5.out
          have CE := hid (err_any w5 R _ _ HNX.out.1)
          obtain ⟨ev, hev⟩ : ∃ ev, ev = (rdF sOwner sk).2.2 := ⟨_, rfl⟩
          rw [← hev] at CE
          by_cases h0 : ev = 0
          · have HNE := hid (HNX.out.2.1 (by rw [← hev]; exact h0))
            subst h0
            clear hev
            go_wp2_with (first | (go_at_call 158; refine CE.out.mono ?_; rintro en w6 ⟨rfl, rfl⟩))
            go_roundw
            case rel => exact ⟨k + 1, _, _, _, _, by go_num, HZ5.out, HNE.out⟩
            case measure => simp [intOf]; omega
          · have HNE := hid (HNX.out.2.2 (by rw [← hev]; exact h0) hn5)
            have hbe : (ev != 0) = true := by simp [h0]
            clear hev
            go_wp2_with (first | (go_at_call 158; refine CE.out.mono ?_; rintro en w6 ⟨rfl, rfl⟩))
            (try simp only [Exit.inBlock, Exit.then]); refine bodyPost_ret (results_none rfl _ _ _) rfl ?_
            obtain ⟨m1, m2, m3, m4⟩ := HNE.out
            refine ⟨rfl, .slice (some ⟨g, 0, none⟩) (k + 1) cap, ?_, m2, ?_, m4⟩
            · simp only [rdF]; rw [← HN.out.1, ← HN.out.2]; exact m1
            · simp only [rdF]; rw [← HN.out.1, ← HN.out.2]; exact m3
        · skip
          go_simp
          refine hK.out _ _ (hid trivial) (fun hHeld => ?_)
          clear hK K
          have d2 := (World.cell?_of_block (w := wT) (w' := wT.alloc (.cells #[.int .i64 y0, .slice y1 j1 c1] 205)) (a := ⟨B, i, none⟩) (H3.out.block B (lt_of_block HFT.out))).trans HDT.out
          refine wpAnyH_ready (rs := [3]) (by kernel_rfl) (by simp) ?_
          refine AllReadyH.cons rfl (fun K hK => ?_) AllReadyH.nil
          go_simp
          refine hK.out _ _ (hid trivial) (fun hHeld => ?_)
          clear hK K
          clear d2
          refine wpAnyH_ready (rs := [7]) (by kernel_rfl) (by simp) ?_
          refine AllReadyH.cons rfl (fun K hK => ?_) AllReadyH.nil
          refine step_app1 (by rfl) (.tmp 14) (.tmp 17) 51 (by rfl) (w.heap.size + 1) 205 Tryz.underlying51 HI0.out.1 HI0.out.2.1 HI0.out.2.2.1 HI0.out.2.2.2 (by simp [Value.cells]) (by decide) _ k _ (by rfl) HOW.out wT.heap.size [.int .i64 y0, .slice y1 j1 c1] (by rfl) HR3.out rfl (fun u hu => by simp only [List.mem_cons, List.not_mem_nil, or_false] at hu; rcases hu with rfl | rfl <;> rfl) (by omega) (by decide) HSZ.out (fun g cap w' o5 g5 gg5 => ?_)
          have HF4 : Hid (w'.heap[B]? = some (.cells (cs.set i (.slice ao k c)).toArray t (0, 0))) := hid (heap_kept g5 ((H3.out.block B (lt_of_block HFT.out)).trans HFT.out) (fun e => by have := (HT.out.own.lt B e.symm).1; omega))
          have HZ5 : Hid ((w'.setCell ⟨B, i, none⟩ (.slice (some ⟨g, 0, none⟩) (k + 1) cap)).heap[w.heap.size]? = some (.cells #[.pointer (some ⟨R, 0, none⟩)] 85 (0, 0))) := hid (heap_kept (grown_set w' ⟨B, i, none⟩ _) (heap_kept g5 ((H3.out.block _ (lt_of_block HZT.out)).trans HZT.out) (fun e => by have := (HT.out.own.lt _ e.symm).1; omega)) (fun e => by have e9 : w.heap.size = B := (by simpa using e); exact Nat.lt_irrefl _ (Nat.lt_of_lt_of_le HBW.out (Nat.le_of_eq e9))))
          have HNX := hid (HT.out.next HRW.out HBW.out hRB hlt (show RdP sOwner R wr sk [.int .i64 y0, .slice y1 j1 c1] wT from HV.out) H3.out o5 g5 gg5)
          clear o5 g5 gg5
          refine hK.out _ _ (hid trivial) (fun hHeld => ?_)
          clear hK K
          simp only [Act.put, List.getElem_toArray, List.getElem_cons_succ, List.getElem_cons_zero, List.setIfInBounds_toArray, List.set_cons_succ, List.set_cons_zero]
          refine wpAnyH_take (i := 8) (v := (.pointer (some ⟨B, i, none⟩))) rfl (by kernel_rfl) (by kernel_rfl) (by kernel_rfl) (fun _ _ _ h => (show False from h).elim) ?xyRLOwner7 ?xhRLOwner7 ?xrRLOwner7
          case xhRLOwner7 => exact hHeld
          case xyRLOwner7 => exact Or.inl ⟨by rfl, fun W9 hW => by clear hHeld; simp only [List.getElem_toArray, List.getElem_cons_succ, List.getElem_cons_zero]; go_simp⟩
          simp only [Act.put, List.getElem_toArray, List.getElem_cons_succ, List.getElem_cons_zero, List.setIfInBounds_toArray, List.set_cons_succ, List.set_cons_zero]
          obtain ⟨q0, q1⟩ := row_at HF4.out HLI.out
          refine wpAnyH_ready (rs := [9]) (by kernel_rfl) (by simp) ?_
          refine AllReadyH.cons rfl (fun K hK => ?_) AllReadyH.nil
          go_simp
          refine hK.out _ _ (hid trivial) (fun hHeld => ?_)
          clear hK K
          refine wpAnyH_done (by kernel_rfl) ?_ _
          refine NoPanic.normal ?_
          clear q0 q1
          generalize w'.setCell ⟨B, i, none⟩ (.slice (some ⟨g, 0, none⟩) (k + 1) cap) = w5 at *
          obtain ⟨p0, p1⟩ := one_cell HZ5.out
          have CE := hid (err_any w5 R _ _ HNX.out.1)
          obtain ⟨ev, hev⟩ : ∃ ev, ev = (rdF sOwner sk).2.2 := ⟨_, rfl⟩
          rw [← hev] at CE
          by_cases h0 : ev = 0
          · have HNE := hid (HNX.out.2.1 (by rw [← hev]; exact h0))
            subst h0
            clear hev
            go_wp2_with (first | (go_at_call 158; refine CE.out.mono ?_; rintro en w6 ⟨rfl, rfl⟩))
            go_roundw
            case rel => exact ⟨k + 1, _, _, _, _, by go_num, HZ5.out, HNE.out⟩
            case measure => simp [intOf]; omega
          · have HNE := hid (HNX.out.2.2 (by rw [← hev]; exact h0) hn5)
            have hbe : (ev != 0) = true := by simp [h0]
            clear hev
            go_wp2_with (first | (go_at_call 158; refine CE.out.mono ?_; rintro en w6 ⟨rfl, rfl⟩))
            (try simp only [Exit.inBlock, Exit.then]); refine bodyPost_ret (results_none rfl _ _ _) rfl ?_
            obtain ⟨m1, m2, m3, m4⟩ := HNE.out
            refine ⟨rfl, .slice (some ⟨g, 0, none⟩) (k + 1) cap, ?_, m2, ?_, m4⟩
            · simp only [rdF]; rw [← HN.out.1, ← HN.out.2]; exact m1
            · simp only [rdF]; rw [← HN.out.1, ← HN.out.2]; exact m3
    · obtain rfl : n = k := by omega
      have hki : ¬ (n : Int) < (n : Int) := by omega
      go_wp2_with fail
      go_end0
      obtain ⟨p1, p2⟩ := HT.out.done hn5
      refine ⟨rfl, .slice ao n c, ?_, HT.out.field, ?_, HT.out.keep⟩
      · simp only [rdF]; rw [← HN.out.1, ← HN.out.2]; exact p1
      · simp only [rdF]; rw [← HN.out.1, ← HN.out.2]; exact p2

end Go.Proofs.YtdfccaehoodjhaaGreat

set_option linter.unusedVariables false
set_option linter.unusedSimpArgs false
set_option maxRecDepth 100000
namespace Go.Proofs.YtdfccaehoodjhaaGreat
open Go.RowKit Go.Deep

theorem Routes_forms {W : World} {v0 v1 v2 v3 v4 : Value} {b : List UInt8} (h : Enc W sRoutes [v0, v1, v2, v3, v4] b) : (∃ y0 : Int, v0 = .int .i64 y0) ∧ (∃ y1 : Int, v1 = .int .i64 y1) ∧ (∃ (y2 : Option Addr) (j2 c2 : Nat), v2 = .slice y2 j2 c2) ∧ (∃ y3 : Int, v3 = .int .i64 y3) ∧ (∃ (y4 : Option Addr) (j4 c4 : Nat), v4 = .slice y4 j4 c4) := by
  obtain ⟨a0, a1, a2, a3, a4, b0, b1, b2, b3, b4, hc, _, e0, e1, e2, e3, e4⟩ := Routes_cells h
  simp only [List.cons.injEq, and_true] at hc
  obtain ⟨rfl, rfl, rfl, rfl, rfl⟩ := hc
  exact ⟨form_int e0, form_int e1, form_list e2, form_int e3, form_data e4⟩

set_option maxHeartbeats 8000000 in
theorem rRoutes_any {w : World} {R : Nat} {st : Rst} (h : RAt w R st.1 st.2) (hl : st.1.length ≤ 140737488355328) :
    Calls Tryz.prog 118 #[.agg #[.pointer (some ⟨R, 0, none⟩)]] w (fun en w' => ∃ cs, en = .returned (.agg cs.toArray) ∧ RdP sRoutes R w st cs w') := by
  have hb : Below w.heap.size w ((w.alloc (.cells #[.pointer (some ⟨R, 0, none⟩)] 85)).alloc (.cells #[.int .i64 0, .int .i64 0, .slice none 0 0, .int .i64 0, .slice none 0 0] 53)) := ((Below.refl _ _).alloc (Nat.le_refl _) _).alloc (by simp) _
  have hz := (Below.heap_alloc (w.alloc (.cells #[.pointer (some ⟨R, 0, none⟩)] 85)) (.cells #[.int .i64 0, .int .i64 0, .slice none 0 0, .int .i64 0, .slice none 0 0] 53) w.heap.size (by simp)).trans (heap_alloc_new w (.cells #[.pointer (some ⟨R, 0, none⟩)] 85))
  have hB := heap_alloc2_new w (.cells #[.pointer (some ⟨R, 0, none⟩)] 85) (.cells #[.int .i64 0, .int .i64 0, .slice none 0 0, .int .i64 0, .slice none 0 0] 53)
  obtain ⟨B, hBe⟩ : ∃ B, B = w.heap.size + 1 := ⟨_, rfl⟩
  have hRw := h.lt
  have hRB : R < B := by omega
  have HR0 := hid (h.old hb)
  rw [← hBe] at hB
  have HB0 := hid hB
  have HX0 := hid hz
  have HBW := hid hb
  have HL0 := hid hl
  clear h hb hz hB hl
  go_enter Tryz.func118, Tryz.ntmps118
  go_upto_region 1 with fail
  generalize (w.alloc (.cells #[.pointer (some ⟨R, 0, none⟩)] 85)).alloc (.cells #[.int .i64 0, .int .i64 0, .slice none 0 0, .int .i64 0, .slice none 0 0] 53) = w0 at *
  try rw [← hBe]
  have HK0 : Hid (Keep (fun j => j = R ∨ j = B) w0 w0) := hid (Keep.refl _ _)
  have HBE := hid hBe
  clear hBe
  have y0 := (one_cell HX0.out).1
  have CQ := hid (rtake_whole 0 HR0.out HL0.out HB0.out rfl hRB)
  go_upto_region 2 with (first | (go_at_call 88; refine CQ.out.mono ?_; rintro en w1 ⟨rfl, v0, hv⟩; have HV0 := hid hv; clear hv))
  clear CQ y0
  have HB1 : Hid (w1.heap[B]? = some (.cells #[v0, .int .i64 0, .slice none 0 0, .int .i64 0, .slice none 0 0] 53 (0, 0))) := HV0.out.2.1
  have HR1 : Hid (RAt w1 R (rdF .int st).2.1 (rdF .int st).2.2) := HV0.out.2.2.1
  have HL1 : Hid ((rdF .int st).2.1.length ≤ 140737488355328) := hid (Nat.le_trans (rd_len _ _) HL0.out)
  have HX1 := hid ((HV0.out.2.2.2.block w.heap.size (lt_of_block HX0.out) (fun e => by have e9 : w.heap.size = R ∨ w.heap.size = B := e; have := HBE.out; omega)).trans HX0.out)
  have HK1 := hid (HK0.out.trans HV0.out.2.2.2)
  have HE0_1 : Hid (EncN (fun j => B < j ∧ j < w1.heap.size) w1 .int [v0] (rdF .int st).1) := hid (EncN.mono (fun j hj => ⟨Nat.lt_of_lt_of_le (lt_of_block HB0.out) hj.1, hj.2⟩) _ HV0.out.1)
  have y0 := (one_cell HX1.out).1
  have CQ := hid (rtake_whole 1 HR1.out HL1.out HB1.out rfl hRB)
  go_upto_region 3 with (first | (go_at_call 88; refine CQ.out.mono ?_; rintro en w2 ⟨rfl, v1, hv⟩; have HV1 := hid hv; clear hv))
  clear CQ y0
  have HB2 : Hid (w2.heap[B]? = some (.cells #[v0, v1, .slice none 0 0, .int .i64 0, .slice none 0 0] 53 (0, 0))) := HV1.out.2.1
  have HR2 : Hid (RAt w2 R (rdF .int (rdF .int st).2).2.1 (rdF .int (rdF .int st).2).2.2) := HV1.out.2.2.1
  have HL2 : Hid ((rdF .int (rdF .int st).2).2.1.length ≤ 140737488355328) := hid (Nat.le_trans (rd_len _ _) HL1.out)
  have HX2 := hid ((HV1.out.2.2.2.block w.heap.size (lt_of_block HX1.out) (fun e => by have e9 : w.heap.size = R ∨ w.heap.size = B := e; have := HBE.out; omega)).trans HX1.out)
  have HK2 := hid (HK1.out.trans HV1.out.2.2.2)
  have HE1_2 : Hid (EncN (fun j => B < j ∧ j < w2.heap.size) w2 .int [v1] (rdF .int (rdF .int st).2).1) := hid (EncN.mono (fun j hj => ⟨Nat.lt_of_lt_of_le (lt_of_block HB1.out) hj.1, hj.2⟩) _ HV1.out.1)
  have HE0_2 : Hid (EncN (fun j => B < j ∧ j < w2.heap.size) w2 .int [v0] (rdF .int st).1) := hid (EncN.mono (fun j hj => ⟨hj.1, Nat.lt_of_lt_of_le hj.2 HV1.out.2.2.2.size⟩) _ (EncN.keep HV1.out.2.2.2 (fun j hj e => by have e9 : j = R ∨ j = B := e; have := hj.1; omega) _ HE0_1.out))
  clear HE0_1
  have y0 := (one_cell HX2.out).1
  have CQ := hid (rlist_Owner 2 HR2.out HL2.out HB2.out rfl hRB)
  go_upto_region 4 with (first | (go_at_call 172; refine CQ.out.mono ?_; rintro en w3 ⟨rfl, v2, hv⟩; have HV2 := hid hv; clear hv))
  clear CQ y0
  have HB3 : Hid (w3.heap[B]? = some (.cells #[v0, v1, v2, .int .i64 0, .slice none 0 0] 53 (0, 0))) := HV2.out.2.1
  have HR3 : Hid (RAt w3 R (rdF (.list sOwner) (rdF .int (rdF .int st).2).2).2.1 (rdF (.list sOwner) (rdF .int (rdF .int st).2).2).2.2) := HV2.out.2.2.1
  have HL3 : Hid ((rdF (.list sOwner) (rdF .int (rdF .int st).2).2).2.1.length ≤ 140737488355328) := hid (Nat.le_trans (rd_len _ _) HL2.out)
  have HX3 := hid ((HV2.out.2.2.2.block w.heap.size (lt_of_block HX2.out) (fun e => by have e9 : w.heap.size = R ∨ w.heap.size = B := e; have := HBE.out; omega)).trans HX2.out)
  have HK3 := hid (HK2.out.trans HV2.out.2.2.2)
  have HE2_3 : Hid (EncN (fun j => B < j ∧ j < w3.heap.size) w3 (.list sOwner) [v2] (rdF (.list sOwner) (rdF .int (rdF .int st).2).2).1) := hid (EncN.mono (fun j hj => ⟨Nat.lt_of_lt_of_le (lt_of_block HB2.out) hj.1, hj.2⟩) _ HV2.out.1)
  have HE0_3 : Hid (EncN (fun j => B < j ∧ j < w3.heap.size) w3 .int [v0] (rdF .int st).1) := hid (EncN.mono (fun j hj => ⟨hj.1, Nat.lt_of_lt_of_le hj.2 HV2.out.2.2.2.size⟩) _ (EncN.keep HV2.out.2.2.2 (fun j hj e => by have e9 : j = R ∨ j = B := e; have := hj.1; omega) _ HE0_2.out))
  have HE1_3 : Hid (EncN (fun j => B < j ∧ j < w3.heap.size) w3 .int [v1] (rdF .int (rdF .int st).2).1) := hid (EncN.mono (fun j hj => ⟨hj.1, Nat.lt_of_lt_of_le hj.2 HV2.out.2.2.2.size⟩) _ (EncN.keep HV2.out.2.2.2 (fun j hj e => by have e9 : j = R ∨ j = B := e; have := hj.1; omega) _ HE1_2.out))
  clear HE0_2 HE1_2
  have y0 := (one_cell HX3.out).1
  have CQ := hid (rtake_whole 3 HR3.out HL3.out HB3.out rfl hRB)
  go_upto_region 5 with (first | (go_at_call 88; refine CQ.out.mono ?_; rintro en w4 ⟨rfl, v3, hv⟩; have HV3 := hid hv; clear hv))
  clear CQ y0
  have HB4 : Hid (w4.heap[B]? = some (.cells #[v0, v1, v2, v3, .slice none 0 0] 53 (0, 0))) := HV3.out.2.1
  have HR4 : Hid (RAt w4 R (rdF .int (rdF (.list sOwner) (rdF .int (rdF .int st).2).2).2).2.1 (rdF .int (rdF (.list sOwner) (rdF .int (rdF .int st).2).2).2).2.2) := HV3.out.2.2.1
  have HL4 : Hid ((rdF .int (rdF (.list sOwner) (rdF .int (rdF .int st).2).2).2).2.1.length ≤ 140737488355328) := hid (Nat.le_trans (rd_len _ _) HL3.out)
  have HX4 := hid ((HV3.out.2.2.2.block w.heap.size (lt_of_block HX3.out) (fun e => by have e9 : w.heap.size = R ∨ w.heap.size = B := e; have := HBE.out; omega)).trans HX3.out)
  have HK4 := hid (HK3.out.trans HV3.out.2.2.2)
  have HE3_4 : Hid (EncN (fun j => B < j ∧ j < w4.heap.size) w4 .int [v3] (rdF .int (rdF (.list sOwner) (rdF .int (rdF .int st).2).2).2).1) := hid (EncN.mono (fun j hj => ⟨Nat.lt_of_lt_of_le (lt_of_block HB3.out) hj.1, hj.2⟩) _ HV3.out.1)
  have HE0_4 : Hid (EncN (fun j => B < j ∧ j < w4.heap.size) w4 .int [v0] (rdF .int st).1) := hid (EncN.mono (fun j hj => ⟨hj.1, Nat.lt_of_lt_of_le hj.2 HV3.out.2.2.2.size⟩) _ (EncN.keep HV3.out.2.2.2 (fun j hj e => by have e9 : j = R ∨ j = B := e; have := hj.1; omega) _ HE0_3.out))
  have HE1_4 : Hid (EncN (fun j => B < j ∧ j < w4.heap.size) w4 .int [v1] (rdF .int (rdF .int st).2).1) := hid (EncN.mono (fun j hj => ⟨hj.1, Nat.lt_of_lt_of_le hj.2 HV3.out.2.2.2.size⟩) _ (EncN.keep HV3.out.2.2.2 (fun j hj e => by have e9 : j = R ∨ j = B := e; have := hj.1; omega) _ HE1_3.out))
  have HE2_4 : Hid (EncN (fun j => B < j ∧ j < w4.heap.size) w4 (.list sOwner) [v2] (rdF (.list sOwner) (rdF .int (rdF .int st).2).2).1) := hid (EncN.mono (fun j hj => ⟨hj.1, Nat.lt_of_lt_of_le hj.2 HV3.out.2.2.2.size⟩) _ (EncN.keep HV3.out.2.2.2 (fun j hj e => by have e9 : j = R ∨ j = B := e; have := hj.1; omega) _ HE2_3.out))
  clear HE0_3 HE1_3 HE2_3
  have y0 := (one_cell HX4.out).1
  have CQ := hid (rtake_data 4 HR4.out HL4.out HB4.out rfl hRB)
  go_upto_region 6 with (first | (go_at_call 82; refine CQ.out.mono ?_; rintro en w5 ⟨rfl, v4, hv⟩; have HV4 := hid hv; clear hv))
  clear CQ y0
  have HB5 : Hid (w5.heap[B]? = some (.cells #[v0, v1, v2, v3, v4] 53 (0, 0))) := HV4.out.2.1
  have HR5 : Hid (RAt w5 R (rdF .data (rdF .int (rdF (.list sOwner) (rdF .int (rdF .int st).2).2).2).2).2.1 (rdF .data (rdF .int (rdF (.list sOwner) (rdF .int (rdF .int st).2).2).2).2).2.2) := HV4.out.2.2.1
  have HL5 : Hid ((rdF .data (rdF .int (rdF (.list sOwner) (rdF .int (rdF .int st).2).2).2).2).2.1.length ≤ 140737488355328) := hid (Nat.le_trans (rd_len _ _) HL4.out)
  have HX5 := hid ((HV4.out.2.2.2.block w.heap.size (lt_of_block HX4.out) (fun e => by have e9 : w.heap.size = R ∨ w.heap.size = B := e; have := HBE.out; omega)).trans HX4.out)
  have HK5 := hid (HK4.out.trans HV4.out.2.2.2)
  have HE4_5 : Hid (EncN (fun j => B < j ∧ j < w5.heap.size) w5 .data [v4] (rdF .data (rdF .int (rdF (.list sOwner) (rdF .int (rdF .int st).2).2).2).2).1) := hid (EncN.mono (fun j hj => ⟨Nat.lt_of_lt_of_le (lt_of_block HB4.out) hj.1, hj.2⟩) _ HV4.out.1)
  have HE0_5 : Hid (EncN (fun j => B < j ∧ j < w5.heap.size) w5 .int [v0] (rdF .int st).1) := hid (EncN.mono (fun j hj => ⟨hj.1, Nat.lt_of_lt_of_le hj.2 HV4.out.2.2.2.size⟩) _ (EncN.keep HV4.out.2.2.2 (fun j hj e => by have e9 : j = R ∨ j = B := e; have := hj.1; omega) _ HE0_4.out))
  have HE1_5 : Hid (EncN (fun j => B < j ∧ j < w5.heap.size) w5 .int [v1] (rdF .int (rdF .int st).2).1) := hid (EncN.mono (fun j hj => ⟨hj.1, Nat.lt_of_lt_of_le hj.2 HV4.out.2.2.2.size⟩) _ (EncN.keep HV4.out.2.2.2 (fun j hj e => by have e9 : j = R ∨ j = B := e; have := hj.1; omega) _ HE1_4.out))
  have HE2_5 : Hid (EncN (fun j => B < j ∧ j < w5.heap.size) w5 (.list sOwner) [v2] (rdF (.list sOwner) (rdF .int (rdF .int st).2).2).1) := hid (EncN.mono (fun j hj => ⟨hj.1, Nat.lt_of_lt_of_le hj.2 HV4.out.2.2.2.size⟩) _ (EncN.keep HV4.out.2.2.2 (fun j hj e => by have e9 : j = R ∨ j = B := e; have := hj.1; omega) _ HE2_4.out))
  have HE3_5 : Hid (EncN (fun j => B < j ∧ j < w5.heap.size) w5 .int [v3] (rdF .int (rdF (.list sOwner) (rdF .int (rdF .int st).2).2).2).1) := hid (EncN.mono (fun j hj => ⟨hj.1, Nat.lt_of_lt_of_le hj.2 HV4.out.2.2.2.size⟩) _ (EncN.keep HV4.out.2.2.2 (fun j hj e => by have e9 : j = R ∨ j = B := e; have := hj.1; omega) _ HE3_4.out))
  clear HE0_4 HE1_4 HE2_4 HE3_4
  obtain ⟨y0, rfl⟩ := form_int (EncN.enc _ HE0_5.out)
  obtain ⟨y1, rfl⟩ := form_int (EncN.enc _ HE1_5.out)
  obtain ⟨y2, j2, c2, rfl⟩ := form_list (EncN.enc _ HE2_5.out)
  obtain ⟨y3, rfl⟩ := form_int (EncN.enc _ HE3_5.out)
  obtain ⟨y4, j4, c4, rfl⟩ := form_data (EncN.enc _ HE4_5.out)
  obtain ⟨q0, r0⟩ := row_at (cs := [(.int .i64 y0), (.int .i64 y1), (.slice y2 j2 c2), (.int .i64 y3), (.slice y4 j4 c4)]) HB5.out (i := 0) rfl
  obtain ⟨q1, r1⟩ := row_at (cs := [(.int .i64 y0), (.int .i64 y1), (.slice y2 j2 c2), (.int .i64 y3), (.slice y4 j4 c4)]) HB5.out (i := 1) rfl
  obtain ⟨q2, r2⟩ := row_at (cs := [(.int .i64 y0), (.int .i64 y1), (.slice y2 j2 c2), (.int .i64 y3), (.slice y4 j4 c4)]) HB5.out (i := 2) rfl
  obtain ⟨q3, r3⟩ := row_at (cs := [(.int .i64 y0), (.int .i64 y1), (.slice y2 j2 c2), (.int .i64 y3), (.slice y4 j4 c4)]) HB5.out (i := 3) rfl
  obtain ⟨q4, r4⟩ := row_at (cs := [(.int .i64 y0), (.int .i64 y1), (.slice y2 j2 c2), (.int .i64 y3), (.slice y4 j4 c4)]) HB5.out (i := 4) rfl
  have hs0 : w5.heap[B]? = some (.cells ([(.int .i64 y0), (.int .i64 y1), (.slice y2 j2 c2), (.int .i64 y3), (.slice y4 j4 c4)] : List Value).toArray 53 (0, 0)) := HB5.out
  have hs1 := row_put hs0 0 (.int .i64 y0)
  have hs2 := row_put hs1 1 (.int .i64 y1)
  have hs3 := row_put hs2 2 (.slice y2 j2 c2)
  have hs4 := row_put hs3 3 (.int .i64 y3)
  have hs5 := row_put hs4 4 (.slice y4 j4 c4)
  have hks : Keep (fun j => j = B) w5 (((((w5.setCell ⟨B, 0, none⟩ (.int .i64 y0)).setCell ⟨B, 1, none⟩ (.int .i64 y1)).setCell ⟨B, 2, none⟩ (.slice y2 j2 c2)).setCell ⟨B, 3, none⟩ (.int .i64 y3)).setCell ⟨B, 4, none⟩ (.slice y4 j4 c4)) := (((((Keep.refl (fun j => j = B) _).trans (Keep.set (X := fun j => j = B) _ ⟨B, 0, none⟩ (.int .i64 y0) rfl)).trans (Keep.set (X := fun j => j = B) _ ⟨B, 1, none⟩ (.int .i64 y1) rfl)).trans (Keep.set (X := fun j => j = B) _ ⟨B, 2, none⟩ (.slice y2 j2 c2) rfl)).trans (Keep.set (X := fun j => j = B) _ ⟨B, 3, none⟩ (.int .i64 y3) rfl)).trans (Keep.set (X := fun j => j = B) _ ⟨B, 4, none⟩ (.slice y4 j4 c4) rfl)
  have HSF : Hid ((((((w5.setCell ⟨B, 0, none⟩ (.int .i64 y0)).setCell ⟨B, 1, none⟩ (.int .i64 y1)).setCell ⟨B, 2, none⟩ (.slice y2 j2 c2)).setCell ⟨B, 3, none⟩ (.int .i64 y3)).setCell ⟨B, 4, none⟩ (.slice y4 j4 c4)).heap[B]? = some (.cells #[(.int .i64 y0), (.int .i64 y1), (.slice y2 j2 c2), (.int .i64 y3), (.slice y4 j4 c4)] 53 (0, 0))) := hs5
  have HKS := hid hks
  clear hks hs0 hs1 hs2 hs3 hs4 hs5
  go_wp2_with fail
  refine bodyPost_ret (results_cell_row rfl _ _ B 53 _ (0, 0) _ rfl HSF.out Tryz.underlying53 rfl (by kernel_rfl)) rfl ?_
  have hfin : ∀ (s : Sh) (cs : List Value) (bs : List UInt8), EncN (fun j => B < j ∧ j < w5.heap.size) w5 s cs bs → EncN (fun j => w.heap.size ≤ j ∧ j < (((((w5.setCell ⟨B, 0, none⟩ (.int .i64 y0)).setCell ⟨B, 1, none⟩ (.int .i64 y1)).setCell ⟨B, 2, none⟩ (.slice y2 j2 c2)).setCell ⟨B, 3, none⟩ (.int .i64 y3)).setCell ⟨B, 4, none⟩ (.slice y4 j4 c4)).heap.size) (((((w5.setCell ⟨B, 0, none⟩ (.int .i64 y0)).setCell ⟨B, 1, none⟩ (.int .i64 y1)).setCell ⟨B, 2, none⟩ (.slice y2 j2 c2)).setCell ⟨B, 3, none⟩ (.int .i64 y3)).setCell ⟨B, 4, none⟩ (.slice y4 j4 c4)) s cs bs := fun s cs bs h => EncN.mono (fun j hj => ⟨by have := HBE.out; omega, Nat.lt_of_lt_of_le hj.2 HKS.out.size⟩) s (EncN.keep HKS.out (fun j hj e => by have e9 : j = B := e; have := hj.1; omega) s h)
  refine ⟨[(.int .i64 y0), (.int .i64 y1), (.slice y2 j2 c2), (.int .i64 y3), (.slice y4 j4 c4)], rfl, ?_, HR5.out.keepK HKS.out (fun j e => by have e9 : j = B := e; omega), ?_⟩
  · exact ⟨[(.int .i64 y0)], [(.int .i64 y1), (.slice y2 j2 c2), (.int .i64 y3), (.slice y4 j4 c4)], _, _, rfl, rfl, hfin _ _ _ HE0_5.out, ⟨[(.int .i64 y1)], [(.slice y2 j2 c2), (.int .i64 y3), (.slice y4 j4 c4)], _, _, rfl, rfl, hfin _ _ _ HE1_5.out, ⟨[(.slice y2 j2 c2)], [(.int .i64 y3), (.slice y4 j4 c4)], _, _, rfl, rfl, hfin _ _ _ HE2_5.out, ⟨[(.int .i64 y3)], [(.slice y4 j4 c4)], _, _, rfl, rfl, hfin _ _ _ HE3_5.out, ⟨[(.slice y4 j4 c4)], [], _, _, rfl, rfl, hfin _ _ _ HE4_5.out, ⟨rfl, rfl⟩⟩⟩⟩⟩⟩
  · exact (Keep.of_below HBW.out).trans2 (HK5.out.trans (HKS.out.mono (fun j _ e => .inr e))) (fun j e => by rcases e with e | e <;> first | exact .inl e | exact .inr (by have := HBE.out; omega))

set_option maxHeartbeats 4000000 in
theorem stake_Routes_10 {w : World} {R B : Nat} {st : Rst} {cs : List Value} {t : TypeId} {u0 u1 u2 u3 u4 : Value} (h : RAt w R st.1 st.2) (hl : st.1.length ≤ 140737488355328) (hB : w.heap[B]? = some (.cells cs.toArray t (0, 0))) (hi0 : cs[10]? = some u0) (hi1 : cs[11]? = some u1) (hi2 : cs[12]? = some u2) (hi3 : cs[13]? = some u3) (hi4 : cs[14]? = some u4) (hRB : R < B) :
    Calls Tryz.prog 117 #[.pointer (some ⟨B, 10, none⟩), (.func (.func 118) #[.agg #[.pointer (some ⟨R, 0, none⟩)]] #[])] w (fun en w' => en = .returned (.tuple #[]) ∧ ∃ v0 v1 v2 v3 v4, TkS sRoutes R B w st cs t 10 [v0, v1, v2, v3, v4] w') := by
  have C := hid (rRoutes_any h hl)
  have HB := hid hB
  have HI0 := hid hi0
  have HI1 := hid hi1
  have HI2 := hid hi2
  have HI3 := hid hi3
  have HI4 := hid hi4
  clear hB h hi0 hi1 hi2 hi3 hi4
  go_enter Tryz.func117, Tryz.ntmps117
  go_wp2_with (first | (go_at_call 118; refine C.out.mono ?_; rintro en w2 ⟨mc, rfl, hv⟩; obtain ⟨k0, k1, k2, k3, k4, b0, b1, b2, b3, b4, rfl, _, e0, e1, e2, e3, e4⟩ := Routes_cells (EncN.enc _ hv.1); obtain ⟨y0, rfl⟩ := form_int e0; obtain ⟨y1, rfl⟩ := form_int e1; obtain ⟨y2, j2, c2, rfl⟩ := form_list e2; obtain ⟨y3, rfl⟩ := form_int e3; obtain ⟨y4, j4, c4, rfl⟩ := form_data e4; clear e0 e1 e2 e3 e4; have HV := hid hv; have hB2 := (hv.2.2.block B (lt_of_block HB.out) (fun e => by have e9 : B = R := e; omega)).trans HB.out; clear hv; obtain ⟨z0, x0⟩ := row_at hB2 HI0.out; obtain ⟨z1, x1⟩ := row_at hB2 HI1.out; obtain ⟨z2, x2⟩ := row_at hB2 HI2.out; obtain ⟨z3, x3⟩ := row_at hB2 HI3.out; obtain ⟨z4, x4⟩ := row_at hB2 HI4.out; clear hB2))
  go_end0
  exact ⟨rfl, _, _, _, _, _, HV.out.storeS HB.out hRB 10⟩

end Go.Proofs.YtdfccaehoodjhaaGreat

set_option linter.unusedVariables false
set_option linter.unusedSimpArgs false
set_option maxRecDepth 100000
namespace Go.Proofs.YtdfccaehoodjhaaGreat
open Go.RowKit Go.Deep

theorem Catalog_forms {W : World} {v0 v1 v2 v3 : Value} {b : List UInt8} (h : Enc W sCatalog [v0, v1, v2, v3] b) : (∃ y0 : Int, v0 = .int .i64 y0) ∧ (∃ y1 : Int, v1 = .int .i64 y1) ∧ (∃ (y2 : Option Addr) (j2 c2 : Nat), v2 = .slice y2 j2 c2) ∧ (∃ (y3 : Option Addr) (j3 c3 : Nat), v3 = .slice y3 j3 c3) := by
  obtain ⟨a0, a1, a2, a3, b0, b1, b2, b3, hc, _, e0, e1, e2, e3⟩ := Catalog_cells h
  simp only [List.cons.injEq, and_true] at hc
  obtain ⟨rfl, rfl, rfl, rfl⟩ := hc
  exact ⟨form_int e0, form_int e1, form_list e2, form_list e3⟩

set_option maxHeartbeats 4000000 in
theorem stake_Catalog_6 {w : World} {R B : Nat} {st : Rst} {cs : List Value} {t : TypeId} {u0 u1 u2 u3 : Value} (h : RAt w R st.1 st.2) (hl : st.1.length ≤ 140737488355328) (hB : w.heap[B]? = some (.cells cs.toArray t (0, 0))) (hi0 : cs[6]? = some u0) (hi1 : cs[7]? = some u1) (hi2 : cs[8]? = some u2) (hi3 : cs[9]? = some u3) (hRB : R < B) :
    Calls Tryz.prog 116 #[.pointer (some ⟨B, 6, none⟩), (.func (.func 53) #[.agg #[.pointer (some ⟨R, 0, none⟩)]] #[])] w (fun en w' => en = .returned (.tuple #[]) ∧ ∃ v0 v1 v2 v3, TkS sCatalog R B w st cs t 6 [v0, v1, v2, v3] w') := by
  have C := hid (rCatalog_any h hl)
  have HB := hid hB
  have HI0 := hid hi0
  have HI1 := hid hi1
  have HI2 := hid hi2
  have HI3 := hid hi3
  clear hB h hi0 hi1 hi2 hi3
  go_enter Tryz.func116, Tryz.ntmps116
  go_wp2_with (first | (go_at_call 53; refine C.out.mono ?_; rintro en w2 ⟨mc, rfl, hv⟩; obtain ⟨k0, k1, k2, k3, b0, b1, b2, b3, rfl, _, e0, e1, e2, e3⟩ := Catalog_cells (EncN.enc _ hv.1); obtain ⟨y0, rfl⟩ := form_int e0; obtain ⟨y1, rfl⟩ := form_int e1; obtain ⟨y2, j2, c2, rfl⟩ := form_list e2; obtain ⟨y3, j3, c3, rfl⟩ := form_list e3; clear e0 e1 e2 e3; have HV := hid hv; have hB2 := (hv.2.2.block B (lt_of_block HB.out) (fun e => by have e9 : B = R := e; omega)).trans HB.out; clear hv; obtain ⟨z0, x0⟩ := row_at hB2 HI0.out; obtain ⟨z1, x1⟩ := row_at hB2 HI1.out; obtain ⟨z2, x2⟩ := row_at hB2 HI2.out; obtain ⟨z3, x3⟩ := row_at hB2 HI3.out; clear hB2))
  go_end0
  exact ⟨rfl, _, _, _, _, HV.out.storeS HB.out hRB 6⟩

end Go.Proofs.YtdfccaehoodjhaaGreat

set_option linter.unusedVariables false
set_option linter.unusedSimpArgs false
set_option maxRecDepth 100000
namespace Go.Proofs.YtdfccaehoodjhaaGreat
open Go.RowKit Go.Deep

theorem rdc1_Reply (s r : Sh) (st : Rst) : (rdF (.cons s r) st).1 = (rdF s st).1 ++ (rdF r (rdF s st).2).1 := rfl
theorem rdc2_Reply (s r : Sh) (st : Rst) : (rdF (.cons s r) st).2 = (rdF r (rdF s st).2).2 := rfl
theorem rdn1_Reply (st : Rst) : (rdF .nil st).1 = [] := rfl
theorem rdn2_Reply (st : Rst) : (rdF .nil st).2 = st := rfl
set_option maxHeartbeats 8000000 in
theorem rReply_any {w : World} {R : Nat} {st : Rst} (h : RAt w R st.1 st.2) (hl : st.1.length ≤ 140737488355328) :
    Calls Tryz.prog 48 #[.agg #[.pointer (some ⟨R, 0, none⟩)]] w (fun en w' => ∃ cs, en = .returned (.agg cs.toArray) ∧ RdP sReply R w st cs w') := by
  have hb : Below w.heap.size w ((w.alloc (.cells #[.pointer (some ⟨R, 0, none⟩)] 85)).alloc (.cells #[.int .i64 0, .int .u64 0, .int .i64 0, .bool false, .slice none 0 0, .slice none 0 0, .int .i64 0, .int .i64 0, .slice none 0 0, .slice none 0 0, .int .i64 0, .int .i64 0, .slice none 0 0, .int .i64 0, .slice none 0 0] 55)) := ((Below.refl _ _).alloc (Nat.le_refl _) _).alloc (by simp) _
  have hz := (Below.heap_alloc (w.alloc (.cells #[.pointer (some ⟨R, 0, none⟩)] 85)) (.cells #[.int .i64 0, .int .u64 0, .int .i64 0, .bool false, .slice none 0 0, .slice none 0 0, .int .i64 0, .int .i64 0, .slice none 0 0, .slice none 0 0, .int .i64 0, .int .i64 0, .slice none 0 0, .int .i64 0, .slice none 0 0] 55) w.heap.size (by simp)).trans (heap_alloc_new w (.cells #[.pointer (some ⟨R, 0, none⟩)] 85))
  have hB := heap_alloc2_new w (.cells #[.pointer (some ⟨R, 0, none⟩)] 85) (.cells #[.int .i64 0, .int .u64 0, .int .i64 0, .bool false, .slice none 0 0, .slice none 0 0, .int .i64 0, .int .i64 0, .slice none 0 0, .slice none 0 0, .int .i64 0, .int .i64 0, .slice none 0 0, .int .i64 0, .slice none 0 0] 55)
  obtain ⟨B, hBe⟩ : ∃ B, B = w.heap.size + 1 := ⟨_, rfl⟩
  have hRw := h.lt
  have hRB : R < B := by omega
  have HR0 := hid (h.old hb)
  rw [← hBe] at hB
  have HB0 := hid hB
  have HX0 := hid hz
  have HBW := hid hb
  have HL0 := hid hl
  clear h hb hz hB hl
  go_enter Tryz.func48, Tryz.ntmps48
  go_upto_region 1 with fail
  generalize (w.alloc (.cells #[.pointer (some ⟨R, 0, none⟩)] 85)).alloc (.cells #[.int .i64 0, .int .u64 0, .int .i64 0, .bool false, .slice none 0 0, .slice none 0 0, .int .i64 0, .int .i64 0, .slice none 0 0, .slice none 0 0, .int .i64 0, .int .i64 0, .slice none 0 0, .int .i64 0, .slice none 0 0] 55) = w0 at *
  try rw [← hBe]
  have HK0 : Hid (Keep (fun j => j = R ∨ j = B) w0 w0) := hid (Keep.refl _ _)
  have HBE := hid hBe
  clear hBe
  have y0 := (one_cell HX0.out).1
  have CQ := hid (rtake_errno 0 HR0.out HL0.out HB0.out rfl hRB)
  go_upto_region 2 with (first | (go_at_call 113; refine CQ.out.mono ?_; rintro en w1 ⟨rfl, v0, hv⟩; have HV0 := hid hv; clear hv))
  clear CQ y0
  have HB1 : Hid (w1.heap[B]? = some (.cells #[v0, .int .u64 0, .int .i64 0, .bool false, .slice none 0 0, .slice none 0 0, .int .i64 0, .int .i64 0, .slice none 0 0, .slice none 0 0, .int .i64 0, .int .i64 0, .slice none 0 0, .int .i64 0, .slice none 0 0] 55 (0, 0))) := HV0.out.2.1
  have HR1 : Hid (RAt w1 R (rdF .int st).2.1 (rdF .int st).2.2) := HV0.out.2.2.1
  have HL1 : Hid ((rdF .int st).2.1.length ≤ 140737488355328) := hid (Nat.le_trans (rd_len _ _) HL0.out)
  have HX1 := hid ((HV0.out.2.2.2.block w.heap.size (lt_of_block HX0.out) (fun e => by have e9 : w.heap.size = R ∨ w.heap.size = B := e; have := HBE.out; omega)).trans HX0.out)
  have HK1 := hid (HK0.out.trans HV0.out.2.2.2)
  have HE0_1 : Hid (EncN (fun j => B < j ∧ j < w1.heap.size) w1 .int [v0] (rdF .int st).1) := hid (EncN.mono (fun j hj => ⟨Nat.lt_of_lt_of_le (lt_of_block HB0.out) hj.1, hj.2⟩) _ HV0.out.1)
  have y0 := (one_cell HX1.out).1
  have CQ := hid (rtake_num9 1 HR1.out HL1.out HB1.out rfl hRB)
  go_upto_region 3 with (first | (go_at_call 80; refine CQ.out.mono ?_; rintro en w2 ⟨rfl, v1, hv⟩; have HV1 := hid hv; clear hv))
  clear CQ y0
  have HB2 : Hid (w2.heap[B]? = some (.cells #[v0, v1, .int .i64 0, .bool false, .slice none 0 0, .slice none 0 0, .int .i64 0, .int .i64 0, .slice none 0 0, .slice none 0 0, .int .i64 0, .int .i64 0, .slice none 0 0, .int .i64 0, .slice none 0 0] 55 (0, 0))) := HV1.out.2.1
  have HR2 : Hid (RAt w2 R (rdF .num (rdF .int st).2).2.1 (rdF .num (rdF .int st).2).2.2) := HV1.out.2.2.1
  have HL2 : Hid ((rdF .num (rdF .int st).2).2.1.length ≤ 140737488355328) := hid (Nat.le_trans (rd_len _ _) HL1.out)
  have HX2 := hid ((HV1.out.2.2.2.block w.heap.size (lt_of_block HX1.out) (fun e => by have e9 : w.heap.size = R ∨ w.heap.size = B := e; have := HBE.out; omega)).trans HX1.out)
  have HK2 := hid (HK1.out.trans HV1.out.2.2.2)
  have HE1_2 : Hid (EncN (fun j => B < j ∧ j < w2.heap.size) w2 .num [v1] (rdF .num (rdF .int st).2).1) := hid (EncN.mono (fun j hj => ⟨Nat.lt_of_lt_of_le (lt_of_block HB1.out) hj.1, hj.2⟩) _ HV1.out.1)
  have HE0_2 : Hid (EncN (fun j => B < j ∧ j < w2.heap.size) w2 .int [v0] (rdF .int st).1) := hid (EncN.mono (fun j hj => ⟨hj.1, Nat.lt_of_lt_of_le hj.2 HV1.out.2.2.2.size⟩) _ (EncN.keep HV1.out.2.2.2 (fun j hj e => by have e9 : j = R ∨ j = B := e; have := hj.1; omega) _ HE0_1.out))
  clear HE0_1
  have y0 := (one_cell HX2.out).1
  have CQ := hid (rtake_whole 2 HR2.out HL2.out HB2.out rfl hRB)
  go_upto_region 4 with (first | (go_at_call 88; refine CQ.out.mono ?_; rintro en w3 ⟨rfl, v2, hv⟩; have HV2 := hid hv; clear hv))
  clear CQ y0
  have HB3 : Hid (w3.heap[B]? = some (.cells #[v0, v1, v2, .bool false, .slice none 0 0, .slice none 0 0, .int .i64 0, .int .i64 0, .slice none 0 0, .slice none 0 0, .int .i64 0, .int .i64 0, .slice none 0 0, .int .i64 0, .slice none 0 0] 55 (0, 0))) := HV2.out.2.1
  have HR3 : Hid (RAt w3 R (rdF .int (rdF .num (rdF .int st).2).2).2.1 (rdF .int (rdF .num (rdF .int st).2).2).2.2) := HV2.out.2.2.1
  have HL3 : Hid ((rdF .int (rdF .num (rdF .int st).2).2).2.1.length ≤ 140737488355328) := hid (Nat.le_trans (rd_len _ _) HL2.out)
  have HX3 := hid ((HV2.out.2.2.2.block w.heap.size (lt_of_block HX2.out) (fun e => by have e9 : w.heap.size = R ∨ w.heap.size = B := e; have := HBE.out; omega)).trans HX2.out)
  have HK3 := hid (HK2.out.trans HV2.out.2.2.2)
  have HE2_3 : Hid (EncN (fun j => B < j ∧ j < w3.heap.size) w3 .int [v2] (rdF .int (rdF .num (rdF .int st).2).2).1) := hid (EncN.mono (fun j hj => ⟨Nat.lt_of_lt_of_le (lt_of_block HB2.out) hj.1, hj.2⟩) _ HV2.out.1)
  have HE0_3 : Hid (EncN (fun j => B < j ∧ j < w3.heap.size) w3 .int [v0] (rdF .int st).1) := hid (EncN.mono (fun j hj => ⟨hj.1, Nat.lt_of_lt_of_le hj.2 HV2.out.2.2.2.size⟩) _ (EncN.keep HV2.out.2.2.2 (fun j hj e => by have e9 : j = R ∨ j = B := e; have := hj.1; omega) _ HE0_2.out))
  have HE1_3 : Hid (EncN (fun j => B < j ∧ j < w3.heap.size) w3 .num [v1] (rdF .num (rdF .int st).2).1) := hid (EncN.mono (fun j hj => ⟨hj.1, Nat.lt_of_lt_of_le hj.2 HV2.out.2.2.2.size⟩) _ (EncN.keep HV2.out.2.2.2 (fun j hj e => by have e9 : j = R ∨ j = B := e; have := hj.1; omega) _ HE1_2.out))
  clear HE0_2 HE1_2
  have y0 := (one_cell HX3.out).1
  have CQ := hid (rtake_flag 3 HR3.out HL3.out HB3.out rfl hRB)
  go_upto_region 5 with (first | (go_at_call 90; refine CQ.out.mono ?_; rintro en w4 ⟨rfl, v3, hv⟩; have HV3 := hid hv; clear hv))
  clear CQ y0
  have HB4 : Hid (w4.heap[B]? = some (.cells #[v0, v1, v2, v3, .slice none 0 0, .slice none 0 0, .int .i64 0, .int .i64 0, .slice none 0 0, .slice none 0 0, .int .i64 0, .int .i64 0, .slice none 0 0, .int .i64 0, .slice none 0 0] 55 (0, 0))) := HV3.out.2.1
  have HR4 : Hid (RAt w4 R (rdF .bool (rdF .int (rdF .num (rdF .int st).2).2).2).2.1 (rdF .bool (rdF .int (rdF .num (rdF .int st).2).2).2).2.2) := HV3.out.2.2.1
  have HL4 : Hid ((rdF .bool (rdF .int (rdF .num (rdF .int st).2).2).2).2.1.length ≤ 140737488355328) := hid (Nat.le_trans (rd_len _ _) HL3.out)
  have HX4 := hid ((HV3.out.2.2.2.block w.heap.size (lt_of_block HX3.out) (fun e => by have e9 : w.heap.size = R ∨ w.heap.size = B := e; have := HBE.out; omega)).trans HX3.out)
  have HK4 := hid (HK3.out.trans HV3.out.2.2.2)
  have HE3_4 : Hid (EncN (fun j => B < j ∧ j < w4.heap.size) w4 .bool [v3] (rdF .bool (rdF .int (rdF .num (rdF .int st).2).2).2).1) := hid (EncN.mono (fun j hj => ⟨Nat.lt_of_lt_of_le (lt_of_block HB3.out) hj.1, hj.2⟩) _ HV3.out.1)
  have HE0_4 : Hid (EncN (fun j => B < j ∧ j < w4.heap.size) w4 .int [v0] (rdF .int st).1) := hid (EncN.mono (fun j hj => ⟨hj.1, Nat.lt_of_lt_of_le hj.2 HV3.out.2.2.2.size⟩) _ (EncN.keep HV3.out.2.2.2 (fun j hj e => by have e9 : j = R ∨ j = B := e; have := hj.1; omega) _ HE0_3.out))
  have HE1_4 : Hid (EncN (fun j => B < j ∧ j < w4.heap.size) w4 .num [v1] (rdF .num (rdF .int st).2).1) := hid (EncN.mono (fun j hj => ⟨hj.1, Nat.lt_of_lt_of_le hj.2 HV3.out.2.2.2.size⟩) _ (EncN.keep HV3.out.2.2.2 (fun j hj e => by have e9 : j = R ∨ j = B := e; have := hj.1; omega) _ HE1_3.out))
  have HE2_4 : Hid (EncN (fun j => B < j ∧ j < w4.heap.size) w4 .int [v2] (rdF .int (rdF .num (rdF .int st).2).2).1) := hid (EncN.mono (fun j hj => ⟨hj.1, Nat.lt_of_lt_of_le hj.2 HV3.out.2.2.2.size⟩) _ (EncN.keep HV3.out.2.2.2 (fun j hj e => by have e9 : j = R ∨ j = B := e; have := hj.1; omega) _ HE2_3.out))
  clear HE0_3 HE1_3 HE2_3
  have y0 := (one_cell HX4.out).1
  have CQ := hid (rlist_Pair 4 HR4.out HL4.out HB4.out rfl hRB)
  go_upto_region 6 with (first | (go_at_call 94; refine CQ.out.mono ?_; rintro en w5 ⟨rfl, v4, hv⟩; have HV4 := hid hv; clear hv))
  clear CQ y0
  have HB5 : Hid (w5.heap[B]? = some (.cells #[v0, v1, v2, v3, v4, .slice none 0 0, .int .i64 0, .int .i64 0, .slice none 0 0, .slice none 0 0, .int .i64 0, .int .i64 0, .slice none 0 0, .int .i64 0, .slice none 0 0] 55 (0, 0))) := HV4.out.2.1
  have HR5 : Hid (RAt w5 R (rdF (.list sPair) (rdF .bool (rdF .int (rdF .num (rdF .int st).2).2).2).2).2.1 (rdF (.list sPair) (rdF .bool (rdF .int (rdF .num (rdF .int st).2).2).2).2).2.2) := HV4.out.2.2.1
  have HL5 : Hid ((rdF (.list sPair) (rdF .bool (rdF .int (rdF .num (rdF .int st).2).2).2).2).2.1.length ≤ 140737488355328) := hid (Nat.le_trans (rd_len _ _) HL4.out)
  have HX5 := hid ((HV4.out.2.2.2.block w.heap.size (lt_of_block HX4.out) (fun e => by have e9 : w.heap.size = R ∨ w.heap.size = B := e; have := HBE.out; omega)).trans HX4.out)
  have HK5 := hid (HK4.out.trans HV4.out.2.2.2)
  have HE4_5 : Hid (EncN (fun j => B < j ∧ j < w5.heap.size) w5 (.list sPair) [v4] (rdF (.list sPair) (rdF .bool (rdF .int (rdF .num (rdF .int st).2).2).2).2).1) := hid (EncN.mono (fun j hj => ⟨Nat.lt_of_lt_of_le (lt_of_block HB4.out) hj.1, hj.2⟩) _ HV4.out.1)
  have HE0_5 : Hid (EncN (fun j => B < j ∧ j < w5.heap.size) w5 .int [v0] (rdF .int st).1) := hid (EncN.mono (fun j hj => ⟨hj.1, Nat.lt_of_lt_of_le hj.2 HV4.out.2.2.2.size⟩) _ (EncN.keep HV4.out.2.2.2 (fun j hj e => by have e9 : j = R ∨ j = B := e; have := hj.1; omega) _ HE0_4.out))
  have HE1_5 : Hid (EncN (fun j => B < j ∧ j < w5.heap.size) w5 .num [v1] (rdF .num (rdF .int st).2).1) := hid (EncN.mono (fun j hj => ⟨hj.1, Nat.lt_of_lt_of_le hj.2 HV4.out.2.2.2.size⟩) _ (EncN.keep HV4.out.2.2.2 (fun j hj e => by have e9 : j = R ∨ j = B := e; have := hj.1; omega) _ HE1_4.out))
  have HE2_5 : Hid (EncN (fun j => B < j ∧ j < w5.heap.size) w5 .int [v2] (rdF .int (rdF .num (rdF .int st).2).2).1) := hid (EncN.mono (fun j hj => ⟨hj.1, Nat.lt_of_lt_of_le hj.2 HV4.out.2.2.2.size⟩) _ (EncN.keep HV4.out.2.2.2 (fun j hj e => by have e9 : j = R ∨ j = B := e; have := hj.1; omega) _ HE2_4.out))
  have HE3_5 : Hid (EncN (fun j => B < j ∧ j < w5.heap.size) w5 .bool [v3] (rdF .bool (rdF .int (rdF .num (rdF .int st).2).2).2).1) := hid (EncN.mono (fun j hj => ⟨hj.1, Nat.lt_of_lt_of_le hj.2 HV4.out.2.2.2.size⟩) _ (EncN.keep HV4.out.2.2.2 (fun j hj e => by have e9 : j = R ∨ j = B := e; have := hj.1; omega) _ HE3_4.out))
  clear HE0_4 HE1_4 HE2_4 HE3_4
  have y0 := (one_cell HX5.out).1
  have CQ := hid (rlist_num 5 HR5.out HL5.out HB5.out rfl hRB)
  go_upto_region 7 with (first | (go_at_call 115; refine CQ.out.mono ?_; rintro en w6 ⟨rfl, v5, hv⟩; have HV5 := hid hv; clear hv))
  clear CQ y0
  have HB6 : Hid (w6.heap[B]? = some (.cells #[v0, v1, v2, v3, v4, v5, .int .i64 0, .int .i64 0, .slice none 0 0, .slice none 0 0, .int .i64 0, .int .i64 0, .slice none 0 0, .int .i64 0, .slice none 0 0] 55 (0, 0))) := HV5.out.2.1
  have HR6 : Hid (RAt w6 R (rdF (.list .num) (rdF (.list sPair) (rdF .bool (rdF .int (rdF .num (rdF .int st).2).2).2).2).2).2.1 (rdF (.list .num) (rdF (.list sPair) (rdF .bool (rdF .int (rdF .num (rdF .int st).2).2).2).2).2).2.2) := HV5.out.2.2.1
  have HL6 : Hid ((rdF (.list .num) (rdF (.list sPair) (rdF .bool (rdF .int (rdF .num (rdF .int st).2).2).2).2).2).2.1.length ≤ 140737488355328) := hid (Nat.le_trans (rd_len _ _) HL5.out)
  have HX6 := hid ((HV5.out.2.2.2.block w.heap.size (lt_of_block HX5.out) (fun e => by have e9 : w.heap.size = R ∨ w.heap.size = B := e; have := HBE.out; omega)).trans HX5.out)
  have HK6 := hid (HK5.out.trans HV5.out.2.2.2)
  have HE5_6 : Hid (EncN (fun j => B < j ∧ j < w6.heap.size) w6 (.list .num) [v5] (rdF (.list .num) (rdF (.list sPair) (rdF .bool (rdF .int (rdF .num (rdF .int st).2).2).2).2).2).1) := hid (EncN.mono (fun j hj => ⟨Nat.lt_of_lt_of_le (lt_of_block HB5.out) hj.1, hj.2⟩) _ HV5.out.1)
  have HE0_6 : Hid (EncN (fun j => B < j ∧ j < w6.heap.size) w6 .int [v0] (rdF .int st).1) := hid (EncN.mono (fun j hj => ⟨hj.1, Nat.lt_of_lt_of_le hj.2 HV5.out.2.2.2.size⟩) _ (EncN.keep HV5.out.2.2.2 (fun j hj e => by have e9 : j = R ∨ j = B := e; have := hj.1; omega) _ HE0_5.out))
  have HE1_6 : Hid (EncN (fun j => B < j ∧ j < w6.heap.size) w6 .num [v1] (rdF .num (rdF .int st).2).1) := hid (EncN.mono (fun j hj => ⟨hj.1, Nat.lt_of_lt_of_le hj.2 HV5.out.2.2.2.size⟩) _ (EncN.keep HV5.out.2.2.2 (fun j hj e => by have e9 : j = R ∨ j = B := e; have := hj.1; omega) _ HE1_5.out))
  have HE2_6 : Hid (EncN (fun j => B < j ∧ j < w6.heap.size) w6 .int [v2] (rdF .int (rdF .num (rdF .int st).2).2).1) := hid (EncN.mono (fun j hj => ⟨hj.1, Nat.lt_of_lt_of_le hj.2 HV5.out.2.2.2.size⟩) _ (EncN.keep HV5.out.2.2.2 (fun j hj e => by have e9 : j = R ∨ j = B := e; have := hj.1; omega) _ HE2_5.out))
  have HE3_6 : Hid (EncN (fun j => B < j ∧ j < w6.heap.size) w6 .bool [v3] (rdF .bool (rdF .int (rdF .num (rdF .int st).2).2).2).1) := hid (EncN.mono (fun j hj => ⟨hj.1, Nat.lt_of_lt_of_le hj.2 HV5.out.2.2.2.size⟩) _ (EncN.keep HV5.out.2.2.2 (fun j hj e => by have e9 : j = R ∨ j = B := e; have := hj.1; omega) _ HE3_5.out))
  have HE4_6 : Hid (EncN (fun j => B < j ∧ j < w6.heap.size) w6 (.list sPair) [v4] (rdF (.list sPair) (rdF .bool (rdF .int (rdF .num (rdF .int st).2).2).2).2).1) := hid (EncN.mono (fun j hj => ⟨hj.1, Nat.lt_of_lt_of_le hj.2 HV5.out.2.2.2.size⟩) _ (EncN.keep HV5.out.2.2.2 (fun j hj e => by have e9 : j = R ∨ j = B := e; have := hj.1; omega) _ HE4_5.out))
  clear HE0_5 HE1_5 HE2_5 HE3_5 HE4_5
  have y0 := (one_cell HX6.out).1
  have CQ := hid (stake_Catalog_6 HR6.out HL6.out HB6.out rfl rfl rfl rfl hRB)
  go_upto_region 8 with (first | (go_at_call 116; refine CQ.out.mono ?_; rintro en w7 ⟨rfl, v6_0, v6_1, v6_2, v6_3, hv⟩; have HV6 := hid hv; clear hv))
  clear CQ y0
  have HB7 : Hid (w7.heap[B]? = some (.cells #[v0, v1, v2, v3, v4, v5, v6_0, v6_1, v6_2, v6_3, .int .i64 0, .int .i64 0, .slice none 0 0, .int .i64 0, .slice none 0 0] 55 (0, 0))) := HV6.out.2.1
  have HR7 : Hid (RAt w7 R (rdF sCatalog (rdF (.list .num) (rdF (.list sPair) (rdF .bool (rdF .int (rdF .num (rdF .int st).2).2).2).2).2).2).2.1 (rdF sCatalog (rdF (.list .num) (rdF (.list sPair) (rdF .bool (rdF .int (rdF .num (rdF .int st).2).2).2).2).2).2).2.2) := HV6.out.2.2.1
  have HL7 : Hid ((rdF sCatalog (rdF (.list .num) (rdF (.list sPair) (rdF .bool (rdF .int (rdF .num (rdF .int st).2).2).2).2).2).2).2.1.length ≤ 140737488355328) := hid (Nat.le_trans (rd_len _ _) HL6.out)
  have HX7 := hid ((HV6.out.2.2.2.block w.heap.size (lt_of_block HX6.out) (fun e => by have e9 : w.heap.size = R ∨ w.heap.size = B := e; have := HBE.out; omega)).trans HX6.out)
  have HK7 := hid (HK6.out.trans HV6.out.2.2.2)
  have HE6_7 : Hid (EncN (fun j => B < j ∧ j < w7.heap.size) w7 sCatalog [v6_0, v6_1, v6_2, v6_3] (rdF sCatalog (rdF (.list .num) (rdF (.list sPair) (rdF .bool (rdF .int (rdF .num (rdF .int st).2).2).2).2).2).2).1) := hid (EncN.mono (fun j hj => ⟨Nat.lt_of_lt_of_le (lt_of_block HB6.out) hj.1, hj.2⟩) _ HV6.out.1)
  have HE0_7 : Hid (EncN (fun j => B < j ∧ j < w7.heap.size) w7 .int [v0] (rdF .int st).1) := hid (EncN.mono (fun j hj => ⟨hj.1, Nat.lt_of_lt_of_le hj.2 HV6.out.2.2.2.size⟩) _ (EncN.keep HV6.out.2.2.2 (fun j hj e => by have e9 : j = R ∨ j = B := e; have := hj.1; omega) _ HE0_6.out))
  have HE1_7 : Hid (EncN (fun j => B < j ∧ j < w7.heap.size) w7 .num [v1] (rdF .num (rdF .int st).2).1) := hid (EncN.mono (fun j hj => ⟨hj.1, Nat.lt_of_lt_of_le hj.2 HV6.out.2.2.2.size⟩) _ (EncN.keep HV6.out.2.2.2 (fun j hj e => by have e9 : j = R ∨ j = B := e; have := hj.1; omega) _ HE1_6.out))
  have HE2_7 : Hid (EncN (fun j => B < j ∧ j < w7.heap.size) w7 .int [v2] (rdF .int (rdF .num (rdF .int st).2).2).1) := hid (EncN.mono (fun j hj => ⟨hj.1, Nat.lt_of_lt_of_le hj.2 HV6.out.2.2.2.size⟩) _ (EncN.keep HV6.out.2.2.2 (fun j hj e => by have e9 : j = R ∨ j = B := e; have := hj.1; omega) _ HE2_6.out))
  have HE3_7 : Hid (EncN (fun j => B < j ∧ j < w7.heap.size) w7 .bool [v3] (rdF .bool (rdF .int (rdF .num (rdF .int st).2).2).2).1) := hid (EncN.mono (fun j hj => ⟨hj.1, Nat.lt_of_lt_of_le hj.2 HV6.out.2.2.2.size⟩) _ (EncN.keep HV6.out.2.2.2 (fun j hj e => by have e9 : j = R ∨ j = B := e; have := hj.1; omega) _ HE3_6.out))
  have HE4_7 : Hid (EncN (fun j => B < j ∧ j < w7.heap.size) w7 (.list sPair) [v4] (rdF (.list sPair) (rdF .bool (rdF .int (rdF .num (rdF .int st).2).2).2).2).1) := hid (EncN.mono (fun j hj => ⟨hj.1, Nat.lt_of_lt_of_le hj.2 HV6.out.2.2.2.size⟩) _ (EncN.keep HV6.out.2.2.2 (fun j hj e => by have e9 : j = R ∨ j = B := e; have := hj.1; omega) _ HE4_6.out))
  have HE5_7 : Hid (EncN (fun j => B < j ∧ j < w7.heap.size) w7 (.list .num) [v5] (rdF (.list .num) (rdF (.list sPair) (rdF .bool (rdF .int (rdF .num (rdF .int st).2).2).2).2).2).1) := hid (EncN.mono (fun j hj => ⟨hj.1, Nat.lt_of_lt_of_le hj.2 HV6.out.2.2.2.size⟩) _ (EncN.keep HV6.out.2.2.2 (fun j hj e => by have e9 : j = R ∨ j = B := e; have := hj.1; omega) _ HE5_6.out))
  clear HE0_6 HE1_6 HE2_6 HE3_6 HE4_6 HE5_6
  have y0 := (one_cell HX7.out).1
  have CQ := hid (stake_Routes_10 HR7.out HL7.out HB7.out rfl rfl rfl rfl rfl hRB)
  go_upto_region 9 with (first | (go_at_call 117; refine CQ.out.mono ?_; rintro en w8 ⟨rfl, v7_0, v7_1, v7_2, v7_3, v7_4, hv⟩; have HV7 := hid hv; clear hv))
  clear CQ y0
  have HB8 : Hid (w8.heap[B]? = some (.cells #[v0, v1, v2, v3, v4, v5, v6_0, v6_1, v6_2, v6_3, v7_0, v7_1, v7_2, v7_3, v7_4] 55 (0, 0))) := HV7.out.2.1
  have HR8 : Hid (RAt w8 R (rdF sRoutes (rdF sCatalog (rdF (.list .num) (rdF (.list sPair) (rdF .bool (rdF .int (rdF .num (rdF .int st).2).2).2).2).2).2).2).2.1 (rdF sRoutes (rdF sCatalog (rdF (.list .num) (rdF (.list sPair) (rdF .bool (rdF .int (rdF .num (rdF .int st).2).2).2).2).2).2).2).2.2) := HV7.out.2.2.1
  have HL8 : Hid ((rdF sRoutes (rdF sCatalog (rdF (.list .num) (rdF (.list sPair) (rdF .bool (rdF .int (rdF .num (rdF .int st).2).2).2).2).2).2).2).2.1.length ≤ 140737488355328) := hid (Nat.le_trans (rd_len _ _) HL7.out)
  have HX8 := hid ((HV7.out.2.2.2.block w.heap.size (lt_of_block HX7.out) (fun e => by have e9 : w.heap.size = R ∨ w.heap.size = B := e; have := HBE.out; omega)).trans HX7.out)
  have HK8 := hid (HK7.out.trans HV7.out.2.2.2)
  have HE7_8 : Hid (EncN (fun j => B < j ∧ j < w8.heap.size) w8 sRoutes [v7_0, v7_1, v7_2, v7_3, v7_4] (rdF sRoutes (rdF sCatalog (rdF (.list .num) (rdF (.list sPair) (rdF .bool (rdF .int (rdF .num (rdF .int st).2).2).2).2).2).2).2).1) := hid (EncN.mono (fun j hj => ⟨Nat.lt_of_lt_of_le (lt_of_block HB7.out) hj.1, hj.2⟩) _ HV7.out.1)
  have HE0_8 : Hid (EncN (fun j => B < j ∧ j < w8.heap.size) w8 .int [v0] (rdF .int st).1) := hid (EncN.mono (fun j hj => ⟨hj.1, Nat.lt_of_lt_of_le hj.2 HV7.out.2.2.2.size⟩) _ (EncN.keep HV7.out.2.2.2 (fun j hj e => by have e9 : j = R ∨ j = B := e; have := hj.1; omega) _ HE0_7.out))
  have HE1_8 : Hid (EncN (fun j => B < j ∧ j < w8.heap.size) w8 .num [v1] (rdF .num (rdF .int st).2).1) := hid (EncN.mono (fun j hj => ⟨hj.1, Nat.lt_of_lt_of_le hj.2 HV7.out.2.2.2.size⟩) _ (EncN.keep HV7.out.2.2.2 (fun j hj e => by have e9 : j = R ∨ j = B := e; have := hj.1; omega) _ HE1_7.out))
  have HE2_8 : Hid (EncN (fun j => B < j ∧ j < w8.heap.size) w8 .int [v2] (rdF .int (rdF .num (rdF .int st).2).2).1) := hid (EncN.mono (fun j hj => ⟨hj.1, Nat.lt_of_lt_of_le hj.2 HV7.out.2.2.2.size⟩) _ (EncN.keep HV7.out.2.2.2 (fun j hj e => by have e9 : j = R ∨ j = B := e; have := hj.1; omega) _ HE2_7.out))
  have HE3_8 : Hid (EncN (fun j => B < j ∧ j < w8.heap.size) w8 .bool [v3] (rdF .bool (rdF .int (rdF .num (rdF .int st).2).2).2).1) := hid (EncN.mono (fun j hj => ⟨hj.1, Nat.lt_of_lt_of_le hj.2 HV7.out.2.2.2.size⟩) _ (EncN.keep HV7.out.2.2.2 (fun j hj e => by have e9 : j = R ∨ j = B := e; have := hj.1; omega) _ HE3_7.out))
  have HE4_8 : Hid (EncN (fun j => B < j ∧ j < w8.heap.size) w8 (.list sPair) [v4] (rdF (.list sPair) (rdF .bool (rdF .int (rdF .num (rdF .int st).2).2).2).2).1) := hid (EncN.mono (fun j hj => ⟨hj.1, Nat.lt_of_lt_of_le hj.2 HV7.out.2.2.2.size⟩) _ (EncN.keep HV7.out.2.2.2 (fun j hj e => by have e9 : j = R ∨ j = B := e; have := hj.1; omega) _ HE4_7.out))
  have HE5_8 : Hid (EncN (fun j => B < j ∧ j < w8.heap.size) w8 (.list .num) [v5] (rdF (.list .num) (rdF (.list sPair) (rdF .bool (rdF .int (rdF .num (rdF .int st).2).2).2).2).2).1) := hid (EncN.mono (fun j hj => ⟨hj.1, Nat.lt_of_lt_of_le hj.2 HV7.out.2.2.2.size⟩) _ (EncN.keep HV7.out.2.2.2 (fun j hj e => by have e9 : j = R ∨ j = B := e; have := hj.1; omega) _ HE5_7.out))
  have HE6_8 : Hid (EncN (fun j => B < j ∧ j < w8.heap.size) w8 sCatalog [v6_0, v6_1, v6_2, v6_3] (rdF sCatalog (rdF (.list .num) (rdF (.list sPair) (rdF .bool (rdF .int (rdF .num (rdF .int st).2).2).2).2).2).2).1) := hid (EncN.mono (fun j hj => ⟨hj.1, Nat.lt_of_lt_of_le hj.2 HV7.out.2.2.2.size⟩) _ (EncN.keep HV7.out.2.2.2 (fun j hj e => by have e9 : j = R ∨ j = B := e; have := hj.1; omega) _ HE6_7.out))
  clear HE0_7 HE1_7 HE2_7 HE3_7 HE4_7 HE5_7 HE6_7
  obtain ⟨y0, rfl⟩ := form_int (EncN.enc _ HE0_8.out)
  obtain ⟨y1, rfl⟩ := form_num (EncN.enc _ HE1_8.out)
  obtain ⟨y2, rfl⟩ := form_int (EncN.enc _ HE2_8.out)
  obtain ⟨y3, rfl⟩ := form_bool (EncN.enc _ HE3_8.out)
  obtain ⟨y4, j4, c4, rfl⟩ := form_list (EncN.enc _ HE4_8.out)
  obtain ⟨y5, j5, c5, rfl⟩ := form_list (EncN.enc _ HE5_8.out)
  obtain ⟨⟨f6_y0, rfl⟩, ⟨f6_y1, rfl⟩, ⟨f6_y2, f6_j2, f6_c2, rfl⟩, ⟨f6_y3, f6_j3, f6_c3, rfl⟩⟩ := Catalog_forms (EncN.enc _ HE6_8.out)
  obtain ⟨⟨f7_y0, rfl⟩, ⟨f7_y1, rfl⟩, ⟨f7_y2, f7_j2, f7_c2, rfl⟩, ⟨f7_y3, rfl⟩, ⟨f7_y4, f7_j4, f7_c4, rfl⟩⟩ := Routes_forms (EncN.enc _ HE7_8.out)
  have HBN : Hid (w8.heap[B]? = some (.cells (#[(.int .i64 y0), (.int .u64 (y1 : Int)), (.int .i64 y2), (.bool y3), (.slice y4 j4 c4), (.slice y5 j5 c5), (.int .i64 f6_y0), (.int .i64 f6_y1), (.slice f6_y2 f6_j2 f6_c2), (.slice f6_y3 f6_j3 f6_c3), (.int .i64 f7_y0), (.int .i64 f7_y1), (.slice f7_y2 f7_j2 f7_c2), (.int .i64 f7_y3), (.slice f7_y4 f7_j4 f7_c4)] : Array Value) 55 (0, 0))) := HB8
  clear HB1 HB2 HB3 HB4 HB5 HB6 HB7 HB8
  have LD := cells_load (cs := [(.int .i64 y0), (.int .u64 (y1 : Int)), (.int .i64 y2), (.bool y3), (.slice y4 j4 c4), (.slice y5 j5 c5), (.int .i64 f6_y0), (.int .i64 f6_y1), (.slice f6_y2 f6_j2 f6_c2), (.slice f6_y3 f6_j3 f6_c3), (.int .i64 f7_y0), (.int .i64 f7_y1), (.slice f7_y2 f7_j2 f7_c2), (.int .i64 f7_y3), (.slice f7_y4 f7_j4 f7_c4)]) (fun i u hi => (row_at HBN.out hi).1) Tryz.underlying55 rfl (by kernel_rfl)
  have HLD := hid LD
  clear LD
  apply wp_region_lit
  refine Great.wpList_readTo rfl (some 39) rfl (.agg #[(.int .i64 y0), (.int .u64 (y1 : Int)), (.int .i64 y2), (.bool y3), (.slice y4 j4 c4), (.slice y5 j5 c5), (.int .i64 f6_y0), (.int .i64 f6_y1), (.slice f6_y2 f6_j2 f6_c2), (.slice f6_y3 f6_j3 f6_c3), (.int .i64 f7_y0), (.int .i64 f7_y1), (.slice f7_y2 f7_j2 f7_c2), (.int .i64 f7_y3), (.slice f7_y4 f7_j4 f7_c4)]) (exec_load rfl HLD.out) ?_
  simp only [Act.put, List.getElem_toArray, List.getElem_cons_succ, List.getElem_cons_zero, List.setIfInBounds_toArray, List.set_cons_succ, List.set_cons_zero]
  refine Go.wpList_store_rowTo rfl 55 _ _ rfl rfl B #[(.int .i64 y0), (.int .u64 (y1 : Int)), (.int .i64 y2), (.bool y3), (.slice y4 j4 c4), (.slice y5 j5 c5), (.int .i64 f6_y0), (.int .i64 f6_y1), (.slice f6_y2 f6_j2 f6_c2), (.slice f6_y3 f6_j3 f6_c3), (.int .i64 f7_y0), (.int .i64 f7_y1), (.slice f7_y2 f7_j2 f7_c2), (.int .i64 f7_y3), (.slice f7_y4 f7_j4 f7_c4)] rfl rfl 55 #[(.int .i64 y0), (.int .u64 (y1 : Int)), (.int .i64 y2), (.bool y3), (.slice y4 j4 c4), (.slice y5 j5 c5), (.int .i64 f6_y0), (.int .i64 f6_y1), (.slice f6_y2 f6_j2 f6_c2), (.slice f6_y3 f6_j3 f6_c3), (.int .i64 f7_y0), (.int .i64 f7_y1), (.slice f7_y2 f7_j2 f7_c2), (.int .i64 f7_y3), (.slice f7_y4 f7_j4 f7_c4)] HBN.out (by as_aux_lemma => kernel_rfl) rfl (by simp [Value.oneCell']) ?_
  rw [setRow_same HBN.out]
  go_wp2_with fail
  refine bodyPost_ret (results_cell_row rfl _ _ B 55 _ (0, 0) _ rfl HBN.out Tryz.underlying55 rfl (by kernel_rfl)) rfl ?_
  have hfin : ∀ (s : Sh) (cs : List Value) (bs : List UInt8), EncN (fun j => B < j ∧ j < w8.heap.size) w8 s cs bs → EncN (fun j => w.heap.size ≤ j ∧ j < w8.heap.size) w8 s cs bs := fun s cs bs h => EncN.mono (fun j hj => ⟨by have := HBE.out; omega, hj.2⟩) s h
  have hR9 : RAt w8 R (rdF sReply st).2.1 (rdF sReply st).2.2 := by
    have h9 := HR8.out
    simp only [sReply, rdc2_Reply, rdn2_Reply]
    exact h9
  refine ⟨[(.int .i64 y0), (.int .u64 (y1 : Int)), (.int .i64 y2), (.bool y3), (.slice y4 j4 c4), (.slice y5 j5 c5), (.int .i64 f6_y0), (.int .i64 f6_y1), (.slice f6_y2 f6_j2 f6_c2), (.slice f6_y3 f6_j3 f6_c3), (.int .i64 f7_y0), (.int .i64 f7_y1), (.slice f7_y2 f7_j2 f7_c2), (.int .i64 f7_y3), (.slice f7_y4 f7_j4 f7_c4)], rfl, ?_, hR9, ?_⟩
  · simp only [sReply, rdc1_Reply, rdc2_Reply, rdn1_Reply]
    exact ⟨[(.int .i64 y0)], [(.int .u64 (y1 : Int)), (.int .i64 y2), (.bool y3), (.slice y4 j4 c4), (.slice y5 j5 c5), (.int .i64 f6_y0), (.int .i64 f6_y1), (.slice f6_y2 f6_j2 f6_c2), (.slice f6_y3 f6_j3 f6_c3), (.int .i64 f7_y0), (.int .i64 f7_y1), (.slice f7_y2 f7_j2 f7_c2), (.int .i64 f7_y3), (.slice f7_y4 f7_j4 f7_c4)], _, _, rfl, rfl, hfin _ _ _ HE0_8.out, ⟨[(.int .u64 (y1 : Int))], [(.int .i64 y2), (.bool y3), (.slice y4 j4 c4), (.slice y5 j5 c5), (.int .i64 f6_y0), (.int .i64 f6_y1), (.slice f6_y2 f6_j2 f6_c2), (.slice f6_y3 f6_j3 f6_c3), (.int .i64 f7_y0), (.int .i64 f7_y1), (.slice f7_y2 f7_j2 f7_c2), (.int .i64 f7_y3), (.slice f7_y4 f7_j4 f7_c4)], _, _, rfl, rfl, hfin _ _ _ HE1_8.out, ⟨[(.int .i64 y2)], [(.bool y3), (.slice y4 j4 c4), (.slice y5 j5 c5), (.int .i64 f6_y0), (.int .i64 f6_y1), (.slice f6_y2 f6_j2 f6_c2), (.slice f6_y3 f6_j3 f6_c3), (.int .i64 f7_y0), (.int .i64 f7_y1), (.slice f7_y2 f7_j2 f7_c2), (.int .i64 f7_y3), (.slice f7_y4 f7_j4 f7_c4)], _, _, rfl, rfl, hfin _ _ _ HE2_8.out, ⟨[(.bool y3)], [(.slice y4 j4 c4), (.slice y5 j5 c5), (.int .i64 f6_y0), (.int .i64 f6_y1), (.slice f6_y2 f6_j2 f6_c2), (.slice f6_y3 f6_j3 f6_c3), (.int .i64 f7_y0), (.int .i64 f7_y1), (.slice f7_y2 f7_j2 f7_c2), (.int .i64 f7_y3), (.slice f7_y4 f7_j4 f7_c4)], _, _, rfl, rfl, hfin _ _ _ HE3_8.out, ⟨[(.slice y4 j4 c4)], [(.slice y5 j5 c5), (.int .i64 f6_y0), (.int .i64 f6_y1), (.slice f6_y2 f6_j2 f6_c2), (.slice f6_y3 f6_j3 f6_c3), (.int .i64 f7_y0), (.int .i64 f7_y1), (.slice f7_y2 f7_j2 f7_c2), (.int .i64 f7_y3), (.slice f7_y4 f7_j4 f7_c4)], _, _, rfl, rfl, hfin _ _ _ HE4_8.out, ⟨[(.slice y5 j5 c5)], [(.int .i64 f6_y0), (.int .i64 f6_y1), (.slice f6_y2 f6_j2 f6_c2), (.slice f6_y3 f6_j3 f6_c3), (.int .i64 f7_y0), (.int .i64 f7_y1), (.slice f7_y2 f7_j2 f7_c2), (.int .i64 f7_y3), (.slice f7_y4 f7_j4 f7_c4)], _, _, rfl, rfl, hfin _ _ _ HE5_8.out, ⟨[(.int .i64 f6_y0), (.int .i64 f6_y1), (.slice f6_y2 f6_j2 f6_c2), (.slice f6_y3 f6_j3 f6_c3)], [(.int .i64 f7_y0), (.int .i64 f7_y1), (.slice f7_y2 f7_j2 f7_c2), (.int .i64 f7_y3), (.slice f7_y4 f7_j4 f7_c4)], _, _, rfl, rfl, hfin _ _ _ HE6_8.out, ⟨[(.int .i64 f7_y0), (.int .i64 f7_y1), (.slice f7_y2 f7_j2 f7_c2), (.int .i64 f7_y3), (.slice f7_y4 f7_j4 f7_c4)], [], _, _, rfl, rfl, hfin _ _ _ HE7_8.out, ⟨rfl, rfl⟩⟩⟩⟩⟩⟩⟩⟩⟩
  · exact (Keep.of_below HBW.out).trans2 HK8.out (fun j e => by rcases e with e | e <;> first | exact .inl e | exact .inr (by have := HBE.out; omega))

end Go.Proofs.YtdfccaehoodjhaaGreat

