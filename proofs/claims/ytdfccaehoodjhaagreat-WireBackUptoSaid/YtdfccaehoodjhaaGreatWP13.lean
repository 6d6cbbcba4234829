import Derived.WalkKit
import Derived.OpenShut
import Derived.Test.YtdfccaehoodjhaaGreatRows
import Derived.WalkSpells
import Derived.WalkLawsBesides
import Derived.Laws.AppendOwnNone
import Derived.ProofKit
import Derived.ShutString
import Derived.ChangeOld
import Derived.Below
import Derived.SizedLaws
import Derived.Deep.Slices
import Derived.Deep.AppendLies
import Derived.Deep.Strs
import Derived.Deep.RegionHeld3
import Derived.Lib.ConvBytes
import Derived.Laws.AppendOwn
import Derived.Deep.CutRange
import Derived.Deep.MidRow
import Derived.Great.Walk
import Derived.Test.YtdfccaehoodjhaaGreatWP1
import Derived.Test.YtdfccaehoodjhaaGreatWP2
import Derived.Test.YtdfccaehoodjhaaGreatWP3
import Derived.Test.YtdfccaehoodjhaaGreatWP4
import Derived.Test.YtdfccaehoodjhaaGreatWP5
import Derived.Test.YtdfccaehoodjhaaGreatWP7
set_option linter.unusedVariables false
set_option linter.unusedSimpArgs false
set_option linter.unusedVariables false
set_option linter.unusedSimpArgs false
set_option maxRecDepth 100000
namespace Go.Proofs.YtdfccaehoodjhaaGreat
open Go.RowKit Go.Deep

set_option maxHeartbeats 8000000 in
theorem rWrite_any {w : World} {R : Nat} {st : Rst} (h : RAt w R st.1 st.2) (hl : st.1.length ≤ 140737488355328) :
    Calls Tryz.prog 99 #[.agg #[.pointer (some ⟨R, 0, none⟩)]] w (fun en w' => ∃ cs, en = .returned (.agg cs.toArray) ∧ RdP sWrite R w st cs w') := by
  have hb : Below w.heap.size w ((w.alloc (.cells #[.pointer (some ⟨R, 0, none⟩)] 85)).alloc (.cells #[.slice none 0 0, .slice none 0 0, .bool false] 122)) := ((Below.refl _ _).alloc (Nat.le_refl _) _).alloc (by simp) _
  have hz := (Below.heap_alloc (w.alloc (.cells #[.pointer (some ⟨R, 0, none⟩)] 85)) (.cells #[.slice none 0 0, .slice none 0 0, .bool false] 122) w.heap.size (by simp)).trans (heap_alloc_new w (.cells #[.pointer (some ⟨R, 0, none⟩)] 85))
  have hB := heap_alloc2_new w (.cells #[.pointer (some ⟨R, 0, none⟩)] 85) (.cells #[.slice none 0 0, .slice none 0 0, .bool false] 122)
  obtain ⟨B, hBe⟩ : ∃ B, B = w.heap.size + 1 := ⟨_, rfl⟩
  have hRw := h.lt
  have hRB : R < B := by omega
  have HR0 := hid (h.old hb)
  rw [← hBe] at hB
  have HB0 := hid hB
  have HX0 := hid hz
  have HBW := hid hb
  have HL0 := hid hl
  clear h hb hz hB hl
  go_enter Tryz.func99, Tryz.ntmps99
  go_upto_region 1 with fail
  generalize (w.alloc (.cells #[.pointer (some ⟨R, 0, none⟩)] 85)).alloc (.cells #[.slice none 0 0, .slice none 0 0, .bool false] 122) = w0 at *
  try rw [← hBe]
  have HK0 : Hid (Keep (fun j => j = R ∨ j = B) w0 w0) := hid (Keep.refl _ _)
  have HBE := hid hBe
  clear hBe
  have y0 := (one_cell HX0.out).1
  have CQ := hid (rtake_data 0 HR0.out HL0.out HB0.out rfl hRB)
  go_upto_region 2 with (first | (go_at_call 82; refine CQ.out.mono ?_; rintro en w1 ⟨rfl, v0, hv⟩; have HV0 := hid hv; clear hv))
  clear CQ y0
  have HB1 : Hid (w1.heap[B]? = some (.cells #[v0, .slice none 0 0, .bool false] 122 (0, 0))) := HV0.out.2.1
  have HR1 : Hid (RAt w1 R (rdF .data st).2.1 (rdF .data st).2.2) := HV0.out.2.2.1
  have HL1 : Hid ((rdF .data st).2.1.length ≤ 140737488355328) := hid (Nat.le_trans (rd_len _ _) HL0.out)
  have HX1 := hid ((HV0.out.2.2.2.block w.heap.size (lt_of_block HX0.out) (fun e => by have e9 : w.heap.size = R ∨ w.heap.size = B := e; have := HBE.out; omega)).trans HX0.out)
  have HK1 := hid (HK0.out.trans HV0.out.2.2.2)
  have HE0_1 : Hid (EncN (fun j => B < j ∧ j < w1.heap.size) w1 .data [v0] (rdF .data st).1) := hid (EncN.mono (fun j hj => ⟨Nat.lt_of_lt_of_le (lt_of_block HB0.out) hj.1, hj.2⟩) _ HV0.out.1)
  have y0 := (one_cell HX1.out).1
  have CQ := hid (rtake_data 1 HR1.out HL1.out HB1.out rfl hRB)
  go_upto_region 3 with (first | (go_at_call 82; refine CQ.out.mono ?_; rintro en w2 ⟨rfl, v1, hv⟩; have HV1 := hid hv; clear hv))
  clear CQ y0
  have HB2 : Hid (w2.heap[B]? = some (.cells #[v0, v1, .bool false] 122 (0, 0))) := HV1.out.2.1
  have HR2 : Hid (RAt w2 R (rdF .data (rdF .data st).2).2.1 (rdF .data (rdF .data st).2).2.2) := HV1.out.2.2.1
  have HL2 : Hid ((rdF .data (rdF .data st).2).2.1.length ≤ 140737488355328) := hid (Nat.le_trans (rd_len _ _) HL1.out)
  have HX2 := hid ((HV1.out.2.2.2.block w.heap.size (lt_of_block HX1.out) (fun e => by have e9 : w.heap.size = R ∨ w.heap.size = B := e; have := HBE.out; omega)).trans HX1.out)
  have HK2 := hid (HK1.out.trans HV1.out.2.2.2)
  have HE1_2 : Hid (EncN (fun j => B < j ∧ j < w2.heap.size) w2 .data [v1] (rdF .data (rdF .data st).2).1) := hid (EncN.mono (fun j hj => ⟨Nat.lt_of_lt_of_le (lt_of_block HB1.out) hj.1, hj.2⟩) _ HV1.out.1)
  have HE0_2 : Hid (EncN (fun j => B < j ∧ j < w2.heap.size) w2 .data [v0] (rdF .data st).1) := hid (EncN.mono (fun j hj => ⟨hj.1, Nat.lt_of_lt_of_le hj.2 HV1.out.2.2.2.size⟩) _ (EncN.keep HV1.out.2.2.2 (fun j hj e => by have e9 : j = R ∨ j = B := e; have := hj.1; omega) _ HE0_1.out))
  clear HE0_1
  have y0 := (one_cell HX2.out).1
  have CQ := hid (rtake_flag 2 HR2.out HL2.out HB2.out rfl hRB)
  go_upto_region 4 with (first | (go_at_call 90; refine CQ.out.mono ?_; rintro en w3 ⟨rfl, v2, hv⟩; have HV2 := hid hv; clear hv))
  clear CQ y0
  have HB3 : Hid (w3.heap[B]? = some (.cells #[v0, v1, v2] 122 (0, 0))) := HV2.out.2.1
  have HR3 : Hid (RAt w3 R (rdF .bool (rdF .data (rdF .data st).2).2).2.1 (rdF .bool (rdF .data (rdF .data st).2).2).2.2) := HV2.out.2.2.1
  have HL3 : Hid ((rdF .bool (rdF .data (rdF .data st).2).2).2.1.length ≤ 140737488355328) := hid (Nat.le_trans (rd_len _ _) HL2.out)
  have HX3 := hid ((HV2.out.2.2.2.block w.heap.size (lt_of_block HX2.out) (fun e => by have e9 : w.heap.size = R ∨ w.heap.size = B := e; have := HBE.out; omega)).trans HX2.out)
  have HK3 := hid (HK2.out.trans HV2.out.2.2.2)
  have HE2_3 : Hid (EncN (fun j => B < j ∧ j < w3.heap.size) w3 .bool [v2] (rdF .bool (rdF .data (rdF .data st).2).2).1) := hid (EncN.mono (fun j hj => ⟨Nat.lt_of_lt_of_le (lt_of_block HB2.out) hj.1, hj.2⟩) _ HV2.out.1)
  have HE0_3 : Hid (EncN (fun j => B < j ∧ j < w3.heap.size) w3 .data [v0] (rdF .data st).1) := hid (EncN.mono (fun j hj => ⟨hj.1, Nat.lt_of_lt_of_le hj.2 HV2.out.2.2.2.size⟩) _ (EncN.keep HV2.out.2.2.2 (fun j hj e => by have e9 : j = R ∨ j = B := e; have := hj.1; omega) _ HE0_2.out))
  have HE1_3 : Hid (EncN (fun j => B < j ∧ j < w3.heap.size) w3 .data [v1] (rdF .data (rdF .data st).2).1) := hid (EncN.mono (fun j hj => ⟨hj.1, Nat.lt_of_lt_of_le hj.2 HV2.out.2.2.2.size⟩) _ (EncN.keep HV2.out.2.2.2 (fun j hj e => by have e9 : j = R ∨ j = B := e; have := hj.1; omega) _ HE1_2.out))
  clear HE0_2 HE1_2
  obtain ⟨y0, j0, c0, rfl⟩ := form_data (EncN.enc _ HE0_3.out)
  obtain ⟨y1, j1, c1, rfl⟩ := form_data (EncN.enc _ HE1_3.out)
  obtain ⟨y2, rfl⟩ := form_bool (EncN.enc _ HE2_3.out)
  obtain ⟨q0, r0⟩ := row_at (cs := [(.slice y0 j0 c0), (.slice y1 j1 c1), (.bool y2)]) HB3.out (i := 0) rfl
  obtain ⟨q1, r1⟩ := row_at (cs := [(.slice y0 j0 c0), (.slice y1 j1 c1), (.bool y2)]) HB3.out (i := 1) rfl
  obtain ⟨q2, r2⟩ := row_at (cs := [(.slice y0 j0 c0), (.slice y1 j1 c1), (.bool y2)]) HB3.out (i := 2) rfl
  have hs0 : w3.heap[B]? = some (.cells ([(.slice y0 j0 c0), (.slice y1 j1 c1), (.bool y2)] : List Value).toArray 122 (0, 0)) := HB3.out
  have hs1 := row_put hs0 0 (.slice y0 j0 c0)
  have hs2 := row_put hs1 1 (.slice y1 j1 c1)
  have hs3 := row_put hs2 2 (.bool y2)
  have hks : Keep (fun j => j = B) w3 (((w3.setCell ⟨B, 0, none⟩ (.slice y0 j0 c0)).setCell ⟨B, 1, none⟩ (.slice y1 j1 c1)).setCell ⟨B, 2, none⟩ (.bool y2)) := (((Keep.refl (fun j => j = B) _).trans (Keep.set (X := fun j => j = B) _ ⟨B, 0, none⟩ (.slice y0 j0 c0) rfl)).trans (Keep.set (X := fun j => j = B) _ ⟨B, 1, none⟩ (.slice y1 j1 c1) rfl)).trans (Keep.set (X := fun j => j = B) _ ⟨B, 2, none⟩ (.bool y2) rfl)
  have HSF : Hid ((((w3.setCell ⟨B, 0, none⟩ (.slice y0 j0 c0)).setCell ⟨B, 1, none⟩ (.slice y1 j1 c1)).setCell ⟨B, 2, none⟩ (.bool y2)).heap[B]? = some (.cells #[(.slice y0 j0 c0), (.slice y1 j1 c1), (.bool y2)] 122 (0, 0))) := hs3
  have HKS := hid hks
  clear hks hs0 hs1 hs2 hs3
  go_wp2_with fail
  refine bodyPost_ret (results_cell_row rfl _ _ B 122 _ (0, 0) _ rfl HSF.out Tryz.underlying122 rfl (by kernel_rfl)) rfl ?_
  have hfin : ∀ (s : Sh) (cs : List Value) (bs : List UInt8), EncN (fun j => B < j ∧ j < w3.heap.size) w3 s cs bs → EncN (fun j => w.heap.size ≤ j ∧ j < (((w3.setCell ⟨B, 0, none⟩ (.slice y0 j0 c0)).setCell ⟨B, 1, none⟩ (.slice y1 j1 c1)).setCell ⟨B, 2, none⟩ (.bool y2)).heap.size) (((w3.setCell ⟨B, 0, none⟩ (.slice y0 j0 c0)).setCell ⟨B, 1, none⟩ (.slice y1 j1 c1)).setCell ⟨B, 2, none⟩ (.bool y2)) s cs bs := fun s cs bs h => EncN.mono (fun j hj => ⟨by have := HBE.out; omega, Nat.lt_of_lt_of_le hj.2 HKS.out.size⟩) s (EncN.keep HKS.out (fun j hj e => by have e9 : j = B := e; have := hj.1; omega) s h)
  refine ⟨[(.slice y0 j0 c0), (.slice y1 j1 c1), (.bool y2)], rfl, ?_, HR3.out.keepK HKS.out (fun j e => by have e9 : j = B := e; omega), ?_⟩
  · exact ⟨[(.slice y0 j0 c0)], [(.slice y1 j1 c1), (.bool y2)], _, _, rfl, rfl, hfin _ _ _ HE0_3.out, ⟨[(.slice y1 j1 c1)], [(.bool y2)], _, _, rfl, rfl, hfin _ _ _ HE1_3.out, ⟨[(.bool y2)], [], _, _, rfl, rfl, hfin _ _ _ HE2_3.out, ⟨rfl, rfl⟩⟩⟩⟩
  · exact (Keep.of_below HBW.out).trans2 (HK3.out.trans (HKS.out.mono (fun j _ e => .inr e))) (fun j e => by rcases e with e | e <;> first | exact .inl e | exact .inr (by have := HBE.out; omega))

set_option maxHeartbeats 8000000 in
theorem rlist_Write {w : World} {R B : Nat} {st : Rst} {cs : List Value} {t : TypeId} (i : Nat) (h : RAt w R st.1 st.2) (hl : st.1.length ≤ 140737488355328) (hB : w.heap[B]? = some (.cells cs.toArray t (0, 0))) (hi : cs[i]? = some (.slice none 0 0)) (hRB : R < B) :
    Calls Tryz.prog 98 #[.agg #[.pointer (some ⟨R, 0, none⟩)], .pointer (some ⟨B, i, none⟩), (.func (.func 99) #[.agg #[.pointer (some ⟨R, 0, none⟩)]] #[])] w (fun en w' => en = .returned (.tuple #[]) ∧ ∃ v, TkP (.list sWrite) R B w st cs t i v w') := by
  obtain ⟨i0, hi0, hz0, hz1, hz2⟩ : ∃ i0, Tryz.prog.info? 122 = some i0 ∧ i0.zero = some (.agg #[.slice none 0 0, .slice none 0 0, .bool false]) ∧ i0.size = 3 ∧ i0.bytes = 56 := by
    have h9 : (Tryz.prog.info? 122).map (fun i => (i.zero, i.size, i.bytes)) = some (some (.agg #[.slice none 0 0, .slice none 0 0, .bool false]), 3, 56) := by kernel_rfl
    cases hq : Tryz.prog.info? 122 with
    | none => rw [hq] at h9; cases h9
    | some q => rw [hq] at h9; simp at h9; exact ⟨q, rfl, h9⟩
  have HI0 := hid (And.intro hi0 (And.intro hz0 (And.intro hz1 hz2)))
  clear hi0 hz0 hz1 hz2
  have hb : Below w.heap.size w (w.alloc (.cells #[.pointer (some ⟨R, 0, none⟩)] 85)) := (Below.refl _ _).alloc (Nat.le_refl _) _
  have hz := heap_alloc_new w (.cells #[.pointer (some ⟨R, 0, none⟩)] 85)
  have hRw := h.lt
  have hBw := lt_of_block hB
  have HRW := hid hRw
  have HBW := hid hBw
  have H := hid (h.old hb)
  have HB := hid hb
  have HF := hid ((hb.block _ hBw).trans hB)
  have HI := hid hi
  have HZ := hid hz
  have HLE := hid hl
  clear h hB hi hb hz hl
  go_enter Tryz.func98, Tryz.ntmps98
  go_upto_region 1 with fail
  generalize w.alloc (.cells #[.pointer (some ⟨R, 0, none⟩)] 85) = w1 at *
  obtain ⟨z0, z1⟩ := one_cell HZ.out
  obtain ⟨n, hn⟩ : ∃ n, n = (lookS 5000 st.1 st.2).1 := ⟨_, rfl⟩
  obtain ⟨s1, hs1⟩ : ∃ s1 : Rst, s1 = (st.1.drop (lookS 5000 st.1 st.2).2.1, (lookS 5000 st.1 st.2).2.2) := ⟨_, rfl⟩
  have HN := hid (And.intro hn hs1)
  have hn5 : n ≤ 5000 := by rw [hn]; exact lookS_most _ _ _
  have C0 : Hid (Calls Tryz.prog 166 #[.pointer (some ⟨R, 0, none⟩), .int .i64 5000] w1 (fun en w' => en = .returned (.int .i64 (n : Int)) ∧ RAt w' R s1.1 s1.2 ∧ w1.grownBy w' (some R))) := hid ((smallR_any w1 R st.1 st.2 5000 (by decide) H.out).mono (fun en w9 h9 => by rw [hn, hs1]; exact h9))
  have HS1 : Hid (s1.1.length ≤ st.1.length) := hid (by rw [hs1]; simp)
  clear hn hs1
  go_wp2_with (first | (go_at_call 166; refine C0.out.mono ?_; rintro en w2 ⟨rfl, h2, g2⟩; have H2 := hid h2; have K2 := hid (show Keep (fun j => j = R ∨ j = B) w w2 from (Keep.of_below HB.out).trans ((Keep.of_grown (X := fun j => j = R) g2 (fun j e => by cases e; rfl)).mono (fun j _ e => .inl e))); have HF2 := hid ((g2.block B (lt_of_block HF.out) (fun e => by cases e; omega)).trans HF.out); have HZ2 := hid ((g2.block w.heap.size (lt_of_block HZ.out) (fun e => by cases e; omega)).trans HZ.out); clear h2 g2))
  clear z0 z1 C0
  go_loopw [9] (fun ix wr => ∃ (k : Nat) (M : List (List Value × List UInt8)) (ao : Option Addr) (c : Nat) (sk : Rst), ix = .int .i64 (k : Int) ∧ wr.heap[w.heap.size]? = some (.cells #[.pointer (some ⟨R, 0, none⟩)] 85 (0, 0)) ∧ TLp sWrite 122 R B i w cs t n s1 wr k M ao c sk) (fun ix _ => n - (intOf ix).toNat)
  case atStart => exact ⟨0, [], none, 0, s1, rfl, HZ2.out, TLp.begin HI.out HF2.out H2.out K2.out⟩
  case round =>
    obtain ⟨k, M, ao, c, sk, rfl, hzr, ht⟩ := hrel
    have hk := ht.le
    have HT := hid ht
    have HZR := hid hzr
    clear ht hzr
    by_cases hlt : k < n
    · have hki : (k : Int) < (n : Int) := by omega
      go_upto_region 3 with fail
      have hWd : Below wr.heap.size wr wr.drew := ⟨rfl, rfl, rfl, Nat.le_refl _, fun _ _ => rfl⟩
      have HLk : Hid (sk.1.length ≤ 140737488355328) := hid (by have := HT.out.small; have := HS1.out; have := HLE.out; omega)
      have HTd : Hid (RAt wr.drew R sk.1 sk.2) := hid (HT.out.rat.old hWd)
      have HFd : Hid (wr.drew.heap[B]? = some (.cells (cs.set i (.slice ao k c)).toArray t (0, 0))) := HT.out.field
      have hli : (cs.set i (.slice ao k c))[i]? = some (.slice ao k c) := List.getElem?_set_self (List.getElem?_eq_some_iff.1 HI.out).1
      have HLI := hid hli
      clear hli
      have CN := hid (rWrite_any HTd.out HLk.out)
      have HUD : Hid (∀ mc w9, RdP sWrite R wr.drew sk mc w9 → RdP sWrite R wr sk mc w9) := hid fun _ _ h => h.undrew
      have HZd : Hid (wr.drew.heap[w.heap.size]? = some (.cells #[.pointer (some ⟨R, 0, none⟩)] 85 (0, 0))) := HZR.out
      refine wp_region_noPanic ?_
      refine wp_region_held_drew (S := fun _ => Hid True) (by kernel_rfl) (hid trivial) (fun hHeld => ?_)
      clear hWd
      obtain ⟨d0, d1⟩ := row_at HFd.out HLI.out
      generalize wr.drew = Wd at *
      have HD0 := hid d0
      clear d0 d1
      refine wpAnyH_take (i := 0) (v := (.pointer (some ⟨B, i, none⟩))) rfl (by kernel_rfl) (by kernel_rfl) (by kernel_rfl) (fun _ _ _ h => (show False from h).elim) ?xyRLWrite1 ?xhRLWrite1 ?xrRLWrite1
      case xhRLWrite1 => exact hHeld
      case xyRLWrite1 => exact Or.inl ⟨by rfl, fun W9 hW => by clear hHeld; simp only [List.getElem_toArray, List.getElem_cons_succ, List.getElem_cons_zero]; go_simp⟩
      simp only [Act.put, List.getElem_toArray, List.getElem_cons_succ, List.getElem_cons_zero, List.setIfInBounds_toArray, List.set_cons_succ, List.set_cons_zero]
      refine wpAnyH_take (i := 1) (v := (.pointer (some ⟨B, i, none⟩))) rfl (by kernel_rfl) (by kernel_rfl) (by kernel_rfl) (fun _ _ _ h => (show False from h).elim) ?xyRLWrite2 ?xhRLWrite2 ?xrRLWrite2
      case xhRLWrite2 => exact hHeld
      case xyRLWrite2 => exact Or.inl ⟨by rfl, fun W9 hW => by clear hHeld; simp only [List.getElem_toArray, List.getElem_cons_succ, List.getElem_cons_zero]; go_simp⟩
      simp only [Act.put, List.getElem_toArray, List.getElem_cons_succ, List.getElem_cons_zero, List.setIfInBounds_toArray, List.set_cons_succ, List.set_cons_zero]
      refine wpAnyH_take (i := 2) (v := (.pointer (some ⟨B, i, none⟩))) rfl (by kernel_rfl) (by kernel_rfl) (by kernel_rfl) (fun _ _ _ h => (show False from h).elim) ?xyRLWrite3 ?xhRLWrite3 ?xrRLWrite3
      case xhRLWrite3 => exact hHeld
      case xyRLWrite3 => exact Or.inl ⟨by rfl, fun W9 hW => by clear hHeld; simp only [List.getElem_toArray, List.getElem_cons_succ, List.getElem_cons_zero]; go_simp⟩
      simp only [Act.put, List.getElem_toArray, List.getElem_cons_succ, List.getElem_cons_zero, List.setIfInBounds_toArray, List.set_cons_succ, List.set_cons_zero]
      refine wpAnyH_take (i := 4) (v := (.func (.func 99) #[.agg #[.pointer (some ⟨R, 0, none⟩)]] #[])) rfl (by kernel_rfl) (by kernel_rfl) (by kernel_rfl) (fun _ _ _ h => (show False from h).elim) ?xyRLWrite4 ?xhRLWrite4 ?xrRLWrite4
      case xhRLWrite4 => exact hHeld
      case xyRLWrite4 => exact Or.inl ⟨by rfl, fun W9 hW => by clear hHeld; simp only [List.getElem_toArray, List.getElem_cons_succ, List.getElem_cons_zero]; go_simp⟩
      simp only [Act.put, List.getElem_toArray, List.getElem_cons_succ, List.getElem_cons_zero, List.setIfInBounds_toArray, List.set_cons_succ, List.set_cons_zero]
      refine wpAnyH_ready (rs := [3, 5]) (by kernel_rfl) (by simp) ?_
      refine AllReadyH.cons rfl (fun K hK => ?_) (AllReadyH.cons rfl (fun K hK => ?_) AllReadyH.nil)
      · have d0 := HD0.out
        go_simp
        refine hK.out _ _ (hid trivial) (fun hHeld => ?_)
        clear hK K d0
        refine wpAnyH_ready (rs := [5]) (by kernel_rfl) (by simp) ?_
        refine AllReadyH.cons rfl (fun K hK => ?_) AllReadyH.nil
        go_simp
        go_wp2_with (first | (go_at_call 99; refine CN.out.mono ?_; rintro en wT ⟨mc, rfl, hv⟩; obtain ⟨v0, v1, v2, b0, b1, b2, rfl, _, e0, e1, e2⟩ := Write_cells (EncN.enc _ hv.1); obtain ⟨y0, j0, c0, rfl⟩ := form_data e0; obtain ⟨y1, j1, c1, rfl⟩ := form_data e1; obtain ⟨y2, rfl⟩ := form_bool e2; clear e0 e1 e2; have HV := hid (HUD.out _ _ hv); have HZT := hid ((hv.2.2.block w.heap.size (lt_of_block HZd.out) (fun e => by have e9 : w.heap.size = R := e; omega)).trans HZd.out); have HFT := hid ((hv.2.2.block B (lt_of_block HFd.out) (fun e => by have e9 : B = R := e; omega)).trans HFd.out); have hdT := (World.cell?_of_block (w := Wd) (w' := wT) (a := ⟨B, i, none⟩) (hv.2.2.block B (lt_of_block HFd.out) (fun e => by have e9 : B = R := e; omega))).trans HD0.out; have HDT := hid hdT; clear hv hdT))
        refine hK.out _ _ (hid trivial) (fun hHeld => ?_)
        clear hK K
        have H3 : Hid (Below wT.heap.size wT (wT.alloc (.cells #[.slice y0 j0 c0, .slice y1 j1 c1, .bool y2] 122))) := hid ((Below.refl _ _).alloc (Nat.le_refl _) _)
        have HR3 := hid (heap_alloc_new wT (.cells #[.slice y0 j0 c0, .slice y1 j1 c1, .bool y2] 122))
        have HOW : Hid ((wT.alloc (.cells #[.slice y0 j0 c0, .slice y1 j1 c1, .bool y2] 122)).ownsRow (w.heap.size + 1) 122 3 (.slice ao k c) k (M.map (·.1)).flatten) := hid (own_old (own_keep (X := fun j => j = R) HT.out.own (show Keep _ wr wT from HV.out.2.2) (fun j e e9 => by have e8 : j = R := e9; have := (HT.out.own.lt j e).1; omega)) H3.out)
        have HSZ : Hid (w.heap.size + 1 ≤ (wT.alloc (.cells #[.slice y0 j0 c0, .slice y1 j1 c1, .bool y2] 122)).heap.size) := hid (by have := lt_of_block HZT.out; have := H3.out.size; show _ ≤ _; omega)
        refine wpAnyH_ready (rs := [6]) (by kernel_rfl) (by simp) ?_
        refine AllReadyH.cons rfl (fun K hK => ?_) AllReadyH.nil
        go_simp
        refine hK.out _ _ (hid trivial) (fun hHeld => ?_)
        clear hK K
        refine wpAnyH_ready (rs := [7]) (by kernel_rfl) (by simp) ?_
        refine AllReadyH.cons rfl (fun K hK => ?_) AllReadyH.nil
        refine step_app1 (by rfl) (.tmp 14) (.tmp 17) 35 (by rfl) (w.heap.size + 1) 122 Tryz.underlying35 HI0.out.1 HI0.out.2.1 HI0.out.2.2.1 HI0.out.2.2.2 (by simp [Value.cells]) (by decide) _ k _ (by rfl) HOW.out wT.heap.size [.slice y0 j0 c0, .slice y1 j1 c1, .bool y2] (by rfl) HR3.out rfl (fun u hu => by simp only [List.mem_cons, List.not_mem_nil, or_false] at hu; rcases hu with rfl | rfl | rfl <;> rfl) (by omega) (by decide) HSZ.out (fun g cap w' o5 g5 gg5 => ?_)
        have HF4 : Hid (w'.heap[B]? = some (.cells (cs.set i (.slice ao k c)).toArray t (0, 0))) := hid (heap_kept g5 ((H3.out.block B (lt_of_block HFT.out)).trans HFT.out) (fun e => by have := (HT.out.own.lt B e.symm).1; omega))
        have HZ5 : Hid ((w'.setCell ⟨B, i, none⟩ (.slice (some ⟨g, 0, none⟩) (k + 1) cap)).heap[w.heap.size]? = some (.cells #[.pointer (some ⟨R, 0, none⟩)] 85 (0, 0))) := hid (heap_kept (grown_set w' ⟨B, i, none⟩ _) (heap_kept g5 ((H3.out.block _ (lt_of_block HZT.out)).trans HZT.out) (fun e => by have := (HT.out.own.lt _ e.symm).1; omega)) (fun e => by have e9 : w.heap.size = B := (by simpa using e); exact Nat.lt_irrefl _ (Nat.lt_of_lt_of_le HBW.out (Nat.le_of_eq e9))))
        have HNX := hid (HT.out.next HRW.out HBW.out hRB hlt (show RdP sWrite R wr sk [.slice y0 j0 c0, .slice y1 j1 c1, .bool y2] wT from HV.out) H3.out o5 g5 gg5)
        clear o5 g5 gg5
        refine hK.out _ _ (hid trivial) (fun hHeld => ?_)
        clear hK K
        simp only [Act.put, List.getElem_toArray, List.getElem_cons_succ, List.getElem_cons_zero, List.setIfInBounds_toArray, List.set_cons_succ, List.set_cons_zero]
        refine wpAnyH_take (i := 8) (v := (.pointer (some ⟨B, i, none⟩))) rfl (by kernel_rfl) (by kernel_rfl) (by kernel_rfl) (fun _ _ _ h => (show False from h).elim) ?xyRLWrite5 ?xhRLWrite5 ?xrRLWrite5
        case xhRLWrite5 => exact hHeld
        case xyRLWrite5 => exact Or.inl ⟨by rfl, fun W9 hW => by clear hHeld; simp only [List.getElem_toArray, List.getElem_cons_succ, List.getElem_cons_zero]; go_simp⟩
        simp only [Act.put, List.getElem_toArray, List.getElem_cons_succ, List.getElem_cons_zero, List.setIfInBounds_toArray, List.set_cons_succ, List.set_cons_zero]
        obtain ⟨q0, q1⟩ := row_at HF4.out HLI.out
        refine wpAnyH_ready (rs := [9]) (by kernel_rfl) (by simp) ?_
        refine AllReadyH.cons rfl (fun K hK => ?_) AllReadyH.nil
        go_simp
        refine hK.out _ _ (hid trivial) (fun hHeld => ?_)
        clear hK K
        refine wpAnyH_done (by kernel_rfl) ?_ _
        refine NoPanic.normal ?_
        clear q0 q1
        generalize w'.setCell ⟨B, i, none⟩ (.slice (some ⟨g, 0, none⟩) (k + 1) cap) = w5 at *
        obtain ⟨p0, p1⟩ := one_cell HZ5.out
        have CE := hid (err_any w5 R _ _ HNX.out.1)
        obtain ⟨ev, hev⟩ : ∃ ev, ev = (rdF sWrite sk).2.2 := ⟨_, rfl⟩
        rw [← hev] at CE
        by_cases h0 : ev = 0
        · have HNE := hid (HNX.out.2.1 (by rw [← hev]; exact h0))
          subst h0
          clear hev
          go_wp2_with (first | (go_at_call 158; refine CE.out.mono ?_; rintro en w6 ⟨rfl, rfl⟩))
          go_roundw
          case rel => exact ⟨k + 1, _, _, _, _, by go_num, HZ5.out, HNE.out⟩
          case measure => simp [intOf]; omega
        · have HNE := hid (HNX.out.2.2 (by rw [← hev]; exact h0) hn5)
          have hbe : (ev != 0) = true := by simp [h0]
          clear hev
          go_wp2_with (first | (go_at_call 158; refine CE.out.mono ?_; rintro en w6 ⟨rfl, rfl⟩))
          (try simp only [Exit.inBlock, Exit.then]); refine bodyPost_ret (results_none rfl _ _ _) rfl ?_
          obtain ⟨m1, m2, m3, m4⟩ := HNE.out
          refine ⟨rfl, .slice (some ⟨g, 0, none⟩) (k + 1) cap, ?_, m2, ?_, m4⟩
          · simp only [rdF]; rw [← HN.out.1, ← HN.out.2]; exact m1
          · simp only [rdF]; rw [← HN.out.1, ← HN.out.2]; exact m3
      · go_simp
        go_wp2_with (first | (go_at_call 99; refine CN.out.mono ?_; rintro en wT ⟨mc, rfl, hv⟩; obtain ⟨v0, v1, v2, b0, b1, b2, rfl, _, e0, e1, e2⟩ := Write_cells (EncN.enc _ hv.1); obtain ⟨y0, j0, c0, rfl⟩ := form_data e0; obtain ⟨y1, j1, c1, rfl⟩ := form_data e1; obtain ⟨y2, rfl⟩ := form_bool e2; clear e0 e1 e2; have HV := hid (HUD.out _ _ hv); have HZT := hid ((hv.2.2.block w.heap.size (lt_of_block HZd.out) (fun e => by have e9 : w.heap.size = R := e; omega)).trans HZd.out); have HFT := hid ((hv.2.2.block B (lt_of_block HFd.out) (fun e => by have e9 : B = R := e; omega)).trans HFd.out); have hdT := (World.cell?_of_block (w := Wd) (w' := wT) (a := ⟨B, i, none⟩) (hv.2.2.block B (lt_of_block HFd.out) (fun e => by have e9 : B = R := e; omega))).trans HD0.out; have HDT := hid hdT; clear hv hdT))
        refine hK.out _ _ (hid trivial) (fun hHeld => ?_)
        clear hK K
        have H3 : Hid (Below wT.heap.size wT (wT.alloc (.cells #[.slice y0 j0 c0, .slice y1 j1 c1, .bool y2] 122))) := hid ((Below.refl _ _).alloc (Nat.le_refl _) _)
        have HR3 := hid (heap_alloc_new wT (.cells #[.slice y0 j0 c0, .slice y1 j1 c1, .bool y2] 122))
        have HOW : Hid ((wT.alloc (.cells #[.slice y0 j0 c0, .slice y1 j1 c1, .bool y2] 122)).ownsRow (w.heap.size + 1) 122 3 (.slice ao k c) k (M.map (·.1)).flatten) := hid (own_old (own_keep (X := fun j => j = R) HT.out.own (show Keep _ wr wT from HV.out.2.2) (fun j e e9 => by have e8 : j = R := e9; have := (HT.out.own.lt j e).1; omega)) H3.out)
        have HSZ : Hid (w.heap.size + 1 ≤ (wT.alloc (.cells #[.slice y0 j0 c0, .slice y1 j1 c1, .bool y2] 122)).heap.size) := hid (by have := lt_of_block HZT.out; have := H3.out.size; show _ ≤ _; omega)
        refine wpAnyH_ready (rs := [3, 6]) (by kernel_rfl) (by simp) ?_
        refine AllReadyH.cons rfl (fun K hK => ?_) (AllReadyH.cons rfl (fun K hK => ?_) AllReadyH.nil)
        · have d1 := HDT.out
          go_simp
          refine hK.out _ _ (hid trivial) (fun hHeld => ?_)
          clear hK K d1
          refine wpAnyH_ready (rs := [6]) (by kernel_rfl) (by simp) ?_
          refine AllReadyH.cons rfl (fun K hK => ?_) AllReadyH.nil
          go_simp
          refine hK.out _ _ (hid trivial) (fun hHeld => ?_)
          clear hK K
          refine wpAnyH_ready (rs := [7]) (by kernel_rfl) (by simp) ?_
          refine AllReadyH.cons rfl (fun K hK => ?_) AllReadyH.nil
          refine step_app1 (by rfl) (.tmp 14) (.tmp 17) 35 (by rfl) (w.heap.size + 1) 122 Tryz.underlying35 HI0.out.1 HI0.out.2.1 HI0.out.2.2.1 HI0.out.2.2.2 (by simp [Value.cells]) (by decide) _ k _ (by rfl) HOW.out wT.heap.size [.slice y0 j0 c0, .slice y1 j1 c1, .bool y2] (by rfl) HR3.out rfl (fun u hu => by simp only [List.mem_cons, List.not_mem_nil, or_false] at hu; rcases hu with rfl | rfl | rfl <;> rfl) (by omega) (by decide) HSZ.out (fun g cap w' o5 g5 gg5 => ?_)
          have HF4 : Hid (w'.heap[B]? = some (.cells (cs.set i (.slice ao k c)).toArray t (0, 0))) := hid (heap_kept g5 ((H3.out.block B (lt_of_block HFT.out)).trans HFT.out) (fun e => by have := (HT.out.own.lt B e.symm).1; omega))
          have HZ5 : Hid ((w'.setCell ⟨B, i, none⟩ (.slice (some ⟨g, 0, none⟩) (k + 1) cap)).heap[w.heap.size]? = some (.cells #[.pointer (some ⟨R, 0, none⟩)] 85 (0, 0))) := hid (heap_kept (grown_set w' ⟨B, i, none⟩ _) (heap_kept g5 ((H3.out.block _ (lt_of_block HZT.out)).trans HZT.out) (fun e => by have := (HT.out.own.lt _ e.symm).1; omega)) (fun e => by have e9 : w.heap.size = B := (by simpa using e); exact Nat.lt_irrefl _ (Nat.lt_of_lt_of_le HBW.out (Nat.le_of_eq e9))))
          have HNX := hid (HT.out.next HRW.out HBW.out hRB hlt (show RdP sWrite R wr sk [.slice y0 j0 c0, .slice y1 j1 c1, .bool y2] wT from HV.out) H3.out o5 g5 gg5)
          clear o5 g5 gg5
          refine hK.out _ _ (hid trivial) (fun hHeld => ?_)
          clear hK K
          simp only [Act.put, List.getElem_toArray, List.getElem_cons_succ, List.getElem_cons_zero, List.setIfInBounds_toArray, List.set_cons_succ, List.set_cons_zero]
          refine wpAnyH_take (i := 8) (v := (.pointer (some ⟨B, i, none⟩))) rfl (by kernel_rfl) (by kernel_rfl) (by kernel_rfl) (fun _ _ _ h => (show False from h).elim) ?xyRLWrite6 ?xhRLWrite6 ?xrRLWrite6
          case xhRLWrite6 => exact hHeld
          case xyRLWrite6 => exact Or.inl ⟨by rfl, fun W9 hW => by clear hHeld; simp only [List.getElem_toArray, List.getElem_cons_succ, List.getElem_cons_zero]; go_simp⟩
          simp only [Act.put, List.getElem_toArray, List.getElem_cons_succ, List.getElem_cons_zero, List.setIfInBounds_toArray, List.set_cons_succ, List.set_cons_zero]
          obtain ⟨q0, q1⟩ := row_at HF4.out HLI.out
          refine wpAnyH_ready (rs := [9]) (by kernel_rfl) (by simp) ?_
          refine AllReadyH.cons rfl (fun K hK => ?_) AllReadyH.nil
          go_simp
          refine hK.out _ _ (hid trivial) (fun hHeld => ?_)
          clear hK K
          refine wpAnyH_done (by kernel_rfl) ?_ _
          refine NoPanic.normal ?_
          clear q0 q1
          generalize w'.setCell ⟨B, i, none⟩ (.slice (some ⟨g, 0, none⟩) (k + 1) cap) = w5 at *
          obtain ⟨p0, p1⟩ := one_cell HZ5.out
          have CE := hid (err_any w5 R _ _ HNX.out.1)
          obtain ⟨ev, hev⟩ : ∃ ev, ev = (rdF sWrite sk).2.2 := ⟨_, rfl⟩
          rw [← hev] at CE
          by_cases h0 : ev = 0
          · have HNE := hid (HNX.out.2.1 (by rw [← hev]; exact h0))
            subst h0
            clear hev
            go_wp2_with (first | (go_at_call 158; refine CE.out.mono ?_; rintro en w6 ⟨rfl, rfl⟩))
            go_roundw
            case rel => exact ⟨k + 1, _, _, _, _, by go_num, HZ5.out, HNE.out⟩
            case measure => simp [intOf]; omega
          · have HNE := hid (HNX.out.2.2 (by rw [← hev]; exact h0) hn5)
            have hbe : (ev != 0) = true := by simp [h0]
            clear hev
            go_wp2_with (first | (go_at_call 158; refine CE.out.mono ?_; rintro en w6 ⟨rfl, rfl⟩))
            (try simp only [Exit.inBlock, Exit.then]); refine bodyPost_ret (results_none rfl _ _ _) rfl ?_
            obtain ⟨m1, m2, m3, m4⟩ := HNE.out
            refine ⟨rfl, .slice (some ⟨g, 0, none⟩) (k + 1) cap, ?_, m2, ?_, m4⟩
            · simp only [rdF]; rw [← HN.out.1, ← HN.out.2]; exact m1
            · simp only [rdF]; rw [← HN.out.1, ← HN.out.2]; exact m3
        · skip
          go_simp
          refine hK.out _ _ (hid trivial) (fun hHeld => ?_)
          clear hK K
          have d2 := (World.cell?_of_block (w := wT) (w' := wT.alloc (.cells #[.slice y0 j0 c0, .slice y1 j1 c1, .bool y2] 122)) (a := ⟨B, i, none⟩) (H3.out.block B (lt_of_block HFT.out))).trans HDT.out
          refine wpAnyH_ready (rs := [3]) (by kernel_rfl) (by simp) ?_
          refine AllReadyH.cons rfl (fun K hK => ?_) AllReadyH.nil
          go_simp
          refine hK.out _ _ (hid trivial) (fun hHeld => ?_)
          clear hK K
          clear d2
          refine wpAnyH_ready (rs := [7]) (by kernel_rfl) (by simp) ?_
          refine AllReadyH.cons rfl (fun K hK => ?_) AllReadyH.nil
          refine step_app1 (by rfl) (.tmp 14) (.tmp 17) 35 (by rfl) (w.heap.size + 1) 122 Tryz.underlying35 HI0.out.1 HI0.out.2.1 HI0.out.2.2.1 HI0.out.2.2.2 (by simp [Value.cells]) (by decide) _ k _ (by rfl) HOW.out wT.heap.size [.slice y0 j0 c0, .slice y1 j1 c1, .bool y2] (by rfl) HR3.out rfl (fun u hu => by simp only [List.mem_cons, List.not_mem_nil, or_false] at hu; rcases hu with rfl | rfl | rfl <;> rfl) (by omega) (by decide) HSZ.out (fun g cap w' o5 g5 gg5 => ?_)
          have HF4 : Hid (w'.heap[B]? = some (.cells (cs.set i (.slice ao k c)).toArray t (0, 0))) := hid (heap_kept g5 ((H3.out.block B (lt_of_block HFT.out)).trans HFT.out) (fun e => by have := (HT.out.own.lt B e.symm).1; omega))
          have HZ5 : Hid ((w'.setCell ⟨B, i, none⟩ (.slice (some ⟨g, 0, none⟩) (k + 1) cap)).heap[w.heap.size]? = some (.cells #[.pointer (some ⟨R, 0, none⟩)] 85 (0, 0))) := hid (heap_kept (grown_set w' ⟨B, i, none⟩ _) (heap_kept g5 ((H3.out.block _ (lt_of_block HZT.out)).trans HZT.out) (fun e => by have := (HT.out.own.lt _ e.symm).1; omega)) (fun e => by have e9 : w.heap.size = B := (by simpa using e); exact Nat.lt_irrefl _ (Nat.lt_of_lt_of_le HBW.out (Nat.le_of_eq e9))))
          have HNX := hid (HT.out.next HRW.out HBW.out hRB hlt (show RdP sWrite R wr sk [.slice y0 j0 c0, .slice y1 j1 c1, .bool y2] wT from HV.out) H3.out o5 g5 gg5)
          clear o5 g5 gg5
          refine hK.out _ _ (hid trivial) (fun hHeld => ?_)
          clear hK K
          simp only [Act.put, List.getElem_toArray, List.getElem_cons_succ, List.getElem_cons_zero, List.setIfInBounds_toArray, List.set_cons_succ, List.set_cons_zero]
          refine wpAnyH_take (i := 8) (v := (.pointer (some ⟨B, i, none⟩))) rfl (by kernel_rfl) (by kernel_rfl) (by kernel_rfl) (fun _ _ _ h => (show False from h).elim) ?xyRLWrite7 ?xhRLWrite7 ?xrRLWrite7
          case xhRLWrite7 => exact hHeld
          case xyRLWrite7 => exact Or.inl ⟨by rfl, fun W9 hW => by clear hHeld; simp only [List.getElem_toArray, List.getElem_cons_succ, List.getElem_cons_zero]; go_simp⟩
          simp only [Act.put, List.getElem_toArray, List.getElem_cons_succ, List.getElem_cons_zero, List.setIfInBounds_toArray, List.set_cons_succ, List.set_cons_zero]
          obtain ⟨q0, q1⟩ := row_at HF4.out HLI.out
          refine wpAnyH_ready (rs := [9]) (by kernel_rfl) (by simp) ?_
          refine AllReadyH.cons rfl (fun K hK => ?_) AllReadyH.nil
          go_simp
          refine hK.out _ _ (hid trivial) (fun hHeld => ?_)
          clear hK K
          refine wpAnyH_done (by kernel_rfl) ?_ _
          refine NoPanic.normal ?_
          clear q0 q1
          generalize w'.setCell ⟨B, i, none⟩ (.slice (some ⟨g, 0, none⟩) (k + 1) cap) = w5 at *
          obtain ⟨p0, p1⟩ := one_cell HZ5.out
          have CE := hid (err_any w5 R _ _ HNX.out.1)
          obtain ⟨ev, hev⟩ : ∃ ev, ev = (rdF sWrite sk).2.2 := ⟨_, rfl⟩
          rw [← hev] at CE
          by_cases h0 : ev = 0
          · have HNE := hid (HNX.out.2.1 (by rw [← hev]; exact h0))
            subst h0
            clear hev
            go_wp2_with (first | (go_at_call 158; refine CE.out.mono ?_; rintro en w6 ⟨rfl, rfl⟩))
            go_roundw
            case rel => exact ⟨k + 1, _, _, _, _, by go_num, HZ5.out, HNE.out⟩
            case measure => simp [intOf]; omega
          · have HNE := hid (HNX.out.2.2 (by rw [← hev]; exact h0) hn5)
            have hbe : (ev != 0) = true := by simp [h0]
            clear hev
            go_wp2_with (first | (go_at_call 158; refine CE.out.mono ?_; rintro en w6 ⟨rfl, rfl⟩))
            (try simp only [Exit.inBlock, Exit.then]); refine bodyPost_ret (results_none rfl _ _ _) rfl ?_
            obtain ⟨m1, m2, m3, m4⟩ := HNE.out
            refine ⟨rfl, .slice (some ⟨g, 0, none⟩) (k + 1) cap, ?_, m2, ?_, m4⟩
            · simp only [rdF]; rw [← HN.out.1, ← HN.out.2]; exact m1
            · simp only [rdF]; rw [← HN.out.1, ← HN.out.2]; exact m3
    · obtain rfl : n = k := by omega
      have hki : ¬ (n : Int) < (n : Int) := by omega
      go_wp2_with fail
      go_end0
      obtain ⟨p1, p2⟩ := HT.out.done hn5
      refine ⟨rfl, .slice ao n c, ?_, HT.out.field, ?_, HT.out.keep⟩
      · simp only [rdF]; rw [← HN.out.1, ← HN.out.2]; exact p1
      · simp only [rdF]; rw [← HN.out.1, ← HN.out.2]; exact p2

end Go.Proofs.YtdfccaehoodjhaaGreat

