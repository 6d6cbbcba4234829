import Derived.WalkKit
import Derived.OpenShut
import Derived.Test.YtnjmhlmimpdahaaRows
import Derived.WalkSpells
import Derived.WalkLawsBesides
import Derived.Laws.AppendOwnNone
import Derived.ProofKit
import Derived.ShutString
import Derived.ChangeOld
import Derived.Below
import Derived.SizedLaws
import Derived.Deep.Slices
import Derived.Deep.AppendLies
import Derived.Deep.Strs
import Derived.Deep.RegionHeld3
import Derived.Lib.ConvBytes
import Derived.Laws.AppendOwn
import Derived.Deep.CutRange
import Derived.Deep.MidRow
import Derived.Great.Walk
import Derived.Deep.RegionLaw
import Derived.BigRegion
import Derived.Maps.OwnOps
import Derived.Maps.OwnSet
import Derived.Maps.Views
import Derived.Great.BuildSlice
import Derived.Test.YtnjmhlmimpdahaaWA1
import Derived.Test.YtnjmhlmimpdahaaWA2
import Derived.Test.YtnjmhlmimpdahaaWA3
set_option linter.unusedVariables false
set_option linter.unusedSimpArgs false
set_option linter.unusedVariables false
set_option linter.unusedSimpArgs false
set_option maxRecDepth 100000
namespace Go.Proofs.Ytnjmhlmimpdahaa
open Go.RowKit Go.Deep

/-- What stands behind the reading of a whole Call. -/
def AlCall (R : Nat) (w : World) (st : Rst) (en : Ending) (w' : World) : Prop := ∃ cs : List Value, en = .returned (.tuple #[.agg cs.toArray, .int .i64 (endS (rdF sCall st).2.1 (rdF sCall st).2.2)]) ∧ ((endS (rdF sCall st).2.1 (rdF sCall st).2.2) = 0 → EncN (fun j => w.heap.size ≤ j ∧ j < w'.heap.size) w' sCall cs (rdF sCall st).1) ∧ ((endS (rdF sCall st).2.1 (rdF sCall st).2.2) ≠ 0 → cs = [.int .u64 0, .int .u64 0, .slice none 0 0]) ∧ Keep (fun j => j = R) w w'
set_option maxHeartbeats 8000000 in
theorem aloneCall_any {w : World} {R : Nat} {st : Rst} (h : RAt w R st.1 st.2) (hl : st.1.length ≤ 140737488355328) :
    Calls Try.prog 53 #[.agg #[.pointer (some ⟨R, 0, none⟩)], (.func (.func 54) #[.agg #[.pointer (some ⟨R, 0, none⟩)]] #[])] w (AlCall R w st) := by
  have hb : Below w.heap.size w ((w.alloc (.cells #[.pointer (some ⟨R, 0, none⟩)] 103)).alloc (.cells #[.int .u64 0, .int .u64 0, .slice none 0 0] 37)) := ((Below.refl _ _).alloc (Nat.le_refl _) _).alloc (by simp) _
  have hz := (Below.heap_alloc (w.alloc (.cells #[.pointer (some ⟨R, 0, none⟩)] 103)) (.cells #[.int .u64 0, .int .u64 0, .slice none 0 0] 37) w.heap.size (by simp)).trans (heap_alloc_new w (.cells #[.pointer (some ⟨R, 0, none⟩)] 103))
  have hB := heap_alloc2_new w (.cells #[.pointer (some ⟨R, 0, none⟩)] 103) (.cells #[.int .u64 0, .int .u64 0, .slice none 0 0] 37)
  obtain ⟨B, hBe⟩ : ∃ B, B = w.heap.size + 1 := ⟨_, rfl⟩
  have hRw := h.lt
  have hRB : R < B := by omega
  have HR0 := hid (h.old hb)
  rw [← hBe] at hB
  have HB0 := hid hB
  have HX0 := hid hz
  have HBW := hid hb
  have HL0 := hid hl
  clear h hb hz hB hl
  go_enter Try.func53, Try.ntmps53
  go_upto_region 1 with fail
  generalize (w.alloc (.cells #[.pointer (some ⟨R, 0, none⟩)] 103)).alloc (.cells #[.int .u64 0, .int .u64 0, .slice none 0 0] 37) = w0 at *
  try rw [← hBe]
  have HBE := hid hBe
  clear hBe
  have CQ := hid (rCall_any HR0.out HL0.out)
  go_upto_region 2 with (first | (go_at_call 54; refine CQ.out.mono ?_; rintro en w1 ⟨mc, rfl, hv⟩; obtain ⟨u0, u1, u2, b0, b1, b2, rfl, _, e0, e1, e2⟩ := Call_cells (EncN.enc _ hv.1); obtain ⟨y0, rfl⟩ := form_num e0; obtain ⟨y1, rfl⟩ := form_num e1; obtain ⟨y2, j2, c2, rfl⟩ := form_data e2; clear e0 e1 e2; have HV := hid hv; clear hv))
  have hb2 : Below w1.heap.size w1 (w1.alloc (.cells #[(.int .u64 (y0 : Int)), (.int .u64 (y1 : Int)), (.slice y2 j2 c2)] 37)) := (Below.refl _ _).alloc (Nat.le_refl _) _
  have hx2 := heap_alloc_new w1 (.cells #[(.int .u64 (y0 : Int)), (.int .u64 (y1 : Int)), (.slice y2 j2 c2)] 37)
  have HV2 := hid (EncN.mono (fun j hj => (⟨hj.1, Nat.lt_of_lt_of_le hj.2 hb2.size⟩ : w0.heap.size ≤ j ∧ j < (w1.alloc (.cells #[(.int .u64 (y0 : Int)), (.int .u64 (y1 : Int)), (.slice y2 j2 c2)] 37)).heap.size)) _ (EncN.keep (Keep.of_below (X := fun _ => False) hb2) (fun _ _ e => e) _ HV.out.1))
  have HR2 := hid (HV.out.2.1.old hb2)
  have HB2 : Hid ((w1.alloc (.cells #[(.int .u64 (y0 : Int)), (.int .u64 (y1 : Int)), (.slice y2 j2 c2)] 37)).heap[B]? = some (.cells ([.int .u64 0, .int .u64 0, .slice none 0 0] : List Value).toArray 37 (0, 0))) := hid ((hb2.block B (Nat.lt_of_lt_of_le (lt_of_block HB0.out) HV.out.2.2.size)).trans ((HV.out.2.2.block B (lt_of_block HB0.out) (fun e => by have e9 : B = R := e; omega)).trans HB0.out))
  have HX2 := hid ((hb2.block w.heap.size (Nat.lt_of_lt_of_le (lt_of_block HX0.out) HV.out.2.2.size)).trans ((HV.out.2.2.block w.heap.size (lt_of_block HX0.out) (fun e => by have e9 : w.heap.size = R := e; omega)).trans HX0.out))
  have HXX : Hid ((w1.alloc (.cells #[(.int .u64 (y0 : Int)), (.int .u64 (y1 : Int)), (.slice y2 j2 c2)] 37)).heap[w1.heap.size]? = some (.cells ([(.int .u64 (y0 : Int)), (.int .u64 (y1 : Int)), (.slice y2 j2 c2)] : List Value).toArray 37 (0, 0))) := hid hx2
  have HK2 : Hid (Keep (fun j => j = R) w0 (w1.alloc (.cells #[(.int .u64 (y0 : Int)), (.int .u64 (y1 : Int)), (.slice y2 j2 c2)] 37))) := hid (HV.out.2.2.trans (Keep.of_below hb2))
  have HS1 : Hid (B < w1.heap.size) := hid (Nat.lt_of_lt_of_le (lt_of_block HB0.out) HV.out.2.2.size)
  clear hb2 hx2 CQ
  obtain ⟨X, hX⟩ : ∃ X, X = w1.heap.size := ⟨_, rfl⟩
  rw [← hX] at HXX HS1
  generalize w1.alloc (.cells #[(.int .u64 (y0 : Int)), (.int .u64 (y1 : Int)), (.slice y2 j2 c2)] 37) = w2 at *
  try rw [← hX]
  clear hX
  obtain ⟨ev, hev⟩ : ∃ ev, ev = (endS (rdF sCall st).2.1 (rdF sCall st).2.2) := ⟨_, rfl⟩
  have CE : Hid (Calls Try.prog 29 #[.pointer (some ⟨R, 0, none⟩)] w2 (fun en w' => en = .returned (.int .i64 ev) ∧ w2 = w')) := hid (by rw [hev]; exact endR_any w2 R _ _ HR2.out)
  have HEV := hid hev
  clear hev
  have x0 := (one_cell HX2.out).1
  by_cases h0 : ev = 0
  · subst h0
    obtain ⟨p0, m0⟩ := row_at HXX.out (i := 0) rfl
    obtain ⟨p1, m1⟩ := row_at HXX.out (i := 1) rfl
    obtain ⟨p2, m2⟩ := row_at HXX.out (i := 2) rfl
    obtain ⟨q0, r0⟩ := row_at HB2.out (i := 0) rfl
    obtain ⟨q1, r1⟩ := row_at HB2.out (i := 1) rfl
    obtain ⟨q2, r2⟩ := row_at HB2.out (i := 2) rfl
    have hs0 := HB2.out
    have hs1 := row_put hs0 0 (.int .u64 (y0 : Int))
    have hs2 := row_put hs1 1 (.int .u64 (y1 : Int))
    have hs3 := row_put hs2 2 (.slice y2 j2 c2)
    have HSF : Hid ((((w2.setCell ⟨B, 0, none⟩ (.int .u64 (y0 : Int))).setCell ⟨B, 1, none⟩ (.int .u64 (y1 : Int))).setCell ⟨B, 2, none⟩ (.slice y2 j2 c2)).heap[B]? = some (.cells #[(.int .u64 (y0 : Int)), (.int .u64 (y1 : Int)), (.slice y2 j2 c2)] 37 (0, 0))) := hs3
    have HKS : Hid (Keep (fun j => j = B) w2 (((w2.setCell ⟨B, 0, none⟩ (.int .u64 (y0 : Int))).setCell ⟨B, 1, none⟩ (.int .u64 (y1 : Int))).setCell ⟨B, 2, none⟩ (.slice y2 j2 c2))) := hid ((((Keep.refl (fun j => j = B) _).trans (Keep.set (X := fun j => j = B) _ ⟨B, 0, none⟩ (.int .u64 (y0 : Int)) rfl)).trans (Keep.set (X := fun j => j = B) _ ⟨B, 1, none⟩ (.int .u64 (y1 : Int)) rfl)).trans (Keep.set (X := fun j => j = B) _ ⟨B, 2, none⟩ (.slice y2 j2 c2) rfl))
    clear hs0 hs1 hs2 hs3
    go_wp2_with (first | (go_at_call 29; refine CE.out.mono ?_; rintro en w3 ⟨rfl, rfl⟩))
    refine bodyPost_ret (results_cell2 rfl _ _ B 37 _ (0, 0) _ rfl HSF.out Try.underlying37 rfl (by kernel_rfl)) rfl ?_
    refine ⟨[(.int .u64 (y0 : Int)), (.int .u64 (y1 : Int)), (.slice y2 j2 c2)], by rw [← HEV.out]; rfl, fun _ => EncN.mono (fun j hj => ⟨Nat.le_trans HBW.out.size hj.1, Nat.lt_of_lt_of_le hj.2 HKS.out.size⟩) _ (EncN.keep HKS.out (fun j hj e => by have e9 : j = B := e; have a9 := lt_of_block HB0.out; have := hj.1; omega) _ HV2.out), fun h9 => absurd HEV.out.symm h9, ?_⟩
    exact ((Keep.of_below HBW.out).trans HK2.out).trans2 HKS.out (fun j e => .inr (by have e9 : j = B := e; have := HBE.out; omega))
  · have hbe : (ev != 0) = true := by simp [h0]
    have hb3 : Below w2.heap.size w2 (w2.alloc (.cells #[.int .u64 0, .int .u64 0, .slice none 0 0] 37)) := (Below.refl _ _).alloc (Nat.le_refl _) _
    have hx3 : (w2.alloc (.cells #[.int .u64 0, .int .u64 0, .slice none 0 0] 37)).heap[w2.heap.size]? = some (.cells ([.int .u64 0, .int .u64 0, .slice none 0 0] : List Value).toArray 37 (0, 0)) := heap_alloc_new w2 (.cells #[.int .u64 0, .int .u64 0, .slice none 0 0] 37)
    have hB3 := (hb3.block B (lt_of_block HB2.out)).trans HB2.out
    have HB3 := hid hb3
    obtain ⟨p0, m0⟩ := row_at hx3 (i := 0) rfl
    obtain ⟨p1, m1⟩ := row_at hx3 (i := 1) rfl
    obtain ⟨p2, m2⟩ := row_at hx3 (i := 2) rfl
    obtain ⟨q0, r0⟩ := row_at hB3 (i := 0) rfl
    obtain ⟨q1, r1⟩ := row_at hB3 (i := 1) rfl
    obtain ⟨q2, r2⟩ := row_at hB3 (i := 2) rfl
    have hs0 := hB3
    have hs1 := row_put hs0 0 (.int .u64 0)
    have hs2 := row_put hs1 1 (.int .u64 0)
    have hs3 := row_put hs2 2 (.slice none 0 0)
    have HSF : Hid (((((w2.alloc (.cells #[.int .u64 0, .int .u64 0, .slice none 0 0] 37)).setCell ⟨B, 0, none⟩ (.int .u64 0)).setCell ⟨B, 1, none⟩ (.int .u64 0)).setCell ⟨B, 2, none⟩ (.slice none 0 0)).heap[B]? = some (.cells #[.int .u64 0, .int .u64 0, .slice none 0 0] 37 (0, 0))) := hs3
    have HKS : Hid (Keep (fun j => j = B) (w2.alloc (.cells #[.int .u64 0, .int .u64 0, .slice none 0 0] 37)) ((((w2.alloc (.cells #[.int .u64 0, .int .u64 0, .slice none 0 0] 37)).setCell ⟨B, 0, none⟩ (.int .u64 0)).setCell ⟨B, 1, none⟩ (.int .u64 0)).setCell ⟨B, 2, none⟩ (.slice none 0 0))) := hid ((((Keep.refl (fun j => j = B) _).trans (Keep.set (X := fun j => j = B) _ ⟨B, 0, none⟩ (.int .u64 0) rfl)).trans (Keep.set (X := fun j => j = B) _ ⟨B, 1, none⟩ (.int .u64 0) rfl)).trans (Keep.set (X := fun j => j = B) _ ⟨B, 2, none⟩ (.slice none 0 0) rfl))
    clear hb3 hx3 hB3 hs0 hs1 hs2 hs3
    go_wp2_with (first | (go_at_call 29; refine CE.out.mono ?_; rintro en w3 ⟨rfl, rfl⟩))
    refine bodyPost_ret (results_cell2 rfl _ _ B 37 _ (0, 0) _ rfl HSF.out Try.underlying37 rfl (by kernel_rfl)) rfl ?_
    refine ⟨[.int .u64 0, .int .u64 0, .slice none 0 0], by rw [← HEV.out]; rfl, fun h9 => absurd (HEV.out.trans h9) h0, fun _ => rfl, ?_⟩
    exact (((Keep.of_below HBW.out).trans HK2.out).trans (Keep.of_below HB3.out)).trans2 HKS.out (fun j e => .inr (by have e9 : j = B := e; have := HBE.out; omega))

theorem AlCall_forms {E : Int} {N : Nat → Prop} {w : World} {cs : List Value} {bs : List UInt8} (h1 : E = 0 → EncN N w sCall cs bs) (h2 : E ≠ 0 → cs = [.int .u64 0, .int .u64 0, .slice none 0 0]) : ∃ (y0 : Nat) (y1 : Nat) (y2 : Option Addr) (j2 : Nat) (c2 : Nat), cs = [.int .u64 (y0 : Int), .int .u64 (y1 : Int), .slice y2 j2 c2] := by
  by_cases h : E = 0
  · obtain ⟨u0, u1, u2, b0, b1, b2, rfl, _, e0, e1, e2⟩ := Call_cells (EncN.enc _ (h1 h))
    obtain ⟨y0, rfl⟩ := form_num e0
    obtain ⟨y1, rfl⟩ := form_num e1
    obtain ⟨y2, j2, c2, rfl⟩ := form_data e2
    exact ⟨y0, y1, y2, j2, c2, rfl⟩
  · exact ⟨_, _, _, _, _, h2 h⟩
/-- What TakeCall answers. -/
def TkCall (w : World) (l : List UInt8) (en : Ending) (w' : World) : Prop := ∃ cs : List Value, en = .returned (.tuple #[.agg cs.toArray, .int .i64 (endS (rdF sCall (l, 0)).2.1 (rdF sCall (l, 0)).2.2)]) ∧ ((endS (rdF sCall (l, 0)).2.1 (rdF sCall (l, 0)).2.2) = 0 → EncN (fun j => w.heap.size ≤ j ∧ j < w'.heap.size) w' sCall cs (rdF sCall (l, 0)).1) ∧ ((endS (rdF sCall (l, 0)).2.1 (rdF sCall (l, 0)).2.2) ≠ 0 → cs = [.int .u64 0, .int .u64 0, .slice none 0 0]) ∧ Below w.heap.size w w'
set_option maxHeartbeats 8000000 in
theorem takeCall_any (x : Value) (l : List UInt8) (w : World) (hx : Rd w x l) (hl : l.length ≤ 140737488355328) : Calls Try.prog 33 #[x] w (TkCall w l) := by
  have hb : Below w.heap.size w (w.alloc (.cells #[.int .u64 0, .int .u64 0, .slice none 0 0] 37)) := (Below.refl _ _).alloc (Nat.le_refl _) _
  have hB : (w.alloc (.cells #[.int .u64 0, .int .u64 0, .slice none 0 0] 37)).heap[w.heap.size]? = some (.cells ([.int .u64 0, .int .u64 0, .slice none 0 0] : List Value).toArray 37 (0, 0)) := heap_alloc_new w (.cells #[.int .u64 0, .int .u64 0, .slice none 0 0] 37)
  have CN := hid (new_any (w.alloc (.cells #[.int .u64 0, .int .u64 0, .slice none 0 0] 37)) x l (hx.old hb) hl)
  have HB := hid hB
  have HBW := hid hb
  have HL := hid hl
  clear hb hB hx hl
  go_enter Try.func33, Try.ntmps33
  go_upto_region 1 with fail
  generalize w.alloc (.cells #[.int .u64 0, .int .u64 0, .slice none 0 0] 37) = w1 at *
  go_upto_region 2 with (first | (go_at_call 26; refine CN.out.mono ?_; rintro en w2 ⟨R, rfl, hR1, hr, hb2⟩; have HR := hid hr; have HRB := hid (Nat.lt_of_lt_of_le (lt_of_block HB.out) hR1); have HB2 := hid ((hb2.block _ (lt_of_block HB.out)).trans HB.out); have HW2 := hid hb2; clear hr hR1 hb2))
  have hb3 : Below w2.heap.size w2 (w2.alloc (.cells #[.pointer (some ⟨R, 0, none⟩)] 103)) := (Below.refl _ _).alloc (Nat.le_refl _) _
  have HX3 := hid (heap_alloc_new w2 (.cells #[.pointer (some ⟨R, 0, none⟩)] 103))
  have HR3 := hid (HR.out.old hb3)
  have HB3 := hid ((hb3.block _ (lt_of_block HB2.out)).trans HB2.out)
  have HW3 := hid (HW2.out.trans (hb3.mono HW2.out.size))
  clear hb3
  obtain ⟨X, hX⟩ : ∃ X, X = w2.heap.size := ⟨_, rfl⟩
  rw [← hX] at HX3
  generalize w2.alloc (.cells #[.pointer (some ⟨R, 0, none⟩)] 103) = w3 at *
  try rw [← hX]
  clear hX
  have CA := hid (aloneCall_any (st := (l, 0)) HR3.out HL.out)
  have z0 := (one_cell HX3.out).1
  go_wp2_with (first | (go_at_call 53; refine CA.out.mono ?_; rintro en w4 ⟨cs, rfl, h1, h2, hk⟩; obtain ⟨y0, y1, y2, j2, c2, rfl⟩ := AlCall_forms h1 h2; have H1 := hid h1; have H2 := hid h2; have HK := hid hk; have hB4 := (hk.block _ (lt_of_block HB3.out) (fun e => by have e9 : w.heap.size = R := e; have := HRB.out; omega)).trans HB3.out; obtain ⟨q0, r0⟩ := row_at hB4 (i := 0) rfl; obtain ⟨q1, r1⟩ := row_at hB4 (i := 1) rfl; obtain ⟨q2, r2⟩ := row_at hB4 (i := 2) rfl; have HB4 := hid hB4; clear h1 h2 hk hB4))
  have hs0 := HB4.out
  have hs1 := row_put hs0 0 (.int .u64 (y0 : Int))
  have hs2 := row_put hs1 1 (.int .u64 (y1 : Int))
  have hs3 := row_put hs2 2 (.slice y2 j2 c2)
  have HSF : Hid ((((w4.setCell ⟨w.heap.size, 0, none⟩ (.int .u64 (y0 : Int))).setCell ⟨w.heap.size, 1, none⟩ (.int .u64 (y1 : Int))).setCell ⟨w.heap.size, 2, none⟩ (.slice y2 j2 c2)).heap[w.heap.size]? = some (.cells #[.int .u64 (y0 : Int), .int .u64 (y1 : Int), .slice y2 j2 c2] 37 (0, 0))) := hs3
  have HKS : Hid (Keep (fun j => j = w.heap.size) w4 (((w4.setCell ⟨w.heap.size, 0, none⟩ (.int .u64 (y0 : Int))).setCell ⟨w.heap.size, 1, none⟩ (.int .u64 (y1 : Int))).setCell ⟨w.heap.size, 2, none⟩ (.slice y2 j2 c2))) := hid ((((Keep.refl (fun j => j = w.heap.size) _).trans (Keep.set (X := fun j => j = w.heap.size) _ ⟨w.heap.size, 0, none⟩ (.int .u64 (y0 : Int)) rfl)).trans (Keep.set (X := fun j => j = w.heap.size) _ ⟨w.heap.size, 1, none⟩ (.int .u64 (y1 : Int)) rfl)).trans (Keep.set (X := fun j => j = w.heap.size) _ ⟨w.heap.size, 2, none⟩ (.slice y2 j2 c2) rfl))
  clear hs0 hs1 hs2 hs3
  refine bodyPost_ret (results_cell2 rfl _ _ w.heap.size 37 _ (0, 0) _ rfl HSF.out Try.underlying37 rfl (by kernel_rfl)) rfl ?_
  have a1 := HBW.out.size
  have a2 := lt_of_block HB.out
  have a3 := HW3.out.size
  refine ⟨_, rfl, fun h0 => EncN.mono (fun j hj => ⟨by have := hj.1; omega, Nat.lt_of_lt_of_le hj.2 HKS.out.size⟩) _ (EncN.keep HKS.out (fun j hj e => by have e9 : j = w.heap.size := e; have := hj.1; omega) _ (H1.out h0)), H2.out, ?_⟩
  exact (((Keep.of_below (X := fun _ => False) HBW.out).trans (Keep.of_below (X := fun _ => False) (HW3.out.mono (Nat.le_refl _)))).trans2 HK.out (fun j e => .inr (by have e9 : j = R := e; have := HRB.out; omega))).trans2 HKS.out (fun j e => .inr (by have e9 : j = w.heap.size := e; omega)) |>.below (Nat.le_refl _) (fun k e => e.elim)

end Go.Proofs.Ytnjmhlmimpdahaa

set_option linter.unusedVariables false
set_option linter.unusedSimpArgs false
set_option maxRecDepth 100000
namespace Go.Proofs.Ytnjmhlmimpdahaa
open Go.RowKit Go.Deep

set_option maxHeartbeats 8000000 in
theorem rtopCall_any {W0 : World} {v0 v1 v2 : Value} {b0 b1 b2 : List UInt8} (e0 : Enc W0 .num [v0] b0) (e1 : Enc W0 .num [v1] b1) (e2 : Enc W0 .data [v2] b2) (hl : (b0 ++ (b1 ++ b2)).length ≤ 1000000000000) :
    Calls Try.prog 14 #[.agg #[v0, v1, v2]] W0 (Gives 5 W0 (b0 ++ (b1 ++ b2))) := by
  have H0 := hid (St.begin W0 #[v0, v1, v2] 37 83)
  have HL0 : Hid (([] : List UInt8).length + (b0 ++ (b1 ++ b2)).length ≤ 1000000000000) := hid (by rw [List.length_nil, Nat.zero_add]; simpa only [List.append_assoc] using hl)
  have E0 := hid e0
  have E1 := hid e1
  have E2 := hid e2
  clear hl e0 e1 e2
  go_enter Try.func14, Try.ntmps14
  go_upto_region 2 with fail
  generalize (W0.alloc (.cells #[v0, v1, v2] 37)).alloc (.cells #[.slice none 0 0] 83) = w0 at *
  obtain ⟨B, hB⟩ : ∃ B, B = W0.heap.size := ⟨_, rfl⟩
  obtain ⟨a, ha⟩ : ∃ a, a = W0.heap.size + 1 := ⟨_, rfl⟩
  rw [← ha, ← hB] at H0
  try rw [← ha]
  try rw [← hB]
  clear hB ha
  have x0 := box_cell H0.out 0 v0 rfl
  have HN0 := hid (len_now HL0.out)
  have HL1 := hid (len_step HL0.out)
  go_upto_region 3 with (first | (go_at_call 31; refine (onumE H0.out E0.out HN0.out).mono ?_; rintro en w1 ⟨rfl, h1⟩; have H1 := hid h1; clear h1))
  clear x0
  have x1 := box_cell H1.out 1 v1 rfl
  have HN1 := hid (len_now HL1.out)
  have HL2 := hid (len_step HL1.out)
  go_upto_region 4 with (first | (go_at_call 31; refine (onumE H1.out E1.out HN1.out).mono ?_; rintro en w2 ⟨rfl, h2⟩; have H2 := hid h2; clear h2))
  clear x1
  have x2 := box_cell H2.out 2 v2 rfl
  go_upto_region 5 with (first | (go_at_call 32; refine (obytesE H2.out E2.out HL2.out).mono ?_; rintro en w3 ⟨rfl, h3⟩; have H3 := hid h3; clear h3))
  clear x2
  obtain ⟨cx, hx, hg⟩ := St.ends (show St 83 W0 _ a _ (b0 ++ (b1 ++ b2)) by simpa only [List.append_assoc, List.nil_append] using H3.out)
  obtain ⟨z0, z1⟩ := one_cell hx
  have HG := hid hg
  clear hx hg
  go_wp2_with fail
  go_ret
  exact HG.out

end Go.Proofs.Ytnjmhlmimpdahaa

set_option linter.unusedVariables false
set_option linter.unusedSimpArgs false
set_option maxRecDepth 100000
namespace Go.Proofs.Ytnjmhlmimpdahaa
open Go.RowKit Go.Deep

theorem Rd.form9 {w : World} {x : Value} {l : List UInt8} (h : Rd w x l) : ∃ (ao : Option Addr) (c : Nat), x = .slice ao l.length c ∧ l.length ≤ c := by
  obtain ⟨ao, c, rfl, h1, -⟩ := h
  exact ⟨ao, c, rfl, h1⟩

/-- What the tape answers: the place of the command, in two bytes, and its bytes turned round. -/
def ansL (n : Nat) (l : List UInt8) : List UInt8 := [UInt8.ofNat (n % 256), UInt8.ofNat (n / 256 % 256)] ++ l.reverse

/-- A command as a string. -/
def cmdV (l : List UInt8) : Value := .string ⟨l.toArray⟩

theorem two_bytes (n : Nat) : [Value.int .u8 (((n : Int) + 1) % 256), Value.int .u8 (((n : Int) + 1) / 256 % 256)] = ([UInt8.ofNat ((n + 1) % 256), UInt8.ofNat ((n + 1) / 256 % 256)] : List UInt8).map bv := by
  have e1 : (UInt8.ofNat ((n + 1) % 256)).toNat = (n + 1) % 256 := by rw [UInt8.toNat_ofNat']; omega
  have e2 : (UInt8.ofNat ((n + 1) / 256 % 256)).toNat = (n + 1) / 256 % 256 := by rw [UInt8.toNat_ofNat']; omega
  simp only [List.map_cons, List.map_nil, bv, e1, e2]
  norm_cast
theorem below_alloc_drew (w : World) (o : Obj) : Below w.heap.size w (w.alloc o).drew := by
  have h : Below w.heap.size w (w.alloc o) := (Below.refl _ _).alloc (Nat.le_refl _) _
  exact ⟨h.os, h.tape, h.output, h.size, h.block⟩
theorem own_two {base : Nat} {e : TypeId} (w : World) (p q : Value) (hb : base ≤ w.heap.size) : (w.alloc (.cells #[p, q] e)).drew.ownsRow base e 1 (.slice (some ⟨w.heap.size, 0, none⟩) 2 2) 2 [p, q] :=
  ⟨rfl, .inr ⟨w.heap.size, 2, #[p, q], rfl, hb, heap_alloc_new w _, Nat.le_refl _, by decide, rfl, rfl⟩⟩

theorem info_parts8 : ∃ i0, Try.prog.info? 5 = some i0 ∧ i0.zero = some (.int .u8 0) ∧ i0.size = 1 ∧ i0.bytes = 1 := by
  have h9 : (Try.prog.info? 5).map (fun i => (i.zero, i.size, i.bytes)) = some (some (.int .u8 0), 1, 1) := by kernel_rfl
  cases hq : Try.prog.info? 5 with
  | none => rw [hq] at h9; cases h9
  | some q => rw [hq] at h9; simp at h9; exact ⟨q, rfl, h9⟩

/-- What the tape's Do leaves. -/
def TapeP (w : World) (tp : Nat) (v : Value) (n : Nat) (xs : List Value) (l : List UInt8) (base : Nat) (en : Ending) (w' : World) : Prop := ∃ out v', en = .returned out ∧ w'.ownsRow w.heap.size 5 1 out (ansL (n + 1) l).length ((ansL (n + 1) l).map bv) ∧
      w'.heap[tp]? = some (.cells #[v'] 27 (0, 0)) ∧ w'.ownsRow base 9 1 v' (n + 1) (xs ++ [cmdV l]) ∧ (v'.ownBlock = v.ownBlock ∨ ∃ g, v'.ownBlock = some g ∧ w.heap.size ≤ g) ∧ Keep (fun k => k = tp ∨ v.ownBlock = some k) w w'

set_option maxHeartbeats 4000000 in
theorem tapeDo_any {w : World} {tp : Nat} {v x : Value} {n : Nat} {xs : List Value} {l : List UInt8} {base : Nat} (ht : w.heap[tp]? = some (.cells #[v] 27 (0, 0))) (ho : w.ownsRow base 9 1 v n xs) (hx : Rd w x l) (hl : l.length ≤ 1000) (hn : n ≤ 1000) (hbase : base ≤ w.heap.size) (hxb : ∀ k, blk x = some k → ¬ (k = tp ∨ v.ownBlock = some k)) :
    Calls Try.prog 37 #[.pointer (some ⟨tp, 0, none⟩), x] w (TapeP w tp v n xs l base) := by
  obtain ⟨i0, hi, hz0, hz1, hz2⟩ : ∃ i0, Try.prog.info? 9 = some i0 ∧ i0.zero = some (.string .empty) ∧ i0.size = 1 ∧ i0.bytes = 16 := by
    have h9 : (Try.prog.info? 9).map (fun i => (i.zero, i.size, i.bytes)) = some (some (.string .empty), 1, 16) := by kernel_rfl
    cases hq : Try.prog.info? 9 with
    | none => rw [hq] at h9; cases h9
    | some q => rw [hq] at h9; simp at h9; exact ⟨q, rfl, h9⟩
  have HI0 := hid (And.intro hi (And.intro hz0 (And.intro hz1 hz2)))
  have hWd : Below w.heap.size w w.drew := ⟨rfl, rfl, rfl, Nat.le_refl _, fun _ _ => rfl⟩
  have c1 := (hx.old hWd).conv (P := Try.prog) 35 9 5 Try.underlying35 Try.underlying5 Try.underlying9
  obtain ⟨ao, cx, rfl, -⟩ := hx.form9
  have HX := hid hx
  have HO := hid ho
  have HT := hid ht
  have HLL := hid hl
  have HNN := hid hn
  have HBS := hid hbase
  have hc0 : w.drew.cell? ⟨tp, 0, none⟩ = some v := (one_cell ht).1
  have hlt := lt_of_block ht
  have hc00 : w.cell? ⟨tp, 0, none⟩ = some v := (one_cell ht).1
  have hcd : (w.drew.alloc (.cells #[cmdV l] 9)).cell? ⟨tp, 0, none⟩ = some v := (World.cell?_of_block (w := w) (w' := w.drew.alloc (.cells #[cmdV l] 9)) (a := ⟨tp, 0, none⟩) (Below.heap_alloc w (.cells #[cmdV l] 9) tp hlt)).trans (one_cell ht).1
  have hne : v.ownBlock ≠ some tp := by
    intro e
    rcases ho.2 with ⟨rfl, -⟩ | ⟨g', cap', cur, rfl, hb, hg, hnc, hc, hsz, htt⟩
    · cases e
    · simp only [Value.ownBlock, Option.some.injEq] at e
      subst e
      rw [ht] at hg
      injection hg with hg
      injection hg with h1 h2
      exact absurd h2 (by decide)
  have HNE := hid hne
  have HBL := hid (hWd.alloc (Nat.le_refl _) (.cells #[Value.string ⟨l.toArray⟩] 9))
  clear hne
  clear hWd
  have HXB := hid hxb
  clear hi hz0 hz1 hz2 hx ho ht hl hn hbase hxb
  go_enter Try.func37, Try.ntmps37
  go_upto_region 3 with fail
  go_region_law (first | (go_loud (refine step_app1 (by rfl) _ _ 25 (by rfl) base 9 Try.underlying25 HI0.out.1 HI0.out.2.1 HI0.out.2.2.1 HI0.out.2.2.2 (by simp [Value.cells]) (by decide) v n xs (by rfl) (own_old HO.out HBL.out) w.drew.heap.size [Value.string ⟨l.toArray⟩] (by rfl) (heap_alloc_new w.drew (.cells #[Value.string ⟨l.toArray⟩] 9)) rfl (fun u hu => by simp only [List.mem_cons, List.not_mem_nil, or_false] at hu; rcases hu with rfl; rfl) (by have := HNN.out; omega) (by decide) (by have := HBS.out; simp; omega) ?_; intro g cap w2 hown2 hgrow hlie; have hk2 := heap_kept hgrow (k := tp) ((Below.heap_alloc w.drew (.cells #[Value.string ⟨l.toArray⟩] 9) tp (lt_of_block HT.out)).trans HT.out) (fun e => HNE.out e.symm); have hcc := (one_cell hk2).1; have hfz := (one_cell hk2).2; have HG := hid (And.intro hown2 (And.intro hgrow (And.intro hlie hk2))); clear hown2 hgrow hlie hk2)))
  all_goals
    obtain ⟨v', hv'⟩ : ∃ v', v' = Value.slice (some ⟨g, 0, none⟩) (n + 1) cap := ⟨_, rfl⟩
    have HV' := hid hv'
    rw [← hv'] at HG ⊢
    have hk3 : Keep (fun k => k = tp ∨ v.ownBlock = some k) w (w2.setCell ⟨tp, 0, none⟩ v') := ((Keep.of_below HBL.out).trans2 (Keep.of_grown (X := fun k => v.ownBlock = some k) HG.out.2.1 (fun k e => e)) (fun k e => .inl (.inr e))).trans (Keep.set (X := fun k => k = tp ∨ v.ownBlock = some k) w2 ⟨tp, 0, none⟩ v' (.inl rfl))
    have hne2 : v'.ownBlock ≠ some tp := by
      rw [hv']; intro e
      rcases HG.out.2.2.1 with e9 | e9
      · exact HNE.out (e9.trans e)
      · have h7 := lt_of_block HT.out
        have h8 : w.heap.size ≤ g := by rw [e9]; exact HBL.out.size
        have h6 : g = tp := Option.some.inj e
        omega
    have ho3 : (w2.setCell ⟨tp, 0, none⟩ v').ownsRow base 9 1 v' (n + 1) (xs ++ [cmdV l]) := own_keep (X := fun k => k = tp) HG.out.1 (Keep.set (X := fun k => k = tp) w2 ⟨tp, 0, none⟩ v' rfl) (fun j e e9 => hne2 (e.trans (congrArg some e9)))
    have ht3 : (w2.setCell ⟨tp, 0, none⟩ v').heap[tp]? = some (.cells #[v'] 27 (0, 0)) := one_set HG.out.2.2.2
    have hL3 : v'.ownBlock = v.ownBlock ∨ ∃ g, v'.ownBlock = some g ∧ w.heap.size ≤ g := by
      rw [hv']
      rcases HG.out.2.2.1 with e9 | e9
      · exact .inl e9.symm
      · exact .inr ⟨g, rfl, by rw [e9]; exact HBL.out.size⟩
    have H3 := hid (And.intro hk3 (And.intro ho3 (And.intro ht3 hL3)))
    have hc3 : (w2.setCell ⟨tp, 0, none⟩ v').drew.cell? ⟨tp, 0, none⟩ = some (.slice (some ⟨g, 0, none⟩) (n + 1) cap) := by rw [← hv']; exact (one_cell ht3).1
    clear hk3 hne2 ho3 ht3 hL3 hc0 hcd hcc hfz hc00
    generalize w2.setCell ⟨tp, 0, none⟩ v' = w3 at *
    clear hv'
    go_upto_region 4 with fail
    go_region
    all_goals
      have hown0 : (w3.alloc (.cells #[.int .u8 (((n : Int) + 1) % 256), .int .u8 (((n : Int) + 1) / 256 % 256)] 5)).drew.ownsRow w3.heap.size 5 1 (.slice (some ⟨w3.heap.size, 0, none⟩) 2 2) 2 (([UInt8.ofNat ((n + 1) % 256), UInt8.ofNat ((n + 1) / 256 % 256)] : List UInt8).map bv) := by rw [← two_bytes]; exact own_two w3 _ _ (Nat.le_refl _)
      have hbel0 : Below w3.heap.size w3 (w3.alloc (.cells #[.int .u8 (((n : Int) + 1) % 256), .int .u8 (((n : Int) + 1) / 256 % 256)] 5)).drew := below_alloc_drew _ _
      have HOW0 := hid hown0
      have HBE0 := hid hbel0
      clear hown0 hbel0 hc3
      generalize (w3.alloc (.cells #[.int .u8 (((n : Int) + 1) % 256), .int .u8 (((n : Int) + 1) / 256 % 256)] 5)).drew = w4 at *
      obtain ⟨A, hA⟩ : ∃ A : List UInt8, A = [UInt8.ofNat ((n + 1) % 256), UInt8.ofNat ((n + 1) / 256 % 256)] := ⟨_, rfl⟩
      have HA := hid hA
      have hA2 : A.length = 2 := by rw [hA]; rfl
      rw [← hA] at HOW0
      clear hA
      obtain ⟨j0, hj0, hj1, hj2, hj3⟩ := info_parts8
      have hwr : wrap64 ((l.length : Int) - 1) = (l.length : Int) - 1 := by have := HLL.out; simp only [wrap64]; omega
      have HWR := hid hwr
      clear hwr
      go_wp2_with fail
      go_loopw [5, 6] (fun x i wr => ∃ k, k ≤ l.length ∧ i = .int .i64 ((l.length : Int) - 1 - (k : Int)) ∧ wr.ownsRow w3.heap.size 5 1 x (A ++ l.reverse.take k).length ((A ++ l.reverse.take k).map bv) ∧ Below w3.heap.size w3 wr) (fun _ i _ => (intOf i + 1).toNat)
      case atStart => exact ⟨0, Nat.zero_le _, by rw [HWR.out]; simp, by rw [List.take_zero, List.append_nil, hA2]; exact HOW0.out, HBE0.out⟩
      case round =>
        obtain ⟨k, hk, rfl, hown, hb⟩ := hrel
        by_cases hlt : k < l.length
        · obtain ⟨m, hm⟩ : ∃ m : Nat, (l.length : Int) - 1 - (k : Int) = (m : Int) := ⟨l.length - 1 - k, by omega⟩
          have hml : m < l.length := by omega
          obtain ⟨b, off, cp, hfx, h1, h2, hc⟩ := (show Rd wr (.slice ao l.length cx) l from (HX.out.keep H3.out.1 (fun j k e => HXB.out k e)).old hb).at (by omega)
          obtain ⟨rfl, rfl⟩ : ao = some ⟨b, off, none⟩ ∧ cx = cp := by simp only [Value.slice.injEq] at hfx; exact ⟨hfx.1, hfx.2.2⟩
          have hcm := hc m hml
          have hrev : l.reverse.take (k + 1) = l.reverse.take k ++ [l[m]] := by
            rw [List.take_add_one, List.getElem?_reverse (by omega)]
            have : l.length - 1 - k = m := by omega
            rw [this, List.getElem?_eq_getElem hml]; rfl
          have hw2 : wrap64 ((m : Int) - 1) = (l.length : Int) - 1 - ((k + 1 : Nat) : Int) := by simp only [wrap64]; have := HLL.out; omega
          rw [hm]
          generalize l[m] = c at *
          have HMM := hid hm
          clear hc hm hfx
          have HRV := hid hrev
          have HH := hid hw2
          have HBB := hid hb
          have hpl : (A ++ l.reverse.take k).length ≤ 1002 := by rw [List.length_append, List.length_take, List.length_reverse, hA2]; have := HLL.out; omega
          have HPL := hid hpl
          have hsz := Nat.le_trans HBS.out (Nat.le_refl _)
          have HSW : Hid (w3.heap.size ≤ wr.heap.size) := hid hb.size
          have HOL := hid hown.lt
          clear hrev hw2 hb hpl hsz
          go_wp2_with (first
            | (at_builtin; refine wpList_append_own _ rfl _ _ 35 rfl w3.heap.size 5 j0 (.int .u8 0) 1 1 Try.underlying35 hj0 hj1 hj2 hj3 rfl (by decide) _ _ _ rfl (hown.alloc _) ⟨wr.heap.size, 0, none⟩ 1 1 [bv c] rfl rfl (cell_one_new _ _ _) (bv_one [c]) (by have := HPL.out; unfold maxLen; simp at this ⊢; omega) (by have := HPL.out; simp at this ⊢; omega) (by have := HSW.out; simp; omega) ?_; intro x' w1 hown' hgrow _))
          have hb5 : Below w3.heap.size w3 w1 := (HBB.out.alloc HBB.out.size _).grown hgrow (by simp; have := HSW.out; omega) (fun q hq => (HOL.out q hq).1)
          have HB5 := hid hb5
          have hown5 : w1.ownsRow w3.heap.size 5 1 x' (A ++ l.reverse.take (k + 1)).length ((A ++ l.reverse.take (k + 1)).map bv) := by rw [HRV.out]; simpa [Nat.add_assoc] using hown'
          have HO5 := hid hown5
          clear hgrow hown' hown hb5 hown5
          go_wp2_with fail
          go_roundw
          case rel => exact ⟨k + 1, by omega, by rw [HH.out], HO5.out, HB5.out⟩
          case measure => rw [HH.out]; have := HMM.out; simp [intOf]; omega
        · obtain rfl : k = l.length := by omega
          have hng : ¬ (0 : Int) ≤ (l.length : Int) - 1 - (l.length : Int) := by omega
          have HBB := hid hb
          have HOW := hid hown
          clear hb hown
          go_wp2_with fail
          go_ret
          rw [List.take_of_length_le (by simp)] at HOW
          have e9 : A ++ l.reverse = ansL (n + 1) l := by rw [HA.out]; rfl
          rw [e9] at HOW
          exact ⟨_, _, rfl, ownsRow_base HOW.out H3.out.1.size, (HBB.out.block tp (by have := lt_of_block HT.out; have := H3.out.1.size; omega)).trans H3.out.2.2.1, own_old H3.out.2.1 HBB.out, H3.out.2.2.2, H3.out.1.trans (Keep.of_below HBB.out)⟩
end Go.Proofs.Ytnjmhlmimpdahaa

set_option linter.unusedVariables false
set_option linter.unusedSimpArgs false
set_option maxRecDepth 100000
namespace Go.Proofs.Ytnjmhlmimpdahaa
open Go.RowKit Go.Deep

theorem numb_inj {a b : Nat} {r1 r2 : List UInt8} (ha : a < 2 ^ 64) (hb : b < 2 ^ 64) (h : numL a ++ r1 = numL b ++ r2) : a = b ∧ r1 = r2 := by
  have e1 := rdN_back ha r1
  have e2 := rdN_back hb r2
  rw [h, e2] at e1
  simp only [Prod.mk.injEq] at e1
  obtain ⟨rfl, -⟩ := e1
  exact ⟨rfl, List.append_cancel_left h⟩

theorem text_inj {a b r1 r2 : List UInt8} (ha : a.length < 2 ^ 64) (hb : b.length < 2 ^ 64) (h : textL a ++ r1 = textL b ++ r2) : a = b ∧ r1 = r2 := by
  unfold textL at h
  rw [List.append_assoc, List.append_assoc] at h
  obtain ⟨h1, h2⟩ := numb_inj ha hb h
  exact List.append_inj h2 h1

/-- A call with these bytes. -/
theorem call_open {W : World} {N : Nat → Prop} {cs : List Value} {cl sq : Nat} {l : List UInt8} (hc : cl < 18446744073709551616) (hs : sq < 18446744073709551616) (hl : l.length ≤ 1048576) (h : EncN N W sCall cs (numL cl ++ (numL sq ++ textL l))) : ∃ y, cs = [.int .u64 (cl : Int), .int .u64 (sq : Int), y] ∧ Rd W y l ∧ (∀ k, blk y = some k → N k) ∧ y.oneCell' = true := by
  obtain ⟨c1, r1, b1, p1, rfl, hb, ⟨n1, hn1, rfl, rfl⟩, c2, r2, b2, p2, rfl, rfl, ⟨n2, hn2, rfl, rfl⟩, c3, r3, b3, p3, rfl, rfl, ⟨y, m, rfl, ho, hr, hm, rfl, hN⟩, rfl, rfl⟩ := h
  obtain ⟨rfl, hb1⟩ := numb_inj (by omega) (by omega) hb
  obtain ⟨rfl, hb2⟩ := numb_inj (by omega) (by omega) hb1
  obtain ⟨rfl, hb3⟩ := text_inj (a := l) (b := m) (r1 := []) (by omega) (by omega) (by rw [List.append_nil]; exact hb2)
  exact ⟨y, rfl, hr, hN, ho⟩
end Go.Proofs.Ytnjmhlmimpdahaa

set_option linter.unusedVariables false
set_option linter.unusedSimpArgs false
set_option maxRecDepth 100000
namespace Go.Proofs.Ytnjmhlmimpdahaa
open Go.RowKit Go.Deep

/-- An element reads as itself. -/
def RV (v : Value) : Option (DataW Value × List MemPlace) := some (.held v, [])
theorem key64 : Go.Maps.Keyed Try.prog 23 := Go.Maps.int_keyed Try.underlying23
theorem key64_of {c : Nat} (hc : c < 18446744073709551616) : keyOf Try.prog 23 (.int .u64 (c : Int)) = some (.int .u64 (c : Int)) :=
  Go.Maps.keyOf_int_mk Try.underlying23 (by simp only [Lit.wf, Bool.and_eq_true, decide_eq_true_eq]; exact ⟨by show (0 : Int) ≤ (c : Int); omega, by show (c : Int) ≤ 18446744073709551615; omega⟩)

/-- A map of clients in memory: which value each has. -/
def Mpp (w : World) (b n : Nat) (f : Nat → Option Value) : Prop :=
  ∃ D : DataW Value, w.ownsMap Try.prog 23 RV b n D ∧ Maps.IsMap D ∧ ∀ c : Nat, c < 18446744073709551616 → (∀ z, D.atKey (.int .u64 (c : Int)) (.held z) = .held ((f c).getD z)) ∧ Maps.has D (.int .u64 (c : Int)) = (f c).isSome

theorem Mpp.made (w : World) : Mpp (w.alloc (.map #[] 0)) w.heap.size 0 (fun _ => none) :=
  ⟨.map [], World.ownsMap_made _ _ _ _, Maps.isMap_empty, fun c _ => ⟨fun z => rfl, rfl⟩⟩
theorem Mpp.lt {w : World} {b n : Nat} {f : Nat → Option Value} (h : Mpp w b n f) : b < w.heap.size := by
  obtain ⟨D, h1, -⟩ := h; exact h1.lt
theorem Mpp.kept {w w' : World} {b n : Nat} {f : Nat → Option Value} {X : Nat → Prop} (h : Mpp w b n f) (hk : Keep X w w') (hx : ¬ X b) : Mpp w' b n f := by
  obtain ⟨D, h1, h2⟩ := h
  have hlt := h1.lt
  obtain ⟨es, clock, hb, F, hs, hD⟩ := h1
  exact ⟨D, ⟨es, clock, (hk.block b hlt hx).trans hb, F, hs, hD⟩, h2⟩
theorem Mpp.look {w : World} {b n : Nat} {f : Nat → Option Value} (h : Mpp w b n f) {c : Nat} (hc : c < 18446744073709551616) (z : Value) (hz : (zeroValue 72).run Try.prog w = .ok z w) :
    (Instr.lookup 62 (.map (some b)) (.int .u64 (c : Int)) false).run Try.prog w = .ok ((f c).getD z) w := by
  obtain ⟨D, h1, _, h2⟩ := h
  obtain ⟨v, ps, hr, hv⟩ := h1.lookup key64 Try.underlying62 hz (zd := .held z) (zp := []) rfl (key64_of hc)
  rw [(h2 c hc).1 z] at hv
  simp only [RV, Option.some.injEq, Prod.mk.injEq, DataW.held.injEq] at hv
  rw [hr, hv.1]
theorem Mpp.look_ok {w : World} {b n : Nat} {f : Nat → Option Value} (h : Mpp w b n f) {c : Nat} (hc : c < 18446744073709551616) (z : Value) (hz : (zeroValue 72).run Try.prog w = .ok z w) :
    (Instr.lookup 62 (.map (some b)) (.int .u64 (c : Int)) true).run Try.prog w = .ok (.tuple #[(f c).getD z, .bool (f c).isSome]) w := by
  obtain ⟨D, h1, _, h2⟩ := h
  obtain ⟨v, ps, hr, hv⟩ := h1.look_ok key64 Try.underlying62 hz (zd := .held z) (zp := []) rfl (key64_of hc)
  rw [(h2 c hc).1 z] at hv
  simp only [RV, Option.some.injEq, Prod.mk.injEq, DataW.held.injEq] at hv
  rw [hr, hv.1, (h2 c hc).2]
theorem Mpp.store {w : World} {b n : Nat} {f : Nat → Option Value} (h : Mpp w b n f) {c : Nat} (hc : c < 18446744073709551616) (hn : n < maxLen) (v : Value) :
    ∃ w', (Instr.mapUpdate 62 (.map (some b)) (.int .u64 (c : Int)) v).run Try.prog w = .ok () w' ∧ Mpp w' b (n + 1) (fun x => if x = c then some v else f x) ∧ Keep (fun k => k = b) w w' := by
  obtain ⟨D, h1, hI, h2⟩ := h
  obtain ⟨w', hr, ho, hg⟩ := h1.update key64 Try.underlying62 hn (val := v) (d := .held v) (ps := []) (key64_of hc) rfl
  refine ⟨w', hr, ⟨_, ho, hI.put _ _, fun x hx => ?_⟩, Keep.of_grown hg (fun k e => by cases e; rfl)⟩
  have hk : WideAt.IsKeyLit (.int .u64 (c : Int)) := trivial
  by_cases e : x = c
  · subst e
    rw [show (fun y => if y = x then some v else f y) x = some v from if_pos rfl]
    exact ⟨fun z => Maps.atKey_put_same hI hk _ _, Maps.has_put_same hI hk _⟩
  · have hne : (Lit.int .u64 (x : Int)) ≠ (Lit.int .u64 (c : Int)) := fun h9 => e (by injection h9; omega)
    rw [show (fun y => if y = c then some v else f y) x = f x from if_neg e]
    exact ⟨fun z => (Maps.atKey_put_other hne _ _).trans ((h2 x hx).1 z), (Maps.has_put_other hne _).trans (h2 x hx).2⟩

/-- A client's last call, and its value. -/
def Ans (w : World) (base : Nat) : Option (Nat × List UInt8) → Option Value → Prop
  | none, none => True
  | some (s, l), some x => 0 < s ∧ s < 18446744073709551616 ∧ ∃ y, x = .agg #[.int .u64 (s : Int), y] ∧ w.ownsRow base 5 1 y l.length (l.map bv)
  | _, _ => False

/-- A machine over a tape, in memory. -/
structure Mch (w : World) (d mb tp : Nat) (v : Value) (n : Nat) (f : Nat → Option (Nat × List UInt8)) (L : List (List UInt8)) (base : Nat) : Prop where
  hd : w.heap[d]? = some (.cells #[.iface 24 (.pointer (some ⟨tp, 0, none⟩)), .map (some mb)] 64 (0, 0))
  ht : w.heap[tp]? = some (.cells #[v] 27 (0, 0))
  hv : w.ownsRow base 9 1 v L.length (L.map cmdV)
  hm : ∃ g, Mpp w mb n g ∧ ∀ c, Ans w base (f c) (g c)
  hb : base ≤ d ∧ base ≤ mb ∧ base ≤ tp ∧ base ≤ w.heap.size

theorem zeroLast (w : World) : (zeroValue 72).run Try.prog w = .ok (.agg #[.int .u64 0, .slice none 0 0]) w := by kernel_rfl

theorem Ans.kept {w w' : World} {base : Nat} {X : Nat → Prop} (hk : Keep X w w') {a : Option (Nat × List UInt8)} {x : Option Value} (h : Ans w base a x) (hx : ∀ y (l : List UInt8) k, w.ownsRow base 5 1 y l.length (l.map bv) → y.ownBlock = some k → ¬ X k) : Ans w' base a x := by
  cases a with
  | none => cases x with | none => trivial | some x => exact h.elim
  | some a =>
    obtain ⟨s, l⟩ := a
    cases x with
    | none => exact h.elim
    | some x =>
      obtain ⟨h1, h2, y, rfl, h3⟩ := h
      exact ⟨h1, h2, y, rfl, own_keep h3 hk (fun j e e9 => hx y l j h3 e e9)⟩

/-- The blocks of a machine that turn are no others' (by what they hold). -/
theorem row_ne {w : World} {base : Nat} {e e' : TypeId} {v : Value} {n : Nat} {xs : List Value} (h : w.ownsRow base e 1 v n xs) {k : Nat} {cs : Array Value} {fr : Nat × Nat} (hk : w.heap[k]? = some (.cells cs e' fr)) (hne : e ≠ e') : v.ownBlock ≠ some k := by
  intro e9
  rcases h.2 with ⟨rfl, -⟩ | ⟨g', cap', cur, rfl, hb, hg, hnc, hc, hsz, htt⟩
  · cases e9
  · simp only [Value.ownBlock, Option.some.injEq] at e9
    subst e9
    rw [hk] at hg
    injection hg with hg
    injection hg with h1 h2
    exact hne h2.symm
theorem row_map {w : World} {base : Nat} {e : TypeId} {v : Value} {n m : Nat} {xs : List Value} {g : Nat → Option Value} (h : w.ownsRow base e 1 v n xs) {k : Nat} (hk : Mpp w k m g) : v.ownBlock ≠ some k := by
  intro e9
  obtain ⟨D, ⟨es, clock, hbk, _⟩, _⟩ := hk
  rcases h.2 with ⟨rfl, -⟩ | ⟨g', cap', cur, rfl, hb, hg, hnc, hc, hsz, htt⟩
  · cases e9
  · simp only [Value.ownBlock, Option.some.injEq] at e9
    subst e9
    rw [hbk] at hg
    cases hg
theorem rows_ne {w : World} {base base' : Nat} {e e' : TypeId} {v v' : Value} {n n' : Nat} {xs xs' : List Value} (h : w.ownsRow base e 1 v n xs) (h' : w.ownsRow base' e' 1 v' n' xs') (hne : e ≠ e') {k : Nat} (hk : v.ownBlock = some k) : v'.ownBlock ≠ some k := by
  intro e9
  rcases h.2 with ⟨rfl, -⟩ | ⟨g', cap', cur, rfl, hb, hg, hnc, hc, hsz, htt⟩
  · cases hk
  · simp only [Value.ownBlock, Option.some.injEq] at hk
    subst hk
    exact row_ne h' hg (Ne.symm hne) e9

theorem map_ne {w : World} {b b' n : Nat} {g : Nat → Option Value} (h : Mpp w b n g) {cs : Array Value} {e : TypeId} {fr : Nat × Nat} (hk : w.heap[b']? = some (.cells cs e fr)) : b ≠ b' := by
  intro e9
  obtain ⟨D, ⟨es, clock, hbk, _⟩, _⟩ := h
  rw [e9, hk] at hbk
  cases hbk

/-- Nothing of it is touched: it stays. -/
theorem Mch.kept {w w' : World} {d mb tp n base : Nat} {v : Value} {f : Nat → Option (Nat × List UInt8)} {L : List (List UInt8)} (h : Mch w d mb tp v n f L base) (hb : Below w.heap.size w w') : Mch w' d mb tp v n f L base := by
  obtain ⟨g, hm, ha⟩ := h.hm
  have hk : Keep (fun _ => False) w w' := Keep.of_below hb
  exact ⟨(hb.block d (lt_of_block h.hd)).trans h.hd, (hb.block tp (lt_of_block h.ht)).trans h.ht, own_old h.hv hb, ⟨g, hm.kept hk (fun e => e), fun c => (ha c).kept hk (fun _ _ _ _ _ e => e)⟩, h.hb.1, h.hb.2.1, h.hb.2.2.1, Nat.le_trans h.hb.2.2.2 hb.size⟩

set_option maxHeartbeats 1000000 in
theorem dnew_any {w : World} {tp : Nat} {v : Value} {L : List (List UInt8)} {base : Nat} (ht : w.heap[tp]? = some (.cells #[v] 27 (0, 0))) (hv : w.ownsRow base 9 1 v L.length (L.map cmdV)) (hb : base ≤ tp) :
    Calls Try.prog 8 #[.iface 24 (.pointer (some ⟨tp, 0, none⟩))] w (fun en w' => ∃ d mb, en = .returned (.pointer (some ⟨d, 0, none⟩)) ∧ w.heap.size ≤ d ∧ w.heap.size ≤ mb ∧ Mch w' d mb tp v 0 (fun _ => none) L base ∧ Below w.heap.size w w') := by
  have hmm := @run_makeMap Try.prog
  have hlt := lt_of_block ht
  have HT := hid ht
  have HV := hid hv
  clear ht hv
  go_enter Try.func8, Try.ntmps8
  go_wp2_with fail
  go_ret
  have hb1 : Below w.heap.size w (w.alloc (.map #[] 0)) := (Below.refl _ _).alloc (Nat.le_refl _) _
  have hb2 := hb1.alloc (by simp) (.cells #[.iface 24 (.pointer (some ⟨tp, 0, none⟩)), .map (some w.heap.size)] 64)
  refine ⟨_, _, rfl, ?_, Nat.le_refl _, ⟨heap_alloc2_new _ _ _, (hb2.block tp hlt).trans HT.out, own_old HV.out hb2, ⟨fun _ => none, (Mpp.made w).kept (Keep.of_below (X := fun _ => False) ((Below.refl _ _).alloc (Nat.le_refl _) _)) (fun e => e), fun _ => trivial⟩, ?_⟩, hb2⟩
  · omega
  · exact ⟨by have := hb2.size; simp at this ⊢; omega, by omega, hb, by have := hb2.size; omega⟩

set_option maxHeartbeats 1000000 in
theorem dnone_any {w : World} {d mb tp n base : Nat} {v : Value} {f : Nat → Option (Nat × List UInt8)} {L : List (List UInt8)} (h : Mch w d mb tp v n f L base) :
    Calls Try.prog 21 #[.pointer (some ⟨d, 0, none⟩)] w (fun en w' => en = .returned (.bool false) ∧ w = w') := by
  obtain ⟨h0, h1⟩ := two_cells h.hd
  clear h
  go_enter Try.func21, Try.ntmps21
  go_wp2_with fail
  go_ret
  exact ⟨rfl, rfl⟩
end Go.Proofs.Ytnjmhlmimpdahaa

set_option linter.unusedVariables false
set_option linter.unusedSimpArgs false
set_option maxRecDepth 100000
namespace Go.Proofs.Ytnjmhlmimpdahaa
open Go.RowKit Go.Deep

theorem setRow_keep (w : World) (B : Nat) (cs : Array Value) : Keep (fun k => k = B) w (w.setRow B cs) := by
  refine ⟨rfl, rfl, rfl, ?_, ?_⟩
  · show w.heap.size ≤ (w.heap.modify B _).size
    simp
  · intro k hk hx
    show (w.heap.modify B _)[k]? = _
    rw [Array.getElem?_modify, if_neg (fun e => hx e.symm)]
end Go.Proofs.Ytnjmhlmimpdahaa

