import Derived.WalkKit
import Derived.OpenShut
import Derived.Test.YtdfccaehoodjhaaGreatRows
import Derived.WalkSpells
import Derived.WalkLawsBesides
import Derived.Laws.AppendOwnNone
import Derived.ProofKit
import Derived.ShutString
import Derived.ChangeOld
import Derived.Below
import Derived.SizedLaws
import Derived.Deep.RegionHeld3
import Derived.Deep.Slices
import Derived.Deep.AppendLies
import Derived.Deep.Strs
import Derived.Lib.ConvBytes
import Derived.Laws.AppendOwn
import Derived.Deep.CutRange
import Derived.Deep.MidRow
import Derived.Great.Walk
import Derived.Test.YtdfccaehoodjhaaGreatWP1
import Derived.Test.YtdfccaehoodjhaaGreatWP2
import Derived.Test.YtdfccaehoodjhaaGreatWP3
import Derived.Test.YtdfccaehoodjhaaGreatWP4
import Derived.Test.YtdfccaehoodjhaaGreatWP17
import Derived.Test.YtdfccaehoodjhaaGreatWP18
import Derived.Test.YtdfccaehoodjhaaGreatWP19
set_option linter.unusedVariables false
set_option linter.unusedSimpArgs false
set_option linter.unusedVariables false
set_option linter.unusedSimpArgs false
set_option maxRecDepth 100000
namespace Go.Proofs.YtdfccaehoodjhaaGreat
open Go.RowKit Go.Deep

set_option maxHeartbeats 1000000 in
theorem pl1_Value (z0 : Int) (z1 : Int) (z2 : ByteArray) (w : World) : Calls Tryz.prog 188 #[.agg #[(.int .i64 z0), (.int .i64 z1), (.string z2)], .agg #[(.int .i64 z0), (.int .i64 z1), (.string z2)]] w (fun e w' => e = .returned (.bool true) ∧ Below w.heap.size w w') := by
  have hb : Below w.heap.size w ((w.alloc (.cells #[(.int .i64 z0), (.int .i64 z1), (.string z2)] 209)).alloc (.cells #[(.int .i64 z0), (.int .i64 z1), (.string z2)] 209)) := ((Below.refl _ _).alloc (Nat.le_refl _) _).alloc (by simp) _
  have h0 : ((w.alloc (.cells #[(.int .i64 z0), (.int .i64 z1), (.string z2)] 209)).alloc (.cells #[(.int .i64 z0), (.int .i64 z1), (.string z2)] 209)).heap[w.heap.size]? = some (.cells ([(.int .i64 z0), (.int .i64 z1), (.string z2)] : List Value).toArray 209 (0, 0)) := (Below.heap_alloc (w.alloc (.cells #[(.int .i64 z0), (.int .i64 z1), (.string z2)] 209)) (.cells #[(.int .i64 z0), (.int .i64 z1), (.string z2)] 209) w.heap.size (by simp)).trans (heap_alloc_new w (.cells #[(.int .i64 z0), (.int .i64 z1), (.string z2)] 209))
  have h1 : ((w.alloc (.cells #[(.int .i64 z0), (.int .i64 z1), (.string z2)] 209)).alloc (.cells #[(.int .i64 z0), (.int .i64 z1), (.string z2)] 209)).heap[w.heap.size + 1]? = some (.cells ([(.int .i64 z0), (.int .i64 z1), (.string z2)] : List Value).toArray 209 (0, 0)) := heap_alloc2_new w (.cells #[(.int .i64 z0), (.int .i64 z1), (.string z2)] 209) (.cells #[(.int .i64 z0), (.int .i64 z1), (.string z2)] 209)
  have c0 : ∀ (i : Nat) u, ([(.int .i64 z0), (.int .i64 z1), (.string z2)] : List Value)[i]? = some u → ((w.alloc (.cells #[(.int .i64 z0), (.int .i64 z1), (.string z2)] 209)).alloc (.cells #[(.int .i64 z0), (.int .i64 z1), (.string z2)] 209)).cell? ⟨w.heap.size, i, none⟩ = some u := fun i u hu => by simp only [World.cell?, h0]; simpa using hu
  have c1 : ∀ (i : Nat) u, ([(.int .i64 z0), (.int .i64 z1), (.string z2)] : List Value)[i]? = some u → ((w.alloc (.cells #[(.int .i64 z0), (.int .i64 z1), (.string z2)] 209)).alloc (.cells #[(.int .i64 z0), (.int .i64 z1), (.string z2)] 209)).cell? ⟨w.heap.size + 1, i, none⟩ = some u := fun i u hu => by simp only [World.cell?, h1]; simpa using hu
  have x0 := c0 0 _ rfl
  have y0 := c1 0 _ rfl
  have x1 := c0 1 _ rfl
  have y1 := c1 1 _ rfl
  have x2 := c0 2 _ rfl
  have y2 := c1 2 _ rfl
  clear h0 h1 c0 c1
  go_enter Tryz.func188, Tryz.ntmps188
  go_upto_region 1 with fail
  generalize (w.alloc (.cells #[(.int .i64 z0), (.int .i64 z1), (.string z2)] 209)).alloc (.cells #[(.int .i64 z0), (.int .i64 z1), (.string z2)] 209) = w1 at *
  go_wp2_with fail
  go_ret
  exact ⟨rfl, hb⟩

set_option maxHeartbeats 8000000 in
theorem sm_Value {w : World} {v1 v2 : Value} (h : Twin w (.list sValue) [v1] [v2]) :
    Calls Tryz.prog 187 #[v1, v2, (.func (.func 188) #[] #[])] w (fun e w' => e = .returned (.bool true) ∧ Below w.heap.size w w') := by
  obtain ⟨a1, a2, n, c1, c2, M1, M2, rfl, rfl, hL1, hL2, hM⟩ := tw_list h
  have hc1 := hL1.cap.1
  have hc2 := hL2.cap.1
  have hn6 := hL1.cap.2.1
  have HL1 := hid hL1
  have HL2 := hid hL2
  have HM := hid hM
  clear h hL1 hL2 hM
  go_enter Tryz.func187, Tryz.ntmps187
  go_wp2_with fail
  go_loopw [7] (fun i wr => ∃ k, k ≤ n ∧ i = .int .i64 (k : Int) ∧ Below w.heap.size w wr) (fun i _ => n - (intOf i).toNat)
  case atStart => exact ⟨0, by omega, rfl, Below.refl _ _⟩
  case round =>
    obtain ⟨k, hk, rfl, hb⟩ := hrel
    have HB := hid hb
    clear hb
    by_cases hlt : k < n
    · have hki : (k : Int) < (n : Int) := by omega
      obtain ⟨x, y, bk1, o1, bk2, o2, hxy, rfl, rfl, hcx, hcy⟩ := tw_get HL1.out HL2.out HM.out (by decide) hlt
      obtain ⟨v0, v1, v2, u0, u1, u2, rfl, rfl, e0, e1, e2⟩ := Value_twin hxy
      obtain ⟨z0, rfl, rfl⟩ := tw_int e0
      obtain ⟨z1, rfl, rfl⟩ := tw_int e1
      obtain ⟨z2, rfl, rfl⟩ := tw_name e2
      have CF : Hid (∀ V, Below w.heap.size w V → Calls Tryz.prog 188 #[.agg #[(.int .i64 z0), (.int .i64 z1), (.string z2)], .agg #[(.int .i64 z0), (.int .i64 z1), (.string z2)]] V (fun e w' => e = .returned (.bool true) ∧ Below V.heap.size V w')) := hid fun V _ => pl1_Value z0 z1 z2 V
      have hX : ∀ V, Below w.heap.size w V → ∀ (j : Nat) u, ([(.int .i64 z0), (.int .i64 z1), (.string z2)] : List Value)[j]? = some u → V.cell? ⟨bk1, o1 + k * 3 + j, none⟩ = some u := hcx
      have hY : ∀ V, Below w.heap.size w V → ∀ (j : Nat) u, ([(.int .i64 z0), (.int .i64 z1), (.string z2)] : List Value)[j]? = some u → V.cell? ⟨bk2, o2 + k * 3 + j, none⟩ = some u := hcy
      have HX := hid hX
      have HY := hid hY
      clear hX hY hcx hcy
      go_upto_region 6 with fail
      have HWd : Hid (Below w.heap.size w wr.drew) := hid (HB.out.trans ((show Below wr.heap.size wr wr.drew from ⟨rfl, rfl, rfl, Nat.le_refl _, fun _ _ => rfl⟩).mono HB.out.size))
      obtain ⟨S9, hS9⟩ : ∃ S9 : World → Prop, S9 = fun V => Below w.heap.size w V := ⟨_, rfl⟩
      have HS : Hid (∀ V, Below w.heap.size w V → S9 V) := hid fun V h => by rw [hS9]; exact h
      have HSI : Hid (∀ V, S9 V → Below w.heap.size w V) := hid fun V h => by rw [hS9] at h; exact h
      clear hS9
      refine wp_region_noPanic ?_
      refine wp_region_held_drew (S := S9) (by kernel_rfl) (HS.out _ HWd.out) (fun hHeld => ?_)
      generalize wr.drew = Wd at *
      refine wpAnyH_take (i := 0) (v := (.func (.func 188) #[] #[])) rfl (by kernel_rfl) (by kernel_rfl) (by kernel_rfl) (fun _ _ _ h => (show False from h).elim) ?xySMValue1 ?xhSMValue1 ?xrSMValue1
      case xhSMValue1 => exact hHeld
      case xySMValue1 => exact Or.inl ⟨by rfl, fun W9 hW => by clear hHeld; simp only [List.getElem_toArray, List.getElem_cons_succ, List.getElem_cons_zero]; go_simp⟩
      simp only [Act.put, List.getElem_toArray, List.getElem_cons_succ, List.getElem_cons_zero, List.setIfInBounds_toArray, List.set_cons_succ, List.set_cons_zero]
      refine wpAnyH_take (i := 1) (v := (.slice (some ⟨bk1, o1, none⟩) n c1)) rfl (by kernel_rfl) (by kernel_rfl) (by kernel_rfl) (fun _ _ _ h => (show False from h).elim) ?xySMValue2 ?xhSMValue2 ?xrSMValue2
      case xhSMValue2 => exact hHeld
      case xySMValue2 => exact Or.inl ⟨by rfl, fun W9 hW => by clear hHeld; simp only [List.getElem_toArray, List.getElem_cons_succ, List.getElem_cons_zero]; go_simp⟩
      simp only [Act.put, List.getElem_toArray, List.getElem_cons_succ, List.getElem_cons_zero, List.setIfInBounds_toArray, List.set_cons_succ, List.set_cons_zero]
      refine wpAnyH_take (i := 2) (v := (.int .i64 (k : Int))) rfl (by kernel_rfl) (by kernel_rfl) (by kernel_rfl) (fun _ _ _ h => (show False from h).elim) ?xySMValue3 ?xhSMValue3 ?xrSMValue3
      case xhSMValue3 => exact hHeld
      case xySMValue3 => exact Or.inl ⟨by rfl, fun W9 hW => by clear hHeld; simp only [List.getElem_toArray, List.getElem_cons_succ, List.getElem_cons_zero]; go_simp⟩
      simp only [Act.put, List.getElem_toArray, List.getElem_cons_succ, List.getElem_cons_zero, List.setIfInBounds_toArray, List.set_cons_succ, List.set_cons_zero]
      refine wpAnyH_take (i := 3) (v := (.pointer (some ⟨bk1, o1 + k * 3, none⟩))) rfl (by kernel_rfl) (by kernel_rfl) (by kernel_rfl) (fun _ _ _ h => (show False from h).elim) ?xySMValue4 ?xhSMValue4 ?xrSMValue4
      case xhSMValue4 => exact hHeld
      case xySMValue4 => exact Or.inl ⟨by rfl, fun W9 hW => by clear hHeld; simp only [List.getElem_toArray, List.getElem_cons_succ, List.getElem_cons_zero]; go_simp⟩
      simp only [Act.put, List.getElem_toArray, List.getElem_cons_succ, List.getElem_cons_zero, List.setIfInBounds_toArray, List.set_cons_succ, List.set_cons_zero]
      refine wpAnyH_take (i := 4) (v := (.agg #[(.int .i64 z0), (.int .i64 z1), (.string z2)])) rfl (by kernel_rfl) (by kernel_rfl) (by kernel_rfl) (fun _ _ _ h => (show False from h).elim) ?xySMValue5 ?xhSMValue5 ?xrSMValue5
      case xhSMValue5 => exact hHeld
      case xySMValue5 => exact Or.inl ⟨by rfl, fun W9 hW => by have hWW := HSI.out _ hW; have q0 := HX.out _ hWW 0 _ rfl; rw [Nat.add_zero] at q0; have q1 := HX.out _ hWW 1 _ rfl; have q2 := HX.out _ hWW 2 _ rfl; clear hHeld; simp only [List.getElem_toArray, List.getElem_cons_succ, List.getElem_cons_zero]; go_simp⟩
      simp only [Act.put, List.getElem_toArray, List.getElem_cons_succ, List.getElem_cons_zero, List.setIfInBounds_toArray, List.set_cons_succ, List.set_cons_zero]
      refine wpAnyH_take (i := 5) (v := (.slice (some ⟨bk2, o2, none⟩) n c2)) rfl (by kernel_rfl) (by kernel_rfl) (by kernel_rfl) (fun _ _ _ h => (show False from h).elim) ?xySMValue6 ?xhSMValue6 ?xrSMValue6
      case xhSMValue6 => exact hHeld
      case xySMValue6 => exact Or.inl ⟨by rfl, fun W9 hW => by clear hHeld; simp only [List.getElem_toArray, List.getElem_cons_succ, List.getElem_cons_zero]; go_simp⟩
      simp only [Act.put, List.getElem_toArray, List.getElem_cons_succ, List.getElem_cons_zero, List.setIfInBounds_toArray, List.set_cons_succ, List.set_cons_zero]
      refine wpAnyH_take (i := 6) (v := (.int .i64 (k : Int))) rfl (by kernel_rfl) (by kernel_rfl) (by kernel_rfl) (fun _ _ _ h => (show False from h).elim) ?xySMValue7 ?xhSMValue7 ?xrSMValue7
      case xhSMValue7 => exact hHeld
      case xySMValue7 => exact Or.inl ⟨by rfl, fun W9 hW => by clear hHeld; simp only [List.getElem_toArray, List.getElem_cons_succ, List.getElem_cons_zero]; go_simp⟩
      simp only [Act.put, List.getElem_toArray, List.getElem_cons_succ, List.getElem_cons_zero, List.setIfInBounds_toArray, List.set_cons_succ, List.set_cons_zero]
      refine wpAnyH_take (i := 7) (v := (.pointer (some ⟨bk2, o2 + k * 3, none⟩))) rfl (by kernel_rfl) (by kernel_rfl) (by kernel_rfl) (fun _ _ _ h => (show False from h).elim) ?xySMValue8 ?xhSMValue8 ?xrSMValue8
      case xhSMValue8 => exact hHeld
      case xySMValue8 => exact Or.inl ⟨by rfl, fun W9 hW => by clear hHeld; simp only [List.getElem_toArray, List.getElem_cons_succ, List.getElem_cons_zero]; go_simp⟩
      simp only [Act.put, List.getElem_toArray, List.getElem_cons_succ, List.getElem_cons_zero, List.setIfInBounds_toArray, List.set_cons_succ, List.set_cons_zero]
      refine wpAnyH_take (i := 8) (v := (.agg #[(.int .i64 z0), (.int .i64 z1), (.string z2)])) rfl (by kernel_rfl) (by kernel_rfl) (by kernel_rfl) (fun _ _ _ h => (show False from h).elim) ?xySMValue9 ?xhSMValue9 ?xrSMValue9
      case xhSMValue9 => exact hHeld
      case xySMValue9 => exact Or.inl ⟨by rfl, fun W9 hW => by have hWW := HSI.out _ hW; have q0 := HY.out _ hWW 0 _ rfl; rw [Nat.add_zero] at q0; have q1 := HY.out _ hWW 1 _ rfl; have q2 := HY.out _ hWW 2 _ rfl; clear hHeld; simp only [List.getElem_toArray, List.getElem_cons_succ, List.getElem_cons_zero]; go_simp⟩
      simp only [Act.put, List.getElem_toArray, List.getElem_cons_succ, List.getElem_cons_zero, List.setIfInBounds_toArray, List.set_cons_succ, List.set_cons_zero]
      have CC := hid (CF.out _ HWd.out)
      refine wpAnyH_ready (rs := [9]) (by kernel_rfl) (by simp) ?_
      refine AllReadyH.cons rfl (fun K hK => ?_) AllReadyH.nil
      go_simp
      go_wp2_with (first | (go_at_call 188; refine CC.out.mono ?_; rintro en wE ⟨rfl, hbE⟩; have HBE := hid (HWd.out.trans (hbE.mono HWd.out.size)); clear hbE))
      refine hK.out _ _ (HS.out _ HBE.out) (fun hHeld => ?_)
      clear hK K
      refine wpAnyH_take (i := 10) (v := (.bool false)) rfl (by kernel_rfl) (by kernel_rfl) (by kernel_rfl) (fun _ _ _ h => (show False from h).elim) ?xySMValue10 ?xhSMValue10 ?xrSMValue10
      case xhSMValue10 => exact hHeld
      case xySMValue10 => exact Or.inl ⟨by rfl, fun W9 hW => by clear hHeld; simp only [List.getElem_toArray, List.getElem_cons_succ, List.getElem_cons_zero]; go_simp⟩
      simp only [Act.put, List.getElem_toArray, List.getElem_cons_succ, List.getElem_cons_zero, List.setIfInBounds_toArray, List.set_cons_succ, List.set_cons_zero]
      refine wpAnyH_done (by kernel_rfl) ?_ _
      refine NoPanic.normal ?_
      go_wp2_with fail
      go_roundw
      case rel => exact ⟨k + 1, by omega, by go_num, HBE.out⟩
      case measure => simp [intOf]; omega
    · obtain rfl : n = k := by omega
      have hki : ¬ (n : Int) < (n : Int) := by omega
      go_wp2_with fail
      go_ret
      exact ⟨rfl, HB.out⟩

set_option maxHeartbeats 1000000 in
theorem pl_Value {w : World} {v1 v2 : Value} (h : Twin w (.list sValue) [v1] [v2]) :
    Calls Tryz.prog 133 #[v1, v2] w (fun e w' => e = .returned (.bool true) ∧ Below w.heap.size w w') := by
  have C := hid (sm_Value h)
  clear h
  go_enter Tryz.func133, Tryz.ntmps133
  go_wp2_with (first | (go_at_call 187; refine C.out.mono ?_; rintro en w2 ⟨rfl, hb⟩; have HB := hid hb; clear hb))
  go_ret
  exact ⟨rfl, HB.out⟩

set_option maxHeartbeats 1000000 in
theorem pl1_Set (z0 : Int) (z1 : Int) (z2 : Int) (z3 : ByteArray) (w : World) : Calls Tryz.prog 190 #[.agg #[(.int .i64 z0), (.int .i64 z1), (.int .i64 z2), (.string z3)], .agg #[(.int .i64 z0), (.int .i64 z1), (.int .i64 z2), (.string z3)]] w (fun e w' => e = .returned (.bool true) ∧ Below w.heap.size w w') := by
  have hb : Below w.heap.size w ((w.alloc (.cells #[(.int .i64 z0), (.int .i64 z1), (.int .i64 z2), (.string z3)] 212)).alloc (.cells #[(.int .i64 z0), (.int .i64 z1), (.int .i64 z2), (.string z3)] 212)) := ((Below.refl _ _).alloc (Nat.le_refl _) _).alloc (by simp) _
  have h0 : ((w.alloc (.cells #[(.int .i64 z0), (.int .i64 z1), (.int .i64 z2), (.string z3)] 212)).alloc (.cells #[(.int .i64 z0), (.int .i64 z1), (.int .i64 z2), (.string z3)] 212)).heap[w.heap.size]? = some (.cells ([(.int .i64 z0), (.int .i64 z1), (.int .i64 z2), (.string z3)] : List Value).toArray 212 (0, 0)) := (Below.heap_alloc (w.alloc (.cells #[(.int .i64 z0), (.int .i64 z1), (.int .i64 z2), (.string z3)] 212)) (.cells #[(.int .i64 z0), (.int .i64 z1), (.int .i64 z2), (.string z3)] 212) w.heap.size (by simp)).trans (heap_alloc_new w (.cells #[(.int .i64 z0), (.int .i64 z1), (.int .i64 z2), (.string z3)] 212))
  have h1 : ((w.alloc (.cells #[(.int .i64 z0), (.int .i64 z1), (.int .i64 z2), (.string z3)] 212)).alloc (.cells #[(.int .i64 z0), (.int .i64 z1), (.int .i64 z2), (.string z3)] 212)).heap[w.heap.size + 1]? = some (.cells ([(.int .i64 z0), (.int .i64 z1), (.int .i64 z2), (.string z3)] : List Value).toArray 212 (0, 0)) := heap_alloc2_new w (.cells #[(.int .i64 z0), (.int .i64 z1), (.int .i64 z2), (.string z3)] 212) (.cells #[(.int .i64 z0), (.int .i64 z1), (.int .i64 z2), (.string z3)] 212)
  have c0 : ∀ (i : Nat) u, ([(.int .i64 z0), (.int .i64 z1), (.int .i64 z2), (.string z3)] : List Value)[i]? = some u → ((w.alloc (.cells #[(.int .i64 z0), (.int .i64 z1), (.int .i64 z2), (.string z3)] 212)).alloc (.cells #[(.int .i64 z0), (.int .i64 z1), (.int .i64 z2), (.string z3)] 212)).cell? ⟨w.heap.size, i, none⟩ = some u := fun i u hu => by simp only [World.cell?, h0]; simpa using hu
  have c1 : ∀ (i : Nat) u, ([(.int .i64 z0), (.int .i64 z1), (.int .i64 z2), (.string z3)] : List Value)[i]? = some u → ((w.alloc (.cells #[(.int .i64 z0), (.int .i64 z1), (.int .i64 z2), (.string z3)] 212)).alloc (.cells #[(.int .i64 z0), (.int .i64 z1), (.int .i64 z2), (.string z3)] 212)).cell? ⟨w.heap.size + 1, i, none⟩ = some u := fun i u hu => by simp only [World.cell?, h1]; simpa using hu
  have x0 := c0 0 _ rfl
  have y0 := c1 0 _ rfl
  have x1 := c0 1 _ rfl
  have y1 := c1 1 _ rfl
  have x2 := c0 2 _ rfl
  have y2 := c1 2 _ rfl
  have x3 := c0 3 _ rfl
  have y3 := c1 3 _ rfl
  clear h0 h1 c0 c1
  go_enter Tryz.func190, Tryz.ntmps190
  go_upto_region 1 with fail
  generalize (w.alloc (.cells #[(.int .i64 z0), (.int .i64 z1), (.int .i64 z2), (.string z3)] 212)).alloc (.cells #[(.int .i64 z0), (.int .i64 z1), (.int .i64 z2), (.string z3)] 212) = w1 at *
  go_wp2_with fail
  go_ret
  exact ⟨rfl, hb⟩

set_option maxHeartbeats 8000000 in
theorem sm_Set {w : World} {v1 v2 : Value} (h : Twin w (.list sSet) [v1] [v2]) :
    Calls Tryz.prog 189 #[v1, v2, (.func (.func 190) #[] #[])] w (fun e w' => e = .returned (.bool true) ∧ Below w.heap.size w w') := by
  obtain ⟨a1, a2, n, c1, c2, M1, M2, rfl, rfl, hL1, hL2, hM⟩ := tw_list h
  have hc1 := hL1.cap.1
  have hc2 := hL2.cap.1
  have hn6 := hL1.cap.2.1
  have HL1 := hid hL1
  have HL2 := hid hL2
  have HM := hid hM
  clear h hL1 hL2 hM
  go_enter Tryz.func189, Tryz.ntmps189
  go_wp2_with fail
  go_loopw [7] (fun i wr => ∃ k, k ≤ n ∧ i = .int .i64 (k : Int) ∧ Below w.heap.size w wr) (fun i _ => n - (intOf i).toNat)
  case atStart => exact ⟨0, by omega, rfl, Below.refl _ _⟩
  case round =>
    obtain ⟨k, hk, rfl, hb⟩ := hrel
    have HB := hid hb
    clear hb
    by_cases hlt : k < n
    · have hki : (k : Int) < (n : Int) := by omega
      obtain ⟨x, y, bk1, o1, bk2, o2, hxy, rfl, rfl, hcx, hcy⟩ := tw_get HL1.out HL2.out HM.out (by decide) hlt
      obtain ⟨v0, v1, v2, v3, u0, u1, u2, u3, rfl, rfl, e0, e1, e2, e3⟩ := Set_twin hxy
      obtain ⟨z0, rfl, rfl⟩ := tw_int e0
      obtain ⟨z1, rfl, rfl⟩ := tw_int e1
      obtain ⟨z2, rfl, rfl⟩ := tw_int e2
      obtain ⟨z3, rfl, rfl⟩ := tw_name e3
      have CF : Hid (∀ V, Below w.heap.size w V → Calls Tryz.prog 190 #[.agg #[(.int .i64 z0), (.int .i64 z1), (.int .i64 z2), (.string z3)], .agg #[(.int .i64 z0), (.int .i64 z1), (.int .i64 z2), (.string z3)]] V (fun e w' => e = .returned (.bool true) ∧ Below V.heap.size V w')) := hid fun V _ => pl1_Set z0 z1 z2 z3 V
      have hX : ∀ V, Below w.heap.size w V → ∀ (j : Nat) u, ([(.int .i64 z0), (.int .i64 z1), (.int .i64 z2), (.string z3)] : List Value)[j]? = some u → V.cell? ⟨bk1, o1 + k * 4 + j, none⟩ = some u := hcx
      have hY : ∀ V, Below w.heap.size w V → ∀ (j : Nat) u, ([(.int .i64 z0), (.int .i64 z1), (.int .i64 z2), (.string z3)] : List Value)[j]? = some u → V.cell? ⟨bk2, o2 + k * 4 + j, none⟩ = some u := hcy
      have HX := hid hX
      have HY := hid hY
      clear hX hY hcx hcy
      go_upto_region 6 with fail
      have HWd : Hid (Below w.heap.size w wr.drew) := hid (HB.out.trans ((show Below wr.heap.size wr wr.drew from ⟨rfl, rfl, rfl, Nat.le_refl _, fun _ _ => rfl⟩).mono HB.out.size))
      obtain ⟨S9, hS9⟩ : ∃ S9 : World → Prop, S9 = fun V => Below w.heap.size w V := ⟨_, rfl⟩
      have HS : Hid (∀ V, Below w.heap.size w V → S9 V) := hid fun V h => by rw [hS9]; exact h
      have HSI : Hid (∀ V, S9 V → Below w.heap.size w V) := hid fun V h => by rw [hS9] at h; exact h
      clear hS9
      refine wp_region_noPanic ?_
      refine wp_region_held_drew (S := S9) (by kernel_rfl) (HS.out _ HWd.out) (fun hHeld => ?_)
      generalize wr.drew = Wd at *
      refine wpAnyH_take (i := 0) (v := (.func (.func 190) #[] #[])) rfl (by kernel_rfl) (by kernel_rfl) (by kernel_rfl) (fun _ _ _ h => (show False from h).elim) ?xySMSet1 ?xhSMSet1 ?xrSMSet1
      case xhSMSet1 => exact hHeld
      case xySMSet1 => exact Or.inl ⟨by rfl, fun W9 hW => by clear hHeld; simp only [List.getElem_toArray, List.getElem_cons_succ, List.getElem_cons_zero]; go_simp⟩
      simp only [Act.put, List.getElem_toArray, List.getElem_cons_succ, List.getElem_cons_zero, List.setIfInBounds_toArray, List.set_cons_succ, List.set_cons_zero]
      refine wpAnyH_take (i := 1) (v := (.slice (some ⟨bk1, o1, none⟩) n c1)) rfl (by kernel_rfl) (by kernel_rfl) (by kernel_rfl) (fun _ _ _ h => (show False from h).elim) ?xySMSet2 ?xhSMSet2 ?xrSMSet2
      case xhSMSet2 => exact hHeld
      case xySMSet2 => exact Or.inl ⟨by rfl, fun W9 hW => by clear hHeld; simp only [List.getElem_toArray, List.getElem_cons_succ, List.getElem_cons_zero]; go_simp⟩
      simp only [Act.put, List.getElem_toArray, List.getElem_cons_succ, List.getElem_cons_zero, List.setIfInBounds_toArray, List.set_cons_succ, List.set_cons_zero]
      refine wpAnyH_take (i := 2) (v := (.int .i64 (k : Int))) rfl (by kernel_rfl) (by kernel_rfl) (by kernel_rfl) (fun _ _ _ h => (show False from h).elim) ?xySMSet3 ?xhSMSet3 ?xrSMSet3
      case xhSMSet3 => exact hHeld
      case xySMSet3 => exact Or.inl ⟨by rfl, fun W9 hW => by clear hHeld; simp only [List.getElem_toArray, List.getElem_cons_succ, List.getElem_cons_zero]; go_simp⟩
      simp only [Act.put, List.getElem_toArray, List.getElem_cons_succ, List.getElem_cons_zero, List.setIfInBounds_toArray, List.set_cons_succ, List.set_cons_zero]
      refine wpAnyH_take (i := 3) (v := (.pointer (some ⟨bk1, o1 + k * 4, none⟩))) rfl (by kernel_rfl) (by kernel_rfl) (by kernel_rfl) (fun _ _ _ h => (show False from h).elim) ?xySMSet4 ?xhSMSet4 ?xrSMSet4
      case xhSMSet4 => exact hHeld
      case xySMSet4 => exact Or.inl ⟨by rfl, fun W9 hW => by clear hHeld; simp only [List.getElem_toArray, List.getElem_cons_succ, List.getElem_cons_zero]; go_simp⟩
      simp only [Act.put, List.getElem_toArray, List.getElem_cons_succ, List.getElem_cons_zero, List.setIfInBounds_toArray, List.set_cons_succ, List.set_cons_zero]
      refine wpAnyH_take (i := 4) (v := (.agg #[(.int .i64 z0), (.int .i64 z1), (.int .i64 z2), (.string z3)])) rfl (by kernel_rfl) (by kernel_rfl) (by kernel_rfl) (fun _ _ _ h => (show False from h).elim) ?xySMSet5 ?xhSMSet5 ?xrSMSet5
      case xhSMSet5 => exact hHeld
      case xySMSet5 => exact Or.inl ⟨by rfl, fun W9 hW => by have hWW := HSI.out _ hW; have q0 := HX.out _ hWW 0 _ rfl; rw [Nat.add_zero] at q0; have q1 := HX.out _ hWW 1 _ rfl; have q2 := HX.out _ hWW 2 _ rfl; have q3 := HX.out _ hWW 3 _ rfl; clear hHeld; simp only [List.getElem_toArray, List.getElem_cons_succ, List.getElem_cons_zero]; go_simp⟩
      simp only [Act.put, List.getElem_toArray, List.getElem_cons_succ, List.getElem_cons_zero, List.setIfInBounds_toArray, List.set_cons_succ, List.set_cons_zero]
      refine wpAnyH_take (i := 5) (v := (.slice (some ⟨bk2, o2, none⟩) n c2)) rfl (by kernel_rfl) (by kernel_rfl) (by kernel_rfl) (fun _ _ _ h => (show False from h).elim) ?xySMSet6 ?xhSMSet6 ?xrSMSet6
      case xhSMSet6 => exact hHeld
      case xySMSet6 => exact Or.inl ⟨by rfl, fun W9 hW => by clear hHeld; simp only [List.getElem_toArray, List.getElem_cons_succ, List.getElem_cons_zero]; go_simp⟩
      simp only [Act.put, List.getElem_toArray, List.getElem_cons_succ, List.getElem_cons_zero, List.setIfInBounds_toArray, List.set_cons_succ, List.set_cons_zero]
      refine wpAnyH_take (i := 6) (v := (.int .i64 (k : Int))) rfl (by kernel_rfl) (by kernel_rfl) (by kernel_rfl) (fun _ _ _ h => (show False from h).elim) ?xySMSet7 ?xhSMSet7 ?xrSMSet7
      case xhSMSet7 => exact hHeld
      case xySMSet7 => exact Or.inl ⟨by rfl, fun W9 hW => by clear hHeld; simp only [List.getElem_toArray, List.getElem_cons_succ, List.getElem_cons_zero]; go_simp⟩
      simp only [Act.put, List.getElem_toArray, List.getElem_cons_succ, List.getElem_cons_zero, List.setIfInBounds_toArray, List.set_cons_succ, List.set_cons_zero]
      refine wpAnyH_take (i := 7) (v := (.pointer (some ⟨bk2, o2 + k * 4, none⟩))) rfl (by kernel_rfl) (by kernel_rfl) (by kernel_rfl) (fun _ _ _ h => (show False from h).elim) ?xySMSet8 ?xhSMSet8 ?xrSMSet8
      case xhSMSet8 => exact hHeld
      case xySMSet8 => exact Or.inl ⟨by rfl, fun W9 hW => by clear hHeld; simp only [List.getElem_toArray, List.getElem_cons_succ, List.getElem_cons_zero]; go_simp⟩
      simp only [Act.put, List.getElem_toArray, List.getElem_cons_succ, List.getElem_cons_zero, List.setIfInBounds_toArray, List.set_cons_succ, List.set_cons_zero]
      refine wpAnyH_take (i := 8) (v := (.agg #[(.int .i64 z0), (.int .i64 z1), (.int .i64 z2), (.string z3)])) rfl (by kernel_rfl) (by kernel_rfl) (by kernel_rfl) (fun _ _ _ h => (show False from h).elim) ?xySMSet9 ?xhSMSet9 ?xrSMSet9
      case xhSMSet9 => exact hHeld
      case xySMSet9 => exact Or.inl ⟨by rfl, fun W9 hW => by have hWW := HSI.out _ hW; have q0 := HY.out _ hWW 0 _ rfl; rw [Nat.add_zero] at q0; have q1 := HY.out _ hWW 1 _ rfl; have q2 := HY.out _ hWW 2 _ rfl; have q3 := HY.out _ hWW 3 _ rfl; clear hHeld; simp only [List.getElem_toArray, List.getElem_cons_succ, List.getElem_cons_zero]; go_simp⟩
      simp only [Act.put, List.getElem_toArray, List.getElem_cons_succ, List.getElem_cons_zero, List.setIfInBounds_toArray, List.set_cons_succ, List.set_cons_zero]
      have CC := hid (CF.out _ HWd.out)
      refine wpAnyH_ready (rs := [9]) (by kernel_rfl) (by simp) ?_
      refine AllReadyH.cons rfl (fun K hK => ?_) AllReadyH.nil
      go_simp
      go_wp2_with (first | (go_at_call 190; refine CC.out.mono ?_; rintro en wE ⟨rfl, hbE⟩; have HBE := hid (HWd.out.trans (hbE.mono HWd.out.size)); clear hbE))
      refine hK.out _ _ (HS.out _ HBE.out) (fun hHeld => ?_)
      clear hK K
      refine wpAnyH_take (i := 10) (v := (.bool false)) rfl (by kernel_rfl) (by kernel_rfl) (by kernel_rfl) (fun _ _ _ h => (show False from h).elim) ?xySMSet10 ?xhSMSet10 ?xrSMSet10
      case xhSMSet10 => exact hHeld
      case xySMSet10 => exact Or.inl ⟨by rfl, fun W9 hW => by clear hHeld; simp only [List.getElem_toArray, List.getElem_cons_succ, List.getElem_cons_zero]; go_simp⟩
      simp only [Act.put, List.getElem_toArray, List.getElem_cons_succ, List.getElem_cons_zero, List.setIfInBounds_toArray, List.set_cons_succ, List.set_cons_zero]
      refine wpAnyH_done (by kernel_rfl) ?_ _
      refine NoPanic.normal ?_
      go_wp2_with fail
      go_roundw
      case rel => exact ⟨k + 1, by omega, by go_num, HBE.out⟩
      case measure => simp [intOf]; omega
    · obtain rfl : n = k := by omega
      have hki : ¬ (n : Int) < (n : Int) := by omega
      go_wp2_with fail
      go_ret
      exact ⟨rfl, HB.out⟩

set_option maxHeartbeats 1000000 in
theorem pl_Set {w : World} {v1 v2 : Value} (h : Twin w (.list sSet) [v1] [v2]) :
    Calls Tryz.prog 134 #[v1, v2] w (fun e w' => e = .returned (.bool true) ∧ Below w.heap.size w w') := by
  have C := hid (sm_Set h)
  clear h
  go_enter Tryz.func134, Tryz.ntmps134
  go_wp2_with (first | (go_at_call 189; refine C.out.mono ?_; rintro en w2 ⟨rfl, hb⟩; have HB := hid hb; clear hb))
  go_ret
  exact ⟨rfl, HB.out⟩

end Go.Proofs.YtdfccaehoodjhaaGreat

set_option linter.unusedVariables false
set_option linter.unusedSimpArgs false
set_option maxRecDepth 100000
namespace Go.Proofs.YtdfccaehoodjhaaGreat
open Go.RowKit Go.Deep

set_option maxHeartbeats 8000000 in
theorem sm_data {w : World} {v1 v2 : Value} (h : Twin w (.list .data) [v1] [v2]) :
    Calls Tryz.prog 135 #[v1, v2, (.func (.func 57) #[] #[])] w (fun e w' => e = .returned (.bool true) ∧ Below w.heap.size w w') := by
  obtain ⟨a1, a2, n, c1, c2, M1, M2, rfl, rfl, hL1, hL2, hM⟩ := tw_list h
  have hc1 := hL1.cap.1
  have hc2 := hL2.cap.1
  have hn6 := hL1.cap.2.1
  have HL1 := hid hL1
  have HL2 := hid hL2
  have HM := hid hM
  clear h hL1 hL2 hM
  go_enter Tryz.func135, Tryz.ntmps135
  go_wp2_with fail
  go_loopw [7] (fun i wr => ∃ k, k ≤ n ∧ i = .int .i64 (k : Int) ∧ Below w.heap.size w wr) (fun i _ => n - (intOf i).toNat)
  case atStart => exact ⟨0, by omega, rfl, Below.refl _ _⟩
  case round =>
    obtain ⟨k, hk, rfl, hb⟩ := hrel
    have HB := hid hb
    clear hb
    by_cases hlt : k < n
    · have hki : (k : Int) < (n : Int) := by omega
      obtain ⟨x, y, bk1, o1, bk2, o2, hxy, rfl, rfl, hcx, hcy⟩ := tw_get HL1.out HL2.out HM.out (by decide) hlt
      obtain ⟨v0, u0, rfl, rfl, e0⟩ := hxy.one rfl
      have CF : Hid (∀ V, Below w.heap.size w V → Calls Tryz.prog 57 #[v0, u0] V (fun e w' => e = .returned (.bool true) ∧ Below V.heap.size V w')) := hid fun V hV => tw_Bytes (e0.old hV)
      have hX : ∀ V, Below w.heap.size w V → ∀ (j : Nat) u, ([v0] : List Value)[j]? = some u → V.cell? ⟨bk1, o1 + k * 1 + j, none⟩ = some u := hcx
      have hY : ∀ V, Below w.heap.size w V → ∀ (j : Nat) u, ([u0] : List Value)[j]? = some u → V.cell? ⟨bk2, o2 + k * 1 + j, none⟩ = some u := hcy
      have HX := hid hX
      have HY := hid hY
      clear hX hY hcx hcy
      go_upto_region 6 with fail
      have HWd : Hid (Below w.heap.size w wr.drew) := hid (HB.out.trans ((show Below wr.heap.size wr wr.drew from ⟨rfl, rfl, rfl, Nat.le_refl _, fun _ _ => rfl⟩).mono HB.out.size))
      obtain ⟨S9, hS9⟩ : ∃ S9 : World → Prop, S9 = fun V => Below w.heap.size w V := ⟨_, rfl⟩
      have HS : Hid (∀ V, Below w.heap.size w V → S9 V) := hid fun V h => by rw [hS9]; exact h
      have HSI : Hid (∀ V, S9 V → Below w.heap.size w V) := hid fun V h => by rw [hS9] at h; exact h
      clear hS9
      refine wp_region_noPanic ?_
      refine wp_region_held_drew (S := S9) (by kernel_rfl) (HS.out _ HWd.out) (fun hHeld => ?_)
      generalize wr.drew = Wd at *
      refine wpAnyH_take (i := 0) (v := (.func (.func 57) #[] #[])) rfl (by kernel_rfl) (by kernel_rfl) (by kernel_rfl) (fun _ _ _ h => (show False from h).elim) ?xySMdata1 ?xhSMdata1 ?xrSMdata1
      case xhSMdata1 => exact hHeld
      case xySMdata1 => exact Or.inl ⟨by rfl, fun W9 hW => by clear hHeld; simp only [List.getElem_toArray, List.getElem_cons_succ, List.getElem_cons_zero]; go_simp⟩
      simp only [Act.put, List.getElem_toArray, List.getElem_cons_succ, List.getElem_cons_zero, List.setIfInBounds_toArray, List.set_cons_succ, List.set_cons_zero]
      refine wpAnyH_take (i := 1) (v := (.slice (some ⟨bk1, o1, none⟩) n c1)) rfl (by kernel_rfl) (by kernel_rfl) (by kernel_rfl) (fun _ _ _ h => (show False from h).elim) ?xySMdata2 ?xhSMdata2 ?xrSMdata2
      case xhSMdata2 => exact hHeld
      case xySMdata2 => exact Or.inl ⟨by rfl, fun W9 hW => by clear hHeld; simp only [List.getElem_toArray, List.getElem_cons_succ, List.getElem_cons_zero]; go_simp⟩
      simp only [Act.put, List.getElem_toArray, List.getElem_cons_succ, List.getElem_cons_zero, List.setIfInBounds_toArray, List.set_cons_succ, List.set_cons_zero]
      refine wpAnyH_take (i := 2) (v := (.int .i64 (k : Int))) rfl (by kernel_rfl) (by kernel_rfl) (by kernel_rfl) (fun _ _ _ h => (show False from h).elim) ?xySMdata3 ?xhSMdata3 ?xrSMdata3
      case xhSMdata3 => exact hHeld
      case xySMdata3 => exact Or.inl ⟨by rfl, fun W9 hW => by clear hHeld; simp only [List.getElem_toArray, List.getElem_cons_succ, List.getElem_cons_zero]; go_simp⟩
      simp only [Act.put, List.getElem_toArray, List.getElem_cons_succ, List.getElem_cons_zero, List.setIfInBounds_toArray, List.set_cons_succ, List.set_cons_zero]
      refine wpAnyH_take (i := 3) (v := (.pointer (some ⟨bk1, o1 + k, none⟩))) rfl (by kernel_rfl) (by kernel_rfl) (by kernel_rfl) (fun _ _ _ h => (show False from h).elim) ?xySMdata4 ?xhSMdata4 ?xrSMdata4
      case xhSMdata4 => exact hHeld
      case xySMdata4 => exact Or.inl ⟨by rfl, fun W9 hW => by clear hHeld; simp only [List.getElem_toArray, List.getElem_cons_succ, List.getElem_cons_zero]; go_simp⟩
      simp only [Act.put, List.getElem_toArray, List.getElem_cons_succ, List.getElem_cons_zero, List.setIfInBounds_toArray, List.set_cons_succ, List.set_cons_zero]
      refine wpAnyH_take (i := 4) (v := (v0)) rfl (by kernel_rfl) (by kernel_rfl) (by kernel_rfl) (fun _ _ _ h => (show False from h).elim) ?xySMdata5 ?xhSMdata5 ?xrSMdata5
      case xhSMdata5 => exact hHeld
      case xySMdata5 => exact Or.inl ⟨by rfl, fun W9 hW => by have hWW := HSI.out _ hW; have q0 := HX.out _ hWW 0 _ rfl; rw [Nat.mul_one, Nat.add_zero] at q0; clear hHeld; simp only [List.getElem_toArray, List.getElem_cons_succ, List.getElem_cons_zero]; go_simp⟩
      simp only [Act.put, List.getElem_toArray, List.getElem_cons_succ, List.getElem_cons_zero, List.setIfInBounds_toArray, List.set_cons_succ, List.set_cons_zero]
      refine wpAnyH_take (i := 5) (v := (.slice (some ⟨bk2, o2, none⟩) n c2)) rfl (by kernel_rfl) (by kernel_rfl) (by kernel_rfl) (fun _ _ _ h => (show False from h).elim) ?xySMdata6 ?xhSMdata6 ?xrSMdata6
      case xhSMdata6 => exact hHeld
      case xySMdata6 => exact Or.inl ⟨by rfl, fun W9 hW => by clear hHeld; simp only [List.getElem_toArray, List.getElem_cons_succ, List.getElem_cons_zero]; go_simp⟩
      simp only [Act.put, List.getElem_toArray, List.getElem_cons_succ, List.getElem_cons_zero, List.setIfInBounds_toArray, List.set_cons_succ, List.set_cons_zero]
      refine wpAnyH_take (i := 6) (v := (.int .i64 (k : Int))) rfl (by kernel_rfl) (by kernel_rfl) (by kernel_rfl) (fun _ _ _ h => (show False from h).elim) ?xySMdata7 ?xhSMdata7 ?xrSMdata7
      case xhSMdata7 => exact hHeld
      case xySMdata7 => exact Or.inl ⟨by rfl, fun W9 hW => by clear hHeld; simp only [List.getElem_toArray, List.getElem_cons_succ, List.getElem_cons_zero]; go_simp⟩
      simp only [Act.put, List.getElem_toArray, List.getElem_cons_succ, List.getElem_cons_zero, List.setIfInBounds_toArray, List.set_cons_succ, List.set_cons_zero]
      refine wpAnyH_take (i := 7) (v := (.pointer (some ⟨bk2, o2 + k, none⟩))) rfl (by kernel_rfl) (by kernel_rfl) (by kernel_rfl) (fun _ _ _ h => (show False from h).elim) ?xySMdata8 ?xhSMdata8 ?xrSMdata8
      case xhSMdata8 => exact hHeld
      case xySMdata8 => exact Or.inl ⟨by rfl, fun W9 hW => by clear hHeld; simp only [List.getElem_toArray, List.getElem_cons_succ, List.getElem_cons_zero]; go_simp⟩
      simp only [Act.put, List.getElem_toArray, List.getElem_cons_succ, List.getElem_cons_zero, List.setIfInBounds_toArray, List.set_cons_succ, List.set_cons_zero]
      refine wpAnyH_take (i := 8) (v := (u0)) rfl (by kernel_rfl) (by kernel_rfl) (by kernel_rfl) (fun _ _ _ h => (show False from h).elim) ?xySMdata9 ?xhSMdata9 ?xrSMdata9
      case xhSMdata9 => exact hHeld
      case xySMdata9 => exact Or.inl ⟨by rfl, fun W9 hW => by have hWW := HSI.out _ hW; have q0 := HY.out _ hWW 0 _ rfl; rw [Nat.mul_one, Nat.add_zero] at q0; clear hHeld; simp only [List.getElem_toArray, List.getElem_cons_succ, List.getElem_cons_zero]; go_simp⟩
      simp only [Act.put, List.getElem_toArray, List.getElem_cons_succ, List.getElem_cons_zero, List.setIfInBounds_toArray, List.set_cons_succ, List.set_cons_zero]
      have CC := hid (CF.out _ HWd.out)
      refine wpAnyH_ready (rs := [9]) (by kernel_rfl) (by simp) ?_
      refine AllReadyH.cons rfl (fun K hK => ?_) AllReadyH.nil
      go_simp
      go_wp2_with (first | (go_at_call 57; refine CC.out.mono ?_; rintro en wE ⟨rfl, hbE⟩; have HBE := hid (HWd.out.trans (hbE.mono HWd.out.size)); clear hbE))
      refine hK.out _ _ (HS.out _ HBE.out) (fun hHeld => ?_)
      clear hK K
      refine wpAnyH_take (i := 10) (v := (.bool false)) rfl (by kernel_rfl) (by kernel_rfl) (by kernel_rfl) (fun _ _ _ h => (show False from h).elim) ?xySMdata10 ?xhSMdata10 ?xrSMdata10
      case xhSMdata10 => exact hHeld
      case xySMdata10 => exact Or.inl ⟨by rfl, fun W9 hW => by clear hHeld; simp only [List.getElem_toArray, List.getElem_cons_succ, List.getElem_cons_zero]; go_simp⟩
      simp only [Act.put, List.getElem_toArray, List.getElem_cons_succ, List.getElem_cons_zero, List.setIfInBounds_toArray, List.set_cons_succ, List.set_cons_zero]
      refine wpAnyH_done (by kernel_rfl) ?_ _
      refine NoPanic.normal ?_
      go_wp2_with fail
      go_roundw
      case rel => exact ⟨k + 1, by omega, by go_num, HBE.out⟩
      case measure => simp [intOf]; omega
    · obtain rfl : n = k := by omega
      have hki : ¬ (n : Int) < (n : Int) := by omega
      go_wp2_with fail
      go_ret
      exact ⟨rfl, HB.out⟩

set_option maxHeartbeats 8000000 in
theorem st_Op {w : World} {v0 v1 v2 v3 v4 v5 v6 v7 v8 v9 v10 u0 u1 u2 u3 u4 u5 u6 u7 u8 u9 u10 : Value} (e0 : Twin w .int [v0] [u0]) (e1 : Twin w .name [v1] [u1]) (e2 : Twin w .name [v2] [u2]) (e3 : Twin w (.list sValue) [v3] [u3]) (e4 : Twin w (.list sValue) [v4] [u4]) (e5 : Twin w (.list sSet) [v5] [u5]) (e6 : Twin w (.list sValue) [v6] [u6]) (e7 : Twin w (.list sValue) [v7] [u7]) (e8 : Twin w .int [v8] [u8]) (e9 : Twin w .bool [v9] [u9]) (e10 : Twin w (.list .data) [v10] [u10]) :
    Calls Tryz.prog 72 #[.agg #[v0, v1, v2, v3, v4, v5, v6, v7, v8, v9, v10], .agg #[u0, u1, u2, u3, u4, u5, u6, u7, u8, u9, u10]] w (fun e w' => e = .returned (.bool true) ∧ Below w.heap.size w w') := by
  obtain ⟨z0, rfl, rfl⟩ := tw_int e0
  obtain ⟨z1, rfl, rfl⟩ := tw_name e1
  obtain ⟨z2, rfl, rfl⟩ := tw_name e2
  obtain ⟨z8, rfl, rfl⟩ := tw_int e8
  obtain ⟨z9, rfl, rfl⟩ := tw_bool e9
  have hb : Below w.heap.size w ((w.alloc (.cells #[(.int .i64 z0), (.string z1), (.string z2), v3, v4, v5, v6, v7, (.int .i64 z8), (.bool z9), v10] 135)).alloc (.cells #[(.int .i64 z0), (.string z1), (.string z2), u3, u4, u5, u6, u7, (.int .i64 z8), (.bool z9), u10] 135)) := ((Below.refl _ _).alloc (Nat.le_refl _) _).alloc (by simp) _
  have h0 : ((w.alloc (.cells #[(.int .i64 z0), (.string z1), (.string z2), v3, v4, v5, v6, v7, (.int .i64 z8), (.bool z9), v10] 135)).alloc (.cells #[(.int .i64 z0), (.string z1), (.string z2), u3, u4, u5, u6, u7, (.int .i64 z8), (.bool z9), u10] 135)).heap[w.heap.size]? = some (.cells ([(.int .i64 z0), (.string z1), (.string z2), v3, v4, v5, v6, v7, (.int .i64 z8), (.bool z9), v10] : List Value).toArray 135 (0, 0)) := (Below.heap_alloc (w.alloc (.cells #[(.int .i64 z0), (.string z1), (.string z2), v3, v4, v5, v6, v7, (.int .i64 z8), (.bool z9), v10] 135)) (.cells #[(.int .i64 z0), (.string z1), (.string z2), u3, u4, u5, u6, u7, (.int .i64 z8), (.bool z9), u10] 135) w.heap.size (by simp)).trans (heap_alloc_new w (.cells #[(.int .i64 z0), (.string z1), (.string z2), v3, v4, v5, v6, v7, (.int .i64 z8), (.bool z9), v10] 135))
  have h1 : ((w.alloc (.cells #[(.int .i64 z0), (.string z1), (.string z2), v3, v4, v5, v6, v7, (.int .i64 z8), (.bool z9), v10] 135)).alloc (.cells #[(.int .i64 z0), (.string z1), (.string z2), u3, u4, u5, u6, u7, (.int .i64 z8), (.bool z9), u10] 135)).heap[w.heap.size + 1]? = some (.cells ([(.int .i64 z0), (.string z1), (.string z2), u3, u4, u5, u6, u7, (.int .i64 z8), (.bool z9), u10] : List Value).toArray 135 (0, 0)) := heap_alloc2_new w (.cells #[(.int .i64 z0), (.string z1), (.string z2), v3, v4, v5, v6, v7, (.int .i64 z8), (.bool z9), v10] 135) (.cells #[(.int .i64 z0), (.string z1), (.string z2), u3, u4, u5, u6, u7, (.int .i64 z8), (.bool z9), u10] 135)
  have C3 : Hid (∀ V, Below w.heap.size w V → _) := hid fun V hV => pl_Value (e3.old hV)
  have C4 : Hid (∀ V, Below w.heap.size w V → _) := hid fun V hV => pl_Value (e4.old hV)
  have C5 : Hid (∀ V, Below w.heap.size w V → _) := hid fun V hV => pl_Set (e5.old hV)
  have C6 : Hid (∀ V, Below w.heap.size w V → _) := hid fun V hV => pl_Value (e6.old hV)
  have C7 : Hid (∀ V, Below w.heap.size w V → _) := hid fun V hV => pl_Value (e7.old hV)
  have C10 : Hid (∀ V, Below w.heap.size w V → _) := hid fun V hV => sm_data (e10.old hV)
  have HC0 : Hid (∀ V, Below ((w.alloc (.cells #[(.int .i64 z0), (.string z1), (.string z2), v3, v4, v5, v6, v7, (.int .i64 z8), (.bool z9), v10] 135)).alloc (.cells #[(.int .i64 z0), (.string z1), (.string z2), u3, u4, u5, u6, u7, (.int .i64 z8), (.bool z9), u10] 135)).heap.size ((w.alloc (.cells #[(.int .i64 z0), (.string z1), (.string z2), v3, v4, v5, v6, v7, (.int .i64 z8), (.bool z9), v10] 135)).alloc (.cells #[(.int .i64 z0), (.string z1), (.string z2), u3, u4, u5, u6, u7, (.int .i64 z8), (.bool z9), u10] 135)) V → ∀ (i : Nat) u, ([(.int .i64 z0), (.string z1), (.string z2), v3, v4, v5, v6, v7, (.int .i64 z8), (.bool z9), v10] : List Value)[i]? = some u → V.cell? ⟨w.heap.size, i, none⟩ = some u) := hid fun V hV i u hu => by have := (hV.block _ (lt_of_block h0)).trans h0; simp only [World.cell?, this]; simpa using hu
  have HC1 : Hid (∀ V, Below ((w.alloc (.cells #[(.int .i64 z0), (.string z1), (.string z2), v3, v4, v5, v6, v7, (.int .i64 z8), (.bool z9), v10] 135)).alloc (.cells #[(.int .i64 z0), (.string z1), (.string z2), u3, u4, u5, u6, u7, (.int .i64 z8), (.bool z9), u10] 135)).heap.size ((w.alloc (.cells #[(.int .i64 z0), (.string z1), (.string z2), v3, v4, v5, v6, v7, (.int .i64 z8), (.bool z9), v10] 135)).alloc (.cells #[(.int .i64 z0), (.string z1), (.string z2), u3, u4, u5, u6, u7, (.int .i64 z8), (.bool z9), u10] 135)) V → ∀ (i : Nat) u, ([(.int .i64 z0), (.string z1), (.string z2), u3, u4, u5, u6, u7, (.int .i64 z8), (.bool z9), u10] : List Value)[i]? = some u → V.cell? ⟨w.heap.size + 1, i, none⟩ = some u) := hid fun V hV i u hu => by have := (hV.block _ (lt_of_block h1)).trans h1; simp only [World.cell?, this]; simpa using hu
  have HB := hid hb
  clear hb h0 h1 e0 e1 e2 e3 e4 e5 e6 e7 e8 e9 e10
  go_enter Tryz.func72, Tryz.ntmps72
  go_upto_region 1 with fail
  generalize (w.alloc (.cells #[(.int .i64 z0), (.string z1), (.string z2), v3, v4, v5, v6, v7, (.int .i64 z8), (.bool z9), v10] 135)).alloc (.cells #[(.int .i64 z0), (.string z1), (.string z2), u3, u4, u5, u6, u7, (.int .i64 z8), (.bool z9), u10] 135) = w0 at *
  have HW0 : Hid (Below w0.heap.size w0 w0) := hid (Below.refl _ _)
  have x0 := HC0.out _ (Below.refl _ _) 0 _ rfl
  have y0 := HC1.out _ (Below.refl _ _) 0 _ rfl
  have x1 := HC0.out _ (Below.refl _ _) 1 _ rfl
  have y1 := HC1.out _ (Below.refl _ _) 1 _ rfl
  have x2 := HC0.out _ (Below.refl _ _) 2 _ rfl
  have y2 := HC1.out _ (Below.refl _ _) 2 _ rfl
  have x3 := HC0.out _ (Below.refl _ _) 3 _ rfl
  have y3 := HC1.out _ (Below.refl _ _) 3 _ rfl
  have CA0 := hid (C3.out _ HB.out)
  go_wp2_with (first | (go_at_call 133; refine CA0.out.mono ?_; rintro en r1 ⟨rfl, hb0⟩; have HW1 := hid (HW0.out.trans (hb0.mono HW0.out.size)); clear hb0; have CA1 := hid (C4.out _ (HB.out.trans (HW1.out.mono HB.out.size))); clear x0 y0; clear x1 y1; clear x2 y2; clear x3 y3; have x4_0 := HC0.out _ HW1.out 4 _ rfl; have y4_0 := HC1.out _ HW1.out 4 _ rfl) | (go_at_call 133; refine CA1.out.mono ?_; rintro en r2 ⟨rfl, hb1⟩; have HW2 := hid (HW1.out.trans (hb1.mono HW1.out.size)); clear hb1; have CA2 := hid (C5.out _ (HB.out.trans (HW2.out.mono HB.out.size))); clear x4_0 y4_0; have x5_1 := HC0.out _ HW2.out 5 _ rfl; have y5_1 := HC1.out _ HW2.out 5 _ rfl) | (go_at_call 134; refine CA2.out.mono ?_; rintro en r3 ⟨rfl, hb2⟩; have HW3 := hid (HW2.out.trans (hb2.mono HW2.out.size)); clear hb2; have CA3 := hid (C6.out _ (HB.out.trans (HW3.out.mono HB.out.size))); clear x5_1 y5_1; have x6_2 := HC0.out _ HW3.out 6 _ rfl; have y6_2 := HC1.out _ HW3.out 6 _ rfl) | (go_at_call 133; refine CA3.out.mono ?_; rintro en r4 ⟨rfl, hb3⟩; have HW4 := hid (HW3.out.trans (hb3.mono HW3.out.size)); clear hb3; have CA4 := hid (C7.out _ (HB.out.trans (HW4.out.mono HB.out.size))); clear x6_2 y6_2; have x7_3 := HC0.out _ HW4.out 7 _ rfl; have y7_3 := HC1.out _ HW4.out 7 _ rfl) | (go_at_call 133; refine CA4.out.mono ?_; rintro en r5 ⟨rfl, hb4⟩; have HW5 := hid (HW4.out.trans (hb4.mono HW4.out.size)); clear hb4; have CA5 := hid (C10.out _ (HB.out.trans (HW5.out.mono HB.out.size))); clear x7_3 y7_3; have x8_4 := HC0.out _ HW5.out 8 _ rfl; have y8_4 := HC1.out _ HW5.out 8 _ rfl; have x9_4 := HC0.out _ HW5.out 9 _ rfl; have y9_4 := HC1.out _ HW5.out 9 _ rfl; have x10_4 := HC0.out _ HW5.out 10 _ rfl; have y10_4 := HC1.out _ HW5.out 10 _ rfl) | (go_at_call 135; refine CA5.out.mono ?_; rintro en r6 ⟨rfl, hb5⟩; have HW6 := hid (HW5.out.trans (hb5.mono HW5.out.size)); clear hb5; clear x8_4 y8_4; clear x9_4 y9_4; clear x10_4 y10_4))
  go_ret
  exact ⟨rfl, HB.out.trans (HW6.out.mono HB.out.size)⟩

set_option maxHeartbeats 8000000 in
theorem sm_Op {w : World} {v1 v2 : Value} (h : Twin w (.list sOp) [v1] [v2]) :
    Calls Tryz.prog 71 #[v1, v2, (.func (.func 72) #[] #[])] w (fun e w' => e = .returned (.bool true) ∧ Below w.heap.size w w') := by
  obtain ⟨a1, a2, n, c1, c2, M1, M2, rfl, rfl, hL1, hL2, hM⟩ := tw_list h
  have hc1 := hL1.cap.1
  have hc2 := hL2.cap.1
  have hn6 := hL1.cap.2.1
  have HL1 := hid hL1
  have HL2 := hid hL2
  have HM := hid hM
  clear h hL1 hL2 hM
  go_enter Tryz.func71, Tryz.ntmps71
  go_wp2_with fail
  go_loopw [7] (fun i wr => ∃ k, k ≤ n ∧ i = .int .i64 (k : Int) ∧ Below w.heap.size w wr) (fun i _ => n - (intOf i).toNat)
  case atStart => exact ⟨0, by omega, rfl, Below.refl _ _⟩
  case round =>
    obtain ⟨k, hk, rfl, hb⟩ := hrel
    have HB := hid hb
    clear hb
    by_cases hlt : k < n
    · have hki : (k : Int) < (n : Int) := by omega
      obtain ⟨x, y, bk1, o1, bk2, o2, hxy, rfl, rfl, hcx, hcy⟩ := tw_get HL1.out HL2.out HM.out (by decide) hlt
      obtain ⟨v0, v1, v2, v3, v4, v5, v6, v7, v8, v9, v10, u0, u1, u2, u3, u4, u5, u6, u7, u8, u9, u10, rfl, rfl, e0, e1, e2, e3, e4, e5, e6, e7, e8, e9, e10⟩ := Op_twin hxy
      have CF : Hid (∀ V, Below w.heap.size w V → Calls Tryz.prog 72 #[.agg #[v0, v1, v2, v3, v4, v5, v6, v7, v8, v9, v10], .agg #[u0, u1, u2, u3, u4, u5, u6, u7, u8, u9, u10]] V (fun e w' => e = .returned (.bool true) ∧ Below V.heap.size V w')) := hid fun V hV => st_Op (e0.old hV) (e1.old hV) (e2.old hV) (e3.old hV) (e4.old hV) (e5.old hV) (e6.old hV) (e7.old hV) (e8.old hV) (e9.old hV) (e10.old hV)
      have hX : ∀ V, Below w.heap.size w V → ∀ (j : Nat) u, ([v0, v1, v2, v3, v4, v5, v6, v7, v8, v9, v10] : List Value)[j]? = some u → V.cell? ⟨bk1, o1 + k * 11 + j, none⟩ = some u := hcx
      have hY : ∀ V, Below w.heap.size w V → ∀ (j : Nat) u, ([u0, u1, u2, u3, u4, u5, u6, u7, u8, u9, u10] : List Value)[j]? = some u → V.cell? ⟨bk2, o2 + k * 11 + j, none⟩ = some u := hcy
      have HX := hid hX
      have HY := hid hY
      clear hX hY hcx hcy
      go_upto_region 6 with fail
      have HWd : Hid (Below w.heap.size w wr.drew) := hid (HB.out.trans ((show Below wr.heap.size wr wr.drew from ⟨rfl, rfl, rfl, Nat.le_refl _, fun _ _ => rfl⟩).mono HB.out.size))
      obtain ⟨S9, hS9⟩ : ∃ S9 : World → Prop, S9 = fun V => Below w.heap.size w V := ⟨_, rfl⟩
      have HS : Hid (∀ V, Below w.heap.size w V → S9 V) := hid fun V h => by rw [hS9]; exact h
      have HSI : Hid (∀ V, S9 V → Below w.heap.size w V) := hid fun V h => by rw [hS9] at h; exact h
      clear hS9
      refine wp_region_noPanic ?_
      refine wp_region_held_drew (S := S9) (by kernel_rfl) (HS.out _ HWd.out) (fun hHeld => ?_)
      generalize wr.drew = Wd at *
      refine wpAnyH_take (i := 0) (v := (.func (.func 72) #[] #[])) rfl (by kernel_rfl) (by kernel_rfl) (by kernel_rfl) (fun _ _ _ h => (show False from h).elim) ?xySMOp1 ?xhSMOp1 ?xrSMOp1
      case xhSMOp1 => exact hHeld
      case xySMOp1 => exact Or.inl ⟨by rfl, fun W9 hW => by clear hHeld; simp only [List.getElem_toArray, List.getElem_cons_succ, List.getElem_cons_zero]; go_simp⟩
      simp only [Act.put, List.getElem_toArray, List.getElem_cons_succ, List.getElem_cons_zero, List.setIfInBounds_toArray, List.set_cons_succ, List.set_cons_zero]
      refine wpAnyH_take (i := 1) (v := (.slice (some ⟨bk1, o1, none⟩) n c1)) rfl (by kernel_rfl) (by kernel_rfl) (by kernel_rfl) (fun _ _ _ h => (show False from h).elim) ?xySMOp2 ?xhSMOp2 ?xrSMOp2
      case xhSMOp2 => exact hHeld
      case xySMOp2 => exact Or.inl ⟨by rfl, fun W9 hW => by clear hHeld; simp only [List.getElem_toArray, List.getElem_cons_succ, List.getElem_cons_zero]; go_simp⟩
      simp only [Act.put, List.getElem_toArray, List.getElem_cons_succ, List.getElem_cons_zero, List.setIfInBounds_toArray, List.set_cons_succ, List.set_cons_zero]
      refine wpAnyH_take (i := 2) (v := (.int .i64 (k : Int))) rfl (by kernel_rfl) (by kernel_rfl) (by kernel_rfl) (fun _ _ _ h => (show False from h).elim) ?xySMOp3 ?xhSMOp3 ?xrSMOp3
      case xhSMOp3 => exact hHeld
      case xySMOp3 => exact Or.inl ⟨by rfl, fun W9 hW => by clear hHeld; simp only [List.getElem_toArray, List.getElem_cons_succ, List.getElem_cons_zero]; go_simp⟩
      simp only [Act.put, List.getElem_toArray, List.getElem_cons_succ, List.getElem_cons_zero, List.setIfInBounds_toArray, List.set_cons_succ, List.set_cons_zero]
      refine wpAnyH_take (i := 3) (v := (.pointer (some ⟨bk1, o1 + k * 11, none⟩))) rfl (by kernel_rfl) (by kernel_rfl) (by kernel_rfl) (fun _ _ _ h => (show False from h).elim) ?xySMOp4 ?xhSMOp4 ?xrSMOp4
      case xhSMOp4 => exact hHeld
      case xySMOp4 => exact Or.inl ⟨by rfl, fun W9 hW => by clear hHeld; simp only [List.getElem_toArray, List.getElem_cons_succ, List.getElem_cons_zero]; go_simp⟩
      simp only [Act.put, List.getElem_toArray, List.getElem_cons_succ, List.getElem_cons_zero, List.setIfInBounds_toArray, List.set_cons_succ, List.set_cons_zero]
      refine wpAnyH_take (i := 4) (v := (.agg #[v0, v1, v2, v3, v4, v5, v6, v7, v8, v9, v10])) rfl (by kernel_rfl) (by kernel_rfl) (by kernel_rfl) (fun _ _ _ h => (show False from h).elim) ?xySMOp5 ?xhSMOp5 ?xrSMOp5
      case xhSMOp5 => exact hHeld
      case xySMOp5 => exact Or.inl ⟨by rfl, fun W9 hW => by have hWW := HSI.out _ hW; have q0 := HX.out _ hWW 0 _ rfl; rw [Nat.add_zero] at q0; have q1 := HX.out _ hWW 1 _ rfl; have q2 := HX.out _ hWW 2 _ rfl; have q3 := HX.out _ hWW 3 _ rfl; have q4 := HX.out _ hWW 4 _ rfl; have q5 := HX.out _ hWW 5 _ rfl; have q6 := HX.out _ hWW 6 _ rfl; have q7 := HX.out _ hWW 7 _ rfl; have q8 := HX.out _ hWW 8 _ rfl; have q9 := HX.out _ hWW 9 _ rfl; have q10 := HX.out _ hWW 10 _ rfl; clear hHeld; simp only [List.getElem_toArray, List.getElem_cons_succ, List.getElem_cons_zero]; go_simp⟩
      simp only [Act.put, List.getElem_toArray, List.getElem_cons_succ, List.getElem_cons_zero, List.setIfInBounds_toArray, List.set_cons_succ, List.set_cons_zero]
      refine wpAnyH_take (i := 5) (v := (.slice (some ⟨bk2, o2, none⟩) n c2)) rfl (by kernel_rfl) (by kernel_rfl) (by kernel_rfl) (fun _ _ _ h => (show False from h).elim) ?xySMOp6 ?xhSMOp6 ?xrSMOp6
      case xhSMOp6 => exact hHeld
      case xySMOp6 => exact Or.inl ⟨by rfl, fun W9 hW => by clear hHeld; simp only [List.getElem_toArray, List.getElem_cons_succ, List.getElem_cons_zero]; go_simp⟩
      simp only [Act.put, List.getElem_toArray, List.getElem_cons_succ, List.getElem_cons_zero, List.setIfInBounds_toArray, List.set_cons_succ, List.set_cons_zero]
      refine wpAnyH_take (i := 6) (v := (.int .i64 (k : Int))) rfl (by kernel_rfl) (by kernel_rfl) (by kernel_rfl) (fun _ _ _ h => (show False from h).elim) ?xySMOp7 ?xhSMOp7 ?xrSMOp7
      case xhSMOp7 => exact hHeld
      case xySMOp7 => exact Or.inl ⟨by rfl, fun W9 hW => by clear hHeld; simp only [List.getElem_toArray, List.getElem_cons_succ, List.getElem_cons_zero]; go_simp⟩
      simp only [Act.put, List.getElem_toArray, List.getElem_cons_succ, List.getElem_cons_zero, List.setIfInBounds_toArray, List.set_cons_succ, List.set_cons_zero]
      refine wpAnyH_take (i := 7) (v := (.pointer (some ⟨bk2, o2 + k * 11, none⟩))) rfl (by kernel_rfl) (by kernel_rfl) (by kernel_rfl) (fun _ _ _ h => (show False from h).elim) ?xySMOp8 ?xhSMOp8 ?xrSMOp8
      case xhSMOp8 => exact hHeld
      case xySMOp8 => exact Or.inl ⟨by rfl, fun W9 hW => by clear hHeld; simp only [List.getElem_toArray, List.getElem_cons_succ, List.getElem_cons_zero]; go_simp⟩
      simp only [Act.put, List.getElem_toArray, List.getElem_cons_succ, List.getElem_cons_zero, List.setIfInBounds_toArray, List.set_cons_succ, List.set_cons_zero]
      refine wpAnyH_take (i := 8) (v := (.agg #[u0, u1, u2, u3, u4, u5, u6, u7, u8, u9, u10])) rfl (by kernel_rfl) (by kernel_rfl) (by kernel_rfl) (fun _ _ _ h => (show False from h).elim) ?xySMOp9 ?xhSMOp9 ?xrSMOp9
      case xhSMOp9 => exact hHeld
      case xySMOp9 => exact Or.inl ⟨by rfl, fun W9 hW => by have hWW := HSI.out _ hW; have q0 := HY.out _ hWW 0 _ rfl; rw [Nat.add_zero] at q0; have q1 := HY.out _ hWW 1 _ rfl; have q2 := HY.out _ hWW 2 _ rfl; have q3 := HY.out _ hWW 3 _ rfl; have q4 := HY.out _ hWW 4 _ rfl; have q5 := HY.out _ hWW 5 _ rfl; have q6 := HY.out _ hWW 6 _ rfl; have q7 := HY.out _ hWW 7 _ rfl; have q8 := HY.out _ hWW 8 _ rfl; have q9 := HY.out _ hWW 9 _ rfl; have q10 := HY.out _ hWW 10 _ rfl; clear hHeld; simp only [List.getElem_toArray, List.getElem_cons_succ, List.getElem_cons_zero]; go_simp⟩
      simp only [Act.put, List.getElem_toArray, List.getElem_cons_succ, List.getElem_cons_zero, List.setIfInBounds_toArray, List.set_cons_succ, List.set_cons_zero]
      have CC := hid (CF.out _ HWd.out)
      refine wpAnyH_ready (rs := [9]) (by kernel_rfl) (by simp) ?_
      refine AllReadyH.cons rfl (fun K hK => ?_) AllReadyH.nil
      go_simp
      go_wp2_with (first | (go_at_call 72; refine CC.out.mono ?_; rintro en wE ⟨rfl, hbE⟩; have HBE := hid (HWd.out.trans (hbE.mono HWd.out.size)); clear hbE))
      refine hK.out _ _ (HS.out _ HBE.out) (fun hHeld => ?_)
      clear hK K
      refine wpAnyH_take (i := 10) (v := (.bool false)) rfl (by kernel_rfl) (by kernel_rfl) (by kernel_rfl) (fun _ _ _ h => (show False from h).elim) ?xySMOp10 ?xhSMOp10 ?xrSMOp10
      case xhSMOp10 => exact hHeld
      case xySMOp10 => exact Or.inl ⟨by rfl, fun W9 hW => by clear hHeld; simp only [List.getElem_toArray, List.getElem_cons_succ, List.getElem_cons_zero]; go_simp⟩
      simp only [Act.put, List.getElem_toArray, List.getElem_cons_succ, List.getElem_cons_zero, List.setIfInBounds_toArray, List.set_cons_succ, List.set_cons_zero]
      refine wpAnyH_done (by kernel_rfl) ?_ _
      refine NoPanic.normal ?_
      go_wp2_with fail
      go_roundw
      case rel => exact ⟨k + 1, by omega, by go_num, HBE.out⟩
      case measure => simp [intOf]; omega
    · obtain rfl : n = k := by omega
      have hki : ¬ (n : Int) < (n : Int) := by omega
      go_wp2_with fail
      go_ret
      exact ⟨rfl, HB.out⟩

end Go.Proofs.YtdfccaehoodjhaaGreat

set_option linter.unusedVariables false
set_option linter.unusedSimpArgs false
set_option maxRecDepth 100000
namespace Go.Proofs.YtdfccaehoodjhaaGreat
open Go.RowKit Go.Deep

set_option maxHeartbeats 8000000 in
theorem st_Ask {w : World} {v0 v1 v2 v3 v4 v5 v6 v7 v8 v9 v10 v11 v12 v13 v14 v15 u0 u1 u2 u3 u4 u5 u6 u7 u8 u9 u10 u11 u12 u13 u14 u15 : Value} (e0 : Twin w .int [v0] [u0]) (e1 : Twin w (.list sOp) [v1] [u1]) (e2 : Twin w .int [v2] [u2]) (e3 : Twin w .name [v3] [u3]) (e4 : Twin w (.list sColumn) [v4] [u4]) (e5 : Twin w (.list .int) [v5] [u5]) (e6 : Twin w .int [v6] [u6]) (e7 : Twin w .int [v7] [u7]) (e8 : Twin w .name [v8] [u8]) (e9 : Twin w (.list .int) [v9] [u9]) (e10 : Twin w .bool [v10] [u10]) (e11 : Twin w .int [v11] [u11]) (e12 : Twin w .bool [v12] [u12]) (e13 : Twin w .name [v13] [u13]) (e14 : Twin w .int [v14] [u14]) (e15 : Twin w .data [v15] [u15]) :
    Calls Tryz.prog 21 #[.agg #[v0, v1, v2, v3, v4, v5, v6, v7, v8, v9, v10, v11, v12, v13, v14, v15], .agg #[u0, u1, u2, u3, u4, u5, u6, u7, u8, u9, u10, u11, u12, u13, u14, u15]] w (fun e w' => e = .returned (.bool true) ∧ Below w.heap.size w w') := by
  obtain ⟨z0, rfl, rfl⟩ := tw_int e0
  obtain ⟨z13, rfl, rfl⟩ := tw_name e13
  obtain ⟨z14, rfl, rfl⟩ := tw_int e14
  have hb : Below w.heap.size w ((w.alloc (.cells #[(.int .i64 z0), v1, v2, v3, v4, v5, v6, v7, v8, v9, v10, v11, v12, (.string z13), (.int .i64 z14), v15] 62)).alloc (.cells #[(.int .i64 z0), u1, u2, u3, u4, u5, u6, u7, u8, u9, u10, u11, u12, (.string z13), (.int .i64 z14), u15] 62)) := ((Below.refl _ _).alloc (Nat.le_refl _) _).alloc (by simp) _
  have h0 : ((w.alloc (.cells #[(.int .i64 z0), v1, v2, v3, v4, v5, v6, v7, v8, v9, v10, v11, v12, (.string z13), (.int .i64 z14), v15] 62)).alloc (.cells #[(.int .i64 z0), u1, u2, u3, u4, u5, u6, u7, u8, u9, u10, u11, u12, (.string z13), (.int .i64 z14), u15] 62)).heap[w.heap.size]? = some (.cells ([(.int .i64 z0), v1, v2, v3, v4, v5, v6, v7, v8, v9, v10, v11, v12, (.string z13), (.int .i64 z14), v15] : List Value).toArray 62 (0, 0)) := (Below.heap_alloc (w.alloc (.cells #[(.int .i64 z0), v1, v2, v3, v4, v5, v6, v7, v8, v9, v10, v11, v12, (.string z13), (.int .i64 z14), v15] 62)) (.cells #[(.int .i64 z0), u1, u2, u3, u4, u5, u6, u7, u8, u9, u10, u11, u12, (.string z13), (.int .i64 z14), u15] 62) w.heap.size (by simp)).trans (heap_alloc_new w (.cells #[(.int .i64 z0), v1, v2, v3, v4, v5, v6, v7, v8, v9, v10, v11, v12, (.string z13), (.int .i64 z14), v15] 62))
  have h1 : ((w.alloc (.cells #[(.int .i64 z0), v1, v2, v3, v4, v5, v6, v7, v8, v9, v10, v11, v12, (.string z13), (.int .i64 z14), v15] 62)).alloc (.cells #[(.int .i64 z0), u1, u2, u3, u4, u5, u6, u7, u8, u9, u10, u11, u12, (.string z13), (.int .i64 z14), u15] 62)).heap[w.heap.size + 1]? = some (.cells ([(.int .i64 z0), u1, u2, u3, u4, u5, u6, u7, u8, u9, u10, u11, u12, (.string z13), (.int .i64 z14), u15] : List Value).toArray 62 (0, 0)) := heap_alloc2_new w (.cells #[(.int .i64 z0), v1, v2, v3, v4, v5, v6, v7, v8, v9, v10, v11, v12, (.string z13), (.int .i64 z14), v15] 62) (.cells #[(.int .i64 z0), u1, u2, u3, u4, u5, u6, u7, u8, u9, u10, u11, u12, (.string z13), (.int .i64 z14), u15] 62)
  have C1 : Hid (∀ V, Below w.heap.size w V → _) := hid fun V hV => sm_Op (e1.old hV)
  have C2 : Hid (∀ V, Below w.heap.size w V → _) := hid fun V hV => st_Table (e2.old hV) (e3.old hV) (e4.old hV) (e5.old hV)
  have C6 : Hid (∀ V, Below w.heap.size w V → _) := hid fun V hV => st_Index (e6.old hV) (e7.old hV) (e8.old hV) (e9.old hV) (e10.old hV) (e11.old hV) (e12.old hV)
  have C15 : Hid (∀ V, Below w.heap.size w V → _) := hid fun V hV => tw_Bytes (e15.old hV)
  have HC0 : Hid (∀ V, Below ((w.alloc (.cells #[(.int .i64 z0), v1, v2, v3, v4, v5, v6, v7, v8, v9, v10, v11, v12, (.string z13), (.int .i64 z14), v15] 62)).alloc (.cells #[(.int .i64 z0), u1, u2, u3, u4, u5, u6, u7, u8, u9, u10, u11, u12, (.string z13), (.int .i64 z14), u15] 62)).heap.size ((w.alloc (.cells #[(.int .i64 z0), v1, v2, v3, v4, v5, v6, v7, v8, v9, v10, v11, v12, (.string z13), (.int .i64 z14), v15] 62)).alloc (.cells #[(.int .i64 z0), u1, u2, u3, u4, u5, u6, u7, u8, u9, u10, u11, u12, (.string z13), (.int .i64 z14), u15] 62)) V → ∀ (i : Nat) u, ([(.int .i64 z0), v1, v2, v3, v4, v5, v6, v7, v8, v9, v10, v11, v12, (.string z13), (.int .i64 z14), v15] : List Value)[i]? = some u → V.cell? ⟨w.heap.size, i, none⟩ = some u) := hid fun V hV i u hu => by have := (hV.block _ (lt_of_block h0)).trans h0; simp only [World.cell?, this]; simpa using hu
  have HC1 : Hid (∀ V, Below ((w.alloc (.cells #[(.int .i64 z0), v1, v2, v3, v4, v5, v6, v7, v8, v9, v10, v11, v12, (.string z13), (.int .i64 z14), v15] 62)).alloc (.cells #[(.int .i64 z0), u1, u2, u3, u4, u5, u6, u7, u8, u9, u10, u11, u12, (.string z13), (.int .i64 z14), u15] 62)).heap.size ((w.alloc (.cells #[(.int .i64 z0), v1, v2, v3, v4, v5, v6, v7, v8, v9, v10, v11, v12, (.string z13), (.int .i64 z14), v15] 62)).alloc (.cells #[(.int .i64 z0), u1, u2, u3, u4, u5, u6, u7, u8, u9, u10, u11, u12, (.string z13), (.int .i64 z14), u15] 62)) V → ∀ (i : Nat) u, ([(.int .i64 z0), u1, u2, u3, u4, u5, u6, u7, u8, u9, u10, u11, u12, (.string z13), (.int .i64 z14), u15] : List Value)[i]? = some u → V.cell? ⟨w.heap.size + 1, i, none⟩ = some u) := hid fun V hV i u hu => by have := (hV.block _ (lt_of_block h1)).trans h1; simp only [World.cell?, this]; simpa using hu
  have HB := hid hb
  clear hb h0 h1 e0 e1 e2 e3 e4 e5 e6 e7 e8 e9 e10 e11 e12 e13 e14 e15
  go_enter Tryz.func21, Tryz.ntmps21
  go_upto_region 1 with fail
  generalize (w.alloc (.cells #[(.int .i64 z0), v1, v2, v3, v4, v5, v6, v7, v8, v9, v10, v11, v12, (.string z13), (.int .i64 z14), v15] 62)).alloc (.cells #[(.int .i64 z0), u1, u2, u3, u4, u5, u6, u7, u8, u9, u10, u11, u12, (.string z13), (.int .i64 z14), u15] 62) = w0 at *
  have HW0 : Hid (Below w0.heap.size w0 w0) := hid (Below.refl _ _)
  have x0 := HC0.out _ (Below.refl _ _) 0 _ rfl
  have y0 := HC1.out _ (Below.refl _ _) 0 _ rfl
  have x1 := HC0.out _ (Below.refl _ _) 1 _ rfl
  have y1 := HC1.out _ (Below.refl _ _) 1 _ rfl
  have CA0 := hid (C1.out _ HB.out)
  go_wp2_with (first | (go_at_call 71; refine CA0.out.mono ?_; rintro en r1 ⟨rfl, hb0⟩; have HW1 := hid (HW0.out.trans (hb0.mono HW0.out.size)); clear hb0; have CA1 := hid (C2.out _ (HB.out.trans (HW1.out.mono HB.out.size))); clear x0 y0; clear x1 y1; have x2_0 := HC0.out _ HW1.out 2 _ rfl; have y2_0 := HC1.out _ HW1.out 2 _ rfl; have x3_0 := HC0.out _ HW1.out 3 _ rfl; have y3_0 := HC1.out _ HW1.out 3 _ rfl; have x4_0 := HC0.out _ HW1.out 4 _ rfl; have y4_0 := HC1.out _ HW1.out 4 _ rfl; have x5_0 := HC0.out _ HW1.out 5 _ rfl; have y5_0 := HC1.out _ HW1.out 5 _ rfl) | (go_at_call 65; refine CA1.out.mono ?_; rintro en r2 ⟨rfl, hb1⟩; have HW2 := hid (HW1.out.trans (hb1.mono HW1.out.size)); clear hb1; have CA2 := hid (C6.out _ (HB.out.trans (HW2.out.mono HB.out.size))); clear x2_0 y2_0; clear x3_0 y3_0; clear x4_0 y4_0; clear x5_0 y5_0; have x6_1 := HC0.out _ HW2.out 6 _ rfl; have y6_1 := HC1.out _ HW2.out 6 _ rfl; have x7_1 := HC0.out _ HW2.out 7 _ rfl; have y7_1 := HC1.out _ HW2.out 7 _ rfl; have x8_1 := HC0.out _ HW2.out 8 _ rfl; have y8_1 := HC1.out _ HW2.out 8 _ rfl; have x9_1 := HC0.out _ HW2.out 9 _ rfl; have y9_1 := HC1.out _ HW2.out 9 _ rfl; have x10_1 := HC0.out _ HW2.out 10 _ rfl; have y10_1 := HC1.out _ HW2.out 10 _ rfl; have x11_1 := HC0.out _ HW2.out 11 _ rfl; have y11_1 := HC1.out _ HW2.out 11 _ rfl; have x12_1 := HC0.out _ HW2.out 12 _ rfl; have y12_1 := HC1.out _ HW2.out 12 _ rfl) | (go_at_call 66; refine CA2.out.mono ?_; rintro en r3 ⟨rfl, hb2⟩; have HW3 := hid (HW2.out.trans (hb2.mono HW2.out.size)); clear hb2; have CA3 := hid (C15.out _ (HB.out.trans (HW3.out.mono HB.out.size))); clear x6_1 y6_1; clear x7_1 y7_1; clear x8_1 y8_1; clear x9_1 y9_1; clear x10_1 y10_1; clear x11_1 y11_1; clear x12_1 y12_1; have x13_2 := HC0.out _ HW3.out 13 _ rfl; have y13_2 := HC1.out _ HW3.out 13 _ rfl; have x14_2 := HC0.out _ HW3.out 14 _ rfl; have y14_2 := HC1.out _ HW3.out 14 _ rfl; have x15_2 := HC0.out _ HW3.out 15 _ rfl; have y15_2 := HC1.out _ HW3.out 15 _ rfl) | (go_at_call 57; refine CA3.out.mono ?_; rintro en r4 ⟨rfl, hb3⟩; have HW4 := hid (HW3.out.trans (hb3.mono HW3.out.size)); clear hb3; clear x13_2 y13_2; clear x14_2 y14_2; clear x15_2 y15_2))
  go_ret
  exact ⟨rfl, HB.out.trans (HW4.out.mono HB.out.size)⟩

end Go.Proofs.YtdfccaehoodjhaaGreat

set_option linter.unusedVariables false
set_option linter.unusedSimpArgs false
set_option maxRecDepth 100000
namespace Go.Proofs.YtdfccaehoodjhaaGreat
open Go.RowKit Go.Deep

theorem max4 (P : Program) (x y z q : Int) : ∃ M : Int, (∀ ts t w, (Builtin.max_ ts t #[.int .i64 x, .int .i64 y, .int .i64 z, .int .i64 q]).run P w = .ok (.int .i64 M) w) ∧ x ≤ M ∧ y ≤ M ∧ z ≤ M ∧ q ≤ M := by
  refine ⟨if q > (if z > (if y > x then y else x) then z else (if y > x then y else x)) then q else (if z > (if y > x then y else x) then z else (if y > x then y else x)), fun ts t w => by simp [Builtin.max_, Builtin.max2], ?_, ?_, ?_, ?_⟩
  all_goals (repeat' split) <;> omega
theorem sameCall_any {w : World} {c1 c2 : List Value} {b : List UInt8} (h1 : Enc w sCall c1 b) (h2 : Enc w sCall c2 b) : Calls Tryz.prog 17 #[.agg c1.toArray, .agg c2.toArray] w (fun e w' => e = .returned (.bool true) ∧ Below w.heap.size w w') := by
  obtain ⟨v0, v1, v2, u0, u1, u2, rfl, rfl, e0, e1, e2⟩ := Call_twin ⟨b, h1, h2⟩
  exact st_Call e0 e1 e2
theorem sameCommand_any {w : World} {c1 c2 : List Value} {b : List UInt8} (h1 : Enc w sCommand c1 b) (h2 : Enc w sCommand c2 b) : Calls Tryz.prog 18 #[.agg c1.toArray, .agg c2.toArray] w (fun e w' => e = .returned (.bool true) ∧ Below w.heap.size w w') := by
  obtain ⟨v0, v1, v2, v3, v4, v5, v6, v7, v8, v9, v10, v11, v12, v13, v14, v15, v16, v17, v18, v19, v20, v21, v22, v23, v24, u0, u1, u2, u3, u4, u5, u6, u7, u8, u9, u10, u11, u12, u13, u14, u15, u16, u17, u18, u19, u20, u21, u22, u23, u24, rfl, rfl, e0, e1, e2, e3, e4, e5, e6, e7, e8, e9, e10, e11, e12, e13, e14, e15, e16, e17, e18, e19, e20, e21, e22, e23, e24⟩ := Command_twin ⟨b, h1, h2⟩
  exact st_Command e0 e1 e2 e3 e4 e5 e6 e7 e8 e9 e10 e11 e12 e13 e14 e15 e16 e17 e18 e19 e20 e21 e22 e23 e24
theorem sameReply_any {w : World} {c1 c2 : List Value} {b : List UInt8} (h1 : Enc w sReply c1 b) (h2 : Enc w sReply c2 b) : Calls Tryz.prog 19 #[.agg c1.toArray, .agg c2.toArray] w (fun e w' => e = .returned (.bool true) ∧ Below w.heap.size w w') := by
  obtain ⟨v0, v1, v2, v3, v4, v5, v6, v7, v8, v9, v10, v11, v12, v13, v14, u0, u1, u2, u3, u4, u5, u6, u7, u8, u9, u10, u11, u12, u13, u14, rfl, rfl, e0, e1, e2, e3, e4, e5, e6, e7, e8, e9, e10, e11, e12, e13, e14⟩ := Reply_twin ⟨b, h1, h2⟩
  exact st_Reply e0 e1 e2 e3 e4 e5 e6 e7 e8 e9 e10 e11 e12 e13 e14
theorem sameAsk_any {w : World} {c1 c2 : List Value} {b : List UInt8} (h1 : Enc w sAsk c1 b) (h2 : Enc w sAsk c2 b) : Calls Tryz.prog 21 #[.agg c1.toArray, .agg c2.toArray] w (fun e w' => e = .returned (.bool true) ∧ Below w.heap.size w w') := by
  obtain ⟨v0, v1, v2, v3, v4, v5, v6, v7, v8, v9, v10, v11, v12, v13, v14, v15, u0, u1, u2, u3, u4, u5, u6, u7, u8, u9, u10, u11, u12, u13, u14, u15, rfl, rfl, e0, e1, e2, e3, e4, e5, e6, e7, e8, e9, e10, e11, e12, e13, e14, e15⟩ := Ask_twin ⟨b, h1, h2⟩
  exact st_Ask e0 e1 e2 e3 e4 e5 e6 e7 e8 e9 e10 e11 e12 e13 e14 e15
end Go.Proofs.YtdfccaehoodjhaaGreat

