import Derived.WalkKit
import Derived.OpenShut
import Derived.Test.YtdfccaehoodjhaaGreatRows
import Derived.WalkSpells
import Derived.WalkLawsBesides
import Derived.Laws.AppendOwnNone
import Derived.ProofKit
import Derived.ShutString
import Derived.ChangeOld
import Derived.Below
import Derived.SizedLaws
import Derived.Deep.RegionHeld3
import Derived.Deep.Slices
import Derived.Deep.AppendLies
import Derived.Deep.Strs
import Derived.Lib.ConvBytes
import Derived.Laws.AppendOwn
import Derived.Deep.CutRange
import Derived.Deep.MidRow
import Derived.Great.Walk
import Derived.Test.YtdfccaehoodjhaaGreatWP1
import Derived.Test.YtdfccaehoodjhaaGreatWP2
import Derived.Test.YtdfccaehoodjhaaGreatWP3
import Derived.Test.YtdfccaehoodjhaaGreatWP4
import Derived.Test.YtdfccaehoodjhaaGreatWP17
set_option linter.unusedVariables false
set_option linter.unusedSimpArgs false
set_option linter.unusedVariables false
set_option linter.unusedSimpArgs false
set_option maxRecDepth 100000
namespace Go.Proofs.YtdfccaehoodjhaaGreat
open Go.RowKit Go.Deep

set_option maxHeartbeats 1000000 in
theorem pl1_int (z0 : Int) (w : World) : Calls Tryz.prog 186 #[.int .i64 z0, .int .i64 z0] w (fun e w' => e = .returned (.bool true) ∧ Below w.heap.size w w') := by
  go_enter Tryz.func186, Tryz.ntmps186
  go_wp2_with fail
  go_ret
  exact ⟨rfl, Below.refl _ _⟩

set_option maxHeartbeats 8000000 in
theorem sm_int {w : World} {v1 v2 : Value} (h : Twin w (.list .int) [v1] [v2]) :
    Calls Tryz.prog 185 #[v1, v2, (.func (.func 186) #[] #[])] w (fun e w' => e = .returned (.bool true) ∧ Below w.heap.size w w') := by
  obtain ⟨a1, a2, n, c1, c2, M1, M2, rfl, rfl, hL1, hL2, hM⟩ := tw_list h
  have hc1 := hL1.cap.1
  have hc2 := hL2.cap.1
  have hn6 := hL1.cap.2.1
  have HL1 := hid hL1
  have HL2 := hid hL2
  have HM := hid hM
  clear h hL1 hL2 hM
  go_enter Tryz.func185, Tryz.ntmps185
  go_wp2_with fail
  go_loopw [7] (fun i wr => ∃ k, k ≤ n ∧ i = .int .i64 (k : Int) ∧ Below w.heap.size w wr) (fun i _ => n - (intOf i).toNat)
  case atStart => exact ⟨0, by omega, rfl, Below.refl _ _⟩
  case round =>
    obtain ⟨k, hk, rfl, hb⟩ := hrel
    have HB := hid hb
    clear hb
    by_cases hlt : k < n
    · have hki : (k : Int) < (n : Int) := by omega
      obtain ⟨x, y, bk1, o1, bk2, o2, hxy, rfl, rfl, hcx, hcy⟩ := tw_get HL1.out HL2.out HM.out (by decide) hlt
      obtain ⟨v0, u0, rfl, rfl, e0⟩ := hxy.one rfl
      obtain ⟨z0, rfl, rfl⟩ := tw_int e0
      have CF : Hid (∀ V, Below w.heap.size w V → Calls Tryz.prog 186 #[.int .i64 z0, .int .i64 z0] V (fun e w' => e = .returned (.bool true) ∧ Below V.heap.size V w')) := hid fun V _ => pl1_int z0 V
      have hX : ∀ V, Below w.heap.size w V → ∀ (j : Nat) u, ([(.int .i64 z0)] : List Value)[j]? = some u → V.cell? ⟨bk1, o1 + k * 1 + j, none⟩ = some u := hcx
      have hY : ∀ V, Below w.heap.size w V → ∀ (j : Nat) u, ([(.int .i64 z0)] : List Value)[j]? = some u → V.cell? ⟨bk2, o2 + k * 1 + j, none⟩ = some u := hcy
      have HX := hid hX
      have HY := hid hY
      clear hX hY hcx hcy
      go_upto_region 6 with fail
      have HWd : Hid (Below w.heap.size w wr.drew) := hid (HB.out.trans ((show Below wr.heap.size wr wr.drew from ⟨rfl, rfl, rfl, Nat.le_refl _, fun _ _ => rfl⟩).mono HB.out.size))
      obtain ⟨S9, hS9⟩ : ∃ S9 : World → Prop, S9 = fun V => Below w.heap.size w V := ⟨_, rfl⟩
      have HS : Hid (∀ V, Below w.heap.size w V → S9 V) := hid fun V h => by rw [hS9]; exact h
      have HSI : Hid (∀ V, S9 V → Below w.heap.size w V) := hid fun V h => by rw [hS9] at h; exact h
      clear hS9
      refine wp_region_noPanic ?_
      refine wp_region_held_drew (S := S9) (by kernel_rfl) (HS.out _ HWd.out) (fun hHeld => ?_)
      generalize wr.drew = Wd at *
      refine wpAnyH_take (i := 0) (v := (.func (.func 186) #[] #[])) rfl (by kernel_rfl) (by kernel_rfl) (by kernel_rfl) (fun _ _ _ h => (show False from h).elim) ?xySMint1 ?xhSMint1 ?xrSMint1
      case xhSMint1 => exact hHeld
      case xySMint1 => exact Or.inl ⟨by rfl, fun W9 hW => by clear hHeld; simp only [List.getElem_toArray, List.getElem_cons_succ, List.getElem_cons_zero]; go_simp⟩
      simp only [Act.put, List.getElem_toArray, List.getElem_cons_succ, List.getElem_cons_zero, List.setIfInBounds_toArray, List.set_cons_succ, List.set_cons_zero]
      refine wpAnyH_take (i := 1) (v := (.slice (some ⟨bk1, o1, none⟩) n c1)) rfl (by kernel_rfl) (by kernel_rfl) (by kernel_rfl) (fun _ _ _ h => (show False from h).elim) ?xySMint2 ?xhSMint2 ?xrSMint2
      case xhSMint2 => exact hHeld
      case xySMint2 => exact Or.inl ⟨by rfl, fun W9 hW => by clear hHeld; simp only [List.getElem_toArray, List.getElem_cons_succ, List.getElem_cons_zero]; go_simp⟩
      simp only [Act.put, List.getElem_toArray, List.getElem_cons_succ, List.getElem_cons_zero, List.setIfInBounds_toArray, List.set_cons_succ, List.set_cons_zero]
      refine wpAnyH_take (i := 2) (v := (.int .i64 (k : Int))) rfl (by kernel_rfl) (by kernel_rfl) (by kernel_rfl) (fun _ _ _ h => (show False from h).elim) ?xySMint3 ?xhSMint3 ?xrSMint3
      case xhSMint3 => exact hHeld
      case xySMint3 => exact Or.inl ⟨by rfl, fun W9 hW => by clear hHeld; simp only [List.getElem_toArray, List.getElem_cons_succ, List.getElem_cons_zero]; go_simp⟩
      simp only [Act.put, List.getElem_toArray, List.getElem_cons_succ, List.getElem_cons_zero, List.setIfInBounds_toArray, List.set_cons_succ, List.set_cons_zero]
      refine wpAnyH_take (i := 3) (v := (.pointer (some ⟨bk1, o1 + k, none⟩))) rfl (by kernel_rfl) (by kernel_rfl) (by kernel_rfl) (fun _ _ _ h => (show False from h).elim) ?xySMint4 ?xhSMint4 ?xrSMint4
      case xhSMint4 => exact hHeld
      case xySMint4 => exact Or.inl ⟨by rfl, fun W9 hW => by clear hHeld; simp only [List.getElem_toArray, List.getElem_cons_succ, List.getElem_cons_zero]; go_simp⟩
      simp only [Act.put, List.getElem_toArray, List.getElem_cons_succ, List.getElem_cons_zero, List.setIfInBounds_toArray, List.set_cons_succ, List.set_cons_zero]
      refine wpAnyH_take (i := 4) (v := (.int .i64 z0)) rfl (by kernel_rfl) (by kernel_rfl) (by kernel_rfl) (fun _ _ _ h => (show False from h).elim) ?xySMint5 ?xhSMint5 ?xrSMint5
      case xhSMint5 => exact hHeld
      case xySMint5 => exact Or.inl ⟨by rfl, fun W9 hW => by have hWW := HSI.out _ hW; have q0 := HX.out _ hWW 0 _ rfl; rw [Nat.mul_one, Nat.add_zero] at q0; clear hHeld; simp only [List.getElem_toArray, List.getElem_cons_succ, List.getElem_cons_zero]; go_simp⟩
      simp only [Act.put, List.getElem_toArray, List.getElem_cons_succ, List.getElem_cons_zero, List.setIfInBounds_toArray, List.set_cons_succ, List.set_cons_zero]
      refine wpAnyH_take (i := 5) (v := (.slice (some ⟨bk2, o2, none⟩) n c2)) rfl (by kernel_rfl) (by kernel_rfl) (by kernel_rfl) (fun _ _ _ h => (show False from h).elim) ?xySMint6 ?xhSMint6 ?xrSMint6
      case xhSMint6 => exact hHeld
      case xySMint6 => exact Or.inl ⟨by rfl, fun W9 hW => by clear hHeld; simp only [List.getElem_toArray, List.getElem_cons_succ, List.getElem_cons_zero]; go_simp⟩
      simp only [Act.put, List.getElem_toArray, List.getElem_cons_succ, List.getElem_cons_zero, List.setIfInBounds_toArray, List.set_cons_succ, List.set_cons_zero]
      refine wpAnyH_take (i := 6) (v := (.int .i64 (k : Int))) rfl (by kernel_rfl) (by kernel_rfl) (by kernel_rfl) (fun _ _ _ h => (show False from h).elim) ?xySMint7 ?xhSMint7 ?xrSMint7
      case xhSMint7 => exact hHeld
      case xySMint7 => exact Or.inl ⟨by rfl, fun W9 hW => by clear hHeld; simp only [List.getElem_toArray, List.getElem_cons_succ, List.getElem_cons_zero]; go_simp⟩
      simp only [Act.put, List.getElem_toArray, List.getElem_cons_succ, List.getElem_cons_zero, List.setIfInBounds_toArray, List.set_cons_succ, List.set_cons_zero]
      refine wpAnyH_take (i := 7) (v := (.pointer (some ⟨bk2, o2 + k, none⟩))) rfl (by kernel_rfl) (by kernel_rfl) (by kernel_rfl) (fun _ _ _ h => (show False from h).elim) ?xySMint8 ?xhSMint8 ?xrSMint8
      case xhSMint8 => exact hHeld
      case xySMint8 => exact Or.inl ⟨by rfl, fun W9 hW => by clear hHeld; simp only [List.getElem_toArray, List.getElem_cons_succ, List.getElem_cons_zero]; go_simp⟩
      simp only [Act.put, List.getElem_toArray, List.getElem_cons_succ, List.getElem_cons_zero, List.setIfInBounds_toArray, List.set_cons_succ, List.set_cons_zero]
      refine wpAnyH_take (i := 8) (v := (.int .i64 z0)) rfl (by kernel_rfl) (by kernel_rfl) (by kernel_rfl) (fun _ _ _ h => (show False from h).elim) ?xySMint9 ?xhSMint9 ?xrSMint9
      case xhSMint9 => exact hHeld
      case xySMint9 => exact Or.inl ⟨by rfl, fun W9 hW => by have hWW := HSI.out _ hW; have q0 := HY.out _ hWW 0 _ rfl; rw [Nat.mul_one, Nat.add_zero] at q0; clear hHeld; simp only [List.getElem_toArray, List.getElem_cons_succ, List.getElem_cons_zero]; go_simp⟩
      simp only [Act.put, List.getElem_toArray, List.getElem_cons_succ, List.getElem_cons_zero, List.setIfInBounds_toArray, List.set_cons_succ, List.set_cons_zero]
      have CC := hid (CF.out _ HWd.out)
      refine wpAnyH_ready (rs := [9]) (by kernel_rfl) (by simp) ?_
      refine AllReadyH.cons rfl (fun K hK => ?_) AllReadyH.nil
      go_simp
      go_wp2_with (first | (go_at_call 186; refine CC.out.mono ?_; rintro en wE ⟨rfl, hbE⟩; have HBE := hid (HWd.out.trans (hbE.mono HWd.out.size)); clear hbE))
      refine hK.out _ _ (HS.out _ HBE.out) (fun hHeld => ?_)
      clear hK K
      refine wpAnyH_take (i := 10) (v := (.bool false)) rfl (by kernel_rfl) (by kernel_rfl) (by kernel_rfl) (fun _ _ _ h => (show False from h).elim) ?xySMint10 ?xhSMint10 ?xrSMint10
      case xhSMint10 => exact hHeld
      case xySMint10 => exact Or.inl ⟨by rfl, fun W9 hW => by clear hHeld; simp only [List.getElem_toArray, List.getElem_cons_succ, List.getElem_cons_zero]; go_simp⟩
      simp only [Act.put, List.getElem_toArray, List.getElem_cons_succ, List.getElem_cons_zero, List.setIfInBounds_toArray, List.set_cons_succ, List.set_cons_zero]
      refine wpAnyH_done (by kernel_rfl) ?_ _
      refine NoPanic.normal ?_
      go_wp2_with fail
      go_roundw
      case rel => exact ⟨k + 1, by omega, by go_num, HBE.out⟩
      case measure => simp [intOf]; omega
    · obtain rfl : n = k := by omega
      have hki : ¬ (n : Int) < (n : Int) := by omega
      go_wp2_with fail
      go_ret
      exact ⟨rfl, HB.out⟩

set_option maxHeartbeats 1000000 in
theorem pl_int {w : World} {v1 v2 : Value} (h : Twin w (.list .int) [v1] [v2]) :
    Calls Tryz.prog 128 #[v1, v2] w (fun e w' => e = .returned (.bool true) ∧ Below w.heap.size w w') := by
  have C := hid (sm_int h)
  clear h
  go_enter Tryz.func128, Tryz.ntmps128
  go_wp2_with (first | (go_at_call 185; refine C.out.mono ?_; rintro en w2 ⟨rfl, hb⟩; have HB := hid hb; clear hb))
  go_ret
  exact ⟨rfl, HB.out⟩

set_option maxHeartbeats 1000000 in
theorem pl1_num (z0 : Nat) (w : World) : Calls Tryz.prog 130 #[.int .u64 (z0 : Int), .int .u64 (z0 : Int)] w (fun e w' => e = .returned (.bool true) ∧ Below w.heap.size w w') := by
  go_enter Tryz.func130, Tryz.ntmps130
  go_wp2_with fail
  go_ret
  exact ⟨rfl, Below.refl _ _⟩

set_option maxHeartbeats 8000000 in
theorem sm_num {w : World} {v1 v2 : Value} (h : Twin w (.list .num) [v1] [v2]) :
    Calls Tryz.prog 129 #[v1, v2, (.func (.func 130) #[] #[])] w (fun e w' => e = .returned (.bool true) ∧ Below w.heap.size w w') := by
  obtain ⟨a1, a2, n, c1, c2, M1, M2, rfl, rfl, hL1, hL2, hM⟩ := tw_list h
  have hc1 := hL1.cap.1
  have hc2 := hL2.cap.1
  have hn6 := hL1.cap.2.1
  have HL1 := hid hL1
  have HL2 := hid hL2
  have HM := hid hM
  clear h hL1 hL2 hM
  go_enter Tryz.func129, Tryz.ntmps129
  go_wp2_with fail
  go_loopw [7] (fun i wr => ∃ k, k ≤ n ∧ i = .int .i64 (k : Int) ∧ Below w.heap.size w wr) (fun i _ => n - (intOf i).toNat)
  case atStart => exact ⟨0, by omega, rfl, Below.refl _ _⟩
  case round =>
    obtain ⟨k, hk, rfl, hb⟩ := hrel
    have HB := hid hb
    clear hb
    by_cases hlt : k < n
    · have hki : (k : Int) < (n : Int) := by omega
      obtain ⟨x, y, bk1, o1, bk2, o2, hxy, rfl, rfl, hcx, hcy⟩ := tw_get HL1.out HL2.out HM.out (by decide) hlt
      obtain ⟨v0, u0, rfl, rfl, e0⟩ := hxy.one rfl
      obtain ⟨z0, rfl, rfl⟩ := tw_num e0
      have CF : Hid (∀ V, Below w.heap.size w V → Calls Tryz.prog 130 #[.int .u64 (z0 : Int), .int .u64 (z0 : Int)] V (fun e w' => e = .returned (.bool true) ∧ Below V.heap.size V w')) := hid fun V _ => pl1_num z0 V
      have hX : ∀ V, Below w.heap.size w V → ∀ (j : Nat) u, ([(.int .u64 (z0 : Int))] : List Value)[j]? = some u → V.cell? ⟨bk1, o1 + k * 1 + j, none⟩ = some u := hcx
      have hY : ∀ V, Below w.heap.size w V → ∀ (j : Nat) u, ([(.int .u64 (z0 : Int))] : List Value)[j]? = some u → V.cell? ⟨bk2, o2 + k * 1 + j, none⟩ = some u := hcy
      have HX := hid hX
      have HY := hid hY
      clear hX hY hcx hcy
      go_upto_region 6 with fail
      have HWd : Hid (Below w.heap.size w wr.drew) := hid (HB.out.trans ((show Below wr.heap.size wr wr.drew from ⟨rfl, rfl, rfl, Nat.le_refl _, fun _ _ => rfl⟩).mono HB.out.size))
      obtain ⟨S9, hS9⟩ : ∃ S9 : World → Prop, S9 = fun V => Below w.heap.size w V := ⟨_, rfl⟩
      have HS : Hid (∀ V, Below w.heap.size w V → S9 V) := hid fun V h => by rw [hS9]; exact h
      have HSI : Hid (∀ V, S9 V → Below w.heap.size w V) := hid fun V h => by rw [hS9] at h; exact h
      clear hS9
      refine wp_region_noPanic ?_
      refine wp_region_held_drew (S := S9) (by kernel_rfl) (HS.out _ HWd.out) (fun hHeld => ?_)
      generalize wr.drew = Wd at *
      refine wpAnyH_take (i := 0) (v := (.func (.func 130) #[] #[])) rfl (by kernel_rfl) (by kernel_rfl) (by kernel_rfl) (fun _ _ _ h => (show False from h).elim) ?xySMnum1 ?xhSMnum1 ?xrSMnum1
      case xhSMnum1 => exact hHeld
      case xySMnum1 => exact Or.inl ⟨by rfl, fun W9 hW => by clear hHeld; simp only [List.getElem_toArray, List.getElem_cons_succ, List.getElem_cons_zero]; go_simp⟩
      simp only [Act.put, List.getElem_toArray, List.getElem_cons_succ, List.getElem_cons_zero, List.setIfInBounds_toArray, List.set_cons_succ, List.set_cons_zero]
      refine wpAnyH_take (i := 1) (v := (.slice (some ⟨bk1, o1, none⟩) n c1)) rfl (by kernel_rfl) (by kernel_rfl) (by kernel_rfl) (fun _ _ _ h => (show False from h).elim) ?xySMnum2 ?xhSMnum2 ?xrSMnum2
      case xhSMnum2 => exact hHeld
      case xySMnum2 => exact Or.inl ⟨by rfl, fun W9 hW => by clear hHeld; simp only [List.getElem_toArray, List.getElem_cons_succ, List.getElem_cons_zero]; go_simp⟩
      simp only [Act.put, List.getElem_toArray, List.getElem_cons_succ, List.getElem_cons_zero, List.setIfInBounds_toArray, List.set_cons_succ, List.set_cons_zero]
      refine wpAnyH_take (i := 2) (v := (.int .i64 (k : Int))) rfl (by kernel_rfl) (by kernel_rfl) (by kernel_rfl) (fun _ _ _ h => (show False from h).elim) ?xySMnum3 ?xhSMnum3 ?xrSMnum3
      case xhSMnum3 => exact hHeld
      case xySMnum3 => exact Or.inl ⟨by rfl, fun W9 hW => by clear hHeld; simp only [List.getElem_toArray, List.getElem_cons_succ, List.getElem_cons_zero]; go_simp⟩
      simp only [Act.put, List.getElem_toArray, List.getElem_cons_succ, List.getElem_cons_zero, List.setIfInBounds_toArray, List.set_cons_succ, List.set_cons_zero]
      refine wpAnyH_take (i := 3) (v := (.pointer (some ⟨bk1, o1 + k, none⟩))) rfl (by kernel_rfl) (by kernel_rfl) (by kernel_rfl) (fun _ _ _ h => (show False from h).elim) ?xySMnum4 ?xhSMnum4 ?xrSMnum4
      case xhSMnum4 => exact hHeld
      case xySMnum4 => exact Or.inl ⟨by rfl, fun W9 hW => by clear hHeld; simp only [List.getElem_toArray, List.getElem_cons_succ, List.getElem_cons_zero]; go_simp⟩
      simp only [Act.put, List.getElem_toArray, List.getElem_cons_succ, List.getElem_cons_zero, List.setIfInBounds_toArray, List.set_cons_succ, List.set_cons_zero]
      refine wpAnyH_take (i := 4) (v := (.int .u64 (z0 : Int))) rfl (by kernel_rfl) (by kernel_rfl) (by kernel_rfl) (fun _ _ _ h => (show False from h).elim) ?xySMnum5 ?xhSMnum5 ?xrSMnum5
      case xhSMnum5 => exact hHeld
      case xySMnum5 => exact Or.inl ⟨by rfl, fun W9 hW => by have hWW := HSI.out _ hW; have q0 := HX.out _ hWW 0 _ rfl; rw [Nat.mul_one, Nat.add_zero] at q0; clear hHeld; simp only [List.getElem_toArray, List.getElem_cons_succ, List.getElem_cons_zero]; go_simp⟩
      simp only [Act.put, List.getElem_toArray, List.getElem_cons_succ, List.getElem_cons_zero, List.setIfInBounds_toArray, List.set_cons_succ, List.set_cons_zero]
      refine wpAnyH_take (i := 5) (v := (.slice (some ⟨bk2, o2, none⟩) n c2)) rfl (by kernel_rfl) (by kernel_rfl) (by kernel_rfl) (fun _ _ _ h => (show False from h).elim) ?xySMnum6 ?xhSMnum6 ?xrSMnum6
      case xhSMnum6 => exact hHeld
      case xySMnum6 => exact Or.inl ⟨by rfl, fun W9 hW => by clear hHeld; simp only [List.getElem_toArray, List.getElem_cons_succ, List.getElem_cons_zero]; go_simp⟩
      simp only [Act.put, List.getElem_toArray, List.getElem_cons_succ, List.getElem_cons_zero, List.setIfInBounds_toArray, List.set_cons_succ, List.set_cons_zero]
      refine wpAnyH_take (i := 6) (v := (.int .i64 (k : Int))) rfl (by kernel_rfl) (by kernel_rfl) (by kernel_rfl) (fun _ _ _ h => (show False from h).elim) ?xySMnum7 ?xhSMnum7 ?xrSMnum7
      case xhSMnum7 => exact hHeld
      case xySMnum7 => exact Or.inl ⟨by rfl, fun W9 hW => by clear hHeld; simp only [List.getElem_toArray, List.getElem_cons_succ, List.getElem_cons_zero]; go_simp⟩
      simp only [Act.put, List.getElem_toArray, List.getElem_cons_succ, List.getElem_cons_zero, List.setIfInBounds_toArray, List.set_cons_succ, List.set_cons_zero]
      refine wpAnyH_take (i := 7) (v := (.pointer (some ⟨bk2, o2 + k, none⟩))) rfl (by kernel_rfl) (by kernel_rfl) (by kernel_rfl) (fun _ _ _ h => (show False from h).elim) ?xySMnum8 ?xhSMnum8 ?xrSMnum8
      case xhSMnum8 => exact hHeld
      case xySMnum8 => exact Or.inl ⟨by rfl, fun W9 hW => by clear hHeld; simp only [List.getElem_toArray, List.getElem_cons_succ, List.getElem_cons_zero]; go_simp⟩
      simp only [Act.put, List.getElem_toArray, List.getElem_cons_succ, List.getElem_cons_zero, List.setIfInBounds_toArray, List.set_cons_succ, List.set_cons_zero]
      refine wpAnyH_take (i := 8) (v := (.int .u64 (z0 : Int))) rfl (by kernel_rfl) (by kernel_rfl) (by kernel_rfl) (fun _ _ _ h => (show False from h).elim) ?xySMnum9 ?xhSMnum9 ?xrSMnum9
      case xhSMnum9 => exact hHeld
      case xySMnum9 => exact Or.inl ⟨by rfl, fun W9 hW => by have hWW := HSI.out _ hW; have q0 := HY.out _ hWW 0 _ rfl; rw [Nat.mul_one, Nat.add_zero] at q0; clear hHeld; simp only [List.getElem_toArray, List.getElem_cons_succ, List.getElem_cons_zero]; go_simp⟩
      simp only [Act.put, List.getElem_toArray, List.getElem_cons_succ, List.getElem_cons_zero, List.setIfInBounds_toArray, List.set_cons_succ, List.set_cons_zero]
      have CC := hid (CF.out _ HWd.out)
      refine wpAnyH_ready (rs := [9]) (by kernel_rfl) (by simp) ?_
      refine AllReadyH.cons rfl (fun K hK => ?_) AllReadyH.nil
      go_simp
      go_wp2_with (first | (go_at_call 130; refine CC.out.mono ?_; rintro en wE ⟨rfl, hbE⟩; have HBE := hid (HWd.out.trans (hbE.mono HWd.out.size)); clear hbE))
      refine hK.out _ _ (HS.out _ HBE.out) (fun hHeld => ?_)
      clear hK K
      refine wpAnyH_take (i := 10) (v := (.bool false)) rfl (by kernel_rfl) (by kernel_rfl) (by kernel_rfl) (fun _ _ _ h => (show False from h).elim) ?xySMnum10 ?xhSMnum10 ?xrSMnum10
      case xhSMnum10 => exact hHeld
      case xySMnum10 => exact Or.inl ⟨by rfl, fun W9 hW => by clear hHeld; simp only [List.getElem_toArray, List.getElem_cons_succ, List.getElem_cons_zero]; go_simp⟩
      simp only [Act.put, List.getElem_toArray, List.getElem_cons_succ, List.getElem_cons_zero, List.setIfInBounds_toArray, List.set_cons_succ, List.set_cons_zero]
      refine wpAnyH_done (by kernel_rfl) ?_ _
      refine NoPanic.normal ?_
      go_wp2_with fail
      go_roundw
      case rel => exact ⟨k + 1, by omega, by go_num, HBE.out⟩
      case measure => simp [intOf]; omega
    · obtain rfl : n = k := by omega
      have hki : ¬ (n : Int) < (n : Int) := by omega
      go_wp2_with fail
      go_ret
      exact ⟨rfl, HB.out⟩

set_option maxHeartbeats 1000000 in
theorem pl_num {w : World} {v1 v2 : Value} (h : Twin w (.list .num) [v1] [v2]) :
    Calls Tryz.prog 67 #[v1, v2] w (fun e w' => e = .returned (.bool true) ∧ Below w.heap.size w w') := by
  have C := hid (sm_num h)
  clear h
  go_enter Tryz.func67, Tryz.ntmps67
  go_wp2_with (first | (go_at_call 129; refine C.out.mono ?_; rintro en w2 ⟨rfl, hb⟩; have HB := hid hb; clear hb))
  go_ret
  exact ⟨rfl, HB.out⟩

set_option maxHeartbeats 1000000 in
theorem pl1_Column (z0 : ByteArray) (z1 : Int) (z2 : Bool) (w : World) : Calls Tryz.prog 184 #[.agg #[(.string z0), (.int .i64 z1), (.bool z2)], .agg #[(.string z0), (.int .i64 z1), (.bool z2)]] w (fun e w' => e = .returned (.bool true) ∧ Below w.heap.size w w') := by
  have hb : Below w.heap.size w ((w.alloc (.cells #[(.string z0), (.int .i64 z1), (.bool z2)] 199)).alloc (.cells #[(.string z0), (.int .i64 z1), (.bool z2)] 199)) := ((Below.refl _ _).alloc (Nat.le_refl _) _).alloc (by simp) _
  have h0 : ((w.alloc (.cells #[(.string z0), (.int .i64 z1), (.bool z2)] 199)).alloc (.cells #[(.string z0), (.int .i64 z1), (.bool z2)] 199)).heap[w.heap.size]? = some (.cells ([(.string z0), (.int .i64 z1), (.bool z2)] : List Value).toArray 199 (0, 0)) := (Below.heap_alloc (w.alloc (.cells #[(.string z0), (.int .i64 z1), (.bool z2)] 199)) (.cells #[(.string z0), (.int .i64 z1), (.bool z2)] 199) w.heap.size (by simp)).trans (heap_alloc_new w (.cells #[(.string z0), (.int .i64 z1), (.bool z2)] 199))
  have h1 : ((w.alloc (.cells #[(.string z0), (.int .i64 z1), (.bool z2)] 199)).alloc (.cells #[(.string z0), (.int .i64 z1), (.bool z2)] 199)).heap[w.heap.size + 1]? = some (.cells ([(.string z0), (.int .i64 z1), (.bool z2)] : List Value).toArray 199 (0, 0)) := heap_alloc2_new w (.cells #[(.string z0), (.int .i64 z1), (.bool z2)] 199) (.cells #[(.string z0), (.int .i64 z1), (.bool z2)] 199)
  have c0 : ∀ (i : Nat) u, ([(.string z0), (.int .i64 z1), (.bool z2)] : List Value)[i]? = some u → ((w.alloc (.cells #[(.string z0), (.int .i64 z1), (.bool z2)] 199)).alloc (.cells #[(.string z0), (.int .i64 z1), (.bool z2)] 199)).cell? ⟨w.heap.size, i, none⟩ = some u := fun i u hu => by simp only [World.cell?, h0]; simpa using hu
  have c1 : ∀ (i : Nat) u, ([(.string z0), (.int .i64 z1), (.bool z2)] : List Value)[i]? = some u → ((w.alloc (.cells #[(.string z0), (.int .i64 z1), (.bool z2)] 199)).alloc (.cells #[(.string z0), (.int .i64 z1), (.bool z2)] 199)).cell? ⟨w.heap.size + 1, i, none⟩ = some u := fun i u hu => by simp only [World.cell?, h1]; simpa using hu
  have x0 := c0 0 _ rfl
  have y0 := c1 0 _ rfl
  have x1 := c0 1 _ rfl
  have y1 := c1 1 _ rfl
  have x2 := c0 2 _ rfl
  have y2 := c1 2 _ rfl
  clear h0 h1 c0 c1
  go_enter Tryz.func184, Tryz.ntmps184
  go_upto_region 1 with fail
  generalize (w.alloc (.cells #[(.string z0), (.int .i64 z1), (.bool z2)] 199)).alloc (.cells #[(.string z0), (.int .i64 z1), (.bool z2)] 199) = w1 at *
  go_wp2_with fail
  go_ret
  exact ⟨rfl, hb⟩

set_option maxHeartbeats 8000000 in
theorem sm_Column {w : World} {v1 v2 : Value} (h : Twin w (.list sColumn) [v1] [v2]) :
    Calls Tryz.prog 183 #[v1, v2, (.func (.func 184) #[] #[])] w (fun e w' => e = .returned (.bool true) ∧ Below w.heap.size w w') := by
  obtain ⟨a1, a2, n, c1, c2, M1, M2, rfl, rfl, hL1, hL2, hM⟩ := tw_list h
  have hc1 := hL1.cap.1
  have hc2 := hL2.cap.1
  have hn6 := hL1.cap.2.1
  have HL1 := hid hL1
  have HL2 := hid hL2
  have HM := hid hM
  clear h hL1 hL2 hM
  go_enter Tryz.func183, Tryz.ntmps183
  go_wp2_with fail
  go_loopw [7] (fun i wr => ∃ k, k ≤ n ∧ i = .int .i64 (k : Int) ∧ Below w.heap.size w wr) (fun i _ => n - (intOf i).toNat)
  case atStart => exact ⟨0, by omega, rfl, Below.refl _ _⟩
  case round =>
    obtain ⟨k, hk, rfl, hb⟩ := hrel
    have HB := hid hb
    clear hb
    by_cases hlt : k < n
    · have hki : (k : Int) < (n : Int) := by omega
      obtain ⟨x, y, bk1, o1, bk2, o2, hxy, rfl, rfl, hcx, hcy⟩ := tw_get HL1.out HL2.out HM.out (by decide) hlt
      obtain ⟨v0, v1, v2, u0, u1, u2, rfl, rfl, e0, e1, e2⟩ := Column_twin hxy
      obtain ⟨z0, rfl, rfl⟩ := tw_name e0
      obtain ⟨z1, rfl, rfl⟩ := tw_int e1
      obtain ⟨z2, rfl, rfl⟩ := tw_bool e2
      have CF : Hid (∀ V, Below w.heap.size w V → Calls Tryz.prog 184 #[.agg #[(.string z0), (.int .i64 z1), (.bool z2)], .agg #[(.string z0), (.int .i64 z1), (.bool z2)]] V (fun e w' => e = .returned (.bool true) ∧ Below V.heap.size V w')) := hid fun V _ => pl1_Column z0 z1 z2 V
      have hX : ∀ V, Below w.heap.size w V → ∀ (j : Nat) u, ([(.string z0), (.int .i64 z1), (.bool z2)] : List Value)[j]? = some u → V.cell? ⟨bk1, o1 + k * 3 + j, none⟩ = some u := hcx
      have hY : ∀ V, Below w.heap.size w V → ∀ (j : Nat) u, ([(.string z0), (.int .i64 z1), (.bool z2)] : List Value)[j]? = some u → V.cell? ⟨bk2, o2 + k * 3 + j, none⟩ = some u := hcy
      have HX := hid hX
      have HY := hid hY
      clear hX hY hcx hcy
      go_upto_region 6 with fail
      have HWd : Hid (Below w.heap.size w wr.drew) := hid (HB.out.trans ((show Below wr.heap.size wr wr.drew from ⟨rfl, rfl, rfl, Nat.le_refl _, fun _ _ => rfl⟩).mono HB.out.size))
      obtain ⟨S9, hS9⟩ : ∃ S9 : World → Prop, S9 = fun V => Below w.heap.size w V := ⟨_, rfl⟩
      have HS : Hid (∀ V, Below w.heap.size w V → S9 V) := hid fun V h => by rw [hS9]; exact h
      have HSI : Hid (∀ V, S9 V → Below w.heap.size w V) := hid fun V h => by rw [hS9] at h; exact h
      clear hS9
      refine wp_region_noPanic ?_
      refine wp_region_held_drew (S := S9) (by kernel_rfl) (HS.out _ HWd.out) (fun hHeld => ?_)
      generalize wr.drew = Wd at *
      refine wpAnyH_take (i := 0) (v := (.func (.func 184) #[] #[])) rfl (by kernel_rfl) (by kernel_rfl) (by kernel_rfl) (fun _ _ _ h => (show False from h).elim) ?xySMColumn1 ?xhSMColumn1 ?xrSMColumn1
      case xhSMColumn1 => exact hHeld
      case xySMColumn1 => exact Or.inl ⟨by rfl, fun W9 hW => by clear hHeld; simp only [List.getElem_toArray, List.getElem_cons_succ, List.getElem_cons_zero]; go_simp⟩
      simp only [Act.put, List.getElem_toArray, List.getElem_cons_succ, List.getElem_cons_zero, List.setIfInBounds_toArray, List.set_cons_succ, List.set_cons_zero]
      refine wpAnyH_take (i := 1) (v := (.slice (some ⟨bk1, o1, none⟩) n c1)) rfl (by kernel_rfl) (by kernel_rfl) (by kernel_rfl) (fun _ _ _ h => (show False from h).elim) ?xySMColumn2 ?xhSMColumn2 ?xrSMColumn2
      case xhSMColumn2 => exact hHeld
      case xySMColumn2 => exact Or.inl ⟨by rfl, fun W9 hW => by clear hHeld; simp only [List.getElem_toArray, List.getElem_cons_succ, List.getElem_cons_zero]; go_simp⟩
      simp only [Act.put, List.getElem_toArray, List.getElem_cons_succ, List.getElem_cons_zero, List.setIfInBounds_toArray, List.set_cons_succ, List.set_cons_zero]
      refine wpAnyH_take (i := 2) (v := (.int .i64 (k : Int))) rfl (by kernel_rfl) (by kernel_rfl) (by kernel_rfl) (fun _ _ _ h => (show False from h).elim) ?xySMColumn3 ?xhSMColumn3 ?xrSMColumn3
      case xhSMColumn3 => exact hHeld
      case xySMColumn3 => exact Or.inl ⟨by rfl, fun W9 hW => by clear hHeld; simp only [List.getElem_toArray, List.getElem_cons_succ, List.getElem_cons_zero]; go_simp⟩
      simp only [Act.put, List.getElem_toArray, List.getElem_cons_succ, List.getElem_cons_zero, List.setIfInBounds_toArray, List.set_cons_succ, List.set_cons_zero]
      refine wpAnyH_take (i := 3) (v := (.pointer (some ⟨bk1, o1 + k * 3, none⟩))) rfl (by kernel_rfl) (by kernel_rfl) (by kernel_rfl) (fun _ _ _ h => (show False from h).elim) ?xySMColumn4 ?xhSMColumn4 ?xrSMColumn4
      case xhSMColumn4 => exact hHeld
      case xySMColumn4 => exact Or.inl ⟨by rfl, fun W9 hW => by clear hHeld; simp only [List.getElem_toArray, List.getElem_cons_succ, List.getElem_cons_zero]; go_simp⟩
      simp only [Act.put, List.getElem_toArray, List.getElem_cons_succ, List.getElem_cons_zero, List.setIfInBounds_toArray, List.set_cons_succ, List.set_cons_zero]
      refine wpAnyH_take (i := 4) (v := (.agg #[(.string z0), (.int .i64 z1), (.bool z2)])) rfl (by kernel_rfl) (by kernel_rfl) (by kernel_rfl) (fun _ _ _ h => (show False from h).elim) ?xySMColumn5 ?xhSMColumn5 ?xrSMColumn5
      case xhSMColumn5 => exact hHeld
      case xySMColumn5 => exact Or.inl ⟨by rfl, fun W9 hW => by have hWW := HSI.out _ hW; have q0 := HX.out _ hWW 0 _ rfl; rw [Nat.add_zero] at q0; have q1 := HX.out _ hWW 1 _ rfl; have q2 := HX.out _ hWW 2 _ rfl; clear hHeld; simp only [List.getElem_toArray, List.getElem_cons_succ, List.getElem_cons_zero]; go_simp⟩
      simp only [Act.put, List.getElem_toArray, List.getElem_cons_succ, List.getElem_cons_zero, List.setIfInBounds_toArray, List.set_cons_succ, List.set_cons_zero]
      refine wpAnyH_take (i := 5) (v := (.slice (some ⟨bk2, o2, none⟩) n c2)) rfl (by kernel_rfl) (by kernel_rfl) (by kernel_rfl) (fun _ _ _ h => (show False from h).elim) ?xySMColumn6 ?xhSMColumn6 ?xrSMColumn6
      case xhSMColumn6 => exact hHeld
      case xySMColumn6 => exact Or.inl ⟨by rfl, fun W9 hW => by clear hHeld; simp only [List.getElem_toArray, List.getElem_cons_succ, List.getElem_cons_zero]; go_simp⟩
      simp only [Act.put, List.getElem_toArray, List.getElem_cons_succ, List.getElem_cons_zero, List.setIfInBounds_toArray, List.set_cons_succ, List.set_cons_zero]
      refine wpAnyH_take (i := 6) (v := (.int .i64 (k : Int))) rfl (by kernel_rfl) (by kernel_rfl) (by kernel_rfl) (fun _ _ _ h => (show False from h).elim) ?xySMColumn7 ?xhSMColumn7 ?xrSMColumn7
      case xhSMColumn7 => exact hHeld
      case xySMColumn7 => exact Or.inl ⟨by rfl, fun W9 hW => by clear hHeld; simp only [List.getElem_toArray, List.getElem_cons_succ, List.getElem_cons_zero]; go_simp⟩
      simp only [Act.put, List.getElem_toArray, List.getElem_cons_succ, List.getElem_cons_zero, List.setIfInBounds_toArray, List.set_cons_succ, List.set_cons_zero]
      refine wpAnyH_take (i := 7) (v := (.pointer (some ⟨bk2, o2 + k * 3, none⟩))) rfl (by kernel_rfl) (by kernel_rfl) (by kernel_rfl) (fun _ _ _ h => (show False from h).elim) ?xySMColumn8 ?xhSMColumn8 ?xrSMColumn8
      case xhSMColumn8 => exact hHeld
      case xySMColumn8 => exact Or.inl ⟨by rfl, fun W9 hW => by clear hHeld; simp only [List.getElem_toArray, List.getElem_cons_succ, List.getElem_cons_zero]; go_simp⟩
      simp only [Act.put, List.getElem_toArray, List.getElem_cons_succ, List.getElem_cons_zero, List.setIfInBounds_toArray, List.set_cons_succ, List.set_cons_zero]
      refine wpAnyH_take (i := 8) (v := (.agg #[(.string z0), (.int .i64 z1), (.bool z2)])) rfl (by kernel_rfl) (by kernel_rfl) (by kernel_rfl) (fun _ _ _ h => (show False from h).elim) ?xySMColumn9 ?xhSMColumn9 ?xrSMColumn9
      case xhSMColumn9 => exact hHeld
      case xySMColumn9 => exact Or.inl ⟨by rfl, fun W9 hW => by have hWW := HSI.out _ hW; have q0 := HY.out _ hWW 0 _ rfl; rw [Nat.add_zero] at q0; have q1 := HY.out _ hWW 1 _ rfl; have q2 := HY.out _ hWW 2 _ rfl; clear hHeld; simp only [List.getElem_toArray, List.getElem_cons_succ, List.getElem_cons_zero]; go_simp⟩
      simp only [Act.put, List.getElem_toArray, List.getElem_cons_succ, List.getElem_cons_zero, List.setIfInBounds_toArray, List.set_cons_succ, List.set_cons_zero]
      have CC := hid (CF.out _ HWd.out)
      refine wpAnyH_ready (rs := [9]) (by kernel_rfl) (by simp) ?_
      refine AllReadyH.cons rfl (fun K hK => ?_) AllReadyH.nil
      go_simp
      go_wp2_with (first | (go_at_call 184; refine CC.out.mono ?_; rintro en wE ⟨rfl, hbE⟩; have HBE := hid (HWd.out.trans (hbE.mono HWd.out.size)); clear hbE))
      refine hK.out _ _ (HS.out _ HBE.out) (fun hHeld => ?_)
      clear hK K
      refine wpAnyH_take (i := 10) (v := (.bool false)) rfl (by kernel_rfl) (by kernel_rfl) (by kernel_rfl) (fun _ _ _ h => (show False from h).elim) ?xySMColumn10 ?xhSMColumn10 ?xrSMColumn10
      case xhSMColumn10 => exact hHeld
      case xySMColumn10 => exact Or.inl ⟨by rfl, fun W9 hW => by clear hHeld; simp only [List.getElem_toArray, List.getElem_cons_succ, List.getElem_cons_zero]; go_simp⟩
      simp only [Act.put, List.getElem_toArray, List.getElem_cons_succ, List.getElem_cons_zero, List.setIfInBounds_toArray, List.set_cons_succ, List.set_cons_zero]
      refine wpAnyH_done (by kernel_rfl) ?_ _
      refine NoPanic.normal ?_
      go_wp2_with fail
      go_roundw
      case rel => exact ⟨k + 1, by omega, by go_num, HBE.out⟩
      case measure => simp [intOf]; omega
    · obtain rfl : n = k := by omega
      have hki : ¬ (n : Int) < (n : Int) := by omega
      go_wp2_with fail
      go_ret
      exact ⟨rfl, HB.out⟩

set_option maxHeartbeats 1000000 in
theorem pl_Column {w : World} {v1 v2 : Value} (h : Twin w (.list sColumn) [v1] [v2]) :
    Calls Tryz.prog 127 #[v1, v2] w (fun e w' => e = .returned (.bool true) ∧ Below w.heap.size w w') := by
  have C := hid (sm_Column h)
  clear h
  go_enter Tryz.func127, Tryz.ntmps127
  go_wp2_with (first | (go_at_call 183; refine C.out.mono ?_; rintro en w2 ⟨rfl, hb⟩; have HB := hid hb; clear hb))
  go_ret
  exact ⟨rfl, HB.out⟩

set_option maxHeartbeats 8000000 in
theorem st_Table {w : World} {v0 v1 v2 v3 u0 u1 u2 u3 : Value} (e0 : Twin w .int [v0] [u0]) (e1 : Twin w .name [v1] [u1]) (e2 : Twin w (.list sColumn) [v2] [u2]) (e3 : Twin w (.list .int) [v3] [u3]) :
    Calls Tryz.prog 65 #[.agg #[v0, v1, v2, v3], .agg #[u0, u1, u2, u3]] w (fun e w' => e = .returned (.bool true) ∧ Below w.heap.size w w') := by
  obtain ⟨z0, rfl, rfl⟩ := tw_int e0
  obtain ⟨z1, rfl, rfl⟩ := tw_name e1
  have hb : Below w.heap.size w ((w.alloc (.cells #[(.int .i64 z0), (.string z1), v2, v3] 39)).alloc (.cells #[(.int .i64 z0), (.string z1), u2, u3] 39)) := ((Below.refl _ _).alloc (Nat.le_refl _) _).alloc (by simp) _
  have h0 : ((w.alloc (.cells #[(.int .i64 z0), (.string z1), v2, v3] 39)).alloc (.cells #[(.int .i64 z0), (.string z1), u2, u3] 39)).heap[w.heap.size]? = some (.cells ([(.int .i64 z0), (.string z1), v2, v3] : List Value).toArray 39 (0, 0)) := (Below.heap_alloc (w.alloc (.cells #[(.int .i64 z0), (.string z1), v2, v3] 39)) (.cells #[(.int .i64 z0), (.string z1), u2, u3] 39) w.heap.size (by simp)).trans (heap_alloc_new w (.cells #[(.int .i64 z0), (.string z1), v2, v3] 39))
  have h1 : ((w.alloc (.cells #[(.int .i64 z0), (.string z1), v2, v3] 39)).alloc (.cells #[(.int .i64 z0), (.string z1), u2, u3] 39)).heap[w.heap.size + 1]? = some (.cells ([(.int .i64 z0), (.string z1), u2, u3] : List Value).toArray 39 (0, 0)) := heap_alloc2_new w (.cells #[(.int .i64 z0), (.string z1), v2, v3] 39) (.cells #[(.int .i64 z0), (.string z1), u2, u3] 39)
  have C2 : Hid (∀ V, Below w.heap.size w V → _) := hid fun V hV => pl_Column (e2.old hV)
  have C3 : Hid (∀ V, Below w.heap.size w V → _) := hid fun V hV => pl_int (e3.old hV)
  have HC0 : Hid (∀ V, Below ((w.alloc (.cells #[(.int .i64 z0), (.string z1), v2, v3] 39)).alloc (.cells #[(.int .i64 z0), (.string z1), u2, u3] 39)).heap.size ((w.alloc (.cells #[(.int .i64 z0), (.string z1), v2, v3] 39)).alloc (.cells #[(.int .i64 z0), (.string z1), u2, u3] 39)) V → ∀ (i : Nat) u, ([(.int .i64 z0), (.string z1), v2, v3] : List Value)[i]? = some u → V.cell? ⟨w.heap.size, i, none⟩ = some u) := hid fun V hV i u hu => by have := (hV.block _ (lt_of_block h0)).trans h0; simp only [World.cell?, this]; simpa using hu
  have HC1 : Hid (∀ V, Below ((w.alloc (.cells #[(.int .i64 z0), (.string z1), v2, v3] 39)).alloc (.cells #[(.int .i64 z0), (.string z1), u2, u3] 39)).heap.size ((w.alloc (.cells #[(.int .i64 z0), (.string z1), v2, v3] 39)).alloc (.cells #[(.int .i64 z0), (.string z1), u2, u3] 39)) V → ∀ (i : Nat) u, ([(.int .i64 z0), (.string z1), u2, u3] : List Value)[i]? = some u → V.cell? ⟨w.heap.size + 1, i, none⟩ = some u) := hid fun V hV i u hu => by have := (hV.block _ (lt_of_block h1)).trans h1; simp only [World.cell?, this]; simpa using hu
  have HB := hid hb
  clear hb h0 h1 e0 e1 e2 e3
  go_enter Tryz.func65, Tryz.ntmps65
  go_upto_region 1 with fail
  generalize (w.alloc (.cells #[(.int .i64 z0), (.string z1), v2, v3] 39)).alloc (.cells #[(.int .i64 z0), (.string z1), u2, u3] 39) = w0 at *
  have HW0 : Hid (Below w0.heap.size w0 w0) := hid (Below.refl _ _)
  have x0 := HC0.out _ (Below.refl _ _) 0 _ rfl
  have y0 := HC1.out _ (Below.refl _ _) 0 _ rfl
  have x1 := HC0.out _ (Below.refl _ _) 1 _ rfl
  have y1 := HC1.out _ (Below.refl _ _) 1 _ rfl
  have x2 := HC0.out _ (Below.refl _ _) 2 _ rfl
  have y2 := HC1.out _ (Below.refl _ _) 2 _ rfl
  have CA0 := hid (C2.out _ HB.out)
  go_wp2_with (first | (go_at_call 127; refine CA0.out.mono ?_; rintro en r1 ⟨rfl, hb0⟩; have HW1 := hid (HW0.out.trans (hb0.mono HW0.out.size)); clear hb0; have CA1 := hid (C3.out _ (HB.out.trans (HW1.out.mono HB.out.size))); clear x0 y0; clear x1 y1; clear x2 y2; have x3_0 := HC0.out _ HW1.out 3 _ rfl; have y3_0 := HC1.out _ HW1.out 3 _ rfl) | (go_at_call 128; refine CA1.out.mono ?_; rintro en r2 ⟨rfl, hb1⟩; have HW2 := hid (HW1.out.trans (hb1.mono HW1.out.size)); clear hb1; clear x3_0 y3_0))
  go_ret
  exact ⟨rfl, HB.out.trans (HW2.out.mono HB.out.size)⟩

set_option maxHeartbeats 8000000 in
theorem sm_Table {w : World} {v1 v2 : Value} (h : Twin w (.list sTable) [v1] [v2]) :
    Calls Tryz.prog 69 #[v1, v2, (.func (.func 65) #[] #[])] w (fun e w' => e = .returned (.bool true) ∧ Below w.heap.size w w') := by
  obtain ⟨a1, a2, n, c1, c2, M1, M2, rfl, rfl, hL1, hL2, hM⟩ := tw_list h
  have hc1 := hL1.cap.1
  have hc2 := hL2.cap.1
  have hn6 := hL1.cap.2.1
  have HL1 := hid hL1
  have HL2 := hid hL2
  have HM := hid hM
  clear h hL1 hL2 hM
  go_enter Tryz.func69, Tryz.ntmps69
  go_wp2_with fail
  go_loopw [7] (fun i wr => ∃ k, k ≤ n ∧ i = .int .i64 (k : Int) ∧ Below w.heap.size w wr) (fun i _ => n - (intOf i).toNat)
  case atStart => exact ⟨0, by omega, rfl, Below.refl _ _⟩
  case round =>
    obtain ⟨k, hk, rfl, hb⟩ := hrel
    have HB := hid hb
    clear hb
    by_cases hlt : k < n
    · have hki : (k : Int) < (n : Int) := by omega
      obtain ⟨x, y, bk1, o1, bk2, o2, hxy, rfl, rfl, hcx, hcy⟩ := tw_get HL1.out HL2.out HM.out (by decide) hlt
      obtain ⟨v0, v1, v2, v3, u0, u1, u2, u3, rfl, rfl, e0, e1, e2, e3⟩ := Table_twin hxy
      have CF : Hid (∀ V, Below w.heap.size w V → Calls Tryz.prog 65 #[.agg #[v0, v1, v2, v3], .agg #[u0, u1, u2, u3]] V (fun e w' => e = .returned (.bool true) ∧ Below V.heap.size V w')) := hid fun V hV => st_Table (e0.old hV) (e1.old hV) (e2.old hV) (e3.old hV)
      have hX : ∀ V, Below w.heap.size w V → ∀ (j : Nat) u, ([v0, v1, v2, v3] : List Value)[j]? = some u → V.cell? ⟨bk1, o1 + k * 4 + j, none⟩ = some u := hcx
      have hY : ∀ V, Below w.heap.size w V → ∀ (j : Nat) u, ([u0, u1, u2, u3] : List Value)[j]? = some u → V.cell? ⟨bk2, o2 + k * 4 + j, none⟩ = some u := hcy
      have HX := hid hX
      have HY := hid hY
      clear hX hY hcx hcy
      go_upto_region 6 with fail
      have HWd : Hid (Below w.heap.size w wr.drew) := hid (HB.out.trans ((show Below wr.heap.size wr wr.drew from ⟨rfl, rfl, rfl, Nat.le_refl _, fun _ _ => rfl⟩).mono HB.out.size))
      obtain ⟨S9, hS9⟩ : ∃ S9 : World → Prop, S9 = fun V => Below w.heap.size w V := ⟨_, rfl⟩
      have HS : Hid (∀ V, Below w.heap.size w V → S9 V) := hid fun V h => by rw [hS9]; exact h
      have HSI : Hid (∀ V, S9 V → Below w.heap.size w V) := hid fun V h => by rw [hS9] at h; exact h
      clear hS9
      refine wp_region_noPanic ?_
      refine wp_region_held_drew (S := S9) (by kernel_rfl) (HS.out _ HWd.out) (fun hHeld => ?_)
      generalize wr.drew = Wd at *
      refine wpAnyH_take (i := 0) (v := (.func (.func 65) #[] #[])) rfl (by kernel_rfl) (by kernel_rfl) (by kernel_rfl) (fun _ _ _ h => (show False from h).elim) ?xySMTable1 ?xhSMTable1 ?xrSMTable1
      case xhSMTable1 => exact hHeld
      case xySMTable1 => exact Or.inl ⟨by rfl, fun W9 hW => by clear hHeld; simp only [List.getElem_toArray, List.getElem_cons_succ, List.getElem_cons_zero]; go_simp⟩
      simp only [Act.put, List.getElem_toArray, List.getElem_cons_succ, List.getElem_cons_zero, List.setIfInBounds_toArray, List.set_cons_succ, List.set_cons_zero]
      refine wpAnyH_take (i := 1) (v := (.slice (some ⟨bk1, o1, none⟩) n c1)) rfl (by kernel_rfl) (by kernel_rfl) (by kernel_rfl) (fun _ _ _ h => (show False from h).elim) ?xySMTable2 ?xhSMTable2 ?xrSMTable2
      case xhSMTable2 => exact hHeld
      case xySMTable2 => exact Or.inl ⟨by rfl, fun W9 hW => by clear hHeld; simp only [List.getElem_toArray, List.getElem_cons_succ, List.getElem_cons_zero]; go_simp⟩
      simp only [Act.put, List.getElem_toArray, List.getElem_cons_succ, List.getElem_cons_zero, List.setIfInBounds_toArray, List.set_cons_succ, List.set_cons_zero]
      refine wpAnyH_take (i := 2) (v := (.int .i64 (k : Int))) rfl (by kernel_rfl) (by kernel_rfl) (by kernel_rfl) (fun _ _ _ h => (show False from h).elim) ?xySMTable3 ?xhSMTable3 ?xrSMTable3
      case xhSMTable3 => exact hHeld
      case xySMTable3 => exact Or.inl ⟨by rfl, fun W9 hW => by clear hHeld; simp only [List.getElem_toArray, List.getElem_cons_succ, List.getElem_cons_zero]; go_simp⟩
      simp only [Act.put, List.getElem_toArray, List.getElem_cons_succ, List.getElem_cons_zero, List.setIfInBounds_toArray, List.set_cons_succ, List.set_cons_zero]
      refine wpAnyH_take (i := 3) (v := (.pointer (some ⟨bk1, o1 + k * 4, none⟩))) rfl (by kernel_rfl) (by kernel_rfl) (by kernel_rfl) (fun _ _ _ h => (show False from h).elim) ?xySMTable4 ?xhSMTable4 ?xrSMTable4
      case xhSMTable4 => exact hHeld
      case xySMTable4 => exact Or.inl ⟨by rfl, fun W9 hW => by clear hHeld; simp only [List.getElem_toArray, List.getElem_cons_succ, List.getElem_cons_zero]; go_simp⟩
      simp only [Act.put, List.getElem_toArray, List.getElem_cons_succ, List.getElem_cons_zero, List.setIfInBounds_toArray, List.set_cons_succ, List.set_cons_zero]
      refine wpAnyH_take (i := 4) (v := (.agg #[v0, v1, v2, v3])) rfl (by kernel_rfl) (by kernel_rfl) (by kernel_rfl) (fun _ _ _ h => (show False from h).elim) ?xySMTable5 ?xhSMTable5 ?xrSMTable5
      case xhSMTable5 => exact hHeld
      case xySMTable5 => exact Or.inl ⟨by rfl, fun W9 hW => by have hWW := HSI.out _ hW; have q0 := HX.out _ hWW 0 _ rfl; rw [Nat.add_zero] at q0; have q1 := HX.out _ hWW 1 _ rfl; have q2 := HX.out _ hWW 2 _ rfl; have q3 := HX.out _ hWW 3 _ rfl; clear hHeld; simp only [List.getElem_toArray, List.getElem_cons_succ, List.getElem_cons_zero]; go_simp⟩
      simp only [Act.put, List.getElem_toArray, List.getElem_cons_succ, List.getElem_cons_zero, List.setIfInBounds_toArray, List.set_cons_succ, List.set_cons_zero]
      refine wpAnyH_take (i := 5) (v := (.slice (some ⟨bk2, o2, none⟩) n c2)) rfl (by kernel_rfl) (by kernel_rfl) (by kernel_rfl) (fun _ _ _ h => (show False from h).elim) ?xySMTable6 ?xhSMTable6 ?xrSMTable6
      case xhSMTable6 => exact hHeld
      case xySMTable6 => exact Or.inl ⟨by rfl, fun W9 hW => by clear hHeld; simp only [List.getElem_toArray, List.getElem_cons_succ, List.getElem_cons_zero]; go_simp⟩
      simp only [Act.put, List.getElem_toArray, List.getElem_cons_succ, List.getElem_cons_zero, List.setIfInBounds_toArray, List.set_cons_succ, List.set_cons_zero]
      refine wpAnyH_take (i := 6) (v := (.int .i64 (k : Int))) rfl (by kernel_rfl) (by kernel_rfl) (by kernel_rfl) (fun _ _ _ h => (show False from h).elim) ?xySMTable7 ?xhSMTable7 ?xrSMTable7
      case xhSMTable7 => exact hHeld
      case xySMTable7 => exact Or.inl ⟨by rfl, fun W9 hW => by clear hHeld; simp only [List.getElem_toArray, List.getElem_cons_succ, List.getElem_cons_zero]; go_simp⟩
      simp only [Act.put, List.getElem_toArray, List.getElem_cons_succ, List.getElem_cons_zero, List.setIfInBounds_toArray, List.set_cons_succ, List.set_cons_zero]
      refine wpAnyH_take (i := 7) (v := (.pointer (some ⟨bk2, o2 + k * 4, none⟩))) rfl (by kernel_rfl) (by kernel_rfl) (by kernel_rfl) (fun _ _ _ h => (show False from h).elim) ?xySMTable8 ?xhSMTable8 ?xrSMTable8
      case xhSMTable8 => exact hHeld
      case xySMTable8 => exact Or.inl ⟨by rfl, fun W9 hW => by clear hHeld; simp only [List.getElem_toArray, List.getElem_cons_succ, List.getElem_cons_zero]; go_simp⟩
      simp only [Act.put, List.getElem_toArray, List.getElem_cons_succ, List.getElem_cons_zero, List.setIfInBounds_toArray, List.set_cons_succ, List.set_cons_zero]
      refine wpAnyH_take (i := 8) (v := (.agg #[u0, u1, u2, u3])) rfl (by kernel_rfl) (by kernel_rfl) (by kernel_rfl) (fun _ _ _ h => (show False from h).elim) ?xySMTable9 ?xhSMTable9 ?xrSMTable9
      case xhSMTable9 => exact hHeld
      case xySMTable9 => exact Or.inl ⟨by rfl, fun W9 hW => by have hWW := HSI.out _ hW; have q0 := HY.out _ hWW 0 _ rfl; rw [Nat.add_zero] at q0; have q1 := HY.out _ hWW 1 _ rfl; have q2 := HY.out _ hWW 2 _ rfl; have q3 := HY.out _ hWW 3 _ rfl; clear hHeld; simp only [List.getElem_toArray, List.getElem_cons_succ, List.getElem_cons_zero]; go_simp⟩
      simp only [Act.put, List.getElem_toArray, List.getElem_cons_succ, List.getElem_cons_zero, List.setIfInBounds_toArray, List.set_cons_succ, List.set_cons_zero]
      have CC := hid (CF.out _ HWd.out)
      refine wpAnyH_ready (rs := [9]) (by kernel_rfl) (by simp) ?_
      refine AllReadyH.cons rfl (fun K hK => ?_) AllReadyH.nil
      go_simp
      go_wp2_with (first | (go_at_call 65; refine CC.out.mono ?_; rintro en wE ⟨rfl, hbE⟩; have HBE := hid (HWd.out.trans (hbE.mono HWd.out.size)); clear hbE))
      refine hK.out _ _ (HS.out _ HBE.out) (fun hHeld => ?_)
      clear hK K
      refine wpAnyH_take (i := 10) (v := (.bool false)) rfl (by kernel_rfl) (by kernel_rfl) (by kernel_rfl) (fun _ _ _ h => (show False from h).elim) ?xySMTable10 ?xhSMTable10 ?xrSMTable10
      case xhSMTable10 => exact hHeld
      case xySMTable10 => exact Or.inl ⟨by rfl, fun W9 hW => by clear hHeld; simp only [List.getElem_toArray, List.getElem_cons_succ, List.getElem_cons_zero]; go_simp⟩
      simp only [Act.put, List.getElem_toArray, List.getElem_cons_succ, List.getElem_cons_zero, List.setIfInBounds_toArray, List.set_cons_succ, List.set_cons_zero]
      refine wpAnyH_done (by kernel_rfl) ?_ _
      refine NoPanic.normal ?_
      go_wp2_with fail
      go_roundw
      case rel => exact ⟨k + 1, by omega, by go_num, HBE.out⟩
      case measure => simp [intOf]; omega
    · obtain rfl : n = k := by omega
      have hki : ¬ (n : Int) < (n : Int) := by omega
      go_wp2_with fail
      go_ret
      exact ⟨rfl, HB.out⟩

end Go.Proofs.YtdfccaehoodjhaaGreat

set_option linter.unusedVariables false
set_option linter.unusedSimpArgs false
set_option maxRecDepth 100000
namespace Go.Proofs.YtdfccaehoodjhaaGreat
open Go.RowKit Go.Deep

set_option maxHeartbeats 8000000 in
theorem st_Index {w : World} {v0 v1 v2 v3 v4 v5 v6 u0 u1 u2 u3 u4 u5 u6 : Value} (e0 : Twin w .int [v0] [u0]) (e1 : Twin w .int [v1] [u1]) (e2 : Twin w .name [v2] [u2]) (e3 : Twin w (.list .int) [v3] [u3]) (e4 : Twin w .bool [v4] [u4]) (e5 : Twin w .int [v5] [u5]) (e6 : Twin w .bool [v6] [u6]) :
    Calls Tryz.prog 66 #[.agg #[v0, v1, v2, v3, v4, v5, v6], .agg #[u0, u1, u2, u3, u4, u5, u6]] w (fun e w' => e = .returned (.bool true) ∧ Below w.heap.size w w') := by
  obtain ⟨z0, rfl, rfl⟩ := tw_int e0
  obtain ⟨z1, rfl, rfl⟩ := tw_int e1
  obtain ⟨z2, rfl, rfl⟩ := tw_name e2
  obtain ⟨z4, rfl, rfl⟩ := tw_bool e4
  obtain ⟨z5, rfl, rfl⟩ := tw_int e5
  obtain ⟨z6, rfl, rfl⟩ := tw_bool e6
  have hb : Below w.heap.size w ((w.alloc (.cells #[(.int .i64 z0), (.int .i64 z1), (.string z2), v3, (.bool z4), (.int .i64 z5), (.bool z6)] 41)).alloc (.cells #[(.int .i64 z0), (.int .i64 z1), (.string z2), u3, (.bool z4), (.int .i64 z5), (.bool z6)] 41)) := ((Below.refl _ _).alloc (Nat.le_refl _) _).alloc (by simp) _
  have h0 : ((w.alloc (.cells #[(.int .i64 z0), (.int .i64 z1), (.string z2), v3, (.bool z4), (.int .i64 z5), (.bool z6)] 41)).alloc (.cells #[(.int .i64 z0), (.int .i64 z1), (.string z2), u3, (.bool z4), (.int .i64 z5), (.bool z6)] 41)).heap[w.heap.size]? = some (.cells ([(.int .i64 z0), (.int .i64 z1), (.string z2), v3, (.bool z4), (.int .i64 z5), (.bool z6)] : List Value).toArray 41 (0, 0)) := (Below.heap_alloc (w.alloc (.cells #[(.int .i64 z0), (.int .i64 z1), (.string z2), v3, (.bool z4), (.int .i64 z5), (.bool z6)] 41)) (.cells #[(.int .i64 z0), (.int .i64 z1), (.string z2), u3, (.bool z4), (.int .i64 z5), (.bool z6)] 41) w.heap.size (by simp)).trans (heap_alloc_new w (.cells #[(.int .i64 z0), (.int .i64 z1), (.string z2), v3, (.bool z4), (.int .i64 z5), (.bool z6)] 41))
  have h1 : ((w.alloc (.cells #[(.int .i64 z0), (.int .i64 z1), (.string z2), v3, (.bool z4), (.int .i64 z5), (.bool z6)] 41)).alloc (.cells #[(.int .i64 z0), (.int .i64 z1), (.string z2), u3, (.bool z4), (.int .i64 z5), (.bool z6)] 41)).heap[w.heap.size + 1]? = some (.cells ([(.int .i64 z0), (.int .i64 z1), (.string z2), u3, (.bool z4), (.int .i64 z5), (.bool z6)] : List Value).toArray 41 (0, 0)) := heap_alloc2_new w (.cells #[(.int .i64 z0), (.int .i64 z1), (.string z2), v3, (.bool z4), (.int .i64 z5), (.bool z6)] 41) (.cells #[(.int .i64 z0), (.int .i64 z1), (.string z2), u3, (.bool z4), (.int .i64 z5), (.bool z6)] 41)
  have C3 : Hid (∀ V, Below w.heap.size w V → _) := hid fun V hV => pl_int (e3.old hV)
  have HC0 : Hid (∀ V, Below ((w.alloc (.cells #[(.int .i64 z0), (.int .i64 z1), (.string z2), v3, (.bool z4), (.int .i64 z5), (.bool z6)] 41)).alloc (.cells #[(.int .i64 z0), (.int .i64 z1), (.string z2), u3, (.bool z4), (.int .i64 z5), (.bool z6)] 41)).heap.size ((w.alloc (.cells #[(.int .i64 z0), (.int .i64 z1), (.string z2), v3, (.bool z4), (.int .i64 z5), (.bool z6)] 41)).alloc (.cells #[(.int .i64 z0), (.int .i64 z1), (.string z2), u3, (.bool z4), (.int .i64 z5), (.bool z6)] 41)) V → ∀ (i : Nat) u, ([(.int .i64 z0), (.int .i64 z1), (.string z2), v3, (.bool z4), (.int .i64 z5), (.bool z6)] : List Value)[i]? = some u → V.cell? ⟨w.heap.size, i, none⟩ = some u) := hid fun V hV i u hu => by have := (hV.block _ (lt_of_block h0)).trans h0; simp only [World.cell?, this]; simpa using hu
  have HC1 : Hid (∀ V, Below ((w.alloc (.cells #[(.int .i64 z0), (.int .i64 z1), (.string z2), v3, (.bool z4), (.int .i64 z5), (.bool z6)] 41)).alloc (.cells #[(.int .i64 z0), (.int .i64 z1), (.string z2), u3, (.bool z4), (.int .i64 z5), (.bool z6)] 41)).heap.size ((w.alloc (.cells #[(.int .i64 z0), (.int .i64 z1), (.string z2), v3, (.bool z4), (.int .i64 z5), (.bool z6)] 41)).alloc (.cells #[(.int .i64 z0), (.int .i64 z1), (.string z2), u3, (.bool z4), (.int .i64 z5), (.bool z6)] 41)) V → ∀ (i : Nat) u, ([(.int .i64 z0), (.int .i64 z1), (.string z2), u3, (.bool z4), (.int .i64 z5), (.bool z6)] : List Value)[i]? = some u → V.cell? ⟨w.heap.size + 1, i, none⟩ = some u) := hid fun V hV i u hu => by have := (hV.block _ (lt_of_block h1)).trans h1; simp only [World.cell?, this]; simpa using hu
  have HB := hid hb
  clear hb h0 h1 e0 e1 e2 e3 e4 e5 e6
  go_enter Tryz.func66, Tryz.ntmps66
  go_upto_region 1 with fail
  generalize (w.alloc (.cells #[(.int .i64 z0), (.int .i64 z1), (.string z2), v3, (.bool z4), (.int .i64 z5), (.bool z6)] 41)).alloc (.cells #[(.int .i64 z0), (.int .i64 z1), (.string z2), u3, (.bool z4), (.int .i64 z5), (.bool z6)] 41) = w0 at *
  have HW0 : Hid (Below w0.heap.size w0 w0) := hid (Below.refl _ _)
  have x0 := HC0.out _ (Below.refl _ _) 0 _ rfl
  have y0 := HC1.out _ (Below.refl _ _) 0 _ rfl
  have x1 := HC0.out _ (Below.refl _ _) 1 _ rfl
  have y1 := HC1.out _ (Below.refl _ _) 1 _ rfl
  have x2 := HC0.out _ (Below.refl _ _) 2 _ rfl
  have y2 := HC1.out _ (Below.refl _ _) 2 _ rfl
  have x3 := HC0.out _ (Below.refl _ _) 3 _ rfl
  have y3 := HC1.out _ (Below.refl _ _) 3 _ rfl
  have CA0 := hid (C3.out _ HB.out)
  go_wp2_with (first | (go_at_call 128; refine CA0.out.mono ?_; rintro en r1 ⟨rfl, hb0⟩; have HW1 := hid (HW0.out.trans (hb0.mono HW0.out.size)); clear hb0; clear x0 y0; clear x1 y1; clear x2 y2; clear x3 y3; have x4_0 := HC0.out _ HW1.out 4 _ rfl; have y4_0 := HC1.out _ HW1.out 4 _ rfl; have x5_0 := HC0.out _ HW1.out 5 _ rfl; have y5_0 := HC1.out _ HW1.out 5 _ rfl; have x6_0 := HC0.out _ HW1.out 6 _ rfl; have y6_0 := HC1.out _ HW1.out 6 _ rfl))
  go_ret
  exact ⟨rfl, HB.out.trans (HW1.out.mono HB.out.size)⟩

set_option maxHeartbeats 8000000 in
theorem sm_Index {w : World} {v1 v2 : Value} (h : Twin w (.list sIndex) [v1] [v2]) :
    Calls Tryz.prog 70 #[v1, v2, (.func (.func 66) #[] #[])] w (fun e w' => e = .returned (.bool true) ∧ Below w.heap.size w w') := by
  obtain ⟨a1, a2, n, c1, c2, M1, M2, rfl, rfl, hL1, hL2, hM⟩ := tw_list h
  have hc1 := hL1.cap.1
  have hc2 := hL2.cap.1
  have hn6 := hL1.cap.2.1
  have HL1 := hid hL1
  have HL2 := hid hL2
  have HM := hid hM
  clear h hL1 hL2 hM
  go_enter Tryz.func70, Tryz.ntmps70
  go_wp2_with fail
  go_loopw [7] (fun i wr => ∃ k, k ≤ n ∧ i = .int .i64 (k : Int) ∧ Below w.heap.size w wr) (fun i _ => n - (intOf i).toNat)
  case atStart => exact ⟨0, by omega, rfl, Below.refl _ _⟩
  case round =>
    obtain ⟨k, hk, rfl, hb⟩ := hrel
    have HB := hid hb
    clear hb
    by_cases hlt : k < n
    · have hki : (k : Int) < (n : Int) := by omega
      obtain ⟨x, y, bk1, o1, bk2, o2, hxy, rfl, rfl, hcx, hcy⟩ := tw_get HL1.out HL2.out HM.out (by decide) hlt
      obtain ⟨v0, v1, v2, v3, v4, v5, v6, u0, u1, u2, u3, u4, u5, u6, rfl, rfl, e0, e1, e2, e3, e4, e5, e6⟩ := Index_twin hxy
      have CF : Hid (∀ V, Below w.heap.size w V → Calls Tryz.prog 66 #[.agg #[v0, v1, v2, v3, v4, v5, v6], .agg #[u0, u1, u2, u3, u4, u5, u6]] V (fun e w' => e = .returned (.bool true) ∧ Below V.heap.size V w')) := hid fun V hV => st_Index (e0.old hV) (e1.old hV) (e2.old hV) (e3.old hV) (e4.old hV) (e5.old hV) (e6.old hV)
      have hX : ∀ V, Below w.heap.size w V → ∀ (j : Nat) u, ([v0, v1, v2, v3, v4, v5, v6] : List Value)[j]? = some u → V.cell? ⟨bk1, o1 + k * 7 + j, none⟩ = some u := hcx
      have hY : ∀ V, Below w.heap.size w V → ∀ (j : Nat) u, ([u0, u1, u2, u3, u4, u5, u6] : List Value)[j]? = some u → V.cell? ⟨bk2, o2 + k * 7 + j, none⟩ = some u := hcy
      have HX := hid hX
      have HY := hid hY
      clear hX hY hcx hcy
      go_upto_region 6 with fail
      have HWd : Hid (Below w.heap.size w wr.drew) := hid (HB.out.trans ((show Below wr.heap.size wr wr.drew from ⟨rfl, rfl, rfl, Nat.le_refl _, fun _ _ => rfl⟩).mono HB.out.size))
      obtain ⟨S9, hS9⟩ : ∃ S9 : World → Prop, S9 = fun V => Below w.heap.size w V := ⟨_, rfl⟩
      have HS : Hid (∀ V, Below w.heap.size w V → S9 V) := hid fun V h => by rw [hS9]; exact h
      have HSI : Hid (∀ V, S9 V → Below w.heap.size w V) := hid fun V h => by rw [hS9] at h; exact h
      clear hS9
      refine wp_region_noPanic ?_
      refine wp_region_held_drew (S := S9) (by kernel_rfl) (HS.out _ HWd.out) (fun hHeld => ?_)
      generalize wr.drew = Wd at *
      refine wpAnyH_take (i := 0) (v := (.func (.func 66) #[] #[])) rfl (by kernel_rfl) (by kernel_rfl) (by kernel_rfl) (fun _ _ _ h => (show False from h).elim) ?xySMIndex1 ?xhSMIndex1 ?xrSMIndex1
      case xhSMIndex1 => exact hHeld
      case xySMIndex1 => exact Or.inl ⟨by rfl, fun W9 hW => by clear hHeld; simp only [List.getElem_toArray, List.getElem_cons_succ, List.getElem_cons_zero]; go_simp⟩
      simp only [Act.put, List.getElem_toArray, List.getElem_cons_succ, List.getElem_cons_zero, List.setIfInBounds_toArray, List.set_cons_succ, List.set_cons_zero]
      refine wpAnyH_take (i := 1) (v := (.slice (some ⟨bk1, o1, none⟩) n c1)) rfl (by kernel_rfl) (by kernel_rfl) (by kernel_rfl) (fun _ _ _ h => (show False from h).elim) ?xySMIndex2 ?xhSMIndex2 ?xrSMIndex2
      case xhSMIndex2 => exact hHeld
      case xySMIndex2 => exact Or.inl ⟨by rfl, fun W9 hW => by clear hHeld; simp only [List.getElem_toArray, List.getElem_cons_succ, List.getElem_cons_zero]; go_simp⟩
      simp only [Act.put, List.getElem_toArray, List.getElem_cons_succ, List.getElem_cons_zero, List.setIfInBounds_toArray, List.set_cons_succ, List.set_cons_zero]
      refine wpAnyH_take (i := 2) (v := (.int .i64 (k : Int))) rfl (by kernel_rfl) (by kernel_rfl) (by kernel_rfl) (fun _ _ _ h => (show False from h).elim) ?xySMIndex3 ?xhSMIndex3 ?xrSMIndex3
      case xhSMIndex3 => exact hHeld
      case xySMIndex3 => exact Or.inl ⟨by rfl, fun W9 hW => by clear hHeld; simp only [List.getElem_toArray, List.getElem_cons_succ, List.getElem_cons_zero]; go_simp⟩
      simp only [Act.put, List.getElem_toArray, List.getElem_cons_succ, List.getElem_cons_zero, List.setIfInBounds_toArray, List.set_cons_succ, List.set_cons_zero]
      refine wpAnyH_take (i := 3) (v := (.pointer (some ⟨bk1, o1 + k * 7, none⟩))) rfl (by kernel_rfl) (by kernel_rfl) (by kernel_rfl) (fun _ _ _ h => (show False from h).elim) ?xySMIndex4 ?xhSMIndex4 ?xrSMIndex4
      case xhSMIndex4 => exact hHeld
      case xySMIndex4 => exact Or.inl ⟨by rfl, fun W9 hW => by clear hHeld; simp only [List.getElem_toArray, List.getElem_cons_succ, List.getElem_cons_zero]; go_simp⟩
      simp only [Act.put, List.getElem_toArray, List.getElem_cons_succ, List.getElem_cons_zero, List.setIfInBounds_toArray, List.set_cons_succ, List.set_cons_zero]
      refine wpAnyH_take (i := 4) (v := (.agg #[v0, v1, v2, v3, v4, v5, v6])) rfl (by kernel_rfl) (by kernel_rfl) (by kernel_rfl) (fun _ _ _ h => (show False from h).elim) ?xySMIndex5 ?xhSMIndex5 ?xrSMIndex5
      case xhSMIndex5 => exact hHeld
      case xySMIndex5 => exact Or.inl ⟨by rfl, fun W9 hW => by have hWW := HSI.out _ hW; have q0 := HX.out _ hWW 0 _ rfl; rw [Nat.add_zero] at q0; have q1 := HX.out _ hWW 1 _ rfl; have q2 := HX.out _ hWW 2 _ rfl; have q3 := HX.out _ hWW 3 _ rfl; have q4 := HX.out _ hWW 4 _ rfl; have q5 := HX.out _ hWW 5 _ rfl; have q6 := HX.out _ hWW 6 _ rfl; clear hHeld; simp only [List.getElem_toArray, List.getElem_cons_succ, List.getElem_cons_zero]; go_simp⟩
      simp only [Act.put, List.getElem_toArray, List.getElem_cons_succ, List.getElem_cons_zero, List.setIfInBounds_toArray, List.set_cons_succ, List.set_cons_zero]
      refine wpAnyH_take (i := 5) (v := (.slice (some ⟨bk2, o2, none⟩) n c2)) rfl (by kernel_rfl) (by kernel_rfl) (by kernel_rfl) (fun _ _ _ h => (show False from h).elim) ?xySMIndex6 ?xhSMIndex6 ?xrSMIndex6
      case xhSMIndex6 => exact hHeld
      case xySMIndex6 => exact Or.inl ⟨by rfl, fun W9 hW => by clear hHeld; simp only [List.getElem_toArray, List.getElem_cons_succ, List.getElem_cons_zero]; go_simp⟩
      simp only [Act.put, List.getElem_toArray, List.getElem_cons_succ, List.getElem_cons_zero, List.setIfInBounds_toArray, List.set_cons_succ, List.set_cons_zero]
      refine wpAnyH_take (i := 6) (v := (.int .i64 (k : Int))) rfl (by kernel_rfl) (by kernel_rfl) (by kernel_rfl) (fun _ _ _ h => (show False from h).elim) ?xySMIndex7 ?xhSMIndex7 ?xrSMIndex7
      case xhSMIndex7 => exact hHeld
      case xySMIndex7 => exact Or.inl ⟨by rfl, fun W9 hW => by clear hHeld; simp only [List.getElem_toArray, List.getElem_cons_succ, List.getElem_cons_zero]; go_simp⟩
      simp only [Act.put, List.getElem_toArray, List.getElem_cons_succ, List.getElem_cons_zero, List.setIfInBounds_toArray, List.set_cons_succ, List.set_cons_zero]
      refine wpAnyH_take (i := 7) (v := (.pointer (some ⟨bk2, o2 + k * 7, none⟩))) rfl (by kernel_rfl) (by kernel_rfl) (by kernel_rfl) (fun _ _ _ h => (show False from h).elim) ?xySMIndex8 ?xhSMIndex8 ?xrSMIndex8
      case xhSMIndex8 => exact hHeld
      case xySMIndex8 => exact Or.inl ⟨by rfl, fun W9 hW => by clear hHeld; simp only [List.getElem_toArray, List.getElem_cons_succ, List.getElem_cons_zero]; go_simp⟩
      simp only [Act.put, List.getElem_toArray, List.getElem_cons_succ, List.getElem_cons_zero, List.setIfInBounds_toArray, List.set_cons_succ, List.set_cons_zero]
      refine wpAnyH_take (i := 8) (v := (.agg #[u0, u1, u2, u3, u4, u5, u6])) rfl (by kernel_rfl) (by kernel_rfl) (by kernel_rfl) (fun _ _ _ h => (show False from h).elim) ?xySMIndex9 ?xhSMIndex9 ?xrSMIndex9
      case xhSMIndex9 => exact hHeld
      case xySMIndex9 => exact Or.inl ⟨by rfl, fun W9 hW => by have hWW := HSI.out _ hW; have q0 := HY.out _ hWW 0 _ rfl; rw [Nat.add_zero] at q0; have q1 := HY.out _ hWW 1 _ rfl; have q2 := HY.out _ hWW 2 _ rfl; have q3 := HY.out _ hWW 3 _ rfl; have q4 := HY.out _ hWW 4 _ rfl; have q5 := HY.out _ hWW 5 _ rfl; have q6 := HY.out _ hWW 6 _ rfl; clear hHeld; simp only [List.getElem_toArray, List.getElem_cons_succ, List.getElem_cons_zero]; go_simp⟩
      simp only [Act.put, List.getElem_toArray, List.getElem_cons_succ, List.getElem_cons_zero, List.setIfInBounds_toArray, List.set_cons_succ, List.set_cons_zero]
      have CC := hid (CF.out _ HWd.out)
      refine wpAnyH_ready (rs := [9]) (by kernel_rfl) (by simp) ?_
      refine AllReadyH.cons rfl (fun K hK => ?_) AllReadyH.nil
      go_simp
      go_wp2_with (first | (go_at_call 66; refine CC.out.mono ?_; rintro en wE ⟨rfl, hbE⟩; have HBE := hid (HWd.out.trans (hbE.mono HWd.out.size)); clear hbE))
      refine hK.out _ _ (HS.out _ HBE.out) (fun hHeld => ?_)
      clear hK K
      refine wpAnyH_take (i := 10) (v := (.bool false)) rfl (by kernel_rfl) (by kernel_rfl) (by kernel_rfl) (fun _ _ _ h => (show False from h).elim) ?xySMIndex10 ?xhSMIndex10 ?xrSMIndex10
      case xhSMIndex10 => exact hHeld
      case xySMIndex10 => exact Or.inl ⟨by rfl, fun W9 hW => by clear hHeld; simp only [List.getElem_toArray, List.getElem_cons_succ, List.getElem_cons_zero]; go_simp⟩
      simp only [Act.put, List.getElem_toArray, List.getElem_cons_succ, List.getElem_cons_zero, List.setIfInBounds_toArray, List.set_cons_succ, List.set_cons_zero]
      refine wpAnyH_done (by kernel_rfl) ?_ _
      refine NoPanic.normal ?_
      go_wp2_with fail
      go_roundw
      case rel => exact ⟨k + 1, by omega, by go_num, HBE.out⟩
      case measure => simp [intOf]; omega
    · obtain rfl : n = k := by omega
      have hki : ¬ (n : Int) < (n : Int) := by omega
      go_wp2_with fail
      go_ret
      exact ⟨rfl, HB.out⟩

set_option maxHeartbeats 8000000 in
theorem st_Catalog {w : World} {v0 v1 v2 v3 u0 u1 u2 u3 : Value} (e0 : Twin w .int [v0] [u0]) (e1 : Twin w .int [v1] [u1]) (e2 : Twin w (.list sTable) [v2] [u2]) (e3 : Twin w (.list sIndex) [v3] [u3]) :
    Calls Tryz.prog 20 #[.agg #[v0, v1, v2, v3], .agg #[u0, u1, u2, u3]] w (fun e w' => e = .returned (.bool true) ∧ Below w.heap.size w w') := by
  obtain ⟨z0, rfl, rfl⟩ := tw_int e0
  obtain ⟨z1, rfl, rfl⟩ := tw_int e1
  have hb : Below w.heap.size w ((w.alloc (.cells #[(.int .i64 z0), (.int .i64 z1), v2, v3] 50)).alloc (.cells #[(.int .i64 z0), (.int .i64 z1), u2, u3] 50)) := ((Below.refl _ _).alloc (Nat.le_refl _) _).alloc (by simp) _
  have h0 : ((w.alloc (.cells #[(.int .i64 z0), (.int .i64 z1), v2, v3] 50)).alloc (.cells #[(.int .i64 z0), (.int .i64 z1), u2, u3] 50)).heap[w.heap.size]? = some (.cells ([(.int .i64 z0), (.int .i64 z1), v2, v3] : List Value).toArray 50 (0, 0)) := (Below.heap_alloc (w.alloc (.cells #[(.int .i64 z0), (.int .i64 z1), v2, v3] 50)) (.cells #[(.int .i64 z0), (.int .i64 z1), u2, u3] 50) w.heap.size (by simp)).trans (heap_alloc_new w (.cells #[(.int .i64 z0), (.int .i64 z1), v2, v3] 50))
  have h1 : ((w.alloc (.cells #[(.int .i64 z0), (.int .i64 z1), v2, v3] 50)).alloc (.cells #[(.int .i64 z0), (.int .i64 z1), u2, u3] 50)).heap[w.heap.size + 1]? = some (.cells ([(.int .i64 z0), (.int .i64 z1), u2, u3] : List Value).toArray 50 (0, 0)) := heap_alloc2_new w (.cells #[(.int .i64 z0), (.int .i64 z1), v2, v3] 50) (.cells #[(.int .i64 z0), (.int .i64 z1), u2, u3] 50)
  have C2 : Hid (∀ V, Below w.heap.size w V → _) := hid fun V hV => sm_Table (e2.old hV)
  have C3 : Hid (∀ V, Below w.heap.size w V → _) := hid fun V hV => sm_Index (e3.old hV)
  have HC0 : Hid (∀ V, Below ((w.alloc (.cells #[(.int .i64 z0), (.int .i64 z1), v2, v3] 50)).alloc (.cells #[(.int .i64 z0), (.int .i64 z1), u2, u3] 50)).heap.size ((w.alloc (.cells #[(.int .i64 z0), (.int .i64 z1), v2, v3] 50)).alloc (.cells #[(.int .i64 z0), (.int .i64 z1), u2, u3] 50)) V → ∀ (i : Nat) u, ([(.int .i64 z0), (.int .i64 z1), v2, v3] : List Value)[i]? = some u → V.cell? ⟨w.heap.size, i, none⟩ = some u) := hid fun V hV i u hu => by have := (hV.block _ (lt_of_block h0)).trans h0; simp only [World.cell?, this]; simpa using hu
  have HC1 : Hid (∀ V, Below ((w.alloc (.cells #[(.int .i64 z0), (.int .i64 z1), v2, v3] 50)).alloc (.cells #[(.int .i64 z0), (.int .i64 z1), u2, u3] 50)).heap.size ((w.alloc (.cells #[(.int .i64 z0), (.int .i64 z1), v2, v3] 50)).alloc (.cells #[(.int .i64 z0), (.int .i64 z1), u2, u3] 50)) V → ∀ (i : Nat) u, ([(.int .i64 z0), (.int .i64 z1), u2, u3] : List Value)[i]? = some u → V.cell? ⟨w.heap.size + 1, i, none⟩ = some u) := hid fun V hV i u hu => by have := (hV.block _ (lt_of_block h1)).trans h1; simp only [World.cell?, this]; simpa using hu
  have HB := hid hb
  clear hb h0 h1 e0 e1 e2 e3
  go_enter Tryz.func20, Tryz.ntmps20
  go_upto_region 1 with fail
  generalize (w.alloc (.cells #[(.int .i64 z0), (.int .i64 z1), v2, v3] 50)).alloc (.cells #[(.int .i64 z0), (.int .i64 z1), u2, u3] 50) = w0 at *
  have HW0 : Hid (Below w0.heap.size w0 w0) := hid (Below.refl _ _)
  have x0 := HC0.out _ (Below.refl _ _) 0 _ rfl
  have y0 := HC1.out _ (Below.refl _ _) 0 _ rfl
  have x1 := HC0.out _ (Below.refl _ _) 1 _ rfl
  have y1 := HC1.out _ (Below.refl _ _) 1 _ rfl
  have x2 := HC0.out _ (Below.refl _ _) 2 _ rfl
  have y2 := HC1.out _ (Below.refl _ _) 2 _ rfl
  have CA0 := hid (C2.out _ HB.out)
  go_wp2_with (first | (go_at_call 69; refine CA0.out.mono ?_; rintro en r1 ⟨rfl, hb0⟩; have HW1 := hid (HW0.out.trans (hb0.mono HW0.out.size)); clear hb0; have CA1 := hid (C3.out _ (HB.out.trans (HW1.out.mono HB.out.size))); clear x0 y0; clear x1 y1; clear x2 y2; have x3_0 := HC0.out _ HW1.out 3 _ rfl; have y3_0 := HC1.out _ HW1.out 3 _ rfl) | (go_at_call 70; refine CA1.out.mono ?_; rintro en r2 ⟨rfl, hb1⟩; have HW2 := hid (HW1.out.trans (hb1.mono HW1.out.size)); clear hb1; clear x3_0 y3_0))
  go_ret
  exact ⟨rfl, HB.out.trans (HW2.out.mono HB.out.size)⟩

end Go.Proofs.YtdfccaehoodjhaaGreat

