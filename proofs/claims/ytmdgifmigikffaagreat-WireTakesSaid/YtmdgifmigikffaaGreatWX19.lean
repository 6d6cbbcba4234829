import Derived.WalkKit
import Derived.OpenShut
import Derived.Test.YtmdgifmigikffaaGreatRows
import Derived.WalkSpells
import Derived.WalkLawsBesides
import Derived.Laws.AppendOwnNone
import Derived.ProofKit
import Derived.ShutString
import Derived.ChangeOld
import Derived.Below
import Derived.SizedLaws
import Derived.Deep.RegionHeld3
import Derived.Deep.Slices
import Derived.Deep.AppendLies
import Derived.Deep.RegionHeld
import Derived.Deep.Strs
import Derived.Lib.ConvBytes
import Derived.Laws.AppendOwn
import Derived.Deep.CutRange
import Derived.Deep.MidRow
import Derived.Great.Walk
import Derived.BigQuiet
import Derived.Deep.QuietTactic
import Derived.Great.BuildSlice
import Derived.Lib.SlBytesConst
import Derived.Test.YtmdgifmigikffaaGreatWX1
import Derived.Test.YtmdgifmigikffaaGreatWX2
import Derived.Test.YtmdgifmigikffaaGreatWX3
import Derived.Test.YtmdgifmigikffaaGreatWX4
import Derived.Test.YtmdgifmigikffaaGreatWX5
import Derived.Test.YtmdgifmigikffaaGreatWX6
import Derived.Test.YtmdgifmigikffaaGreatWX7
import Derived.Test.YtmdgifmigikffaaGreatWX8
import Derived.Test.YtmdgifmigikffaaGreatWX9
import Derived.Test.YtmdgifmigikffaaGreatWX10
import Derived.Test.YtmdgifmigikffaaGreatWX11
import Derived.Test.YtmdgifmigikffaaGreatWX16
import Derived.Test.YtmdgifmigikffaaGreatWX17
import Derived.Test.YtmdgifmigikffaaGreatWX18
set_option linter.unusedVariables false
set_option linter.unusedSimpArgs false
set_option maxRecDepth 100000
namespace Go.Proofs.YtmdgifmigikffaaGreat
open Go.RowKit Go.Deep
set_option maxHeartbeats 8000000 in
theorem sm_data {w : World} {v1 v2 : Value} (h : Twin w (.list .data) [v1] [v2]) :
 Calls Tryz.prog 127 #[v1, v2, (.func (.func 52) #[] #[])] w (fun e w' => e = .returned (.bool true) ∧ Below w.heap.size w w') := by
 obtain ⟨a1, a2, n, c1, c2, M1, M2, rfl, rfl, hL1, hL2, hM⟩ := tw_list h
 have hc1 := hL1.cap.1
 have hc2 := hL2.cap.1
 have hn6 := hL1.cap.2.1
 have HL1 := hid hL1
 have HL2 := hid hL2
 have HM := hid hM
 clear h hL1 hL2 hM
 go_enter Tryz.func127, Tryz.ntmps127
 go_wp2_with fail
 go_loopw [7] (fun i wr => ∃ k, k ≤ n ∧ i = .int .i64 (k : Int) ∧ Below w.heap.size w wr) (fun i _ => n - (intOf i).toNat)
 case atStart => exact ⟨0, by omega, rfl, Below.refl _ _⟩
 case round =>
  obtain ⟨k, hk, rfl, hb⟩ := hrel
  have HB := hid hb
  clear hb
  by_cases hlt : k < n
  · have hki : (k : Int) < (n : Int) := by omega
    obtain ⟨x, y, bk1, o1, bk2, o2, hxy, rfl, rfl, hcx, hcy⟩ := tw_get HL1.out HL2.out HM.out (by decide) hlt
    obtain ⟨v0, u0, rfl, rfl, e0⟩ := hxy.one rfl
    have CF : Hid (∀ V, Below w.heap.size w V → Calls Tryz.prog 52 #[v0, u0] V (fun e w' => e = .returned (.bool true) ∧ Below V.heap.size V w')) := hid fun V hV => tw_Bytes (e0.old hV)
    have hX : ∀ V, Below w.heap.size w V → ∀ (j : Nat) u, ([v0] : List Value)[j]? = some u → V.cell? ⟨bk1, o1 + k * 1 + j, none⟩ = some u := hcx
    have hY : ∀ V, Below w.heap.size w V → ∀ (j : Nat) u, ([u0] : List Value)[j]? = some u → V.cell? ⟨bk2, o2 + k * 1 + j, none⟩ = some u := hcy
    have HX := hid hX
    have HY := hid hY
    clear hX hY hcx hcy
    go_upto_region 6 with fail
    have HWd : Hid (Below w.heap.size w wr.drew) := hid (HB.out.trans ((show Below wr.heap.size wr wr.drew from ⟨rfl, rfl, rfl, Nat.le_refl _, fun _ _ => rfl⟩).mono HB.out.size))
    obtain ⟨S9, hS9⟩ : ∃ S9 : World → Prop, S9 = fun V => Below w.heap.size w V := ⟨_, rfl⟩
    have HS : Hid (∀ V, Below w.heap.size w V → S9 V) := hid fun V h => by rw [hS9]; exact h
    have HSI : Hid (∀ V, S9 V → Below w.heap.size w V) := hid fun V h => by rw [hS9] at h; exact h
    clear hS9
    refine wp_region_noPanic ?_
    refine wp_region_held_drew (S := S9) (by kernel_rfl) (HS.out _ HWd.out) (fun hHeld => ?_)
    generalize wr.drew = Wd at *
    refine tkH 0 ((.func (.func 52) #[] #[])) rfl (by kernel_rfl) (fun _ _ _ => False.elim) hHeld (Or.inl ⟨by rfl, fun W9 hW => by clear hHeld; simp only [jA, jB, jC]; go_simp⟩) ?_
    simp only [Act.put, jA, jB, jC, jD, jE, jF]
    refine tkH 1 ((.slice (some ⟨bk1, o1, none⟩) n c1)) rfl (by kernel_rfl) (fun _ _ _ => False.elim) hHeld (Or.inl ⟨by rfl, fun W9 hW => by clear hHeld; simp only [jA, jB, jC]; go_simp⟩) ?_
    simp only [Act.put, jA, jB, jC, jD, jE, jF]
    refine tkH 2 ((.int .i64 (k : Int))) rfl (by kernel_rfl) (fun _ _ _ => False.elim) hHeld (Or.inl ⟨by rfl, fun W9 hW => by clear hHeld; simp only [jA, jB, jC]; go_simp⟩) ?_
    simp only [Act.put, jA, jB, jC, jD, jE, jF]
    refine tkH 3 ((.pointer (some ⟨bk1, o1 + k, none⟩))) rfl (by kernel_rfl) (fun _ _ _ => False.elim) hHeld (Or.inl ⟨by rfl, fun W9 hW => by clear hHeld; simp only [jA, jB, jC]; go_simp⟩) ?_
    simp only [Act.put, jA, jB, jC, jD, jE, jF]
    refine tkH 4 (v0) rfl (by kernel_rfl) (fun _ _ _ => False.elim) hHeld (Or.inl ⟨by rfl, fun W9 hW => by have hWW := HSI.out _ hW; have q0 := HX.out _ hWW 0 _ rfl; rw [Nat.mul_one, Nat.add_zero] at q0; clear hHeld; simp only [jA, jB, jC]; go_simp⟩) ?_
    simp only [Act.put, jA, jB, jC, jD, jE, jF]
    refine tkH 5 ((.slice (some ⟨bk2, o2, none⟩) n c2)) rfl (by kernel_rfl) (fun _ _ _ => False.elim) hHeld (Or.inl ⟨by rfl, fun W9 hW => by clear hHeld; simp only [jA, jB, jC]; go_simp⟩) ?_
    simp only [Act.put, jA, jB, jC, jD, jE, jF]
    refine tkH 6 ((.int .i64 (k : Int))) rfl (by kernel_rfl) (fun _ _ _ => False.elim) hHeld (Or.inl ⟨by rfl, fun W9 hW => by clear hHeld; simp only [jA, jB, jC]; go_simp⟩) ?_
    simp only [Act.put, jA, jB, jC, jD, jE, jF]
    refine tkH 7 ((.pointer (some ⟨bk2, o2 + k, none⟩))) rfl (by kernel_rfl) (fun _ _ _ => False.elim) hHeld (Or.inl ⟨by rfl, fun W9 hW => by clear hHeld; simp only [jA, jB, jC]; go_simp⟩) ?_
    simp only [Act.put, jA, jB, jC, jD, jE, jF]
    refine tkH 8 (u0) rfl (by kernel_rfl) (fun _ _ _ => False.elim) hHeld (Or.inl ⟨by rfl, fun W9 hW => by have hWW := HSI.out _ hW; have q0 := HY.out _ hWW 0 _ rfl; rw [Nat.mul_one, Nat.add_zero] at q0; clear hHeld; simp only [jA, jB, jC]; go_simp⟩) ?_
    simp only [Act.put, jA, jB, jC, jD, jE, jF]
    have CC := hid (CF.out _ HWd.out)
    refine rdH 9 (by kernel_rfl) rfl fun K hK => ?_
    go_simp
    go_wp2_with (first | (go_at_call 52; refine CC.out.mono ?_; rintro en wE ⟨rfl, hbE⟩; have HBE := hid (HWd.out.trans (hbE.mono HWd.out.size)); clear hbE))
    refine hK.out _ _ (HS.out _ HBE.out) (fun hHeld => ?_)
    clear hK K
    refine tkH 10 (.bool false) rfl (by kernel_rfl) (fun _ _ _ => False.elim) hHeld (Or.inl ⟨by rfl, fun W9 hW => by clear hHeld; simp only [jA, jB, jC]; go_simp⟩) ?_
    simp only [Act.put, jA, jB, jC, jD, jE, jF]
    refine wpAnyH_done (by kernel_rfl) ?_ _
    refine NoPanic.normal ?_
    go_wp2_with fail
    go_roundw
    case rel => exact ⟨k + 1, by omega, by go_num, HBE.out⟩
    case measure => simp [intOf]; omega
  · obtain rfl : n = k := by omega
    have hki : ¬ (n : Int) < (n : Int) := by omega
    go_wp2_with fail
    go_ret
    exact ⟨rfl, HB.out⟩
set_option maxHeartbeats 8000000 in
theorem st_Op {w : World} {v0 v1 v2 v3 v4 v5 v6 v7 v8 v9 v10 u0 u1 u2 u3 u4 u5 u6 u7 u8 u9 u10 : Value} (e0 : Twin w .int [v0] [u0]) (e1 : Twin w .name [v1] [u1]) (e2 : Twin w .name [v2] [u2]) (e3 : Twin w (.list sValue) [v3] [u3]) (e4 : Twin w (.list sValue) [v4] [u4]) (e5 : Twin w (.list sSet) [v5] [u5]) (e6 : Twin w (.list sValue) [v6] [u6]) (e7 : Twin w (.list sValue) [v7] [u7]) (e8 : Twin w .int [v8] [u8]) (e9 : Twin w .bool [v9] [u9]) (e10 : Twin w (.list .data) [v10] [u10]) :
 Calls Tryz.prog 67 #[.agg #[v0, v1, v2, v3, v4, v5, v6, v7, v8, v9, v10], .agg #[u0, u1, u2, u3, u4, u5, u6, u7, u8, u9, u10]] w (fun e w' => e = .returned (.bool true) ∧ Below w.heap.size w w') := by
 obtain ⟨z0, rfl, rfl⟩ := tw_int e0
 obtain ⟨z1, rfl, rfl⟩ := tw_name e1
 obtain ⟨z2, rfl, rfl⟩ := tw_name e2
 obtain ⟨z8, rfl, rfl⟩ := tw_int e8
 obtain ⟨z9, rfl, rfl⟩ := tw_bool e9
 have hb : Below w.heap.size w ((w.alloc (.cells #[(.int .i64 z0), (.string z1), (.string z2), v3, v4, v5, v6, v7, (.int .i64 z8), (.bool z9), v10] 129)).alloc (.cells #[(.int .i64 z0), (.string z1), (.string z2), u3, u4, u5, u6, u7, (.int .i64 z8), (.bool z9), u10] 129)) := ((Below.refl _ _).alloc (Nat.le_refl _) _).alloc (by simp) _
 have h0 : ((w.alloc (.cells #[(.int .i64 z0), (.string z1), (.string z2), v3, v4, v5, v6, v7, (.int .i64 z8), (.bool z9), v10] 129)).alloc (.cells #[(.int .i64 z0), (.string z1), (.string z2), u3, u4, u5, u6, u7, (.int .i64 z8), (.bool z9), u10] 129)).heap[w.heap.size]? = some (.cells ([(.int .i64 z0), (.string z1), (.string z2), v3, v4, v5, v6, v7, (.int .i64 z8), (.bool z9), v10] : List Value).toArray 129 (0, 0)) := (Below.heap_alloc (w.alloc (.cells #[(.int .i64 z0), (.string z1), (.string z2), v3, v4, v5, v6, v7, (.int .i64 z8), (.bool z9), v10] 129)) (.cells #[(.int .i64 z0), (.string z1), (.string z2), u3, u4, u5, u6, u7, (.int .i64 z8), (.bool z9), u10] 129) w.heap.size (by simp)).trans (heap_alloc_new w (.cells #[(.int .i64 z0), (.string z1), (.string z2), v3, v4, v5, v6, v7, (.int .i64 z8), (.bool z9), v10] 129))
 have h1 : ((w.alloc (.cells #[(.int .i64 z0), (.string z1), (.string z2), v3, v4, v5, v6, v7, (.int .i64 z8), (.bool z9), v10] 129)).alloc (.cells #[(.int .i64 z0), (.string z1), (.string z2), u3, u4, u5, u6, u7, (.int .i64 z8), (.bool z9), u10] 129)).heap[w.heap.size + 1]? = some (.cells ([(.int .i64 z0), (.string z1), (.string z2), u3, u4, u5, u6, u7, (.int .i64 z8), (.bool z9), u10] : List Value).toArray 129 (0, 0)) := heap_alloc2_new w (.cells #[(.int .i64 z0), (.string z1), (.string z2), v3, v4, v5, v6, v7, (.int .i64 z8), (.bool z9), v10] 129) (.cells #[(.int .i64 z0), (.string z1), (.string z2), u3, u4, u5, u6, u7, (.int .i64 z8), (.bool z9), u10] 129)
 have C3 : Hid (∀ V, Below w.heap.size w V → _) := hid fun V hV => pl_Value (e3.old hV)
 have C4 : Hid (∀ V, Below w.heap.size w V → _) := hid fun V hV => pl_Value (e4.old hV)
 have C5 : Hid (∀ V, Below w.heap.size w V → _) := hid fun V hV => pl_Set (e5.old hV)
 have C6 : Hid (∀ V, Below w.heap.size w V → _) := hid fun V hV => pl_Value (e6.old hV)
 have C7 : Hid (∀ V, Below w.heap.size w V → _) := hid fun V hV => pl_Value (e7.old hV)
 have C10 : Hid (∀ V, Below w.heap.size w V → _) := hid fun V hV => sm_data (e10.old hV)
 have HC0 : Hid (∀ V, Below ((w.alloc (.cells #[(.int .i64 z0), (.string z1), (.string z2), v3, v4, v5, v6, v7, (.int .i64 z8), (.bool z9), v10] 129)).alloc (.cells #[(.int .i64 z0), (.string z1), (.string z2), u3, u4, u5, u6, u7, (.int .i64 z8), (.bool z9), u10] 129)).heap.size ((w.alloc (.cells #[(.int .i64 z0), (.string z1), (.string z2), v3, v4, v5, v6, v7, (.int .i64 z8), (.bool z9), v10] 129)).alloc (.cells #[(.int .i64 z0), (.string z1), (.string z2), u3, u4, u5, u6, u7, (.int .i64 z8), (.bool z9), u10] 129)) V → ∀ (i : Nat) u, ([(.int .i64 z0), (.string z1), (.string z2), v3, v4, v5, v6, v7, (.int .i64 z8), (.bool z9), v10] : List Value)[i]? = some u → V.cell? ⟨w.heap.size, i, none⟩ = some u) := hid fun V hV i u hu => by have := (hV.block _ (lt_of_block h0)).trans h0; simp only [World.cell?, this]; simpa using hu
 have HC1 : Hid (∀ V, Below ((w.alloc (.cells #[(.int .i64 z0), (.string z1), (.string z2), v3, v4, v5, v6, v7, (.int .i64 z8), (.bool z9), v10] 129)).alloc (.cells #[(.int .i64 z0), (.string z1), (.string z2), u3, u4, u5, u6, u7, (.int .i64 z8), (.bool z9), u10] 129)).heap.size ((w.alloc (.cells #[(.int .i64 z0), (.string z1), (.string z2), v3, v4, v5, v6, v7, (.int .i64 z8), (.bool z9), v10] 129)).alloc (.cells #[(.int .i64 z0), (.string z1), (.string z2), u3, u4, u5, u6, u7, (.int .i64 z8), (.bool z9), u10] 129)) V → ∀ (i : Nat) u, ([(.int .i64 z0), (.string z1), (.string z2), u3, u4, u5, u6, u7, (.int .i64 z8), (.bool z9), u10] : List Value)[i]? = some u → V.cell? ⟨w.heap.size + 1, i, none⟩ = some u) := hid fun V hV i u hu => by have := (hV.block _ (lt_of_block h1)).trans h1; simp only [World.cell?, this]; simpa using hu
 have HB := hid hb
 clear hb h0 h1 e0 e1 e2 e3 e4 e5 e6 e7 e8 e9 e10
 go_enter Tryz.func67, Tryz.ntmps67
 go_upto_region 1 with fail
 generalize (w.alloc (.cells #[(.int .i64 z0), (.string z1), (.string z2), v3, v4, v5, v6, v7, (.int .i64 z8), (.bool z9), v10] 129)).alloc (.cells #[(.int .i64 z0), (.string z1), (.string z2), u3, u4, u5, u6, u7, (.int .i64 z8), (.bool z9), u10] 129) = w0 at *
 have HW0 : Hid (Below w0.heap.size w0 w0) := hid (Below.refl _ _)
 have x0 := HC0.out _ (Below.refl _ _) 0 _ rfl
 have y0 := HC1.out _ (Below.refl _ _) 0 _ rfl
 have x1 := HC0.out _ (Below.refl _ _) 1 _ rfl
 have y1 := HC1.out _ (Below.refl _ _) 1 _ rfl
 have x2 := HC0.out _ (Below.refl _ _) 2 _ rfl
 have y2 := HC1.out _ (Below.refl _ _) 2 _ rfl
 have x3 := HC0.out _ (Below.refl _ _) 3 _ rfl
 have y3 := HC1.out _ (Below.refl _ _) 3 _ rfl
 have CA0 := hid (C3.out _ HB.out)
 go_wp2_with (first | (go_at_call 125; refine CA0.out.mono ?_; rintro en r1 ⟨rfl, hb0⟩; have HW1 := hid (HW0.out.trans (hb0.mono HW0.out.size)); clear hb0; have CA1 := hid (C4.out _ (HB.out.trans (HW1.out.mono HB.out.size))); clear x0 y0; clear x1 y1; clear x2 y2; clear x3 y3; have x4_0 := HC0.out _ HW1.out 4 _ rfl; have y4_0 := HC1.out _ HW1.out 4 _ rfl) | (go_at_call 125; refine CA1.out.mono ?_; rintro en r2 ⟨rfl, hb1⟩; have HW2 := hid (HW1.out.trans (hb1.mono HW1.out.size)); clear hb1; have CA2 := hid (C5.out _ (HB.out.trans (HW2.out.mono HB.out.size))); clear x4_0 y4_0; have x5_1 := HC0.out _ HW2.out 5 _ rfl; have y5_1 := HC1.out _ HW2.out 5 _ rfl) | (go_at_call 126; refine CA2.out.mono ?_; rintro en r3 ⟨rfl, hb2⟩; have HW3 := hid (HW2.out.trans (hb2.mono HW2.out.size)); clear hb2; have CA3 := hid (C6.out _ (HB.out.trans (HW3.out.mono HB.out.size))); clear x5_1 y5_1; have x6_2 := HC0.out _ HW3.out 6 _ rfl; have y6_2 := HC1.out _ HW3.out 6 _ rfl) | (go_at_call 125; refine CA3.out.mono ?_; rintro en r4 ⟨rfl, hb3⟩; have HW4 := hid (HW3.out.trans (hb3.mono HW3.out.size)); clear hb3; have CA4 := hid (C7.out _ (HB.out.trans (HW4.out.mono HB.out.size))); clear x6_2 y6_2; have x7_3 := HC0.out _ HW4.out 7 _ rfl; have y7_3 := HC1.out _ HW4.out 7 _ rfl) | (go_at_call 125; refine CA4.out.mono ?_; rintro en r5 ⟨rfl, hb4⟩; have HW5 := hid (HW4.out.trans (hb4.mono HW4.out.size)); clear hb4; have CA5 := hid (C10.out _ (HB.out.trans (HW5.out.mono HB.out.size))); clear x7_3 y7_3; have x8_4 := HC0.out _ HW5.out 8 _ rfl; have y8_4 := HC1.out _ HW5.out 8 _ rfl; have x9_4 := HC0.out _ HW5.out 9 _ rfl; have y9_4 := HC1.out _ HW5.out 9 _ rfl; have x10_4 := HC0.out _ HW5.out 10 _ rfl; have y10_4 := HC1.out _ HW5.out 10 _ rfl) | (go_at_call 127; refine CA5.out.mono ?_; rintro en r6 ⟨rfl, hb5⟩; have HW6 := hid (HW5.out.trans (hb5.mono HW5.out.size)); clear hb5; clear x8_4 y8_4; clear x9_4 y9_4; clear x10_4 y10_4))
 go_ret
 exact ⟨rfl, HB.out.trans (HW6.out.mono HB.out.size)⟩
set_option maxHeartbeats 8000000 in
theorem sm_Op {w : World} {v1 v2 : Value} (h : Twin w (.list sOp) [v1] [v2]) :
 Calls Tryz.prog 66 #[v1, v2, (.func (.func 67) #[] #[])] w (fun e w' => e = .returned (.bool true) ∧ Below w.heap.size w w') := by
 obtain ⟨a1, a2, n, c1, c2, M1, M2, rfl, rfl, hL1, hL2, hM⟩ := tw_list h
 have hc1 := hL1.cap.1
 have hc2 := hL2.cap.1
 have hn6 := hL1.cap.2.1
 have HL1 := hid hL1
 have HL2 := hid hL2
 have HM := hid hM
 clear h hL1 hL2 hM
 go_enter Tryz.func66, Tryz.ntmps66
 go_wp2_with fail
 go_loopw [7] (fun i wr => ∃ k, k ≤ n ∧ i = .int .i64 (k : Int) ∧ Below w.heap.size w wr) (fun i _ => n - (intOf i).toNat)
 case atStart => exact ⟨0, by omega, rfl, Below.refl _ _⟩
 case round =>
  obtain ⟨k, hk, rfl, hb⟩ := hrel
  have HB := hid hb
  clear hb
  by_cases hlt : k < n
  · have hki : (k : Int) < (n : Int) := by omega
    obtain ⟨x, y, bk1, o1, bk2, o2, hxy, rfl, rfl, hcx, hcy⟩ := tw_get HL1.out HL2.out HM.out (by decide) hlt
    obtain ⟨v0, v1, v2, v3, v4, v5, v6, v7, v8, v9, v10, u0, u1, u2, u3, u4, u5, u6, u7, u8, u9, u10, rfl, rfl, e0, e1, e2, e3, e4, e5, e6, e7, e8, e9, e10⟩ := Op_twin hxy
    have CF : Hid (∀ V, Below w.heap.size w V → Calls Tryz.prog 67 #[.agg #[v0, v1, v2, v3, v4, v5, v6, v7, v8, v9, v10], .agg #[u0, u1, u2, u3, u4, u5, u6, u7, u8, u9, u10]] V (fun e w' => e = .returned (.bool true) ∧ Below V.heap.size V w')) := hid fun V hV => st_Op (e0.old hV) (e1.old hV) (e2.old hV) (e3.old hV) (e4.old hV) (e5.old hV) (e6.old hV) (e7.old hV) (e8.old hV) (e9.old hV) (e10.old hV)
    have hX : ∀ V, Below w.heap.size w V → ∀ (j : Nat) u, ([v0, v1, v2, v3, v4, v5, v6, v7, v8, v9, v10] : List Value)[j]? = some u → V.cell? ⟨bk1, o1 + k * 11 + j, none⟩ = some u := hcx
    have hY : ∀ V, Below w.heap.size w V → ∀ (j : Nat) u, ([u0, u1, u2, u3, u4, u5, u6, u7, u8, u9, u10] : List Value)[j]? = some u → V.cell? ⟨bk2, o2 + k * 11 + j, none⟩ = some u := hcy
    have HX := hid hX
    have HY := hid hY
    clear hX hY hcx hcy
    go_upto_region 6 with fail
    have HWd : Hid (Below w.heap.size w wr.drew) := hid (HB.out.trans ((show Below wr.heap.size wr wr.drew from ⟨rfl, rfl, rfl, Nat.le_refl _, fun _ _ => rfl⟩).mono HB.out.size))
    obtain ⟨S9, hS9⟩ : ∃ S9 : World → Prop, S9 = fun V => Below w.heap.size w V := ⟨_, rfl⟩
    have HS : Hid (∀ V, Below w.heap.size w V → S9 V) := hid fun V h => by rw [hS9]; exact h
    have HSI : Hid (∀ V, S9 V → Below w.heap.size w V) := hid fun V h => by rw [hS9] at h; exact h
    clear hS9
    refine wp_region_noPanic ?_
    refine wp_region_held_drew (S := S9) (by kernel_rfl) (HS.out _ HWd.out) (fun hHeld => ?_)
    generalize wr.drew = Wd at *
    refine tkH 0 ((.func (.func 67) #[] #[])) rfl (by kernel_rfl) (fun _ _ _ => False.elim) hHeld (Or.inl ⟨by rfl, fun W9 hW => by clear hHeld; simp only [jA, jB, jC]; go_simp⟩) ?_
    simp only [Act.put, jA, jB, jC, jD, jE, jF]
    refine tkH 1 ((.slice (some ⟨bk1, o1, none⟩) n c1)) rfl (by kernel_rfl) (fun _ _ _ => False.elim) hHeld (Or.inl ⟨by rfl, fun W9 hW => by clear hHeld; simp only [jA, jB, jC]; go_simp⟩) ?_
    simp only [Act.put, jA, jB, jC, jD, jE, jF]
    refine tkH 2 ((.int .i64 (k : Int))) rfl (by kernel_rfl) (fun _ _ _ => False.elim) hHeld (Or.inl ⟨by rfl, fun W9 hW => by clear hHeld; simp only [jA, jB, jC]; go_simp⟩) ?_
    simp only [Act.put, jA, jB, jC, jD, jE, jF]
    refine tkH 3 ((.pointer (some ⟨bk1, o1 + k * 11, none⟩))) rfl (by kernel_rfl) (fun _ _ _ => False.elim) hHeld (Or.inl ⟨by rfl, fun W9 hW => by clear hHeld; simp only [jA, jB, jC]; go_simp⟩) ?_
    simp only [Act.put, jA, jB, jC, jD, jE, jF]
    refine tkH 4 (.agg #[v0, v1, v2, v3, v4, v5, v6, v7, v8, v9, v10]) rfl (by kernel_rfl) (fun _ _ _ => False.elim) hHeld (Or.inl ⟨by rfl, fun W9 hW => by have hWW := HSI.out _ hW; have q0 := HX.out _ hWW 0 _ rfl; rw [Nat.add_zero] at q0; have q1 := HX.out _ hWW 1 _ rfl; have q2 := HX.out _ hWW 2 _ rfl; have q3 := HX.out _ hWW 3 _ rfl; have q4 := HX.out _ hWW 4 _ rfl; have q5 := HX.out _ hWW 5 _ rfl; have q6 := HX.out _ hWW 6 _ rfl; have q7 := HX.out _ hWW 7 _ rfl; have q8 := HX.out _ hWW 8 _ rfl; have q9 := HX.out _ hWW 9 _ rfl; have q10 := HX.out _ hWW 10 _ rfl; clear hHeld; simp only [jA, jB, jC]; go_simp⟩) ?_
    simp only [Act.put, jA, jB, jC, jD, jE, jF]
    refine tkH 5 ((.slice (some ⟨bk2, o2, none⟩) n c2)) rfl (by kernel_rfl) (fun _ _ _ => False.elim) hHeld (Or.inl ⟨by rfl, fun W9 hW => by clear hHeld; simp only [jA, jB, jC]; go_simp⟩) ?_
    simp only [Act.put, jA, jB, jC, jD, jE, jF]
    refine tkH 6 ((.int .i64 (k : Int))) rfl (by kernel_rfl) (fun _ _ _ => False.elim) hHeld (Or.inl ⟨by rfl, fun W9 hW => by clear hHeld; simp only [jA, jB, jC]; go_simp⟩) ?_
    simp only [Act.put, jA, jB, jC, jD, jE, jF]
    refine tkH 7 ((.pointer (some ⟨bk2, o2 + k * 11, none⟩))) rfl (by kernel_rfl) (fun _ _ _ => False.elim) hHeld (Or.inl ⟨by rfl, fun W9 hW => by clear hHeld; simp only [jA, jB, jC]; go_simp⟩) ?_
    simp only [Act.put, jA, jB, jC, jD, jE, jF]
    refine tkH 8 (.agg #[u0, u1, u2, u3, u4, u5, u6, u7, u8, u9, u10]) rfl (by kernel_rfl) (fun _ _ _ => False.elim) hHeld (Or.inl ⟨by rfl, fun W9 hW => by have hWW := HSI.out _ hW; have q0 := HY.out _ hWW 0 _ rfl; rw [Nat.add_zero] at q0; have q1 := HY.out _ hWW 1 _ rfl; have q2 := HY.out _ hWW 2 _ rfl; have q3 := HY.out _ hWW 3 _ rfl; have q4 := HY.out _ hWW 4 _ rfl; have q5 := HY.out _ hWW 5 _ rfl; have q6 := HY.out _ hWW 6 _ rfl; have q7 := HY.out _ hWW 7 _ rfl; have q8 := HY.out _ hWW 8 _ rfl; have q9 := HY.out _ hWW 9 _ rfl; have q10 := HY.out _ hWW 10 _ rfl; clear hHeld; simp only [jA, jB, jC]; go_simp⟩) ?_
    simp only [Act.put, jA, jB, jC, jD, jE, jF]
    have CC := hid (CF.out _ HWd.out)
    refine rdH 9 (by kernel_rfl) rfl fun K hK => ?_
    go_simp
    go_wp2_with (first | (go_at_call 67; refine CC.out.mono ?_; rintro en wE ⟨rfl, hbE⟩; have HBE := hid (HWd.out.trans (hbE.mono HWd.out.size)); clear hbE))
    refine hK.out _ _ (HS.out _ HBE.out) (fun hHeld => ?_)
    clear hK K
    refine tkH 10 (.bool false) rfl (by kernel_rfl) (fun _ _ _ => False.elim) hHeld (Or.inl ⟨by rfl, fun W9 hW => by clear hHeld; simp only [jA, jB, jC]; go_simp⟩) ?_
    simp only [Act.put, jA, jB, jC, jD, jE, jF]
    refine wpAnyH_done (by kernel_rfl) ?_ _
    refine NoPanic.normal ?_
    go_wp2_with fail
    go_roundw
    case rel => exact ⟨k + 1, by omega, by go_num, HBE.out⟩
    case measure => simp [intOf]; omega
  · obtain rfl : n = k := by omega
    have hki : ¬ (n : Int) < (n : Int) := by omega
    go_wp2_with fail
    go_ret
    exact ⟨rfl, HB.out⟩
end Go.Proofs.YtmdgifmigikffaaGreat
namespace Go.Proofs.YtmdgifmigikffaaGreat
open Go.RowKit Go.Deep
set_option maxHeartbeats 8000000 in
theorem st_Ask {w : World} {v0 v1 v2 v3 v4 v5 v6 v7 v8 v9 v10 v11 v12 v13 v14 v15 u0 u1 u2 u3 u4 u5 u6 u7 u8 u9 u10 u11 u12 u13 u14 u15 : Value} (e0 : Twin w .int [v0] [u0]) (e1 : Twin w (.list sOp) [v1] [u1]) (e2 : Twin w .int [v2] [u2]) (e3 : Twin w .name [v3] [u3]) (e4 : Twin w (.list sColumn) [v4] [u4]) (e5 : Twin w (.list .int) [v5] [u5]) (e6 : Twin w .int [v6] [u6]) (e7 : Twin w .int [v7] [u7]) (e8 : Twin w .name [v8] [u8]) (e9 : Twin w (.list .int) [v9] [u9]) (e10 : Twin w .bool [v10] [u10]) (e11 : Twin w .int [v11] [u11]) (e12 : Twin w .bool [v12] [u12]) (e13 : Twin w .name [v13] [u13]) (e14 : Twin w .int [v14] [u14]) (e15 : Twin w .data [v15] [u15]) :
 Calls Tryz.prog 20 #[.agg #[v0, v1, v2, v3, v4, v5, v6, v7, v8, v9, v10, v11, v12, v13, v14, v15], .agg #[u0, u1, u2, u3, u4, u5, u6, u7, u8, u9, u10, u11, u12, u13, u14, u15]] w (fun e w' => e = .returned (.bool true) ∧ Below w.heap.size w w') := by
 obtain ⟨z0, rfl, rfl⟩ := tw_int e0
 obtain ⟨z13, rfl, rfl⟩ := tw_name e13
 obtain ⟨z14, rfl, rfl⟩ := tw_int e14
 have hb : Below w.heap.size w ((w.alloc (.cells #[(.int .i64 z0), v1, v2, v3, v4, v5, v6, v7, v8, v9, v10, v11, v12, (.string z13), (.int .i64 z14), v15] 62)).alloc (.cells #[(.int .i64 z0), u1, u2, u3, u4, u5, u6, u7, u8, u9, u10, u11, u12, (.string z13), (.int .i64 z14), u15] 62)) := ((Below.refl _ _).alloc (Nat.le_refl _) _).alloc (by simp) _
 have h0 : ((w.alloc (.cells #[(.int .i64 z0), v1, v2, v3, v4, v5, v6, v7, v8, v9, v10, v11, v12, (.string z13), (.int .i64 z14), v15] 62)).alloc (.cells #[(.int .i64 z0), u1, u2, u3, u4, u5, u6, u7, u8, u9, u10, u11, u12, (.string z13), (.int .i64 z14), u15] 62)).heap[w.heap.size]? = some (.cells ([(.int .i64 z0), v1, v2, v3, v4, v5, v6, v7, v8, v9, v10, v11, v12, (.string z13), (.int .i64 z14), v15] : List Value).toArray 62 (0, 0)) := (Below.heap_alloc (w.alloc (.cells #[(.int .i64 z0), v1, v2, v3, v4, v5, v6, v7, v8, v9, v10, v11, v12, (.string z13), (.int .i64 z14), v15] 62)) (.cells #[(.int .i64 z0), u1, u2, u3, u4, u5, u6, u7, u8, u9, u10, u11, u12, (.string z13), (.int .i64 z14), u15] 62) w.heap.size (by simp)).trans (heap_alloc_new w (.cells #[(.int .i64 z0), v1, v2, v3, v4, v5, v6, v7, v8, v9, v10, v11, v12, (.string z13), (.int .i64 z14), v15] 62))
 have h1 : ((w.alloc (.cells #[(.int .i64 z0), v1, v2, v3, v4, v5, v6, v7, v8, v9, v10, v11, v12, (.string z13), (.int .i64 z14), v15] 62)).alloc (.cells #[(.int .i64 z0), u1, u2, u3, u4, u5, u6, u7, u8, u9, u10, u11, u12, (.string z13), (.int .i64 z14), u15] 62)).heap[w.heap.size + 1]? = some (.cells ([(.int .i64 z0), u1, u2, u3, u4, u5, u6, u7, u8, u9, u10, u11, u12, (.string z13), (.int .i64 z14), u15] : List Value).toArray 62 (0, 0)) := heap_alloc2_new w (.cells #[(.int .i64 z0), v1, v2, v3, v4, v5, v6, v7, v8, v9, v10, v11, v12, (.string z13), (.int .i64 z14), v15] 62) (.cells #[(.int .i64 z0), u1, u2, u3, u4, u5, u6, u7, u8, u9, u10, u11, u12, (.string z13), (.int .i64 z14), u15] 62)
 have C1 : Hid (∀ V, Below w.heap.size w V → _) := hid fun V hV => sm_Op (e1.old hV)
 have C2 : Hid (∀ V, Below w.heap.size w V → _) := hid fun V hV => st_Table (e2.old hV) (e3.old hV) (e4.old hV) (e5.old hV)
 have C6 : Hid (∀ V, Below w.heap.size w V → _) := hid fun V hV => st_Index (e6.old hV) (e7.old hV) (e8.old hV) (e9.old hV) (e10.old hV) (e11.old hV) (e12.old hV)
 have C15 : Hid (∀ V, Below w.heap.size w V → _) := hid fun V hV => tw_Bytes (e15.old hV)
 have HC0 : Hid (∀ V, Below ((w.alloc (.cells #[(.int .i64 z0), v1, v2, v3, v4, v5, v6, v7, v8, v9, v10, v11, v12, (.string z13), (.int .i64 z14), v15] 62)).alloc (.cells #[(.int .i64 z0), u1, u2, u3, u4, u5, u6, u7, u8, u9, u10, u11, u12, (.string z13), (.int .i64 z14), u15] 62)).heap.size ((w.alloc (.cells #[(.int .i64 z0), v1, v2, v3, v4, v5, v6, v7, v8, v9, v10, v11, v12, (.string z13), (.int .i64 z14), v15] 62)).alloc (.cells #[(.int .i64 z0), u1, u2, u3, u4, u5, u6, u7, u8, u9, u10, u11, u12, (.string z13), (.int .i64 z14), u15] 62)) V → ∀ (i : Nat) u, ([(.int .i64 z0), v1, v2, v3, v4, v5, v6, v7, v8, v9, v10, v11, v12, (.string z13), (.int .i64 z14), v15] : List Value)[i]? = some u → V.cell? ⟨w.heap.size, i, none⟩ = some u) := hid fun V hV i u hu => by have := (hV.block _ (lt_of_block h0)).trans h0; simp only [World.cell?, this]; simpa using hu
 have HC1 : Hid (∀ V, Below ((w.alloc (.cells #[(.int .i64 z0), v1, v2, v3, v4, v5, v6, v7, v8, v9, v10, v11, v12, (.string z13), (.int .i64 z14), v15] 62)).alloc (.cells #[(.int .i64 z0), u1, u2, u3, u4, u5, u6, u7, u8, u9, u10, u11, u12, (.string z13), (.int .i64 z14), u15] 62)).heap.size ((w.alloc (.cells #[(.int .i64 z0), v1, v2, v3, v4, v5, v6, v7, v8, v9, v10, v11, v12, (.string z13), (.int .i64 z14), v15] 62)).alloc (.cells #[(.int .i64 z0), u1, u2, u3, u4, u5, u6, u7, u8, u9, u10, u11, u12, (.string z13), (.int .i64 z14), u15] 62)) V → ∀ (i : Nat) u, ([(.int .i64 z0), u1, u2, u3, u4, u5, u6, u7, u8, u9, u10, u11, u12, (.string z13), (.int .i64 z14), u15] : List Value)[i]? = some u → V.cell? ⟨w.heap.size + 1, i, none⟩ = some u) := hid fun V hV i u hu => by have := (hV.block _ (lt_of_block h1)).trans h1; simp only [World.cell?, this]; simpa using hu
 have HB := hid hb
 clear hb h0 h1 e0 e1 e2 e3 e4 e5 e6 e7 e8 e9 e10 e11 e12 e13 e14 e15
 go_enter Tryz.func20, Tryz.ntmps20
 go_upto_region 1 with fail
 generalize (w.alloc (.cells #[(.int .i64 z0), v1, v2, v3, v4, v5, v6, v7, v8, v9, v10, v11, v12, (.string z13), (.int .i64 z14), v15] 62)).alloc (.cells #[(.int .i64 z0), u1, u2, u3, u4, u5, u6, u7, u8, u9, u10, u11, u12, (.string z13), (.int .i64 z14), u15] 62) = w0 at *
 have HW0 : Hid (Below w0.heap.size w0 w0) := hid (Below.refl _ _)
 have x0 := HC0.out _ (Below.refl _ _) 0 _ rfl
 have y0 := HC1.out _ (Below.refl _ _) 0 _ rfl
 have x1 := HC0.out _ (Below.refl _ _) 1 _ rfl
 have y1 := HC1.out _ (Below.refl _ _) 1 _ rfl
 have CA0 := hid (C1.out _ HB.out)
 go_wp2_with (first | (go_at_call 66; refine CA0.out.mono ?_; rintro en r1 ⟨rfl, hb0⟩; have HW1 := hid (HW0.out.trans (hb0.mono HW0.out.size)); clear hb0; have CA1 := hid (C2.out _ (HB.out.trans (HW1.out.mono HB.out.size))); clear x0 y0; clear x1 y1; have x2_0 := HC0.out _ HW1.out 2 _ rfl; have y2_0 := HC1.out _ HW1.out 2 _ rfl; have x3_0 := HC0.out _ HW1.out 3 _ rfl; have y3_0 := HC1.out _ HW1.out 3 _ rfl; have x4_0 := HC0.out _ HW1.out 4 _ rfl; have y4_0 := HC1.out _ HW1.out 4 _ rfl; have x5_0 := HC0.out _ HW1.out 5 _ rfl; have y5_0 := HC1.out _ HW1.out 5 _ rfl) | (go_at_call 60; refine CA1.out.mono ?_; rintro en r2 ⟨rfl, hb1⟩; have HW2 := hid (HW1.out.trans (hb1.mono HW1.out.size)); clear hb1; have CA2 := hid (C6.out _ (HB.out.trans (HW2.out.mono HB.out.size))); clear x2_0 y2_0; clear x3_0 y3_0; clear x4_0 y4_0; clear x5_0 y5_0; have x6_1 := HC0.out _ HW2.out 6 _ rfl; have y6_1 := HC1.out _ HW2.out 6 _ rfl; have x7_1 := HC0.out _ HW2.out 7 _ rfl; have y7_1 := HC1.out _ HW2.out 7 _ rfl; have x8_1 := HC0.out _ HW2.out 8 _ rfl; have y8_1 := HC1.out _ HW2.out 8 _ rfl; have x9_1 := HC0.out _ HW2.out 9 _ rfl; have y9_1 := HC1.out _ HW2.out 9 _ rfl; have x10_1 := HC0.out _ HW2.out 10 _ rfl; have y10_1 := HC1.out _ HW2.out 10 _ rfl; have x11_1 := HC0.out _ HW2.out 11 _ rfl; have y11_1 := HC1.out _ HW2.out 11 _ rfl; have x12_1 := HC0.out _ HW2.out 12 _ rfl; have y12_1 := HC1.out _ HW2.out 12 _ rfl) | (go_at_call 61; refine CA2.out.mono ?_; rintro en r3 ⟨rfl, hb2⟩; have HW3 := hid (HW2.out.trans (hb2.mono HW2.out.size)); clear hb2; have CA3 := hid (C15.out _ (HB.out.trans (HW3.out.mono HB.out.size))); clear x6_1 y6_1; clear x7_1 y7_1; clear x8_1 y8_1; clear x9_1 y9_1; clear x10_1 y10_1; clear x11_1 y11_1; clear x12_1 y12_1; have x13_2 := HC0.out _ HW3.out 13 _ rfl; have y13_2 := HC1.out _ HW3.out 13 _ rfl; have x14_2 := HC0.out _ HW3.out 14 _ rfl; have y14_2 := HC1.out _ HW3.out 14 _ rfl; have x15_2 := HC0.out _ HW3.out 15 _ rfl; have y15_2 := HC1.out _ HW3.out 15 _ rfl) | (go_at_call 52; refine CA3.out.mono ?_; rintro en r4 ⟨rfl, hb3⟩; have HW4 := hid (HW3.out.trans (hb3.mono HW3.out.size)); clear hb3; clear x13_2 y13_2; clear x14_2 y14_2; clear x15_2 y15_2))
 go_ret
 exact ⟨rfl, HB.out.trans (HW4.out.mono HB.out.size)⟩
end Go.Proofs.YtmdgifmigikffaaGreat
namespace Go.Proofs.YtmdgifmigikffaaGreat
open Go.RowKit Go.Deep
theorem sameCall_any {w : World} {c1 c2 : List Value} {b : List UInt8} (h1 : Enc w sCall c1 b) (h2 : Enc w sCall c2 b) : Calls Tryz.prog 16 #[.agg c1.toArray, .agg c2.toArray] w (fun e w' => e = .returned (.bool true) ∧ Below w.heap.size w w') := by
 obtain ⟨v0, v1, v2, u0, u1, u2, rfl, rfl, e0, e1, e2⟩ := Call_twin ⟨b, h1, h2⟩
 exact st_Call e0 e1 e2
theorem sameCommand_any {w : World} {c1 c2 : List Value} {b : List UInt8} (h1 : Enc w sCommand c1 b) (h2 : Enc w sCommand c2 b) : Calls Tryz.prog 17 #[.agg c1.toArray, .agg c2.toArray] w (fun e w' => e = .returned (.bool true) ∧ Below w.heap.size w w') := by
 obtain ⟨v0, v1, v2, v3, v4, v5, v6, v7, v8, v9, v10, v11, v12, v13, v14, v15, v16, v17, v18, v19, v20, v21, v22, v23, v24, u0, u1, u2, u3, u4, u5, u6, u7, u8, u9, u10, u11, u12, u13, u14, u15, u16, u17, u18, u19, u20, u21, u22, u23, u24, rfl, rfl, e0, e1, e2, e3, e4, e5, e6, e7, e8, e9, e10, e11, e12, e13, e14, e15, e16, e17, e18, e19, e20, e21, e22, e23, e24⟩ := Command_twin ⟨b, h1, h2⟩
 exact st_Command e0 e1 e2 e3 e4 e5 e6 e7 e8 e9 e10 e11 e12 e13 e14 e15 e16 e17 e18 e19 e20 e21 e22 e23 e24
theorem sameReply_any {w : World} {c1 c2 : List Value} {b : List UInt8} (h1 : Enc w sReply c1 b) (h2 : Enc w sReply c2 b) : Calls Tryz.prog 18 #[.agg c1.toArray, .agg c2.toArray] w (fun e w' => e = .returned (.bool true) ∧ Below w.heap.size w w') := by
 obtain ⟨v0, v1, v2, v3, v4, v5, v6, v7, v8, v9, v10, v11, v12, v13, v14, u0, u1, u2, u3, u4, u5, u6, u7, u8, u9, u10, u11, u12, u13, u14, rfl, rfl, e0, e1, e2, e3, e4, e5, e6, e7, e8, e9, e10, e11, e12, e13, e14⟩ := Reply_twin ⟨b, h1, h2⟩
 exact st_Reply e0 e1 e2 e3 e4 e5 e6 e7 e8 e9 e10 e11 e12 e13 e14
theorem sameAsk_any {w : World} {c1 c2 : List Value} {b : List UInt8} (h1 : Enc w sAsk c1 b) (h2 : Enc w sAsk c2 b) : Calls Tryz.prog 20 #[.agg c1.toArray, .agg c2.toArray] w (fun e w' => e = .returned (.bool true) ∧ Below w.heap.size w w') := by
 obtain ⟨v0, v1, v2, v3, v4, v5, v6, v7, v8, v9, v10, v11, v12, v13, v14, v15, u0, u1, u2, u3, u4, u5, u6, u7, u8, u9, u10, u11, u12, u13, u14, u15, rfl, rfl, e0, e1, e2, e3, e4, e5, e6, e7, e8, e9, e10, e11, e12, e13, e14, e15⟩ := Ask_twin ⟨b, h1, h2⟩
 exact st_Ask e0 e1 e2 e3 e4 e5 e6 e7 e8 e9 e10 e11 e12 e13 e14 e15
end Go.Proofs.YtmdgifmigikffaaGreat
namespace Go.Proofs.YtmdgifmigikffaaGreat
open Go.RowKit Go.Deep
def Spo (n0 : Nat) (w w' : World) : Prop := SpS w w' ∧ Below n0 w w' ∧ ∀ k, Thaw w k → Thaw w' k
theorem Spo.refl (n0 : Nat) (w : World) : Spo n0 w w := ⟨SpS.refl _, Below.refl _ _, fun _ h => h⟩
theorem Spo.trans {n0 : Nat} {a b c : World} (h : Spo n0 a b) (k : Spo n0 b c) : Spo n0 a c := ⟨h.1.trans k.1, h.2.1.trans k.2.1, fun j hj => k.2.2 j (h.2.2 j hj)⟩
theorem Spo.below {n0 : Nat} {w w' : World} (hn : n0 ≤ w.heap.size) (hb : Below w.heap.size w w') : Spo n0 w w' := by
 refine ⟨fun a u ha => .inl ?_, hb.mono hn, fun k hk => ?_⟩
 · have hlt : a.block < w.heap.size := by
    by_cases h9 : a.block < w.heap.size
    · exact h9
    · exfalso; unfold World.cell? at ha; rw [Array.getElem?_eq_none (by omega)] at ha; cases ha
   rw [World.cell?_of_block (hb.block _ hlt)]; exact ha
 · obtain ⟨cs, t, h⟩ := hk; exact ⟨cs, t, (hb.block _ (lt_of_block h)).trans h⟩
def Told (n0 : Nat) (w : World) (v : Value) : Prop := ∃ l, Rd w v l ∧ ∀ k, blk v = some k → Thaw w k ∧ n0 ≤ k
theorem Told.nil (n0 : Nat) (w : World) : Told n0 w (.slice none 0 0) := ⟨[], Rd.nil _, fun k h => by cases h⟩
theorem Told.form {n0 : Nat} {w : World} {v : Value} (h : Told n0 w v) : ∃ a n c, v = .slice a n c := by obtain ⟨l, ⟨a, c, rfl, _⟩, _⟩ := h; exact ⟨_, _, _, rfl⟩
theorem Told.spo {n0 : Nat} {w w' : World} {v : Value} (h : Told n0 w v) (k : Spo n0 w w') : Told n0 w' v := by
 obtain ⟨l, h1, h2⟩ := h
 obtain ⟨l', h3, -⟩ := k.1.rd h1
 exact ⟨l', h3, fun j hj => ⟨k.2.2 j (h2 j hj).1, (h2 j hj).2⟩⟩
theorem told_spoil {n0 : Nat} {w : World} {v : Value} (h : Told n0 w v) (hn : n0 ≤ w.heap.size) :
 Calls Tryz.prog 21 #[v] w (fun en w' => en = .returned (.tuple #[]) ∧ Spo n0 w w') := by
 obtain ⟨l, h1, h2⟩ := h
 refine (spoil_rd h1 (fun k hk => (h2 k hk).1)).mono ?_
 rintro en w' ⟨rfl, h3, h4, h5⟩
 exact ⟨rfl, h3, below_grown h4 hn (fun k hk => (h2 k hk).2), h5⟩
theorem Told.enc {n0 : Nat} {w : World} {v : Value} {b : List UInt8} (h : EncN (fun j => n0 ≤ j) w .data [v] b) : Told n0 w v := by
 obtain ⟨x, l, h1, h2, h3, h4, h5, h6⟩ := h
 obtain rfl : v = x := by injection h1
 exact ⟨l, h3, fun k hk => ⟨(h6 k hk).2, (h6 k hk).1⟩⟩
def Prs (n0 : Nat) (w : World) (v : Value) : Prop := ∃ (K : List (List Value)), (∃ a c, v = .slice a K.length c) ∧ Rws 3 w v K ∧ ∀ r ∈ K, ∃ a1 n1 c1 a2 n2 c2 z, r = [.slice a1 n1 c1, .slice a2 n2 c2, .int .i64 z] ∧ Told n0 w (.slice a1 n1 c1)
theorem Prs.nil (n0 : Nat) (w : World) : Prs n0 w (.slice none 0 0) := ⟨[], ⟨none, 0, rfl⟩, Rws.nil _ _, fun r h => by cases h⟩
theorem Rws.spo {size : Nat} {w w' : World} {x : Value} {L : List (List Value)} (h : Rws size w x L) (k : SpS w w') (hu : ∀ u ∈ L.flatten, ∀ c, u ≠ bv c) : Rws size w' x L := by
 obtain ⟨ao, c, h1, h2, h3, h4, h5, h6⟩ := h
 exact ⟨ao, c, h1, h2, h3, h4, h5, fun a e j u hj => k.stay (h6 a e j u hj) (hu u (List.mem_of_getElem? hj))⟩
theorem Prs.spo {n0 : Nat} {w w' : World} {v : Value} (h : Prs n0 w v) (k : Spo n0 w w') : Prs n0 w' v := by
 obtain ⟨K, h1, h2, h3⟩ := h
 refine ⟨K, h1, h2.spo k.1 (fun u hu c => ?_), fun r hr => ?_⟩
 · obtain ⟨r, hr, hur⟩ := List.mem_flatten.1 hu
   obtain ⟨a1, n1, c1, a2, n2, c2, z, rfl, -⟩ := h3 r hr
   simp only [List.mem_cons, List.not_mem_nil, or_false] at hur
   unfold bv
   rcases hur with rfl | rfl | rfl <;> (intro e; cases e)
 · obtain ⟨a1, n1, c1, a2, n2, c2, z, rfl, h4⟩ := h3 r hr
   exact ⟨a1, n1, c1, a2, n2, c2, z, rfl, h4.spo k⟩
theorem Prs.enc {n0 : Nat} {w : World} {v : Value} {b : List UInt8} (h : EncN (fun j => n0 ≤ j) w (.list sPair) [v] b) : Prs n0 w v := by
 obtain ⟨a, c, M, h1, h2, h3, h4, h5, h6⟩ := h
 obtain rfl : v = .slice a M.length c := by injection h1
 have h9 : sPair.wid = 3 := rfl
 rw [h9] at h2
 refine ⟨M.map (·.1), ⟨a, c, by rw [List.length_map]⟩, h2, fun r hr => ?_⟩
 obtain ⟨m, hm, rfl⟩ := List.mem_map.1 hr
 have h7 := h3 m hm
 unfold sPair at h7
 obtain ⟨k0, r0, p0, q0, e0, -, f0, h7⟩ := h7
 obtain ⟨k1, r1, p1, q1, e1, -, f1, h7⟩ := h7
 obtain ⟨k2, r2, p2, q2, e2, -, f2, h7⟩ := h7
 obtain ⟨rfl, -⟩ := h7
 obtain ⟨x0, rfl⟩ := one_of (EncN.enc _ f0) rfl
 obtain ⟨x1, rfl⟩ := one_of (EncN.enc _ f1) rfl
 obtain ⟨x2, rfl⟩ := one_of (EncN.enc _ f2) rfl
 obtain ⟨a0, b0, c0, rfl⟩ := form_data (EncN.enc _ f0)
 obtain ⟨a1, b1, c1, rfl⟩ := form_data (EncN.enc _ f1)
 obtain ⟨z, rfl⟩ := form_int (EncN.enc _ f2)
 exact ⟨a0, b0, c0, a1, b1, c1, z, by rw [e0, e1, e2]; rfl, Told.enc f0⟩
theorem call_told {n0 : Nat} {w : World} {cs : List Value} {b : List UInt8} (h : EncN (fun j => n0 ≤ j) w sCall cs b) : ∃ y, cs[2]? = some y ∧ Told n0 w y := by
 unfold sCall at h
 obtain ⟨k0, r0, p0, q0, e0, -, f0, h⟩ := h
 obtain ⟨k1, r1, p1, q1, e1, -, f1, h⟩ := h
 obtain ⟨k2, r2, p2, q2, e2, -, f2, h⟩ := h
 obtain ⟨x0, rfl⟩ := one_of (EncN.enc _ f0) rfl
 obtain ⟨x1, rfl⟩ := one_of (EncN.enc _ f1) rfl
 obtain ⟨x2, rfl⟩ := one_of (EncN.enc _ f2) rfl
 subst e2; subst e1; subst e0
 exact ⟨x2, rfl, Told.enc f2⟩
theorem command_told {n0 : Nat} {w : World} {cs : List Value} {b : List UInt8} (h : EncN (fun j => n0 ≤ j) w sCommand cs b) : ∃ y q, cs[7]? = some y ∧ cs[10]? = some q ∧ Told n0 w y ∧ Prs n0 w q := by
 unfold sCommand at h
 obtain ⟨k0, r0, p0, q0, e0, -, f0, h⟩ := h
 obtain ⟨k1, r1, p1, q1, e1, -, f1, h⟩ := h
 obtain ⟨k2, r2, p2, q2, e2, -, f2, h⟩ := h
 obtain ⟨k3, r3, p3, q3, e3, -, f3, h⟩ := h
 obtain ⟨k4, r4, p4, q4, e4, -, f4, h⟩ := h
 obtain ⟨k5, r5, p5, q5, e5, -, f5, h⟩ := h
 obtain ⟨k6, r6, p6, q6, e6, -, f6, h⟩ := h
 obtain ⟨k7, r7, p7, q7, e7, -, f7, h⟩ := h
 obtain ⟨k8, r8, p8, q8, e8, -, f8, h⟩ := h
 obtain ⟨k9, r9, p9, q9, e9, -, f9, h⟩ := h
 obtain ⟨k10, r10, p10, q10, e10, -, f10, h⟩ := h
 obtain ⟨x0, rfl⟩ := one_of (EncN.enc _ f0) rfl
 obtain ⟨x1, rfl⟩ := one_of (EncN.enc _ f1) rfl
 obtain ⟨x2, rfl⟩ := one_of (EncN.enc _ f2) rfl
 obtain ⟨x3, rfl⟩ := one_of (EncN.enc _ f3) rfl
 obtain ⟨x4, rfl⟩ := one_of (EncN.enc _ f4) rfl
 obtain ⟨x5, rfl⟩ := one_of (EncN.enc _ f5) rfl
 obtain ⟨x6, rfl⟩ := one_of (EncN.enc _ f6) rfl
 obtain ⟨x7, rfl⟩ := one_of (EncN.enc _ f7) rfl
 have hw8 := (Enc.wide _ (EncN.enc _ f8)).1
 have h88 : sSpan.wid = 2 := rfl
 rw [h88] at hw8
 obtain ⟨x8, y8, rfl⟩ : ∃ x y, k8 = [x, y] := by
  match k8, hw8 with
  | [x, y], _ => exact ⟨x, y, rfl⟩
 obtain ⟨x9, rfl⟩ := one_of (EncN.enc _ f9) rfl
 subst e9
 subst e8
 subst e7
 subst e6
 subst e5
 subst e4
 subst e3
 subst e2
 subst e1
 subst e0
 exact ⟨x7, x9, rfl, rfl, Told.enc f7, Prs.enc f9⟩
def zcs : Sh → List Value
 | .num => [.int .u64 0]
 | .int => [.int .i64 0]
 | .bool => [.bool false]
 | .data => [.slice none 0 0]
 | .name => [.string ⟨#[]⟩]
 | .list _ => [.slice none 0 0]
 | .nil => []
 | .cons s r => zcs s ++ zcs r
theorem zenc (w : World) : ∀ s : Sh, ∃ b, Enc w s (zcs s) b
 | .num => ⟨_, 0, by decide, rfl, rfl⟩
 | .int => ⟨_, 0, by decide, rfl, rfl⟩
 | .bool => ⟨_, false, rfl, rfl⟩
 | .data => ⟨_, _, [], rfl, rfl, Rd.nil w, by decide, rfl⟩
 | .name => ⟨_, [], rfl, by decide, rfl⟩
 | .list s => ⟨_, none, 0, [], rfl, Rws.nil _ _, fun m hm => (by cases hm), by decide, rfl⟩
 | .nil => ⟨_, rfl, rfl⟩
 | .cons s r => by
  obtain ⟨b1, h1⟩ := zenc w s
  obtain ⟨b2, h2⟩ := zenc w r
  exact ⟨_, _, _, b1, b2, rfl, rfl, h1, h2⟩
theorem sameCatalog_any {w : World} {c1 c2 : List Value} {b : List UInt8} (h1 : Enc w sCatalog c1 b) (h2 : Enc w sCatalog c2 b) : Calls Tryz.prog 19 #[.agg c1.toArray, .agg c2.toArray] w (fun e w' => e = .returned (.bool true) ∧ Below w.heap.size w w') := by
 obtain ⟨v0, v1, v2, v3, u0, u1, u2, u3, rfl, rfl, e0, e1, e2, e3⟩ := Catalog_twin ⟨b, h1, h2⟩
 exact st_Catalog e0 e1 e2 e3
theorem pairCall {w : World} {V1 V2 : Array Value} {e : Int} {B : List UInt8} (h1 : e = 0 → Enc w sCall V1.toList B) (h2 : e = 0 → Enc w sCall V2.toList B) (z1 : e ≠ 0 → V1 = zCall.toArray) (z2 : e ≠ 0 → V2 = zCall.toArray) :
 Calls Tryz.prog 16 #[.agg V1, .agg V2] w (fun en w' => en = .returned (.bool true) ∧ Below w.heap.size w w') := by
 by_cases he : e = 0
 · have h9 := sameCall_any (h1 he) (h2 he); simpa using h9
 · obtain ⟨b, hb⟩ := zenc w sCall
   have hz : zcs sCall = zCall := rfl
   rw [hz] at hb
   rw [z1 he, z2 he]; exact sameCall_any hb hb
theorem pairCommand {w : World} {V1 V2 : Array Value} {e : Int} {B : List UInt8} (h1 : e = 0 → Enc w sCommand V1.toList B) (h2 : e = 0 → Enc w sCommand V2.toList B) (z1 : e ≠ 0 → V1 = zCommand.toArray) (z2 : e ≠ 0 → V2 = zCommand.toArray) :
 Calls Tryz.prog 17 #[.agg V1, .agg V2] w (fun en w' => en = .returned (.bool true) ∧ Below w.heap.size w w') := by
 by_cases he : e = 0
 · have h9 := sameCommand_any (h1 he) (h2 he); simpa using h9
 · obtain ⟨b, hb⟩ := zenc w sCommand
   have hz : zcs sCommand = zCommand := rfl
   rw [hz] at hb
   rw [z1 he, z2 he]; exact sameCommand_any hb hb
theorem pairReply {w : World} {V1 V2 : Array Value} {e : Int} {B : List UInt8} (h1 : e = 0 → Enc w sReply V1.toList B) (h2 : e = 0 → Enc w sReply V2.toList B) (z1 : e ≠ 0 → V1 = zReply.toArray) (z2 : e ≠ 0 → V2 = zReply.toArray) :
 Calls Tryz.prog 18 #[.agg V1, .agg V2] w (fun en w' => en = .returned (.bool true) ∧ Below w.heap.size w w') := by
 by_cases he : e = 0
 · have h9 := sameReply_any (h1 he) (h2 he); simpa using h9
 · obtain ⟨b, hb⟩ := zenc w sReply
   have hz : zcs sReply = zReply := rfl
   rw [hz] at hb
   rw [z1 he, z2 he]; exact sameReply_any hb hb
theorem pairCatalog {w : World} {V1 V2 : Array Value} {e : Int} {B : List UInt8} (h1 : e = 0 → Enc w sCatalog V1.toList B) (h2 : e = 0 → Enc w sCatalog V2.toList B) (z1 : e ≠ 0 → V1 = zCatalog.toArray) (z2 : e ≠ 0 → V2 = zCatalog.toArray) :
 Calls Tryz.prog 19 #[.agg V1, .agg V2] w (fun en w' => en = .returned (.bool true) ∧ Below w.heap.size w w') := by
 by_cases he : e = 0
 · have h9 := sameCatalog_any (h1 he) (h2 he); simpa using h9
 · obtain ⟨b, hb⟩ := zenc w sCatalog
   have hz : zcs sCatalog = zCatalog := rfl
   rw [hz] at hb
   rw [z1 he, z2 he]; exact sameCatalog_any hb hb
theorem pairAsk {w : World} {V1 V2 : Array Value} {e : Int} {B : List UInt8} (h1 : e = 0 → Enc w sAsk V1.toList B) (h2 : e = 0 → Enc w sAsk V2.toList B) (z1 : e ≠ 0 → V1 = zAsk.toArray) (z2 : e ≠ 0 → V2 = zAsk.toArray) :
 Calls Tryz.prog 20 #[.agg V1, .agg V2] w (fun en w' => en = .returned (.bool true) ∧ Below w.heap.size w w') := by
 by_cases he : e = 0
 · have h9 := sameAsk_any (h1 he) (h2 he); simpa using h9
 · obtain ⟨b, hb⟩ := zenc w sAsk
   have hz : zcs sAsk = zAsk := rfl
   rw [hz] at hb
   rw [z1 he, z2 he]; exact sameAsk_any hb hb
theorem call_told2 {n0 : Nat} {w : World} {V : Array Value} {e : Int} {B : List UInt8} (h : e = 0 → EncN (fun j => n0 ≤ j) w sCall V.toList B) (z : e ≠ 0 → V = zCall.toArray) : ∃ y, V[2]? = some y ∧ Told n0 w y := by
 by_cases he : e = 0
 · obtain ⟨y, h1, h2⟩ := call_told (h he); exact ⟨y, by simpa using h1, h2⟩
 · rw [z he]; exact ⟨_, rfl, Told.nil _ _⟩
theorem command_told2 {n0 : Nat} {w : World} {V : Array Value} {e : Int} {B : List UInt8} (h : e = 0 → EncN (fun j => n0 ≤ j) w sCommand V.toList B) (z : e ≠ 0 → V = zCommand.toArray) : ∃ y q, V[7]? = some y ∧ V[10]? = some q ∧ Told n0 w y ∧ Prs n0 w q := by
 by_cases he : e = 0
 · obtain ⟨y, q, h1, h2, h3, h4⟩ := command_told (h he); exact ⟨y, q, by simpa using h1, by simpa using h2, h3, h4⟩
 · rw [z he]; exact ⟨_, _, rfl, rfl, Told.nil _ _, Prs.nil _ _⟩
end Go.Proofs.YtmdgifmigikffaaGreat
namespace Go.Proofs.YtmdgifmigikffaaGreat
open Go.RowKit Go.Deep
set_option maxHeartbeats 8000000 in
theorem wCall_any {W0 w : World} {KK : List (Nat × Obj)} {a : Nat} {l : List UInt8} {v0 v1 v2 : Value} {b0 b1 b2 : List UInt8} (h : St 132 W0 KK a w l) (e0 : Enc W0 .num [v0] b0) (e1 : Enc W0 .num [v1] b1) (e2 : Enc W0 .data [v2] b2) (hl : l.length + (b0 ++ (b1 ++ b2)).length ≤ 1000000000000) :
 Calls Tryz.prog 69 #[.pointer (some ⟨a, 0, none⟩), .agg #[v0, v1, v2]] w (Wrote 132 W0 KK a l (b0 ++ (b1 ++ b2))) := by
 have H0 := hid (h.box #[v0, v1, v2] 27)
 have HL0 := hid hl
 have E0 := hid e0
 have E1 := hid e1
 have E2 := hid e2
 clear h hl e0 e1 e2
 go_enter Tryz.func69, Tryz.ntmps69
 go_upto_region 1 with fail
 generalize w.alloc (.cells #[v0, v1, v2] 27) = w0 at *
 generalize w.heap.size = B at *
 have x0 := box_cell H0.out 0 v0 rfl
 have HN0 := hid (len_now HL0.out)
 have HL1 := hid (len_step HL0.out)
 go_upto_region 2 with (first | (go_at_call 130; refine (wnumE H0.out E0.out HN0.out).mono ?_; rintro en w1 ⟨rfl, h1⟩; have H1 := hid h1; clear h1))
 clear x0
 have x1 := box_cell H1.out 1 v1 rfl
 have HN1 := hid (len_now HL1.out)
 have HL2 := hid (len_step HL1.out)
 go_upto_region 3 with (first | (go_at_call 130; refine (wnumE H1.out E1.out HN1.out).mono ?_; rintro en w2 ⟨rfl, h2⟩; have H2 := hid h2; clear h2))
 clear x1
 have x2 := box_cell H2.out 2 v2 rfl
 go_wp2_with (first | (go_at_call 131; refine (wdataE H2.out E2.out HL2.out).mono ?_; rintro en w3 ⟨rfl, h3⟩; have H3 := hid h3; clear h3))
 clear x2
 go_end0
 exact ⟨rfl, by simpa only [List.append_assoc] using H3.out.drop⟩
end Go.Proofs.YtmdgifmigikffaaGreat
namespace Go.Proofs.YtmdgifmigikffaaGreat
open Go.RowKit Go.Deep
set_option maxHeartbeats 8000000 in
theorem wtopCall_any {W0 : World} {v0 v1 v2 : Value} {b0 b1 b2 : List UInt8} (e0 : Enc W0 .num [v0] b0) (e1 : Enc W0 .num [v1] b1) (e2 : Enc W0 .data [v2] b2) (hl : (b0 ++ (b1 ++ b2)).length ≤ 1000000000000) :
 Calls Tryz.prog 23 #[.agg #[v0, v1, v2]] W0 (Gives 5 W0 (b0 ++ (b1 ++ b2))) := by
 have H0 := hid (St.begin W0 #[v0, v1, v2] 27 132)
 have C := fun (w0 : World) (a B : Nat) (h : St 132 W0 [(B, .cells #[v0, v1, v2] 27 (0, 0))] a w0 []) => wCall_any h e0 e1 e2 (by rw [List.length_nil, Nat.zero_add]; exact hl)
 have CH := hid C
 clear C hl e0 e1 e2
 go_enter Tryz.func23, Tryz.ntmps23
 go_upto_region 2 with fail
 generalize (W0.alloc (.cells #[v0, v1, v2] 27)).alloc (.cells #[.slice none 0 0] 132) = w0 at *
 obtain ⟨B, hB⟩ : ∃ B, B = W0.heap.size := ⟨_, rfl⟩
 obtain ⟨a, ha⟩ : ∃ a, a = W0.heap.size + 1 := ⟨_, rfl⟩
 rw [← ha, ← hB] at H0
 try rw [← ha]
 try rw [← hB]
 clear hB ha
 have CC := hid (CH.out _ _ _ H0.out)
 have x0 := box_cell H0.out 0 v0 rfl
 have x1 := box_cell H0.out 1 v1 rfl
 have x2 := box_cell H0.out 2 v2 rfl
 go_upto_region 3 with (first | (go_at_call 69; refine CC.out.mono ?_; rintro en w1 ⟨rfl, h1⟩; have H1 := hid h1; clear h1))
 obtain ⟨cx, hx, hg⟩ := St.ends (show St 132 W0 _ a _ (b0 ++ (b1 ++ b2)) from H1.out)
 obtain ⟨z0, z1⟩ := one_cell hx
 have HG := hid hg
 clear hx hg x0 x1 x2
 go_wp2_with fail
 go_ret
 exact HG.out
end Go.Proofs.YtmdgifmigikffaaGreat
namespace Go.Proofs.YtmdgifmigikffaaGreat
open Go.RowKit Go.Deep
theorem rd_new (W : World) (l : List UInt8) (t : TypeId) (z : Nat × Nat) (n : Nat) (hn : n = l.length) (hl : l.length ≤ 1000) : Rd (W.alloc (.cells (l.map bv).toArray t z)) (.slice (some ⟨W.heap.size, 0, none⟩) n n) l := by
 subst hn
 refine ⟨some ⟨W.heap.size, 0, none⟩, l.length, rfl, Nat.le_refl _, by unfold maxLen; omega, (fun h => by cases h), fun a ha j u hu => ?_⟩
 cases ha
 rw [show Addr.add ⟨W.heap.size, 0, none⟩ j = ⟨W.heap.size, j, none⟩ from by simp [Addr.add]; omega]
 unfold World.cell?
 rw [heap_alloc_new]
 show ((l.map bv).toArray)[j]? = _
 rw [List.getElem?_toArray]
 first | exact hu | (rw [List.getElem?_map, hu]; rfl)
theorem awakeB : numL 1 ++ (numL 2 ++ textL [97]) = [1, 2, 1, 97] := by
 unfold textL
 rw [numL_lt (by decide), numL_lt (by decide), numL_lt (by decide)]
 decide
set_option maxHeartbeats 1000000 in
theorem xawake_any (w : World) : Calls Tryz.prog 4 #[] w fun e w' => e = .returned (.bool true) ∧ Below w.heap.size w w' := by
 have cv := Lib.run_convert_bytes_const (P := Tryz.prog) w 22 5 #[.int .u8 97] 1 1 Tryz.underlying22 Tryz.underlying5
 simp only [List.size_toArray, List.length_cons, List.length_nil, Nat.reduceAdd] at cv
 have hb : Below w.heap.size w (w.alloc (.cells #[.int .u8 97] 5 (1, 2))) := (Below.refl _ _).alloc (Nat.le_refl _) _
 have hr : Rd (w.alloc (.cells #[.int .u8 97] 5 (1, 2))) (.slice (some ⟨w.heap.size, 0, none⟩) 1 1) [97] := rd_new w [97] 5 (1, 2) 1 rfl (by decide)
 have C : Hid (Calls Tryz.prog 23 #[.agg #[.int .u64 1, .int .u64 2, .slice (some ⟨w.heap.size, 0, none⟩) 1 1]] (w.alloc (.cells #[.int .u8 97] 5 (1, 2))) (Gives 5 (w.alloc (.cells #[.int .u8 97] 5 (1, 2))) [1, 2, 1, 97])) := hid (by
  have := wtopCall_any (W0 := w.alloc (.cells #[.int .u8 97] 5 (1, 2))) (v0 := .int .u64 1) (v1 := .int .u64 2) (v2 := .slice (some ⟨w.heap.size, 0, none⟩) 1 1) (b0 := numL 1) (b1 := numL 2) (b2 := textL [97])
   ⟨1, by decide, rfl, rfl⟩ ⟨2, by decide, rfl, rfl⟩ ⟨_, [97], rfl, rfl, hr, by decide, rfl⟩ (by rw [awakeB]; decide)
  rw [awakeB] at this
  exact this)
 have HB := hid hb
 clear hr hb
 go_enter Tryz.func4, Tryz.ntmps4
 go_upto_region 2 with (first | (go_at_call 23; refine C.out.mono ?_; rintro en w2 ⟨vT, rfl, hx, hb2⟩; have HX := hid hx; have HB2 := hid (HB.out.trans (hb2.mono HB.out.size)); clear hx hb2))
 have hx := HX.out
 rcases hx.2 with ⟨rfl, hn⟩ | ⟨g, cap, cur, rfl, hg1, hg, hn, hc, hs, ht⟩
 · simp at hn
 have hc0 := hx.cells rfl 0 _ rfl
 have hc1 := hx.cells rfl 1 _ rfl
 have hc2 := hx.cells rfl 2 _ rfl
 have hc3 := hx.cells rfl 3 _ rfl
 simp only [WideShapes.add_plain, bv] at hc0 hc1 hc2 hc3
 have hcap : 4 ≤ cap := hn
 clear hs ht hg hx hn HX cv
 go_wp2_with fail
 go_ret
 exact ⟨rfl, HB2.out⟩
open Go.ChangeShapes Go.WideShapes Go.ChangeAt
end Go.Proofs.YtmdgifmigikffaaGreat
