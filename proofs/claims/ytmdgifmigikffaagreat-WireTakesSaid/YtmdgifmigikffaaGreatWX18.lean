import Derived.WalkKit
import Derived.OpenShut
import Derived.Test.YtmdgifmigikffaaGreatRows
import Derived.WalkSpells
import Derived.WalkLawsBesides
import Derived.Laws.AppendOwnNone
import Derived.ProofKit
import Derived.ShutString
import Derived.ChangeOld
import Derived.Below
import Derived.SizedLaws
import Derived.Deep.RegionHeld3
import Derived.Deep.Slices
import Derived.Deep.AppendLies
import Derived.Deep.RegionHeld
import Derived.Deep.Strs
import Derived.Lib.ConvBytes
import Derived.Laws.AppendOwn
import Derived.Deep.CutRange
import Derived.Deep.MidRow
import Derived.Great.Walk
import Derived.Test.YtmdgifmigikffaaGreatWX1
import Derived.Test.YtmdgifmigikffaaGreatWX2
import Derived.Test.YtmdgifmigikffaaGreatWX3
import Derived.Test.YtmdgifmigikffaaGreatWX6
import Derived.Test.YtmdgifmigikffaaGreatWX16
import Derived.Test.YtmdgifmigikffaaGreatWX17
set_option linter.unusedVariables false
set_option linter.unusedSimpArgs false
set_option maxRecDepth 100000
namespace Go.Proofs.YtmdgifmigikffaaGreat
open Go.RowKit Go.Deep
set_option maxHeartbeats 8000000 in
theorem st_Seen {w : World} {v0 v1 v2 u0 u1 u2 : Value} (e0 : Twin w .data [v0] [u0]) (e1 : Twin w .data [v1] [u1]) (e2 : Twin w (.list sPair) [v2] [u2]) :
 Calls Tryz.prog 57 #[.agg #[v0, v1, v2], .agg #[u0, u1, u2]] w (fun e w' => e = .returned (.bool true) ∧ Below w.heap.size w w') := by
 have hb : Below w.heap.size w ((w.alloc (.cells #[v0, v1, v2] 112)).alloc (.cells #[u0, u1, u2] 112)) := ((Below.refl _ _).alloc (Nat.le_refl _) _).alloc (by simp) _
 have h0 : ((w.alloc (.cells #[v0, v1, v2] 112)).alloc (.cells #[u0, u1, u2] 112)).heap[w.heap.size]? = some (.cells ([v0, v1, v2] : List Value).toArray 112 (0, 0)) := (Below.heap_alloc (w.alloc (.cells #[v0, v1, v2] 112)) (.cells #[u0, u1, u2] 112) w.heap.size (by simp)).trans (heap_alloc_new w (.cells #[v0, v1, v2] 112))
 have h1 : ((w.alloc (.cells #[v0, v1, v2] 112)).alloc (.cells #[u0, u1, u2] 112)).heap[w.heap.size + 1]? = some (.cells ([u0, u1, u2] : List Value).toArray 112 (0, 0)) := heap_alloc2_new w (.cells #[v0, v1, v2] 112) (.cells #[u0, u1, u2] 112)
 have C0 : Hid (∀ V, Below w.heap.size w V → _) := hid fun V hV => st_Span (e0.old hV) (e1.old hV)
 have C2 : Hid (∀ V, Below w.heap.size w V → _) := hid fun V hV => sm_Pair (e2.old hV)
 have HC0 : Hid (∀ V, Below ((w.alloc (.cells #[v0, v1, v2] 112)).alloc (.cells #[u0, u1, u2] 112)).heap.size ((w.alloc (.cells #[v0, v1, v2] 112)).alloc (.cells #[u0, u1, u2] 112)) V → ∀ (i : Nat) u, ([v0, v1, v2] : List Value)[i]? = some u → V.cell? ⟨w.heap.size, i, none⟩ = some u) := hid fun V hV i u hu => by have := (hV.block _ (lt_of_block h0)).trans h0; simp only [World.cell?, this]; simpa using hu
 have HC1 : Hid (∀ V, Below ((w.alloc (.cells #[v0, v1, v2] 112)).alloc (.cells #[u0, u1, u2] 112)).heap.size ((w.alloc (.cells #[v0, v1, v2] 112)).alloc (.cells #[u0, u1, u2] 112)) V → ∀ (i : Nat) u, ([u0, u1, u2] : List Value)[i]? = some u → V.cell? ⟨w.heap.size + 1, i, none⟩ = some u) := hid fun V hV i u hu => by have := (hV.block _ (lt_of_block h1)).trans h1; simp only [World.cell?, this]; simpa using hu
 have HB := hid hb
 clear hb h0 h1 e0 e1 e2
 go_enter Tryz.func57, Tryz.ntmps57
 go_upto_region 1 with fail
 generalize (w.alloc (.cells #[v0, v1, v2] 112)).alloc (.cells #[u0, u1, u2] 112) = w0 at *
 have HW0 : Hid (Below w0.heap.size w0 w0) := hid (Below.refl _ _)
 have x0 := HC0.out _ (Below.refl _ _) 0 _ rfl
 have y0 := HC1.out _ (Below.refl _ _) 0 _ rfl
 have x1 := HC0.out _ (Below.refl _ _) 1 _ rfl
 have y1 := HC1.out _ (Below.refl _ _) 1 _ rfl
 have CA0 := hid (C0.out _ HB.out)
 go_wp2_with (first | (go_at_call 53; refine CA0.out.mono ?_; rintro en r1 ⟨rfl, hb0⟩; have HW1 := hid (HW0.out.trans (hb0.mono HW0.out.size)); clear hb0; have CA1 := hid (C2.out _ (HB.out.trans (HW1.out.mono HB.out.size))); clear x0 y0; clear x1 y1; have x2_0 := HC0.out _ HW1.out 2 _ rfl; have y2_0 := HC1.out _ HW1.out 2 _ rfl) | (go_at_call 54; refine CA1.out.mono ?_; rintro en r2 ⟨rfl, hb1⟩; have HW2 := hid (HW1.out.trans (hb1.mono HW1.out.size)); clear hb1; clear x2_0 y2_0))
 go_ret
 exact ⟨rfl, HB.out.trans (HW2.out.mono HB.out.size)⟩
set_option maxHeartbeats 8000000 in
theorem sm_Seen {w : World} {v1 v2 : Value} (h : Twin w (.list sSeen) [v1] [v2]) :
 Calls Tryz.prog 56 #[v1, v2, (.func (.func 57) #[] #[])] w (fun e w' => e = .returned (.bool true) ∧ Below w.heap.size w w') := by
 obtain ⟨a1, a2, n, c1, c2, M1, M2, rfl, rfl, hL1, hL2, hM⟩ := tw_list h
 have hc1 := hL1.cap.1
 have hc2 := hL2.cap.1
 have hn6 := hL1.cap.2.1
 have HL1 := hid hL1
 have HL2 := hid hL2
 have HM := hid hM
 clear h hL1 hL2 hM
 go_enter Tryz.func56, Tryz.ntmps56
 go_wp2_with fail
 go_loopw [7] (fun i wr => ∃ k, k ≤ n ∧ i = .int .i64 (k : Int) ∧ Below w.heap.size w wr) (fun i _ => n - (intOf i).toNat)
 case atStart => exact ⟨0, by omega, rfl, Below.refl _ _⟩
 case round =>
  obtain ⟨k, hk, rfl, hb⟩ := hrel
  have HB := hid hb
  clear hb
  by_cases hlt : k < n
  · have hki : (k : Int) < (n : Int) := by omega
    obtain ⟨x, y, bk1, o1, bk2, o2, hxy, rfl, rfl, hcx, hcy⟩ := tw_get HL1.out HL2.out HM.out (by decide) hlt
    obtain ⟨v0, v1, v2, u0, u1, u2, rfl, rfl, e0, e1, e2⟩ := Seen_twin hxy
    have CF : Hid (∀ V, Below w.heap.size w V → Calls Tryz.prog 57 #[.agg #[v0, v1, v2], .agg #[u0, u1, u2]] V (fun e w' => e = .returned (.bool true) ∧ Below V.heap.size V w')) := hid fun V hV => st_Seen (e0.old hV) (e1.old hV) (e2.old hV)
    have hX : ∀ V, Below w.heap.size w V → ∀ (j : Nat) u, ([v0, v1, v2] : List Value)[j]? = some u → V.cell? ⟨bk1, o1 + k * 3 + j, none⟩ = some u := hcx
    have hY : ∀ V, Below w.heap.size w V → ∀ (j : Nat) u, ([u0, u1, u2] : List Value)[j]? = some u → V.cell? ⟨bk2, o2 + k * 3 + j, none⟩ = some u := hcy
    have HX := hid hX
    have HY := hid hY
    clear hX hY hcx hcy
    go_upto_region 6 with fail
    have HWd : Hid (Below w.heap.size w wr.drew) := hid (HB.out.trans ((show Below wr.heap.size wr wr.drew from ⟨rfl, rfl, rfl, Nat.le_refl _, fun _ _ => rfl⟩).mono HB.out.size))
    obtain ⟨S9, hS9⟩ : ∃ S9 : World → Prop, S9 = fun V => Below w.heap.size w V := ⟨_, rfl⟩
    have HS : Hid (∀ V, Below w.heap.size w V → S9 V) := hid fun V h => by rw [hS9]; exact h
    have HSI : Hid (∀ V, S9 V → Below w.heap.size w V) := hid fun V h => by rw [hS9] at h; exact h
    clear hS9
    refine wp_region_noPanic ?_
    refine wp_region_held_drew (S := S9) (by kernel_rfl) (HS.out _ HWd.out) (fun hHeld => ?_)
    generalize wr.drew = Wd at *
    refine tkH 0 ((.func (.func 57) #[] #[])) rfl (by kernel_rfl) (fun _ _ _ => False.elim) hHeld (Or.inl ⟨by rfl, fun W9 hW => by clear hHeld; simp only [jA, jB, jC]; go_simp⟩) ?_
    simp only [Act.put, jA, jB, jC, jD, jE, jF]
    refine tkH 1 ((.slice (some ⟨bk1, o1, none⟩) n c1)) rfl (by kernel_rfl) (fun _ _ _ => False.elim) hHeld (Or.inl ⟨by rfl, fun W9 hW => by clear hHeld; simp only [jA, jB, jC]; go_simp⟩) ?_
    simp only [Act.put, jA, jB, jC, jD, jE, jF]
    refine tkH 2 ((.int .i64 (k : Int))) rfl (by kernel_rfl) (fun _ _ _ => False.elim) hHeld (Or.inl ⟨by rfl, fun W9 hW => by clear hHeld; simp only [jA, jB, jC]; go_simp⟩) ?_
    simp only [Act.put, jA, jB, jC, jD, jE, jF]
    refine tkH 3 ((.pointer (some ⟨bk1, o1 + k * 3, none⟩))) rfl (by kernel_rfl) (fun _ _ _ => False.elim) hHeld (Or.inl ⟨by rfl, fun W9 hW => by clear hHeld; simp only [jA, jB, jC]; go_simp⟩) ?_
    simp only [Act.put, jA, jB, jC, jD, jE, jF]
    refine tkH 4 (.agg #[v0, v1, v2]) rfl (by kernel_rfl) (fun _ _ _ => False.elim) hHeld (Or.inl ⟨by rfl, fun W9 hW => by have hWW := HSI.out _ hW; have q0 := HX.out _ hWW 0 _ rfl; rw [Nat.add_zero] at q0; have q1 := HX.out _ hWW 1 _ rfl; have q2 := HX.out _ hWW 2 _ rfl; clear hHeld; simp only [jA, jB, jC]; go_simp⟩) ?_
    simp only [Act.put, jA, jB, jC, jD, jE, jF]
    refine tkH 5 ((.slice (some ⟨bk2, o2, none⟩) n c2)) rfl (by kernel_rfl) (fun _ _ _ => False.elim) hHeld (Or.inl ⟨by rfl, fun W9 hW => by clear hHeld; simp only [jA, jB, jC]; go_simp⟩) ?_
    simp only [Act.put, jA, jB, jC, jD, jE, jF]
    refine tkH 6 ((.int .i64 (k : Int))) rfl (by kernel_rfl) (fun _ _ _ => False.elim) hHeld (Or.inl ⟨by rfl, fun W9 hW => by clear hHeld; simp only [jA, jB, jC]; go_simp⟩) ?_
    simp only [Act.put, jA, jB, jC, jD, jE, jF]
    refine tkH 7 ((.pointer (some ⟨bk2, o2 + k * 3, none⟩))) rfl (by kernel_rfl) (fun _ _ _ => False.elim) hHeld (Or.inl ⟨by rfl, fun W9 hW => by clear hHeld; simp only [jA, jB, jC]; go_simp⟩) ?_
    simp only [Act.put, jA, jB, jC, jD, jE, jF]
    refine tkH 8 (.agg #[u0, u1, u2]) rfl (by kernel_rfl) (fun _ _ _ => False.elim) hHeld (Or.inl ⟨by rfl, fun W9 hW => by have hWW := HSI.out _ hW; have q0 := HY.out _ hWW 0 _ rfl; rw [Nat.add_zero] at q0; have q1 := HY.out _ hWW 1 _ rfl; have q2 := HY.out _ hWW 2 _ rfl; clear hHeld; simp only [jA, jB, jC]; go_simp⟩) ?_
    simp only [Act.put, jA, jB, jC, jD, jE, jF]
    have CC := hid (CF.out _ HWd.out)
    refine rdH 9 (by kernel_rfl) rfl fun K hK => ?_
    go_simp
    go_wp2_with (first | (go_at_call 57; refine CC.out.mono ?_; rintro en wE ⟨rfl, hbE⟩; have HBE := hid (HWd.out.trans (hbE.mono HWd.out.size)); clear hbE))
    refine hK.out _ _ (HS.out _ HBE.out) (fun hHeld => ?_)
    clear hK K
    refine tkH 10 (.bool false) rfl (by kernel_rfl) (fun _ _ _ => False.elim) hHeld (Or.inl ⟨by rfl, fun W9 hW => by clear hHeld; simp only [jA, jB, jC]; go_simp⟩) ?_
    simp only [Act.put, jA, jB, jC, jD, jE, jF]
    refine wpAnyH_done (by kernel_rfl) ?_ _
    refine NoPanic.normal ?_
    go_wp2_with fail
    go_roundw
    case rel => exact ⟨k + 1, by omega, by go_num, HBE.out⟩
    case measure => simp [intOf]; omega
  · obtain rfl : n = k := by omega
    have hki : ¬ (n : Int) < (n : Int) := by omega
    go_wp2_with fail
    go_ret
    exact ⟨rfl, HB.out⟩
set_option maxHeartbeats 8000000 in
theorem st_Owner {w : World} {v0 v1 u0 u1 : Value} (e0 : Twin w .int [v0] [u0]) (e1 : Twin w .data [v1] [u1]) :
 Calls Tryz.prog 124 #[.agg #[v0, v1], .agg #[u0, u1]] w (fun e w' => e = .returned (.bool true) ∧ Below w.heap.size w w') := by
 obtain ⟨z0, rfl, rfl⟩ := tw_int e0
 have hb : Below w.heap.size w ((w.alloc (.cells #[(.int .i64 z0), v1] 196)).alloc (.cells #[(.int .i64 z0), u1] 196)) := ((Below.refl _ _).alloc (Nat.le_refl _) _).alloc (by simp) _
 have h0 : ((w.alloc (.cells #[(.int .i64 z0), v1] 196)).alloc (.cells #[(.int .i64 z0), u1] 196)).heap[w.heap.size]? = some (.cells ([(.int .i64 z0), v1] : List Value).toArray 196 (0, 0)) := (Below.heap_alloc (w.alloc (.cells #[(.int .i64 z0), v1] 196)) (.cells #[(.int .i64 z0), u1] 196) w.heap.size (by simp)).trans (heap_alloc_new w (.cells #[(.int .i64 z0), v1] 196))
 have h1 : ((w.alloc (.cells #[(.int .i64 z0), v1] 196)).alloc (.cells #[(.int .i64 z0), u1] 196)).heap[w.heap.size + 1]? = some (.cells ([(.int .i64 z0), u1] : List Value).toArray 196 (0, 0)) := heap_alloc2_new w (.cells #[(.int .i64 z0), v1] 196) (.cells #[(.int .i64 z0), u1] 196)
 have C1 : Hid (∀ V, Below w.heap.size w V → _) := hid fun V hV => tw_Bytes (e1.old hV)
 have HC0 : Hid (∀ V, Below ((w.alloc (.cells #[(.int .i64 z0), v1] 196)).alloc (.cells #[(.int .i64 z0), u1] 196)).heap.size ((w.alloc (.cells #[(.int .i64 z0), v1] 196)).alloc (.cells #[(.int .i64 z0), u1] 196)) V → ∀ (i : Nat) u, ([(.int .i64 z0), v1] : List Value)[i]? = some u → V.cell? ⟨w.heap.size, i, none⟩ = some u) := hid fun V hV i u hu => by have := (hV.block _ (lt_of_block h0)).trans h0; simp only [World.cell?, this]; simpa using hu
 have HC1 : Hid (∀ V, Below ((w.alloc (.cells #[(.int .i64 z0), v1] 196)).alloc (.cells #[(.int .i64 z0), u1] 196)).heap.size ((w.alloc (.cells #[(.int .i64 z0), v1] 196)).alloc (.cells #[(.int .i64 z0), u1] 196)) V → ∀ (i : Nat) u, ([(.int .i64 z0), u1] : List Value)[i]? = some u → V.cell? ⟨w.heap.size + 1, i, none⟩ = some u) := hid fun V hV i u hu => by have := (hV.block _ (lt_of_block h1)).trans h1; simp only [World.cell?, this]; simpa using hu
 have HB := hid hb
 clear hb h0 h1 e0 e1
 go_enter Tryz.func124, Tryz.ntmps124
 go_upto_region 1 with fail
 generalize (w.alloc (.cells #[(.int .i64 z0), v1] 196)).alloc (.cells #[(.int .i64 z0), u1] 196) = w0 at *
 have HW0 : Hid (Below w0.heap.size w0 w0) := hid (Below.refl _ _)
 have x0 := HC0.out _ (Below.refl _ _) 0 _ rfl
 have y0 := HC1.out _ (Below.refl _ _) 0 _ rfl
 have x1 := HC0.out _ (Below.refl _ _) 1 _ rfl
 have y1 := HC1.out _ (Below.refl _ _) 1 _ rfl
 have CA0 := hid (C1.out _ HB.out)
 go_wp2_with (first | (go_at_call 52; refine CA0.out.mono ?_; rintro en r1 ⟨rfl, hb0⟩; have HW1 := hid (HW0.out.trans (hb0.mono HW0.out.size)); clear hb0; clear x0 y0; clear x1 y1))
 go_ret
 exact ⟨rfl, HB.out.trans (HW1.out.mono HB.out.size)⟩
set_option maxHeartbeats 8000000 in
theorem sm_Owner {w : World} {v1 v2 : Value} (h : Twin w (.list sOwner) [v1] [v2]) :
 Calls Tryz.prog 123 #[v1, v2, (.func (.func 124) #[] #[])] w (fun e w' => e = .returned (.bool true) ∧ Below w.heap.size w w') := by
 obtain ⟨a1, a2, n, c1, c2, M1, M2, rfl, rfl, hL1, hL2, hM⟩ := tw_list h
 have hc1 := hL1.cap.1
 have hc2 := hL2.cap.1
 have hn6 := hL1.cap.2.1
 have HL1 := hid hL1
 have HL2 := hid hL2
 have HM := hid hM
 clear h hL1 hL2 hM
 go_enter Tryz.func123, Tryz.ntmps123
 go_wp2_with fail
 go_loopw [7] (fun i wr => ∃ k, k ≤ n ∧ i = .int .i64 (k : Int) ∧ Below w.heap.size w wr) (fun i _ => n - (intOf i).toNat)
 case atStart => exact ⟨0, by omega, rfl, Below.refl _ _⟩
 case round =>
  obtain ⟨k, hk, rfl, hb⟩ := hrel
  have HB := hid hb
  clear hb
  by_cases hlt : k < n
  · have hki : (k : Int) < (n : Int) := by omega
    obtain ⟨x, y, bk1, o1, bk2, o2, hxy, rfl, rfl, hcx, hcy⟩ := tw_get HL1.out HL2.out HM.out (by decide) hlt
    obtain ⟨v0, v1, u0, u1, rfl, rfl, e0, e1⟩ := Owner_twin hxy
    have CF : Hid (∀ V, Below w.heap.size w V → Calls Tryz.prog 124 #[.agg #[v0, v1], .agg #[u0, u1]] V (fun e w' => e = .returned (.bool true) ∧ Below V.heap.size V w')) := hid fun V hV => st_Owner (e0.old hV) (e1.old hV)
    have hX : ∀ V, Below w.heap.size w V → ∀ (j : Nat) u, ([v0, v1] : List Value)[j]? = some u → V.cell? ⟨bk1, o1 + k * 2 + j, none⟩ = some u := hcx
    have hY : ∀ V, Below w.heap.size w V → ∀ (j : Nat) u, ([u0, u1] : List Value)[j]? = some u → V.cell? ⟨bk2, o2 + k * 2 + j, none⟩ = some u := hcy
    have HX := hid hX
    have HY := hid hY
    clear hX hY hcx hcy
    go_upto_region 6 with fail
    have HWd : Hid (Below w.heap.size w wr.drew) := hid (HB.out.trans ((show Below wr.heap.size wr wr.drew from ⟨rfl, rfl, rfl, Nat.le_refl _, fun _ _ => rfl⟩).mono HB.out.size))
    obtain ⟨S9, hS9⟩ : ∃ S9 : World → Prop, S9 = fun V => Below w.heap.size w V := ⟨_, rfl⟩
    have HS : Hid (∀ V, Below w.heap.size w V → S9 V) := hid fun V h => by rw [hS9]; exact h
    have HSI : Hid (∀ V, S9 V → Below w.heap.size w V) := hid fun V h => by rw [hS9] at h; exact h
    clear hS9
    refine wp_region_noPanic ?_
    refine wp_region_held_drew (S := S9) (by kernel_rfl) (HS.out _ HWd.out) (fun hHeld => ?_)
    generalize wr.drew = Wd at *
    refine tkH 0 ((.func (.func 124) #[] #[])) rfl (by kernel_rfl) (fun _ _ _ => False.elim) hHeld (Or.inl ⟨by rfl, fun W9 hW => by clear hHeld; simp only [jA, jB, jC]; go_simp⟩) ?_
    simp only [Act.put, jA, jB, jC, jD, jE, jF]
    refine tkH 1 ((.slice (some ⟨bk1, o1, none⟩) n c1)) rfl (by kernel_rfl) (fun _ _ _ => False.elim) hHeld (Or.inl ⟨by rfl, fun W9 hW => by clear hHeld; simp only [jA, jB, jC]; go_simp⟩) ?_
    simp only [Act.put, jA, jB, jC, jD, jE, jF]
    refine tkH 2 ((.int .i64 (k : Int))) rfl (by kernel_rfl) (fun _ _ _ => False.elim) hHeld (Or.inl ⟨by rfl, fun W9 hW => by clear hHeld; simp only [jA, jB, jC]; go_simp⟩) ?_
    simp only [Act.put, jA, jB, jC, jD, jE, jF]
    refine tkH 3 ((.pointer (some ⟨bk1, o1 + k * 2, none⟩))) rfl (by kernel_rfl) (fun _ _ _ => False.elim) hHeld (Or.inl ⟨by rfl, fun W9 hW => by clear hHeld; simp only [jA, jB, jC]; go_simp⟩) ?_
    simp only [Act.put, jA, jB, jC, jD, jE, jF]
    refine tkH 4 (.agg #[v0, v1]) rfl (by kernel_rfl) (fun _ _ _ => False.elim) hHeld (Or.inl ⟨by rfl, fun W9 hW => by have hWW := HSI.out _ hW; have q0 := HX.out _ hWW 0 _ rfl; rw [Nat.add_zero] at q0; have q1 := HX.out _ hWW 1 _ rfl; clear hHeld; simp only [jA, jB, jC]; go_simp⟩) ?_
    simp only [Act.put, jA, jB, jC, jD, jE, jF]
    refine tkH 5 ((.slice (some ⟨bk2, o2, none⟩) n c2)) rfl (by kernel_rfl) (fun _ _ _ => False.elim) hHeld (Or.inl ⟨by rfl, fun W9 hW => by clear hHeld; simp only [jA, jB, jC]; go_simp⟩) ?_
    simp only [Act.put, jA, jB, jC, jD, jE, jF]
    refine tkH 6 ((.int .i64 (k : Int))) rfl (by kernel_rfl) (fun _ _ _ => False.elim) hHeld (Or.inl ⟨by rfl, fun W9 hW => by clear hHeld; simp only [jA, jB, jC]; go_simp⟩) ?_
    simp only [Act.put, jA, jB, jC, jD, jE, jF]
    refine tkH 7 ((.pointer (some ⟨bk2, o2 + k * 2, none⟩))) rfl (by kernel_rfl) (fun _ _ _ => False.elim) hHeld (Or.inl ⟨by rfl, fun W9 hW => by clear hHeld; simp only [jA, jB, jC]; go_simp⟩) ?_
    simp only [Act.put, jA, jB, jC, jD, jE, jF]
    refine tkH 8 (.agg #[u0, u1]) rfl (by kernel_rfl) (fun _ _ _ => False.elim) hHeld (Or.inl ⟨by rfl, fun W9 hW => by have hWW := HSI.out _ hW; have q0 := HY.out _ hWW 0 _ rfl; rw [Nat.add_zero] at q0; have q1 := HY.out _ hWW 1 _ rfl; clear hHeld; simp only [jA, jB, jC]; go_simp⟩) ?_
    simp only [Act.put, jA, jB, jC, jD, jE, jF]
    have CC := hid (CF.out _ HWd.out)
    refine rdH 9 (by kernel_rfl) rfl fun K hK => ?_
    go_simp
    go_wp2_with (first | (go_at_call 124; refine CC.out.mono ?_; rintro en wE ⟨rfl, hbE⟩; have HBE := hid (HWd.out.trans (hbE.mono HWd.out.size)); clear hbE))
    refine hK.out _ _ (HS.out _ HBE.out) (fun hHeld => ?_)
    clear hK K
    refine tkH 10 (.bool false) rfl (by kernel_rfl) (fun _ _ _ => False.elim) hHeld (Or.inl ⟨by rfl, fun W9 hW => by clear hHeld; simp only [jA, jB, jC]; go_simp⟩) ?_
    simp only [Act.put, jA, jB, jC, jD, jE, jF]
    refine wpAnyH_done (by kernel_rfl) ?_ _
    refine NoPanic.normal ?_
    go_wp2_with fail
    go_roundw
    case rel => exact ⟨k + 1, by omega, by go_num, HBE.out⟩
    case measure => simp [intOf]; omega
  · obtain rfl : n = k := by omega
    have hki : ¬ (n : Int) < (n : Int) := by omega
    go_wp2_with fail
    go_ret
    exact ⟨rfl, HB.out⟩
end Go.Proofs.YtmdgifmigikffaaGreat
namespace Go.Proofs.YtmdgifmigikffaaGreat
open Go.RowKit Go.Deep
set_option maxHeartbeats 8000000 in
theorem st_Routes {w : World} {v0 v1 v2 v3 v4 u0 u1 u2 u3 u4 : Value} (e0 : Twin w .int [v0] [u0]) (e1 : Twin w .int [v1] [u1]) (e2 : Twin w (.list sOwner) [v2] [u2]) (e3 : Twin w .int [v3] [u3]) (e4 : Twin w .data [v4] [u4]) :
 Calls Tryz.prog 63 #[.agg #[v0, v1, v2, v3, v4], .agg #[u0, u1, u2, u3, u4]] w (fun e w' => e = .returned (.bool true) ∧ Below w.heap.size w w') := by
 obtain ⟨z0, rfl, rfl⟩ := tw_int e0
 obtain ⟨z1, rfl, rfl⟩ := tw_int e1
 obtain ⟨z3, rfl, rfl⟩ := tw_int e3
 have hb : Below w.heap.size w ((w.alloc (.cells #[(.int .i64 z0), (.int .i64 z1), v2, (.int .i64 z3), v4] 53)).alloc (.cells #[(.int .i64 z0), (.int .i64 z1), u2, (.int .i64 z3), u4] 53)) := ((Below.refl _ _).alloc (Nat.le_refl _) _).alloc (by simp) _
 have h0 : ((w.alloc (.cells #[(.int .i64 z0), (.int .i64 z1), v2, (.int .i64 z3), v4] 53)).alloc (.cells #[(.int .i64 z0), (.int .i64 z1), u2, (.int .i64 z3), u4] 53)).heap[w.heap.size]? = some (.cells ([(.int .i64 z0), (.int .i64 z1), v2, (.int .i64 z3), v4] : List Value).toArray 53 (0, 0)) := (Below.heap_alloc (w.alloc (.cells #[(.int .i64 z0), (.int .i64 z1), v2, (.int .i64 z3), v4] 53)) (.cells #[(.int .i64 z0), (.int .i64 z1), u2, (.int .i64 z3), u4] 53) w.heap.size (by simp)).trans (heap_alloc_new w (.cells #[(.int .i64 z0), (.int .i64 z1), v2, (.int .i64 z3), v4] 53))
 have h1 : ((w.alloc (.cells #[(.int .i64 z0), (.int .i64 z1), v2, (.int .i64 z3), v4] 53)).alloc (.cells #[(.int .i64 z0), (.int .i64 z1), u2, (.int .i64 z3), u4] 53)).heap[w.heap.size + 1]? = some (.cells ([(.int .i64 z0), (.int .i64 z1), u2, (.int .i64 z3), u4] : List Value).toArray 53 (0, 0)) := heap_alloc2_new w (.cells #[(.int .i64 z0), (.int .i64 z1), v2, (.int .i64 z3), v4] 53) (.cells #[(.int .i64 z0), (.int .i64 z1), u2, (.int .i64 z3), u4] 53)
 have C2 : Hid (∀ V, Below w.heap.size w V → _) := hid fun V hV => sm_Owner (e2.old hV)
 have C4 : Hid (∀ V, Below w.heap.size w V → _) := hid fun V hV => tw_Bytes (e4.old hV)
 have HC0 : Hid (∀ V, Below ((w.alloc (.cells #[(.int .i64 z0), (.int .i64 z1), v2, (.int .i64 z3), v4] 53)).alloc (.cells #[(.int .i64 z0), (.int .i64 z1), u2, (.int .i64 z3), u4] 53)).heap.size ((w.alloc (.cells #[(.int .i64 z0), (.int .i64 z1), v2, (.int .i64 z3), v4] 53)).alloc (.cells #[(.int .i64 z0), (.int .i64 z1), u2, (.int .i64 z3), u4] 53)) V → ∀ (i : Nat) u, ([(.int .i64 z0), (.int .i64 z1), v2, (.int .i64 z3), v4] : List Value)[i]? = some u → V.cell? ⟨w.heap.size, i, none⟩ = some u) := hid fun V hV i u hu => by have := (hV.block _ (lt_of_block h0)).trans h0; simp only [World.cell?, this]; simpa using hu
 have HC1 : Hid (∀ V, Below ((w.alloc (.cells #[(.int .i64 z0), (.int .i64 z1), v2, (.int .i64 z3), v4] 53)).alloc (.cells #[(.int .i64 z0), (.int .i64 z1), u2, (.int .i64 z3), u4] 53)).heap.size ((w.alloc (.cells #[(.int .i64 z0), (.int .i64 z1), v2, (.int .i64 z3), v4] 53)).alloc (.cells #[(.int .i64 z0), (.int .i64 z1), u2, (.int .i64 z3), u4] 53)) V → ∀ (i : Nat) u, ([(.int .i64 z0), (.int .i64 z1), u2, (.int .i64 z3), u4] : List Value)[i]? = some u → V.cell? ⟨w.heap.size + 1, i, none⟩ = some u) := hid fun V hV i u hu => by have := (hV.block _ (lt_of_block h1)).trans h1; simp only [World.cell?, this]; simpa using hu
 have HB := hid hb
 clear hb h0 h1 e0 e1 e2 e3 e4
 go_enter Tryz.func63, Tryz.ntmps63
 go_upto_region 1 with fail
 generalize (w.alloc (.cells #[(.int .i64 z0), (.int .i64 z1), v2, (.int .i64 z3), v4] 53)).alloc (.cells #[(.int .i64 z0), (.int .i64 z1), u2, (.int .i64 z3), u4] 53) = w0 at *
 have HW0 : Hid (Below w0.heap.size w0 w0) := hid (Below.refl _ _)
 have x0 := HC0.out _ (Below.refl _ _) 0 _ rfl
 have y0 := HC1.out _ (Below.refl _ _) 0 _ rfl
 have x1 := HC0.out _ (Below.refl _ _) 1 _ rfl
 have y1 := HC1.out _ (Below.refl _ _) 1 _ rfl
 have x2 := HC0.out _ (Below.refl _ _) 2 _ rfl
 have y2 := HC1.out _ (Below.refl _ _) 2 _ rfl
 have CA0 := hid (C2.out _ HB.out)
 go_wp2_with (first | (go_at_call 123; refine CA0.out.mono ?_; rintro en r1 ⟨rfl, hb0⟩; have HW1 := hid (HW0.out.trans (hb0.mono HW0.out.size)); clear hb0; have CA1 := hid (C4.out _ (HB.out.trans (HW1.out.mono HB.out.size))); clear x0 y0; clear x1 y1; clear x2 y2; have x3_0 := HC0.out _ HW1.out 3 _ rfl; have y3_0 := HC1.out _ HW1.out 3 _ rfl; have x4_0 := HC0.out _ HW1.out 4 _ rfl; have y4_0 := HC1.out _ HW1.out 4 _ rfl) | (go_at_call 52; refine CA1.out.mono ?_; rintro en r2 ⟨rfl, hb1⟩; have HW2 := hid (HW1.out.trans (hb1.mono HW1.out.size)); clear hb1; clear x3_0 y3_0; clear x4_0 y4_0))
 go_ret
 exact ⟨rfl, HB.out.trans (HW2.out.mono HB.out.size)⟩
set_option maxHeartbeats 8000000 in
theorem st_Call {w : World} {v0 v1 v2 u0 u1 u2 : Value} (e0 : Twin w .num [v0] [u0]) (e1 : Twin w .num [v1] [u1]) (e2 : Twin w .data [v2] [u2]) :
 Calls Tryz.prog 16 #[.agg #[v0, v1, v2], .agg #[u0, u1, u2]] w (fun e w' => e = .returned (.bool true) ∧ Below w.heap.size w w') := by
 obtain ⟨z0, rfl, rfl⟩ := tw_num e0
 obtain ⟨z1, rfl, rfl⟩ := tw_num e1
 have hb : Below w.heap.size w ((w.alloc (.cells #[(.int .u64 (z0 : Int)), (.int .u64 (z1 : Int)), v2] 27)).alloc (.cells #[(.int .u64 (z0 : Int)), (.int .u64 (z1 : Int)), u2] 27)) := ((Below.refl _ _).alloc (Nat.le_refl _) _).alloc (by simp) _
 have h0 : ((w.alloc (.cells #[(.int .u64 (z0 : Int)), (.int .u64 (z1 : Int)), v2] 27)).alloc (.cells #[(.int .u64 (z0 : Int)), (.int .u64 (z1 : Int)), u2] 27)).heap[w.heap.size]? = some (.cells ([(.int .u64 (z0 : Int)), (.int .u64 (z1 : Int)), v2] : List Value).toArray 27 (0, 0)) := (Below.heap_alloc (w.alloc (.cells #[(.int .u64 (z0 : Int)), (.int .u64 (z1 : Int)), v2] 27)) (.cells #[(.int .u64 (z0 : Int)), (.int .u64 (z1 : Int)), u2] 27) w.heap.size (by simp)).trans (heap_alloc_new w (.cells #[(.int .u64 (z0 : Int)), (.int .u64 (z1 : Int)), v2] 27))
 have h1 : ((w.alloc (.cells #[(.int .u64 (z0 : Int)), (.int .u64 (z1 : Int)), v2] 27)).alloc (.cells #[(.int .u64 (z0 : Int)), (.int .u64 (z1 : Int)), u2] 27)).heap[w.heap.size + 1]? = some (.cells ([(.int .u64 (z0 : Int)), (.int .u64 (z1 : Int)), u2] : List Value).toArray 27 (0, 0)) := heap_alloc2_new w (.cells #[(.int .u64 (z0 : Int)), (.int .u64 (z1 : Int)), v2] 27) (.cells #[(.int .u64 (z0 : Int)), (.int .u64 (z1 : Int)), u2] 27)
 have C2 : Hid (∀ V, Below w.heap.size w V → _) := hid fun V hV => tw_Bytes (e2.old hV)
 have HC0 : Hid (∀ V, Below ((w.alloc (.cells #[(.int .u64 (z0 : Int)), (.int .u64 (z1 : Int)), v2] 27)).alloc (.cells #[(.int .u64 (z0 : Int)), (.int .u64 (z1 : Int)), u2] 27)).heap.size ((w.alloc (.cells #[(.int .u64 (z0 : Int)), (.int .u64 (z1 : Int)), v2] 27)).alloc (.cells #[(.int .u64 (z0 : Int)), (.int .u64 (z1 : Int)), u2] 27)) V → ∀ (i : Nat) u, ([(.int .u64 (z0 : Int)), (.int .u64 (z1 : Int)), v2] : List Value)[i]? = some u → V.cell? ⟨w.heap.size, i, none⟩ = some u) := hid fun V hV i u hu => by have := (hV.block _ (lt_of_block h0)).trans h0; simp only [World.cell?, this]; simpa using hu
 have HC1 : Hid (∀ V, Below ((w.alloc (.cells #[(.int .u64 (z0 : Int)), (.int .u64 (z1 : Int)), v2] 27)).alloc (.cells #[(.int .u64 (z0 : Int)), (.int .u64 (z1 : Int)), u2] 27)).heap.size ((w.alloc (.cells #[(.int .u64 (z0 : Int)), (.int .u64 (z1 : Int)), v2] 27)).alloc (.cells #[(.int .u64 (z0 : Int)), (.int .u64 (z1 : Int)), u2] 27)) V → ∀ (i : Nat) u, ([(.int .u64 (z0 : Int)), (.int .u64 (z1 : Int)), u2] : List Value)[i]? = some u → V.cell? ⟨w.heap.size + 1, i, none⟩ = some u) := hid fun V hV i u hu => by have := (hV.block _ (lt_of_block h1)).trans h1; simp only [World.cell?, this]; simpa using hu
 have HB := hid hb
 clear hb h0 h1 e0 e1 e2
 go_enter Tryz.func16, Tryz.ntmps16
 go_upto_region 1 with fail
 generalize (w.alloc (.cells #[(.int .u64 (z0 : Int)), (.int .u64 (z1 : Int)), v2] 27)).alloc (.cells #[(.int .u64 (z0 : Int)), (.int .u64 (z1 : Int)), u2] 27) = w0 at *
 have HW0 : Hid (Below w0.heap.size w0 w0) := hid (Below.refl _ _)
 have x0 := HC0.out _ (Below.refl _ _) 0 _ rfl
 have y0 := HC1.out _ (Below.refl _ _) 0 _ rfl
 have x1 := HC0.out _ (Below.refl _ _) 1 _ rfl
 have y1 := HC1.out _ (Below.refl _ _) 1 _ rfl
 have x2 := HC0.out _ (Below.refl _ _) 2 _ rfl
 have y2 := HC1.out _ (Below.refl _ _) 2 _ rfl
 have CA0 := hid (C2.out _ HB.out)
 go_wp2_with (first | (go_at_call 52; refine CA0.out.mono ?_; rintro en r1 ⟨rfl, hb0⟩; have HW1 := hid (HW0.out.trans (hb0.mono HW0.out.size)); clear hb0; clear x0 y0; clear x1 y1; clear x2 y2))
 go_ret
 exact ⟨rfl, HB.out.trans (HW1.out.mono HB.out.size)⟩
end Go.Proofs.YtmdgifmigikffaaGreat
namespace Go.Proofs.YtmdgifmigikffaaGreat
open Go.RowKit Go.Deep
set_option maxHeartbeats 8000000 in
theorem st_Command {w : World} {v0 v1 v2 v3 v4 v5 v6 v7 v8 v9 v10 v11 v12 v13 v14 v15 v16 v17 v18 v19 v20 v21 v22 v23 v24 u0 u1 u2 u3 u4 u5 u6 u7 u8 u9 u10 u11 u12 u13 u14 u15 u16 u17 u18 u19 u20 u21 u22 u23 u24 : Value} (e0 : Twin w .int [v0] [u0]) (e1 : Twin w .int [v1] [u1]) (e2 : Twin w .num [v2] [u2]) (e3 : Twin w .int [v3] [u3]) (e4 : Twin w .int [v4] [u4]) (e5 : Twin w .int [v5] [u5]) (e6 : Twin w .bool [v6] [u6]) (e7 : Twin w .data [v7] [u7]) (e8 : Twin w .data [v8] [u8]) (e9 : Twin w .data [v9] [u9]) (e10 : Twin w (.list sPair) [v10] [u10]) (e11 : Twin w (.list sSeen) [v11] [u11]) (e12 : Twin w (.list sWrite) [v12] [u12]) (e13 : Twin w .int [v13] [u13]) (e14 : Twin w .name [v14] [u14]) (e15 : Twin w (.list sColumn) [v15] [u15]) (e16 : Twin w (.list .int) [v16] [u16]) (e17 : Twin w .int [v17] [u17]) (e18 : Twin w .int [v18] [u18]) (e19 : Twin w .name [v19] [u19]) (e20 : Twin w (.list .int) [v20] [u20]) (e21 : Twin w .bool [v21] [u21]) (e22 : Twin w .int [v22] [u22]) (e23 : Twin w .bool [v23] [u23]) (e24 : Twin w .name [v24] [u24]) :
 Calls Tryz.prog 17 #[.agg #[v0, v1, v2, v3, v4, v5, v6, v7, v8, v9, v10, v11, v12, v13, v14, v15, v16, v17, v18, v19, v20, v21, v22, v23, v24], .agg #[u0, u1, u2, u3, u4, u5, u6, u7, u8, u9, u10, u11, u12, u13, u14, u15, u16, u17, u18, u19, u20, u21, u22, u23, u24]] w (fun e w' => e = .returned (.bool true) ∧ Below w.heap.size w w') := by
 obtain ⟨z0, rfl, rfl⟩ := tw_int e0
 obtain ⟨z1, rfl, rfl⟩ := tw_int e1
 obtain ⟨z2, rfl, rfl⟩ := tw_num e2
 obtain ⟨z3, rfl, rfl⟩ := tw_int e3
 obtain ⟨z4, rfl, rfl⟩ := tw_int e4
 obtain ⟨z5, rfl, rfl⟩ := tw_int e5
 obtain ⟨z6, rfl, rfl⟩ := tw_bool e6
 obtain ⟨z24, rfl, rfl⟩ := tw_name e24
 have hb : Below w.heap.size w ((w.alloc (.cells #[(.int .i64 z0), (.int .i64 z1), (.int .u64 (z2 : Int)), (.int .i64 z3), (.int .i64 z4), (.int .i64 z5), (.bool z6), v7, v8, v9, v10, v11, v12, v13, v14, v15, v16, v17, v18, v19, v20, v21, v22, v23, (.string z24)] 43)).alloc (.cells #[(.int .i64 z0), (.int .i64 z1), (.int .u64 (z2 : Int)), (.int .i64 z3), (.int .i64 z4), (.int .i64 z5), (.bool z6), u7, u8, u9, u10, u11, u12, u13, u14, u15, u16, u17, u18, u19, u20, u21, u22, u23, (.string z24)] 43)) := ((Below.refl _ _).alloc (Nat.le_refl _) _).alloc (by simp) _
 have h0 : ((w.alloc (.cells #[(.int .i64 z0), (.int .i64 z1), (.int .u64 (z2 : Int)), (.int .i64 z3), (.int .i64 z4), (.int .i64 z5), (.bool z6), v7, v8, v9, v10, v11, v12, v13, v14, v15, v16, v17, v18, v19, v20, v21, v22, v23, (.string z24)] 43)).alloc (.cells #[(.int .i64 z0), (.int .i64 z1), (.int .u64 (z2 : Int)), (.int .i64 z3), (.int .i64 z4), (.int .i64 z5), (.bool z6), u7, u8, u9, u10, u11, u12, u13, u14, u15, u16, u17, u18, u19, u20, u21, u22, u23, (.string z24)] 43)).heap[w.heap.size]? = some (.cells ([(.int .i64 z0), (.int .i64 z1), (.int .u64 (z2 : Int)), (.int .i64 z3), (.int .i64 z4), (.int .i64 z5), (.bool z6), v7, v8, v9, v10, v11, v12, v13, v14, v15, v16, v17, v18, v19, v20, v21, v22, v23, (.string z24)] : List Value).toArray 43 (0, 0)) := (Below.heap_alloc (w.alloc (.cells #[(.int .i64 z0), (.int .i64 z1), (.int .u64 (z2 : Int)), (.int .i64 z3), (.int .i64 z4), (.int .i64 z5), (.bool z6), v7, v8, v9, v10, v11, v12, v13, v14, v15, v16, v17, v18, v19, v20, v21, v22, v23, (.string z24)] 43)) (.cells #[(.int .i64 z0), (.int .i64 z1), (.int .u64 (z2 : Int)), (.int .i64 z3), (.int .i64 z4), (.int .i64 z5), (.bool z6), u7, u8, u9, u10, u11, u12, u13, u14, u15, u16, u17, u18, u19, u20, u21, u22, u23, (.string z24)] 43) w.heap.size (by simp)).trans (heap_alloc_new w (.cells #[(.int .i64 z0), (.int .i64 z1), (.int .u64 (z2 : Int)), (.int .i64 z3), (.int .i64 z4), (.int .i64 z5), (.bool z6), v7, v8, v9, v10, v11, v12, v13, v14, v15, v16, v17, v18, v19, v20, v21, v22, v23, (.string z24)] 43))
 have h1 : ((w.alloc (.cells #[(.int .i64 z0), (.int .i64 z1), (.int .u64 (z2 : Int)), (.int .i64 z3), (.int .i64 z4), (.int .i64 z5), (.bool z6), v7, v8, v9, v10, v11, v12, v13, v14, v15, v16, v17, v18, v19, v20, v21, v22, v23, (.string z24)] 43)).alloc (.cells #[(.int .i64 z0), (.int .i64 z1), (.int .u64 (z2 : Int)), (.int .i64 z3), (.int .i64 z4), (.int .i64 z5), (.bool z6), u7, u8, u9, u10, u11, u12, u13, u14, u15, u16, u17, u18, u19, u20, u21, u22, u23, (.string z24)] 43)).heap[w.heap.size + 1]? = some (.cells ([(.int .i64 z0), (.int .i64 z1), (.int .u64 (z2 : Int)), (.int .i64 z3), (.int .i64 z4), (.int .i64 z5), (.bool z6), u7, u8, u9, u10, u11, u12, u13, u14, u15, u16, u17, u18, u19, u20, u21, u22, u23, (.string z24)] : List Value).toArray 43 (0, 0)) := heap_alloc2_new w (.cells #[(.int .i64 z0), (.int .i64 z1), (.int .u64 (z2 : Int)), (.int .i64 z3), (.int .i64 z4), (.int .i64 z5), (.bool z6), v7, v8, v9, v10, v11, v12, v13, v14, v15, v16, v17, v18, v19, v20, v21, v22, v23, (.string z24)] 43) (.cells #[(.int .i64 z0), (.int .i64 z1), (.int .u64 (z2 : Int)), (.int .i64 z3), (.int .i64 z4), (.int .i64 z5), (.bool z6), u7, u8, u9, u10, u11, u12, u13, u14, u15, u16, u17, u18, u19, u20, u21, u22, u23, (.string z24)] 43)
 have C7 : Hid (∀ V, Below w.heap.size w V → _) := hid fun V hV => tw_Bytes (e7.old hV)
 have C8 : Hid (∀ V, Below w.heap.size w V → _) := hid fun V hV => st_Span (e8.old hV) (e9.old hV)
 have C10 : Hid (∀ V, Below w.heap.size w V → _) := hid fun V hV => sm_Pair (e10.old hV)
 have C11 : Hid (∀ V, Below w.heap.size w V → _) := hid fun V hV => sm_Seen (e11.old hV)
 have C12 : Hid (∀ V, Below w.heap.size w V → _) := hid fun V hV => sm_Write (e12.old hV)
 have C13 : Hid (∀ V, Below w.heap.size w V → _) := hid fun V hV => st_Table (e13.old hV) (e14.old hV) (e15.old hV) (e16.old hV)
 have C17 : Hid (∀ V, Below w.heap.size w V → _) := hid fun V hV => st_Index (e17.old hV) (e18.old hV) (e19.old hV) (e20.old hV) (e21.old hV) (e22.old hV) (e23.old hV)
 have HC0 : Hid (∀ V, Below ((w.alloc (.cells #[(.int .i64 z0), (.int .i64 z1), (.int .u64 (z2 : Int)), (.int .i64 z3), (.int .i64 z4), (.int .i64 z5), (.bool z6), v7, v8, v9, v10, v11, v12, v13, v14, v15, v16, v17, v18, v19, v20, v21, v22, v23, (.string z24)] 43)).alloc (.cells #[(.int .i64 z0), (.int .i64 z1), (.int .u64 (z2 : Int)), (.int .i64 z3), (.int .i64 z4), (.int .i64 z5), (.bool z6), u7, u8, u9, u10, u11, u12, u13, u14, u15, u16, u17, u18, u19, u20, u21, u22, u23, (.string z24)] 43)).heap.size ((w.alloc (.cells #[(.int .i64 z0), (.int .i64 z1), (.int .u64 (z2 : Int)), (.int .i64 z3), (.int .i64 z4), (.int .i64 z5), (.bool z6), v7, v8, v9, v10, v11, v12, v13, v14, v15, v16, v17, v18, v19, v20, v21, v22, v23, (.string z24)] 43)).alloc (.cells #[(.int .i64 z0), (.int .i64 z1), (.int .u64 (z2 : Int)), (.int .i64 z3), (.int .i64 z4), (.int .i64 z5), (.bool z6), u7, u8, u9, u10, u11, u12, u13, u14, u15, u16, u17, u18, u19, u20, u21, u22, u23, (.string z24)] 43)) V → ∀ (i : Nat) u, ([(.int .i64 z0), (.int .i64 z1), (.int .u64 (z2 : Int)), (.int .i64 z3), (.int .i64 z4), (.int .i64 z5), (.bool z6), v7, v8, v9, v10, v11, v12, v13, v14, v15, v16, v17, v18, v19, v20, v21, v22, v23, (.string z24)] : List Value)[i]? = some u → V.cell? ⟨w.heap.size, i, none⟩ = some u) := hid fun V hV i u hu => by have := (hV.block _ (lt_of_block h0)).trans h0; simp only [World.cell?, this]; simpa using hu
 have HC1 : Hid (∀ V, Below ((w.alloc (.cells #[(.int .i64 z0), (.int .i64 z1), (.int .u64 (z2 : Int)), (.int .i64 z3), (.int .i64 z4), (.int .i64 z5), (.bool z6), v7, v8, v9, v10, v11, v12, v13, v14, v15, v16, v17, v18, v19, v20, v21, v22, v23, (.string z24)] 43)).alloc (.cells #[(.int .i64 z0), (.int .i64 z1), (.int .u64 (z2 : Int)), (.int .i64 z3), (.int .i64 z4), (.int .i64 z5), (.bool z6), u7, u8, u9, u10, u11, u12, u13, u14, u15, u16, u17, u18, u19, u20, u21, u22, u23, (.string z24)] 43)).heap.size ((w.alloc (.cells #[(.int .i64 z0), (.int .i64 z1), (.int .u64 (z2 : Int)), (.int .i64 z3), (.int .i64 z4), (.int .i64 z5), (.bool z6), v7, v8, v9, v10, v11, v12, v13, v14, v15, v16, v17, v18, v19, v20, v21, v22, v23, (.string z24)] 43)).alloc (.cells #[(.int .i64 z0), (.int .i64 z1), (.int .u64 (z2 : Int)), (.int .i64 z3), (.int .i64 z4), (.int .i64 z5), (.bool z6), u7, u8, u9, u10, u11, u12, u13, u14, u15, u16, u17, u18, u19, u20, u21, u22, u23, (.string z24)] 43)) V → ∀ (i : Nat) u, ([(.int .i64 z0), (.int .i64 z1), (.int .u64 (z2 : Int)), (.int .i64 z3), (.int .i64 z4), (.int .i64 z5), (.bool z6), u7, u8, u9, u10, u11, u12, u13, u14, u15, u16, u17, u18, u19, u20, u21, u22, u23, (.string z24)] : List Value)[i]? = some u → V.cell? ⟨w.heap.size + 1, i, none⟩ = some u) := hid fun V hV i u hu => by have := (hV.block _ (lt_of_block h1)).trans h1; simp only [World.cell?, this]; simpa using hu
 have HB := hid hb
 clear hb h0 h1 e0 e1 e2 e3 e4 e5 e6 e7 e8 e9 e10 e11 e12 e13 e14 e15 e16 e17 e18 e19 e20 e21 e22 e23 e24
 go_enter Tryz.func17, Tryz.ntmps17
 go_upto_region 1 with fail
 generalize (w.alloc (.cells #[(.int .i64 z0), (.int .i64 z1), (.int .u64 (z2 : Int)), (.int .i64 z3), (.int .i64 z4), (.int .i64 z5), (.bool z6), v7, v8, v9, v10, v11, v12, v13, v14, v15, v16, v17, v18, v19, v20, v21, v22, v23, (.string z24)] 43)).alloc (.cells #[(.int .i64 z0), (.int .i64 z1), (.int .u64 (z2 : Int)), (.int .i64 z3), (.int .i64 z4), (.int .i64 z5), (.bool z6), u7, u8, u9, u10, u11, u12, u13, u14, u15, u16, u17, u18, u19, u20, u21, u22, u23, (.string z24)] 43) = w0 at *
 have HW0 : Hid (Below w0.heap.size w0 w0) := hid (Below.refl _ _)
 have x0 := HC0.out _ (Below.refl _ _) 0 _ rfl
 have y0 := HC1.out _ (Below.refl _ _) 0 _ rfl
 have x1 := HC0.out _ (Below.refl _ _) 1 _ rfl
 have y1 := HC1.out _ (Below.refl _ _) 1 _ rfl
 have x2 := HC0.out _ (Below.refl _ _) 2 _ rfl
 have y2 := HC1.out _ (Below.refl _ _) 2 _ rfl
 have x3 := HC0.out _ (Below.refl _ _) 3 _ rfl
 have y3 := HC1.out _ (Below.refl _ _) 3 _ rfl
 have x4 := HC0.out _ (Below.refl _ _) 4 _ rfl
 have y4 := HC1.out _ (Below.refl _ _) 4 _ rfl
 have x5 := HC0.out _ (Below.refl _ _) 5 _ rfl
 have y5 := HC1.out _ (Below.refl _ _) 5 _ rfl
 have x6 := HC0.out _ (Below.refl _ _) 6 _ rfl
 have y6 := HC1.out _ (Below.refl _ _) 6 _ rfl
 have x7 := HC0.out _ (Below.refl _ _) 7 _ rfl
 have y7 := HC1.out _ (Below.refl _ _) 7 _ rfl
 have CA0 := hid (C7.out _ HB.out)
 go_wp2_with (first | (go_at_call 52; refine CA0.out.mono ?_; rintro en r1 ⟨rfl, hb0⟩; have HW1 := hid (HW0.out.trans (hb0.mono HW0.out.size)); clear hb0; have CA1 := hid (C8.out _ (HB.out.trans (HW1.out.mono HB.out.size))); clear x0 y0; clear x1 y1; clear x2 y2; clear x3 y3; clear x4 y4; clear x5 y5; clear x6 y6; clear x7 y7; have x8_0 := HC0.out _ HW1.out 8 _ rfl; have y8_0 := HC1.out _ HW1.out 8 _ rfl; have x9_0 := HC0.out _ HW1.out 9 _ rfl; have y9_0 := HC1.out _ HW1.out 9 _ rfl) | (go_at_call 53; refine CA1.out.mono ?_; rintro en r2 ⟨rfl, hb1⟩; have HW2 := hid (HW1.out.trans (hb1.mono HW1.out.size)); clear hb1; have CA2 := hid (C10.out _ (HB.out.trans (HW2.out.mono HB.out.size))); clear x8_0 y8_0; clear x9_0 y9_0; have x10_1 := HC0.out _ HW2.out 10 _ rfl; have y10_1 := HC1.out _ HW2.out 10 _ rfl) | (go_at_call 54; refine CA2.out.mono ?_; rintro en r3 ⟨rfl, hb2⟩; have HW3 := hid (HW2.out.trans (hb2.mono HW2.out.size)); clear hb2; have CA3 := hid (C11.out _ (HB.out.trans (HW3.out.mono HB.out.size))); clear x10_1 y10_1; have x11_2 := HC0.out _ HW3.out 11 _ rfl; have y11_2 := HC1.out _ HW3.out 11 _ rfl) | (go_at_call 56; refine CA3.out.mono ?_; rintro en r4 ⟨rfl, hb3⟩; have HW4 := hid (HW3.out.trans (hb3.mono HW3.out.size)); clear hb3; have CA4 := hid (C12.out _ (HB.out.trans (HW4.out.mono HB.out.size))); clear x11_2 y11_2; have x12_3 := HC0.out _ HW4.out 12 _ rfl; have y12_3 := HC1.out _ HW4.out 12 _ rfl) | (go_at_call 58; refine CA4.out.mono ?_; rintro en r5 ⟨rfl, hb4⟩; have HW5 := hid (HW4.out.trans (hb4.mono HW4.out.size)); clear hb4; have CA5 := hid (C13.out _ (HB.out.trans (HW5.out.mono HB.out.size))); clear x12_3 y12_3; have x13_4 := HC0.out _ HW5.out 13 _ rfl; have y13_4 := HC1.out _ HW5.out 13 _ rfl; have x14_4 := HC0.out _ HW5.out 14 _ rfl; have y14_4 := HC1.out _ HW5.out 14 _ rfl; have x15_4 := HC0.out _ HW5.out 15 _ rfl; have y15_4 := HC1.out _ HW5.out 15 _ rfl; have x16_4 := HC0.out _ HW5.out 16 _ rfl; have y16_4 := HC1.out _ HW5.out 16 _ rfl) | (go_at_call 60; refine CA5.out.mono ?_; rintro en r6 ⟨rfl, hb5⟩; have HW6 := hid (HW5.out.trans (hb5.mono HW5.out.size)); clear hb5; have CA6 := hid (C17.out _ (HB.out.trans (HW6.out.mono HB.out.size))); clear x13_4 y13_4; clear x14_4 y14_4; clear x15_4 y15_4; clear x16_4 y16_4; have x17_5 := HC0.out _ HW6.out 17 _ rfl; have y17_5 := HC1.out _ HW6.out 17 _ rfl; have x18_5 := HC0.out _ HW6.out 18 _ rfl; have y18_5 := HC1.out _ HW6.out 18 _ rfl; have x19_5 := HC0.out _ HW6.out 19 _ rfl; have y19_5 := HC1.out _ HW6.out 19 _ rfl; have x20_5 := HC0.out _ HW6.out 20 _ rfl; have y20_5 := HC1.out _ HW6.out 20 _ rfl; have x21_5 := HC0.out _ HW6.out 21 _ rfl; have y21_5 := HC1.out _ HW6.out 21 _ rfl; have x22_5 := HC0.out _ HW6.out 22 _ rfl; have y22_5 := HC1.out _ HW6.out 22 _ rfl; have x23_5 := HC0.out _ HW6.out 23 _ rfl; have y23_5 := HC1.out _ HW6.out 23 _ rfl) | (go_at_call 61; refine CA6.out.mono ?_; rintro en r7 ⟨rfl, hb6⟩; have HW7 := hid (HW6.out.trans (hb6.mono HW6.out.size)); clear hb6; clear x17_5 y17_5; clear x18_5 y18_5; clear x19_5 y19_5; clear x20_5 y20_5; clear x21_5 y21_5; clear x22_5 y22_5; clear x23_5 y23_5; have x24_6 := HC0.out _ HW7.out 24 _ rfl; have y24_6 := HC1.out _ HW7.out 24 _ rfl))
 go_ret
 exact ⟨rfl, HB.out.trans (HW7.out.mono HB.out.size)⟩
end Go.Proofs.YtmdgifmigikffaaGreat
namespace Go.Proofs.YtmdgifmigikffaaGreat
open Go.RowKit Go.Deep
set_option maxHeartbeats 8000000 in
theorem st_Reply {w : World} {v0 v1 v2 v3 v4 v5 v6 v7 v8 v9 v10 v11 v12 v13 v14 u0 u1 u2 u3 u4 u5 u6 u7 u8 u9 u10 u11 u12 u13 u14 : Value} (e0 : Twin w .int [v0] [u0]) (e1 : Twin w .num [v1] [u1]) (e2 : Twin w .int [v2] [u2]) (e3 : Twin w .bool [v3] [u3]) (e4 : Twin w (.list sPair) [v4] [u4]) (e5 : Twin w (.list .num) [v5] [u5]) (e6 : Twin w .int [v6] [u6]) (e7 : Twin w .int [v7] [u7]) (e8 : Twin w (.list sTable) [v8] [u8]) (e9 : Twin w (.list sIndex) [v9] [u9]) (e10 : Twin w .int [v10] [u10]) (e11 : Twin w .int [v11] [u11]) (e12 : Twin w (.list sOwner) [v12] [u12]) (e13 : Twin w .int [v13] [u13]) (e14 : Twin w .data [v14] [u14]) :
 Calls Tryz.prog 18 #[.agg #[v0, v1, v2, v3, v4, v5, v6, v7, v8, v9, v10, v11, v12, v13, v14], .agg #[u0, u1, u2, u3, u4, u5, u6, u7, u8, u9, u10, u11, u12, u13, u14]] w (fun e w' => e = .returned (.bool true) ∧ Below w.heap.size w w') := by
 obtain ⟨z0, rfl, rfl⟩ := tw_int e0
 obtain ⟨z1, rfl, rfl⟩ := tw_num e1
 obtain ⟨z2, rfl, rfl⟩ := tw_int e2
 obtain ⟨z3, rfl, rfl⟩ := tw_bool e3
 have hb : Below w.heap.size w ((w.alloc (.cells #[(.int .i64 z0), (.int .u64 (z1 : Int)), (.int .i64 z2), (.bool z3), v4, v5, v6, v7, v8, v9, v10, v11, v12, v13, v14] 55)).alloc (.cells #[(.int .i64 z0), (.int .u64 (z1 : Int)), (.int .i64 z2), (.bool z3), u4, u5, u6, u7, u8, u9, u10, u11, u12, u13, u14] 55)) := ((Below.refl _ _).alloc (Nat.le_refl _) _).alloc (by simp) _
 have h0 : ((w.alloc (.cells #[(.int .i64 z0), (.int .u64 (z1 : Int)), (.int .i64 z2), (.bool z3), v4, v5, v6, v7, v8, v9, v10, v11, v12, v13, v14] 55)).alloc (.cells #[(.int .i64 z0), (.int .u64 (z1 : Int)), (.int .i64 z2), (.bool z3), u4, u5, u6, u7, u8, u9, u10, u11, u12, u13, u14] 55)).heap[w.heap.size]? = some (.cells ([(.int .i64 z0), (.int .u64 (z1 : Int)), (.int .i64 z2), (.bool z3), v4, v5, v6, v7, v8, v9, v10, v11, v12, v13, v14] : List Value).toArray 55 (0, 0)) := (Below.heap_alloc (w.alloc (.cells #[(.int .i64 z0), (.int .u64 (z1 : Int)), (.int .i64 z2), (.bool z3), v4, v5, v6, v7, v8, v9, v10, v11, v12, v13, v14] 55)) (.cells #[(.int .i64 z0), (.int .u64 (z1 : Int)), (.int .i64 z2), (.bool z3), u4, u5, u6, u7, u8, u9, u10, u11, u12, u13, u14] 55) w.heap.size (by simp)).trans (heap_alloc_new w (.cells #[(.int .i64 z0), (.int .u64 (z1 : Int)), (.int .i64 z2), (.bool z3), v4, v5, v6, v7, v8, v9, v10, v11, v12, v13, v14] 55))
 have h1 : ((w.alloc (.cells #[(.int .i64 z0), (.int .u64 (z1 : Int)), (.int .i64 z2), (.bool z3), v4, v5, v6, v7, v8, v9, v10, v11, v12, v13, v14] 55)).alloc (.cells #[(.int .i64 z0), (.int .u64 (z1 : Int)), (.int .i64 z2), (.bool z3), u4, u5, u6, u7, u8, u9, u10, u11, u12, u13, u14] 55)).heap[w.heap.size + 1]? = some (.cells ([(.int .i64 z0), (.int .u64 (z1 : Int)), (.int .i64 z2), (.bool z3), u4, u5, u6, u7, u8, u9, u10, u11, u12, u13, u14] : List Value).toArray 55 (0, 0)) := heap_alloc2_new w (.cells #[(.int .i64 z0), (.int .u64 (z1 : Int)), (.int .i64 z2), (.bool z3), v4, v5, v6, v7, v8, v9, v10, v11, v12, v13, v14] 55) (.cells #[(.int .i64 z0), (.int .u64 (z1 : Int)), (.int .i64 z2), (.bool z3), u4, u5, u6, u7, u8, u9, u10, u11, u12, u13, u14] 55)
 have C4 : Hid (∀ V, Below w.heap.size w V → _) := hid fun V hV => sm_Pair (e4.old hV)
 have C5 : Hid (∀ V, Below w.heap.size w V → _) := hid fun V hV => pl_num (e5.old hV)
 have C6 : Hid (∀ V, Below w.heap.size w V → _) := hid fun V hV => st_Catalog (e6.old hV) (e7.old hV) (e8.old hV) (e9.old hV)
 have C10 : Hid (∀ V, Below w.heap.size w V → _) := hid fun V hV => st_Routes (e10.old hV) (e11.old hV) (e12.old hV) (e13.old hV) (e14.old hV)
 have HC0 : Hid (∀ V, Below ((w.alloc (.cells #[(.int .i64 z0), (.int .u64 (z1 : Int)), (.int .i64 z2), (.bool z3), v4, v5, v6, v7, v8, v9, v10, v11, v12, v13, v14] 55)).alloc (.cells #[(.int .i64 z0), (.int .u64 (z1 : Int)), (.int .i64 z2), (.bool z3), u4, u5, u6, u7, u8, u9, u10, u11, u12, u13, u14] 55)).heap.size ((w.alloc (.cells #[(.int .i64 z0), (.int .u64 (z1 : Int)), (.int .i64 z2), (.bool z3), v4, v5, v6, v7, v8, v9, v10, v11, v12, v13, v14] 55)).alloc (.cells #[(.int .i64 z0), (.int .u64 (z1 : Int)), (.int .i64 z2), (.bool z3), u4, u5, u6, u7, u8, u9, u10, u11, u12, u13, u14] 55)) V → ∀ (i : Nat) u, ([(.int .i64 z0), (.int .u64 (z1 : Int)), (.int .i64 z2), (.bool z3), v4, v5, v6, v7, v8, v9, v10, v11, v12, v13, v14] : List Value)[i]? = some u → V.cell? ⟨w.heap.size, i, none⟩ = some u) := hid fun V hV i u hu => by have := (hV.block _ (lt_of_block h0)).trans h0; simp only [World.cell?, this]; simpa using hu
 have HC1 : Hid (∀ V, Below ((w.alloc (.cells #[(.int .i64 z0), (.int .u64 (z1 : Int)), (.int .i64 z2), (.bool z3), v4, v5, v6, v7, v8, v9, v10, v11, v12, v13, v14] 55)).alloc (.cells #[(.int .i64 z0), (.int .u64 (z1 : Int)), (.int .i64 z2), (.bool z3), u4, u5, u6, u7, u8, u9, u10, u11, u12, u13, u14] 55)).heap.size ((w.alloc (.cells #[(.int .i64 z0), (.int .u64 (z1 : Int)), (.int .i64 z2), (.bool z3), v4, v5, v6, v7, v8, v9, v10, v11, v12, v13, v14] 55)).alloc (.cells #[(.int .i64 z0), (.int .u64 (z1 : Int)), (.int .i64 z2), (.bool z3), u4, u5, u6, u7, u8, u9, u10, u11, u12, u13, u14] 55)) V → ∀ (i : Nat) u, ([(.int .i64 z0), (.int .u64 (z1 : Int)), (.int .i64 z2), (.bool z3), u4, u5, u6, u7, u8, u9, u10, u11, u12, u13, u14] : List Value)[i]? = some u → V.cell? ⟨w.heap.size + 1, i, none⟩ = some u) := hid fun V hV i u hu => by have := (hV.block _ (lt_of_block h1)).trans h1; simp only [World.cell?, this]; simpa using hu
 have HB := hid hb
 clear hb h0 h1 e0 e1 e2 e3 e4 e5 e6 e7 e8 e9 e10 e11 e12 e13 e14
 go_enter Tryz.func18, Tryz.ntmps18
 go_upto_region 1 with fail
 generalize (w.alloc (.cells #[(.int .i64 z0), (.int .u64 (z1 : Int)), (.int .i64 z2), (.bool z3), v4, v5, v6, v7, v8, v9, v10, v11, v12, v13, v14] 55)).alloc (.cells #[(.int .i64 z0), (.int .u64 (z1 : Int)), (.int .i64 z2), (.bool z3), u4, u5, u6, u7, u8, u9, u10, u11, u12, u13, u14] 55) = w0 at *
 have HW0 : Hid (Below w0.heap.size w0 w0) := hid (Below.refl _ _)
 have x0 := HC0.out _ (Below.refl _ _) 0 _ rfl
 have y0 := HC1.out _ (Below.refl _ _) 0 _ rfl
 have x1 := HC0.out _ (Below.refl _ _) 1 _ rfl
 have y1 := HC1.out _ (Below.refl _ _) 1 _ rfl
 have x2 := HC0.out _ (Below.refl _ _) 2 _ rfl
 have y2 := HC1.out _ (Below.refl _ _) 2 _ rfl
 have x3 := HC0.out _ (Below.refl _ _) 3 _ rfl
 have y3 := HC1.out _ (Below.refl _ _) 3 _ rfl
 have x4 := HC0.out _ (Below.refl _ _) 4 _ rfl
 have y4 := HC1.out _ (Below.refl _ _) 4 _ rfl
 have CA0 := hid (C4.out _ HB.out)
 go_wp2_with (first | (go_at_call 54; refine CA0.out.mono ?_; rintro en r1 ⟨rfl, hb0⟩; have HW1 := hid (HW0.out.trans (hb0.mono HW0.out.size)); clear hb0; have CA1 := hid (C5.out _ (HB.out.trans (HW1.out.mono HB.out.size))); clear x0 y0; clear x1 y1; clear x2 y2; clear x3 y3; clear x4 y4; have x5_0 := HC0.out _ HW1.out 5 _ rfl; have y5_0 := HC1.out _ HW1.out 5 _ rfl) | (go_at_call 62; refine CA1.out.mono ?_; rintro en r2 ⟨rfl, hb1⟩; have HW2 := hid (HW1.out.trans (hb1.mono HW1.out.size)); clear hb1; have CA2 := hid (C6.out _ (HB.out.trans (HW2.out.mono HB.out.size))); clear x5_0 y5_0; have x6_1 := HC0.out _ HW2.out 6 _ rfl; have y6_1 := HC1.out _ HW2.out 6 _ rfl; have x7_1 := HC0.out _ HW2.out 7 _ rfl; have y7_1 := HC1.out _ HW2.out 7 _ rfl; have x8_1 := HC0.out _ HW2.out 8 _ rfl; have y8_1 := HC1.out _ HW2.out 8 _ rfl; have x9_1 := HC0.out _ HW2.out 9 _ rfl; have y9_1 := HC1.out _ HW2.out 9 _ rfl) | (go_at_call 19; refine CA2.out.mono ?_; rintro en r3 ⟨rfl, hb2⟩; have HW3 := hid (HW2.out.trans (hb2.mono HW2.out.size)); clear hb2; have CA3 := hid (C10.out _ (HB.out.trans (HW3.out.mono HB.out.size))); clear x6_1 y6_1; clear x7_1 y7_1; clear x8_1 y8_1; clear x9_1 y9_1; have x10_2 := HC0.out _ HW3.out 10 _ rfl; have y10_2 := HC1.out _ HW3.out 10 _ rfl; have x11_2 := HC0.out _ HW3.out 11 _ rfl; have y11_2 := HC1.out _ HW3.out 11 _ rfl; have x12_2 := HC0.out _ HW3.out 12 _ rfl; have y12_2 := HC1.out _ HW3.out 12 _ rfl; have x13_2 := HC0.out _ HW3.out 13 _ rfl; have y13_2 := HC1.out _ HW3.out 13 _ rfl; have x14_2 := HC0.out _ HW3.out 14 _ rfl; have y14_2 := HC1.out _ HW3.out 14 _ rfl) | (go_at_call 63; refine CA3.out.mono ?_; rintro en r4 ⟨rfl, hb3⟩; have HW4 := hid (HW3.out.trans (hb3.mono HW3.out.size)); clear hb3; clear x10_2 y10_2; clear x11_2 y11_2; clear x12_2 y12_2; clear x13_2 y13_2; clear x14_2 y14_2))
 go_ret
 exact ⟨rfl, HB.out.trans (HW4.out.mono HB.out.size)⟩
end Go.Proofs.YtmdgifmigikffaaGreat
namespace Go.Proofs.YtmdgifmigikffaaGreat
open Go.RowKit Go.Deep
set_option maxHeartbeats 1000000 in
theorem pl1_Value (z0 : Int) (z1 : Int) (z2 : ByteArray) (w : World) : Calls Tryz.prog 162 #[.agg #[(.int .i64 z0), (.int .i64 z1), (.string z2)], .agg #[(.int .i64 z0), (.int .i64 z1), (.string z2)]] w (fun e w' => e = .returned (.bool true) ∧ Below w.heap.size w w') := by
 have hb : Below w.heap.size w ((w.alloc (.cells #[(.int .i64 z0), (.int .i64 z1), (.string z2)] 200)).alloc (.cells #[(.int .i64 z0), (.int .i64 z1), (.string z2)] 200)) := ((Below.refl _ _).alloc (Nat.le_refl _) _).alloc (by simp) _
 have h0 : ((w.alloc (.cells #[(.int .i64 z0), (.int .i64 z1), (.string z2)] 200)).alloc (.cells #[(.int .i64 z0), (.int .i64 z1), (.string z2)] 200)).heap[w.heap.size]? = some (.cells ([(.int .i64 z0), (.int .i64 z1), (.string z2)] : List Value).toArray 200 (0, 0)) := (Below.heap_alloc (w.alloc (.cells #[(.int .i64 z0), (.int .i64 z1), (.string z2)] 200)) (.cells #[(.int .i64 z0), (.int .i64 z1), (.string z2)] 200) w.heap.size (by simp)).trans (heap_alloc_new w (.cells #[(.int .i64 z0), (.int .i64 z1), (.string z2)] 200))
 have h1 : ((w.alloc (.cells #[(.int .i64 z0), (.int .i64 z1), (.string z2)] 200)).alloc (.cells #[(.int .i64 z0), (.int .i64 z1), (.string z2)] 200)).heap[w.heap.size + 1]? = some (.cells ([(.int .i64 z0), (.int .i64 z1), (.string z2)] : List Value).toArray 200 (0, 0)) := heap_alloc2_new w (.cells #[(.int .i64 z0), (.int .i64 z1), (.string z2)] 200) (.cells #[(.int .i64 z0), (.int .i64 z1), (.string z2)] 200)
 have c0 : ∀ (i : Nat) u, ([(.int .i64 z0), (.int .i64 z1), (.string z2)] : List Value)[i]? = some u → ((w.alloc (.cells #[(.int .i64 z0), (.int .i64 z1), (.string z2)] 200)).alloc (.cells #[(.int .i64 z0), (.int .i64 z1), (.string z2)] 200)).cell? ⟨w.heap.size, i, none⟩ = some u := fun i u hu => by simp only [World.cell?, h0]; simpa using hu
 have c1 : ∀ (i : Nat) u, ([(.int .i64 z0), (.int .i64 z1), (.string z2)] : List Value)[i]? = some u → ((w.alloc (.cells #[(.int .i64 z0), (.int .i64 z1), (.string z2)] 200)).alloc (.cells #[(.int .i64 z0), (.int .i64 z1), (.string z2)] 200)).cell? ⟨w.heap.size + 1, i, none⟩ = some u := fun i u hu => by simp only [World.cell?, h1]; simpa using hu
 have x0 := c0 0 _ rfl
 have y0 := c1 0 _ rfl
 have x1 := c0 1 _ rfl
 have y1 := c1 1 _ rfl
 have x2 := c0 2 _ rfl
 have y2 := c1 2 _ rfl
 clear h0 h1 c0 c1
 go_enter Tryz.func162, Tryz.ntmps162
 go_upto_region 1 with fail
 generalize (w.alloc (.cells #[(.int .i64 z0), (.int .i64 z1), (.string z2)] 200)).alloc (.cells #[(.int .i64 z0), (.int .i64 z1), (.string z2)] 200) = w1 at *
 go_wp2_with fail
 go_ret
 exact ⟨rfl, hb⟩
set_option maxHeartbeats 8000000 in
theorem sm_Value {w : World} {v1 v2 : Value} (h : Twin w (.list sValue) [v1] [v2]) :
 Calls Tryz.prog 161 #[v1, v2, (.func (.func 162) #[] #[])] w (fun e w' => e = .returned (.bool true) ∧ Below w.heap.size w w') := by
 obtain ⟨a1, a2, n, c1, c2, M1, M2, rfl, rfl, hL1, hL2, hM⟩ := tw_list h
 have hc1 := hL1.cap.1
 have hc2 := hL2.cap.1
 have hn6 := hL1.cap.2.1
 have HL1 := hid hL1
 have HL2 := hid hL2
 have HM := hid hM
 clear h hL1 hL2 hM
 go_enter Tryz.func161, Tryz.ntmps161
 go_wp2_with fail
 go_loopw [7] (fun i wr => ∃ k, k ≤ n ∧ i = .int .i64 (k : Int) ∧ Below w.heap.size w wr) (fun i _ => n - (intOf i).toNat)
 case atStart => exact ⟨0, by omega, rfl, Below.refl _ _⟩
 case round =>
  obtain ⟨k, hk, rfl, hb⟩ := hrel
  have HB := hid hb
  clear hb
  by_cases hlt : k < n
  · have hki : (k : Int) < (n : Int) := by omega
    obtain ⟨x, y, bk1, o1, bk2, o2, hxy, rfl, rfl, hcx, hcy⟩ := tw_get HL1.out HL2.out HM.out (by decide) hlt
    obtain ⟨v0, v1, v2, u0, u1, u2, rfl, rfl, e0, e1, e2⟩ := Value_twin hxy
    obtain ⟨z0, rfl, rfl⟩ := tw_int e0
    obtain ⟨z1, rfl, rfl⟩ := tw_int e1
    obtain ⟨z2, rfl, rfl⟩ := tw_name e2
    have CF : Hid (∀ V, Below w.heap.size w V → Calls Tryz.prog 162 #[.agg #[(.int .i64 z0), (.int .i64 z1), (.string z2)], .agg #[(.int .i64 z0), (.int .i64 z1), (.string z2)]] V (fun e w' => e = .returned (.bool true) ∧ Below V.heap.size V w')) := hid fun V _ => pl1_Value z0 z1 z2 V
    have hX : ∀ V, Below w.heap.size w V → ∀ (j : Nat) u, ([(.int .i64 z0), (.int .i64 z1), (.string z2)] : List Value)[j]? = some u → V.cell? ⟨bk1, o1 + k * 3 + j, none⟩ = some u := hcx
    have hY : ∀ V, Below w.heap.size w V → ∀ (j : Nat) u, ([(.int .i64 z0), (.int .i64 z1), (.string z2)] : List Value)[j]? = some u → V.cell? ⟨bk2, o2 + k * 3 + j, none⟩ = some u := hcy
    have HX := hid hX
    have HY := hid hY
    clear hX hY hcx hcy
    go_upto_region 6 with fail
    have HWd : Hid (Below w.heap.size w wr.drew) := hid (HB.out.trans ((show Below wr.heap.size wr wr.drew from ⟨rfl, rfl, rfl, Nat.le_refl _, fun _ _ => rfl⟩).mono HB.out.size))
    obtain ⟨S9, hS9⟩ : ∃ S9 : World → Prop, S9 = fun V => Below w.heap.size w V := ⟨_, rfl⟩
    have HS : Hid (∀ V, Below w.heap.size w V → S9 V) := hid fun V h => by rw [hS9]; exact h
    have HSI : Hid (∀ V, S9 V → Below w.heap.size w V) := hid fun V h => by rw [hS9] at h; exact h
    clear hS9
    refine wp_region_noPanic ?_
    refine wp_region_held_drew (S := S9) (by kernel_rfl) (HS.out _ HWd.out) (fun hHeld => ?_)
    generalize wr.drew = Wd at *
    refine tkH 0 ((.func (.func 162) #[] #[])) rfl (by kernel_rfl) (fun _ _ _ => False.elim) hHeld (Or.inl ⟨by rfl, fun W9 hW => by clear hHeld; simp only [jA, jB, jC]; go_simp⟩) ?_
    simp only [Act.put, jA, jB, jC, jD, jE, jF]
    refine tkH 1 ((.slice (some ⟨bk1, o1, none⟩) n c1)) rfl (by kernel_rfl) (fun _ _ _ => False.elim) hHeld (Or.inl ⟨by rfl, fun W9 hW => by clear hHeld; simp only [jA, jB, jC]; go_simp⟩) ?_
    simp only [Act.put, jA, jB, jC, jD, jE, jF]
    refine tkH 2 ((.int .i64 (k : Int))) rfl (by kernel_rfl) (fun _ _ _ => False.elim) hHeld (Or.inl ⟨by rfl, fun W9 hW => by clear hHeld; simp only [jA, jB, jC]; go_simp⟩) ?_
    simp only [Act.put, jA, jB, jC, jD, jE, jF]
    refine tkH 3 ((.pointer (some ⟨bk1, o1 + k * 3, none⟩))) rfl (by kernel_rfl) (fun _ _ _ => False.elim) hHeld (Or.inl ⟨by rfl, fun W9 hW => by clear hHeld; simp only [jA, jB, jC]; go_simp⟩) ?_
    simp only [Act.put, jA, jB, jC, jD, jE, jF]
    refine tkH 4 ((.agg #[(.int .i64 z0), (.int .i64 z1), (.string z2)])) rfl (by kernel_rfl) (fun _ _ _ => False.elim) hHeld (Or.inl ⟨by rfl, fun W9 hW => by have hWW := HSI.out _ hW; have q0 := HX.out _ hWW 0 _ rfl; rw [Nat.add_zero] at q0; have q1 := HX.out _ hWW 1 _ rfl; have q2 := HX.out _ hWW 2 _ rfl; clear hHeld; simp only [jA, jB, jC]; go_simp⟩) ?_
    simp only [Act.put, jA, jB, jC, jD, jE, jF]
    refine tkH 5 ((.slice (some ⟨bk2, o2, none⟩) n c2)) rfl (by kernel_rfl) (fun _ _ _ => False.elim) hHeld (Or.inl ⟨by rfl, fun W9 hW => by clear hHeld; simp only [jA, jB, jC]; go_simp⟩) ?_
    simp only [Act.put, jA, jB, jC, jD, jE, jF]
    refine tkH 6 ((.int .i64 (k : Int))) rfl (by kernel_rfl) (fun _ _ _ => False.elim) hHeld (Or.inl ⟨by rfl, fun W9 hW => by clear hHeld; simp only [jA, jB, jC]; go_simp⟩) ?_
    simp only [Act.put, jA, jB, jC, jD, jE, jF]
    refine tkH 7 ((.pointer (some ⟨bk2, o2 + k * 3, none⟩))) rfl (by kernel_rfl) (fun _ _ _ => False.elim) hHeld (Or.inl ⟨by rfl, fun W9 hW => by clear hHeld; simp only [jA, jB, jC]; go_simp⟩) ?_
    simp only [Act.put, jA, jB, jC, jD, jE, jF]
    refine tkH 8 ((.agg #[(.int .i64 z0), (.int .i64 z1), (.string z2)])) rfl (by kernel_rfl) (fun _ _ _ => False.elim) hHeld (Or.inl ⟨by rfl, fun W9 hW => by have hWW := HSI.out _ hW; have q0 := HY.out _ hWW 0 _ rfl; rw [Nat.add_zero] at q0; have q1 := HY.out _ hWW 1 _ rfl; have q2 := HY.out _ hWW 2 _ rfl; clear hHeld; simp only [jA, jB, jC]; go_simp⟩) ?_
    simp only [Act.put, jA, jB, jC, jD, jE, jF]
    have CC := hid (CF.out _ HWd.out)
    refine rdH 9 (by kernel_rfl) rfl fun K hK => ?_
    go_simp
    go_wp2_with (first | (go_at_call 162; refine CC.out.mono ?_; rintro en wE ⟨rfl, hbE⟩; have HBE := hid (HWd.out.trans (hbE.mono HWd.out.size)); clear hbE))
    refine hK.out _ _ (HS.out _ HBE.out) (fun hHeld => ?_)
    clear hK K
    refine tkH 10 (.bool false) rfl (by kernel_rfl) (fun _ _ _ => False.elim) hHeld (Or.inl ⟨by rfl, fun W9 hW => by clear hHeld; simp only [jA, jB, jC]; go_simp⟩) ?_
    simp only [Act.put, jA, jB, jC, jD, jE, jF]
    refine wpAnyH_done (by kernel_rfl) ?_ _
    refine NoPanic.normal ?_
    go_wp2_with fail
    go_roundw
    case rel => exact ⟨k + 1, by omega, by go_num, HBE.out⟩
    case measure => simp [intOf]; omega
  · obtain rfl : n = k := by omega
    have hki : ¬ (n : Int) < (n : Int) := by omega
    go_wp2_with fail
    go_ret
    exact ⟨rfl, HB.out⟩
set_option maxHeartbeats 1000000 in
theorem pl_Value {w : World} {v1 v2 : Value} (h : Twin w (.list sValue) [v1] [v2]) :
 Calls Tryz.prog 125 #[v1, v2] w (fun e w' => e = .returned (.bool true) ∧ Below w.heap.size w w') := by
 have C := hid (sm_Value h)
 clear h
 go_enter Tryz.func125, Tryz.ntmps125
 go_wp2_with (first | (go_at_call 161; refine C.out.mono ?_; rintro en w2 ⟨rfl, hb⟩; have HB := hid hb; clear hb))
 go_ret
 exact ⟨rfl, HB.out⟩
set_option maxHeartbeats 1000000 in
theorem pl1_Set (z0 : Int) (z1 : Int) (z2 : Int) (z3 : ByteArray) (w : World) : Calls Tryz.prog 164 #[.agg #[(.int .i64 z0), (.int .i64 z1), (.int .i64 z2), (.string z3)], .agg #[(.int .i64 z0), (.int .i64 z1), (.int .i64 z2), (.string z3)]] w (fun e w' => e = .returned (.bool true) ∧ Below w.heap.size w w') := by
 have hb : Below w.heap.size w ((w.alloc (.cells #[(.int .i64 z0), (.int .i64 z1), (.int .i64 z2), (.string z3)] 203)).alloc (.cells #[(.int .i64 z0), (.int .i64 z1), (.int .i64 z2), (.string z3)] 203)) := ((Below.refl _ _).alloc (Nat.le_refl _) _).alloc (by simp) _
 have h0 : ((w.alloc (.cells #[(.int .i64 z0), (.int .i64 z1), (.int .i64 z2), (.string z3)] 203)).alloc (.cells #[(.int .i64 z0), (.int .i64 z1), (.int .i64 z2), (.string z3)] 203)).heap[w.heap.size]? = some (.cells ([(.int .i64 z0), (.int .i64 z1), (.int .i64 z2), (.string z3)] : List Value).toArray 203 (0, 0)) := (Below.heap_alloc (w.alloc (.cells #[(.int .i64 z0), (.int .i64 z1), (.int .i64 z2), (.string z3)] 203)) (.cells #[(.int .i64 z0), (.int .i64 z1), (.int .i64 z2), (.string z3)] 203) w.heap.size (by simp)).trans (heap_alloc_new w (.cells #[(.int .i64 z0), (.int .i64 z1), (.int .i64 z2), (.string z3)] 203))
 have h1 : ((w.alloc (.cells #[(.int .i64 z0), (.int .i64 z1), (.int .i64 z2), (.string z3)] 203)).alloc (.cells #[(.int .i64 z0), (.int .i64 z1), (.int .i64 z2), (.string z3)] 203)).heap[w.heap.size + 1]? = some (.cells ([(.int .i64 z0), (.int .i64 z1), (.int .i64 z2), (.string z3)] : List Value).toArray 203 (0, 0)) := heap_alloc2_new w (.cells #[(.int .i64 z0), (.int .i64 z1), (.int .i64 z2), (.string z3)] 203) (.cells #[(.int .i64 z0), (.int .i64 z1), (.int .i64 z2), (.string z3)] 203)
 have c0 : ∀ (i : Nat) u, ([(.int .i64 z0), (.int .i64 z1), (.int .i64 z2), (.string z3)] : List Value)[i]? = some u → ((w.alloc (.cells #[(.int .i64 z0), (.int .i64 z1), (.int .i64 z2), (.string z3)] 203)).alloc (.cells #[(.int .i64 z0), (.int .i64 z1), (.int .i64 z2), (.string z3)] 203)).cell? ⟨w.heap.size, i, none⟩ = some u := fun i u hu => by simp only [World.cell?, h0]; simpa using hu
 have c1 : ∀ (i : Nat) u, ([(.int .i64 z0), (.int .i64 z1), (.int .i64 z2), (.string z3)] : List Value)[i]? = some u → ((w.alloc (.cells #[(.int .i64 z0), (.int .i64 z1), (.int .i64 z2), (.string z3)] 203)).alloc (.cells #[(.int .i64 z0), (.int .i64 z1), (.int .i64 z2), (.string z3)] 203)).cell? ⟨w.heap.size + 1, i, none⟩ = some u := fun i u hu => by simp only [World.cell?, h1]; simpa using hu
 have x0 := c0 0 _ rfl
 have y0 := c1 0 _ rfl
 have x1 := c0 1 _ rfl
 have y1 := c1 1 _ rfl
 have x2 := c0 2 _ rfl
 have y2 := c1 2 _ rfl
 have x3 := c0 3 _ rfl
 have y3 := c1 3 _ rfl
 clear h0 h1 c0 c1
 go_enter Tryz.func164, Tryz.ntmps164
 go_upto_region 1 with fail
 generalize (w.alloc (.cells #[(.int .i64 z0), (.int .i64 z1), (.int .i64 z2), (.string z3)] 203)).alloc (.cells #[(.int .i64 z0), (.int .i64 z1), (.int .i64 z2), (.string z3)] 203) = w1 at *
 go_wp2_with fail
 go_ret
 exact ⟨rfl, hb⟩
set_option maxHeartbeats 8000000 in
theorem sm_Set {w : World} {v1 v2 : Value} (h : Twin w (.list sSet) [v1] [v2]) :
 Calls Tryz.prog 163 #[v1, v2, (.func (.func 164) #[] #[])] w (fun e w' => e = .returned (.bool true) ∧ Below w.heap.size w w') := by
 obtain ⟨a1, a2, n, c1, c2, M1, M2, rfl, rfl, hL1, hL2, hM⟩ := tw_list h
 have hc1 := hL1.cap.1
 have hc2 := hL2.cap.1
 have hn6 := hL1.cap.2.1
 have HL1 := hid hL1
 have HL2 := hid hL2
 have HM := hid hM
 clear h hL1 hL2 hM
 go_enter Tryz.func163, Tryz.ntmps163
 go_wp2_with fail
 go_loopw [7] (fun i wr => ∃ k, k ≤ n ∧ i = .int .i64 (k : Int) ∧ Below w.heap.size w wr) (fun i _ => n - (intOf i).toNat)
 case atStart => exact ⟨0, by omega, rfl, Below.refl _ _⟩
 case round =>
  obtain ⟨k, hk, rfl, hb⟩ := hrel
  have HB := hid hb
  clear hb
  by_cases hlt : k < n
  · have hki : (k : Int) < (n : Int) := by omega
    obtain ⟨x, y, bk1, o1, bk2, o2, hxy, rfl, rfl, hcx, hcy⟩ := tw_get HL1.out HL2.out HM.out (by decide) hlt
    obtain ⟨v0, v1, v2, v3, u0, u1, u2, u3, rfl, rfl, e0, e1, e2, e3⟩ := Set_twin hxy
    obtain ⟨z0, rfl, rfl⟩ := tw_int e0
    obtain ⟨z1, rfl, rfl⟩ := tw_int e1
    obtain ⟨z2, rfl, rfl⟩ := tw_int e2
    obtain ⟨z3, rfl, rfl⟩ := tw_name e3
    have CF : Hid (∀ V, Below w.heap.size w V → Calls Tryz.prog 164 #[.agg #[(.int .i64 z0), (.int .i64 z1), (.int .i64 z2), (.string z3)], .agg #[(.int .i64 z0), (.int .i64 z1), (.int .i64 z2), (.string z3)]] V (fun e w' => e = .returned (.bool true) ∧ Below V.heap.size V w')) := hid fun V _ => pl1_Set z0 z1 z2 z3 V
    have hX : ∀ V, Below w.heap.size w V → ∀ (j : Nat) u, ([(.int .i64 z0), (.int .i64 z1), (.int .i64 z2), (.string z3)] : List Value)[j]? = some u → V.cell? ⟨bk1, o1 + k * 4 + j, none⟩ = some u := hcx
    have hY : ∀ V, Below w.heap.size w V → ∀ (j : Nat) u, ([(.int .i64 z0), (.int .i64 z1), (.int .i64 z2), (.string z3)] : List Value)[j]? = some u → V.cell? ⟨bk2, o2 + k * 4 + j, none⟩ = some u := hcy
    have HX := hid hX
    have HY := hid hY
    clear hX hY hcx hcy
    go_upto_region 6 with fail
    have HWd : Hid (Below w.heap.size w wr.drew) := hid (HB.out.trans ((show Below wr.heap.size wr wr.drew from ⟨rfl, rfl, rfl, Nat.le_refl _, fun _ _ => rfl⟩).mono HB.out.size))
    obtain ⟨S9, hS9⟩ : ∃ S9 : World → Prop, S9 = fun V => Below w.heap.size w V := ⟨_, rfl⟩
    have HS : Hid (∀ V, Below w.heap.size w V → S9 V) := hid fun V h => by rw [hS9]; exact h
    have HSI : Hid (∀ V, S9 V → Below w.heap.size w V) := hid fun V h => by rw [hS9] at h; exact h
    clear hS9
    refine wp_region_noPanic ?_
    refine wp_region_held_drew (S := S9) (by kernel_rfl) (HS.out _ HWd.out) (fun hHeld => ?_)
    generalize wr.drew = Wd at *
    refine tkH 0 ((.func (.func 164) #[] #[])) rfl (by kernel_rfl) (fun _ _ _ => False.elim) hHeld (Or.inl ⟨by rfl, fun W9 hW => by clear hHeld; simp only [jA, jB, jC]; go_simp⟩) ?_
    simp only [Act.put, jA, jB, jC, jD, jE, jF]
    refine tkH 1 ((.slice (some ⟨bk1, o1, none⟩) n c1)) rfl (by kernel_rfl) (fun _ _ _ => False.elim) hHeld (Or.inl ⟨by rfl, fun W9 hW => by clear hHeld; simp only [jA, jB, jC]; go_simp⟩) ?_
    simp only [Act.put, jA, jB, jC, jD, jE, jF]
    refine tkH 2 ((.int .i64 (k : Int))) rfl (by kernel_rfl) (fun _ _ _ => False.elim) hHeld (Or.inl ⟨by rfl, fun W9 hW => by clear hHeld; simp only [jA, jB, jC]; go_simp⟩) ?_
    simp only [Act.put, jA, jB, jC, jD, jE, jF]
    refine tkH 3 ((.pointer (some ⟨bk1, o1 + k * 4, none⟩))) rfl (by kernel_rfl) (fun _ _ _ => False.elim) hHeld (Or.inl ⟨by rfl, fun W9 hW => by clear hHeld; simp only [jA, jB, jC]; go_simp⟩) ?_
    simp only [Act.put, jA, jB, jC, jD, jE, jF]
    refine tkH 4 ((.agg #[(.int .i64 z0), (.int .i64 z1), (.int .i64 z2), (.string z3)])) rfl (by kernel_rfl) (fun _ _ _ => False.elim) hHeld (Or.inl ⟨by rfl, fun W9 hW => by have hWW := HSI.out _ hW; have q0 := HX.out _ hWW 0 _ rfl; rw [Nat.add_zero] at q0; have q1 := HX.out _ hWW 1 _ rfl; have q2 := HX.out _ hWW 2 _ rfl; have q3 := HX.out _ hWW 3 _ rfl; clear hHeld; simp only [jA, jB, jC]; go_simp⟩) ?_
    simp only [Act.put, jA, jB, jC, jD, jE, jF]
    refine tkH 5 ((.slice (some ⟨bk2, o2, none⟩) n c2)) rfl (by kernel_rfl) (fun _ _ _ => False.elim) hHeld (Or.inl ⟨by rfl, fun W9 hW => by clear hHeld; simp only [jA, jB, jC]; go_simp⟩) ?_
    simp only [Act.put, jA, jB, jC, jD, jE, jF]
    refine tkH 6 ((.int .i64 (k : Int))) rfl (by kernel_rfl) (fun _ _ _ => False.elim) hHeld (Or.inl ⟨by rfl, fun W9 hW => by clear hHeld; simp only [jA, jB, jC]; go_simp⟩) ?_
    simp only [Act.put, jA, jB, jC, jD, jE, jF]
    refine tkH 7 ((.pointer (some ⟨bk2, o2 + k * 4, none⟩))) rfl (by kernel_rfl) (fun _ _ _ => False.elim) hHeld (Or.inl ⟨by rfl, fun W9 hW => by clear hHeld; simp only [jA, jB, jC]; go_simp⟩) ?_
    simp only [Act.put, jA, jB, jC, jD, jE, jF]
    refine tkH 8 ((.agg #[(.int .i64 z0), (.int .i64 z1), (.int .i64 z2), (.string z3)])) rfl (by kernel_rfl) (fun _ _ _ => False.elim) hHeld (Or.inl ⟨by rfl, fun W9 hW => by have hWW := HSI.out _ hW; have q0 := HY.out _ hWW 0 _ rfl; rw [Nat.add_zero] at q0; have q1 := HY.out _ hWW 1 _ rfl; have q2 := HY.out _ hWW 2 _ rfl; have q3 := HY.out _ hWW 3 _ rfl; clear hHeld; simp only [jA, jB, jC]; go_simp⟩) ?_
    simp only [Act.put, jA, jB, jC, jD, jE, jF]
    have CC := hid (CF.out _ HWd.out)
    refine rdH 9 (by kernel_rfl) rfl fun K hK => ?_
    go_simp
    go_wp2_with (first | (go_at_call 164; refine CC.out.mono ?_; rintro en wE ⟨rfl, hbE⟩; have HBE := hid (HWd.out.trans (hbE.mono HWd.out.size)); clear hbE))
    refine hK.out _ _ (HS.out _ HBE.out) (fun hHeld => ?_)
    clear hK K
    refine tkH 10 (.bool false) rfl (by kernel_rfl) (fun _ _ _ => False.elim) hHeld (Or.inl ⟨by rfl, fun W9 hW => by clear hHeld; simp only [jA, jB, jC]; go_simp⟩) ?_
    simp only [Act.put, jA, jB, jC, jD, jE, jF]
    refine wpAnyH_done (by kernel_rfl) ?_ _
    refine NoPanic.normal ?_
    go_wp2_with fail
    go_roundw
    case rel => exact ⟨k + 1, by omega, by go_num, HBE.out⟩
    case measure => simp [intOf]; omega
  · obtain rfl : n = k := by omega
    have hki : ¬ (n : Int) < (n : Int) := by omega
    go_wp2_with fail
    go_ret
    exact ⟨rfl, HB.out⟩
set_option maxHeartbeats 1000000 in
theorem pl_Set {w : World} {v1 v2 : Value} (h : Twin w (.list sSet) [v1] [v2]) :
 Calls Tryz.prog 126 #[v1, v2] w (fun e w' => e = .returned (.bool true) ∧ Below w.heap.size w w') := by
 have C := hid (sm_Set h)
 clear h
 go_enter Tryz.func126, Tryz.ntmps126
 go_wp2_with (first | (go_at_call 163; refine C.out.mono ?_; rintro en w2 ⟨rfl, hb⟩; have HB := hid hb; clear hb))
 go_ret
 exact ⟨rfl, HB.out⟩
end Go.Proofs.YtmdgifmigikffaaGreat
