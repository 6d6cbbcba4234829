import Derived.WalkKit
import Derived.OpenShut
import Derived.Test.YtmdgifmigikffaaGreatRows
import Derived.WalkSpells
import Derived.WalkLawsBesides
import Derived.Laws.AppendOwnNone
import Derived.ProofKit
import Derived.ShutString
import Derived.ChangeOld
import Derived.Below
import Derived.SizedLaws
import Derived.Deep.RegionHeld3
import Derived.Deep.Slices
import Derived.Deep.AppendLies
import Derived.Deep.RegionHeld
import Derived.Deep.Strs
import Derived.Lib.ConvBytes
import Derived.Laws.AppendOwn
import Derived.Deep.CutRange
import Derived.Deep.MidRow
import Derived.Great.Walk
import Derived.Test.YtmdgifmigikffaaGreatWX1
import Derived.Test.YtmdgifmigikffaaGreatWX2
import Derived.Test.YtmdgifmigikffaaGreatWX3
import Derived.Test.YtmdgifmigikffaaGreatWX6
import Derived.Test.YtmdgifmigikffaaGreatWX16
set_option linter.unusedVariables false
set_option linter.unusedSimpArgs false
set_option maxRecDepth 100000
namespace Go.Proofs.YtmdgifmigikffaaGreat
open Go.RowKit Go.Deep
set_option maxHeartbeats 1000000 in
theorem pl1_int (z0 : Int) (w : World) : Calls Tryz.prog 160 #[.int .i64 z0, .int .i64 z0] w (fun e w' => e = .returned (.bool true) ∧ Below w.heap.size w w') := by
 go_enter Tryz.func160, Tryz.ntmps160
 go_wp2_with fail
 go_ret
 exact ⟨rfl, Below.refl _ _⟩
set_option maxHeartbeats 8000000 in
theorem sm_int {w : World} {v1 v2 : Value} (h : Twin w (.list .int) [v1] [v2]) :
 Calls Tryz.prog 159 #[v1, v2, (.func (.func 160) #[] #[])] w (fun e w' => e = .returned (.bool true) ∧ Below w.heap.size w w') := by
 obtain ⟨a1, a2, n, c1, c2, M1, M2, rfl, rfl, hL1, hL2, hM⟩ := tw_list h
 have hc1 := hL1.cap.1
 have hc2 := hL2.cap.1
 have hn6 := hL1.cap.2.1
 have HL1 := hid hL1
 have HL2 := hid hL2
 have HM := hid hM
 clear h hL1 hL2 hM
 go_enter Tryz.func159, Tryz.ntmps159
 go_wp2_with fail
 go_loopw [7] (fun i wr => ∃ k, k ≤ n ∧ i = .int .i64 (k : Int) ∧ Below w.heap.size w wr) (fun i _ => n - (intOf i).toNat)
 case atStart => exact ⟨0, by omega, rfl, Below.refl _ _⟩
 case round =>
  obtain ⟨k, hk, rfl, hb⟩ := hrel
  have HB := hid hb
  clear hb
  by_cases hlt : k < n
  · have hki : (k : Int) < (n : Int) := by omega
    obtain ⟨x, y, bk1, o1, bk2, o2, hxy, rfl, rfl, hcx, hcy⟩ := tw_get HL1.out HL2.out HM.out (by decide) hlt
    obtain ⟨v0, u0, rfl, rfl, e0⟩ := hxy.one rfl
    obtain ⟨z0, rfl, rfl⟩ := tw_int e0
    have CF : Hid (∀ V, Below w.heap.size w V → Calls Tryz.prog 160 #[.int .i64 z0, .int .i64 z0] V (fun e w' => e = .returned (.bool true) ∧ Below V.heap.size V w')) := hid fun V _ => pl1_int z0 V
    have hX : ∀ V, Below w.heap.size w V → ∀ (j : Nat) u, ([(.int .i64 z0)] : List Value)[j]? = some u → V.cell? ⟨bk1, o1 + k * 1 + j, none⟩ = some u := hcx
    have hY : ∀ V, Below w.heap.size w V → ∀ (j : Nat) u, ([(.int .i64 z0)] : List Value)[j]? = some u → V.cell? ⟨bk2, o2 + k * 1 + j, none⟩ = some u := hcy
    have HX := hid hX
    have HY := hid hY
    clear hX hY hcx hcy
    go_upto_region 6 with fail
    have HWd : Hid (Below w.heap.size w wr.drew) := hid (HB.out.trans ((show Below wr.heap.size wr wr.drew from ⟨rfl, rfl, rfl, Nat.le_refl _, fun _ _ => rfl⟩).mono HB.out.size))
    obtain ⟨S9, hS9⟩ : ∃ S9 : World → Prop, S9 = fun V => Below w.heap.size w V := ⟨_, rfl⟩
    have HS : Hid (∀ V, Below w.heap.size w V → S9 V) := hid fun V h => by rw [hS9]; exact h
    have HSI : Hid (∀ V, S9 V → Below w.heap.size w V) := hid fun V h => by rw [hS9] at h; exact h
    clear hS9
    refine wp_region_noPanic ?_
    refine wp_region_held_drew (S := S9) (by kernel_rfl) (HS.out _ HWd.out) (fun hHeld => ?_)
    generalize wr.drew = Wd at *
    refine tkH 0 ((.func (.func 160) #[] #[])) rfl (by kernel_rfl) (fun _ _ _ => False.elim) hHeld (Or.inl ⟨by rfl, fun W9 hW => by clear hHeld; simp only [jA, jB, jC]; go_simp⟩) ?_
    simp only [Act.put, jA, jB, jC, jD, jE, jF]
    refine tkH 1 ((.slice (some ⟨bk1, o1, none⟩) n c1)) rfl (by kernel_rfl) (fun _ _ _ => False.elim) hHeld (Or.inl ⟨by rfl, fun W9 hW => by clear hHeld; simp only [jA, jB, jC]; go_simp⟩) ?_
    simp only [Act.put, jA, jB, jC, jD, jE, jF]
    refine tkH 2 ((.int .i64 (k : Int))) rfl (by kernel_rfl) (fun _ _ _ => False.elim) hHeld (Or.inl ⟨by rfl, fun W9 hW => by clear hHeld; simp only [jA, jB, jC]; go_simp⟩) ?_
    simp only [Act.put, jA, jB, jC, jD, jE, jF]
    refine tkH 3 ((.pointer (some ⟨bk1, o1 + k, none⟩))) rfl (by kernel_rfl) (fun _ _ _ => False.elim) hHeld (Or.inl ⟨by rfl, fun W9 hW => by clear hHeld; simp only [jA, jB, jC]; go_simp⟩) ?_
    simp only [Act.put, jA, jB, jC, jD, jE, jF]
    refine tkH 4 (.int .i64 z0) rfl (by kernel_rfl) (fun _ _ _ => False.elim) hHeld (Or.inl ⟨by rfl, fun W9 hW => by have hWW := HSI.out _ hW; have q0 := HX.out _ hWW 0 _ rfl; rw [Nat.mul_one, Nat.add_zero] at q0; clear hHeld; simp only [jA, jB, jC]; go_simp⟩) ?_
    simp only [Act.put, jA, jB, jC, jD, jE, jF]
    refine tkH 5 ((.slice (some ⟨bk2, o2, none⟩) n c2)) rfl (by kernel_rfl) (fun _ _ _ => False.elim) hHeld (Or.inl ⟨by rfl, fun W9 hW => by clear hHeld; simp only [jA, jB, jC]; go_simp⟩) ?_
    simp only [Act.put, jA, jB, jC, jD, jE, jF]
    refine tkH 6 ((.int .i64 (k : Int))) rfl (by kernel_rfl) (fun _ _ _ => False.elim) hHeld (Or.inl ⟨by rfl, fun W9 hW => by clear hHeld; simp only [jA, jB, jC]; go_simp⟩) ?_
    simp only [Act.put, jA, jB, jC, jD, jE, jF]
    refine tkH 7 ((.pointer (some ⟨bk2, o2 + k, none⟩))) rfl (by kernel_rfl) (fun _ _ _ => False.elim) hHeld (Or.inl ⟨by rfl, fun W9 hW => by clear hHeld; simp only [jA, jB, jC]; go_simp⟩) ?_
    simp only [Act.put, jA, jB, jC, jD, jE, jF]
    refine tkH 8 (.int .i64 z0) rfl (by kernel_rfl) (fun _ _ _ => False.elim) hHeld (Or.inl ⟨by rfl, fun W9 hW => by have hWW := HSI.out _ hW; have q0 := HY.out _ hWW 0 _ rfl; rw [Nat.mul_one, Nat.add_zero] at q0; clear hHeld; simp only [jA, jB, jC]; go_simp⟩) ?_
    simp only [Act.put, jA, jB, jC, jD, jE, jF]
    have CC := hid (CF.out _ HWd.out)
    refine rdH 9 (by kernel_rfl) rfl fun K hK => ?_
    go_simp
    go_wp2_with (first | (go_at_call 160; refine CC.out.mono ?_; rintro en wE ⟨rfl, hbE⟩; have HBE := hid (HWd.out.trans (hbE.mono HWd.out.size)); clear hbE))
    refine hK.out _ _ (HS.out _ HBE.out) (fun hHeld => ?_)
    clear hK K
    refine tkH 10 (.bool false) rfl (by kernel_rfl) (fun _ _ _ => False.elim) hHeld (Or.inl ⟨by rfl, fun W9 hW => by clear hHeld; simp only [jA, jB, jC]; go_simp⟩) ?_
    simp only [Act.put, jA, jB, jC, jD, jE, jF]
    refine wpAnyH_done (by kernel_rfl) ?_ _
    refine NoPanic.normal ?_
    go_wp2_with fail
    go_roundw
    case rel => exact ⟨k + 1, by omega, by go_num, HBE.out⟩
    case measure => simp [intOf]; omega
  · obtain rfl : n = k := by omega
    have hki : ¬ (n : Int) < (n : Int) := by omega
    go_wp2_with fail
    go_ret
    exact ⟨rfl, HB.out⟩
set_option maxHeartbeats 1000000 in
theorem pl_int {w : World} {v1 v2 : Value} (h : Twin w (.list .int) [v1] [v2]) :
 Calls Tryz.prog 120 #[v1, v2] w (fun e w' => e = .returned (.bool true) ∧ Below w.heap.size w w') := by
 have C := hid (sm_int h)
 clear h
 go_enter Tryz.func120, Tryz.ntmps120
 go_wp2_with (first | (go_at_call 159; refine C.out.mono ?_; rintro en w2 ⟨rfl, hb⟩; have HB := hid hb; clear hb))
 go_ret
 exact ⟨rfl, HB.out⟩
set_option maxHeartbeats 1000000 in
theorem pl1_num (z0 : Nat) (w : World) : Calls Tryz.prog 122 #[.int .u64 (z0 : Int), .int .u64 (z0 : Int)] w (fun e w' => e = .returned (.bool true) ∧ Below w.heap.size w w') := by
 go_enter Tryz.func122, Tryz.ntmps122
 go_wp2_with fail
 go_ret
 exact ⟨rfl, Below.refl _ _⟩
set_option maxHeartbeats 8000000 in
theorem sm_num {w : World} {v1 v2 : Value} (h : Twin w (.list .num) [v1] [v2]) :
 Calls Tryz.prog 121 #[v1, v2, (.func (.func 122) #[] #[])] w (fun e w' => e = .returned (.bool true) ∧ Below w.heap.size w w') := by
 obtain ⟨a1, a2, n, c1, c2, M1, M2, rfl, rfl, hL1, hL2, hM⟩ := tw_list h
 have hc1 := hL1.cap.1
 have hc2 := hL2.cap.1
 have hn6 := hL1.cap.2.1
 have HL1 := hid hL1
 have HL2 := hid hL2
 have HM := hid hM
 clear h hL1 hL2 hM
 go_enter Tryz.func121, Tryz.ntmps121
 go_wp2_with fail
 go_loopw [7] (fun i wr => ∃ k, k ≤ n ∧ i = .int .i64 (k : Int) ∧ Below w.heap.size w wr) (fun i _ => n - (intOf i).toNat)
 case atStart => exact ⟨0, by omega, rfl, Below.refl _ _⟩
 case round =>
  obtain ⟨k, hk, rfl, hb⟩ := hrel
  have HB := hid hb
  clear hb
  by_cases hlt : k < n
  · have hki : (k : Int) < (n : Int) := by omega
    obtain ⟨x, y, bk1, o1, bk2, o2, hxy, rfl, rfl, hcx, hcy⟩ := tw_get HL1.out HL2.out HM.out (by decide) hlt
    obtain ⟨v0, u0, rfl, rfl, e0⟩ := hxy.one rfl
    obtain ⟨z0, rfl, rfl⟩ := tw_num e0
    have CF : Hid (∀ V, Below w.heap.size w V → Calls Tryz.prog 122 #[.int .u64 (z0 : Int), .int .u64 (z0 : Int)] V (fun e w' => e = .returned (.bool true) ∧ Below V.heap.size V w')) := hid fun V _ => pl1_num z0 V
    have hX : ∀ V, Below w.heap.size w V → ∀ (j : Nat) u, ([(.int .u64 (z0 : Int))] : List Value)[j]? = some u → V.cell? ⟨bk1, o1 + k * 1 + j, none⟩ = some u := hcx
    have hY : ∀ V, Below w.heap.size w V → ∀ (j : Nat) u, ([(.int .u64 (z0 : Int))] : List Value)[j]? = some u → V.cell? ⟨bk2, o2 + k * 1 + j, none⟩ = some u := hcy
    have HX := hid hX
    have HY := hid hY
    clear hX hY hcx hcy
    go_upto_region 6 with fail
    have HWd : Hid (Below w.heap.size w wr.drew) := hid (HB.out.trans ((show Below wr.heap.size wr wr.drew from ⟨rfl, rfl, rfl, Nat.le_refl _, fun _ _ => rfl⟩).mono HB.out.size))
    obtain ⟨S9, hS9⟩ : ∃ S9 : World → Prop, S9 = fun V => Below w.heap.size w V := ⟨_, rfl⟩
    have HS : Hid (∀ V, Below w.heap.size w V → S9 V) := hid fun V h => by rw [hS9]; exact h
    have HSI : Hid (∀ V, S9 V → Below w.heap.size w V) := hid fun V h => by rw [hS9] at h; exact h
    clear hS9
    refine wp_region_noPanic ?_
    refine wp_region_held_drew (S := S9) (by kernel_rfl) (HS.out _ HWd.out) (fun hHeld => ?_)
    generalize wr.drew = Wd at *
    refine tkH 0 ((.func (.func 122) #[] #[])) rfl (by kernel_rfl) (fun _ _ _ => False.elim) hHeld (Or.inl ⟨by rfl, fun W9 hW => by clear hHeld; simp only [jA, jB, jC]; go_simp⟩) ?_
    simp only [Act.put, jA, jB, jC, jD, jE, jF]
    refine tkH 1 ((.slice (some ⟨bk1, o1, none⟩) n c1)) rfl (by kernel_rfl) (fun _ _ _ => False.elim) hHeld (Or.inl ⟨by rfl, fun W9 hW => by clear hHeld; simp only [jA, jB, jC]; go_simp⟩) ?_
    simp only [Act.put, jA, jB, jC, jD, jE, jF]
    refine tkH 2 ((.int .i64 (k : Int))) rfl (by kernel_rfl) (fun _ _ _ => False.elim) hHeld (Or.inl ⟨by rfl, fun W9 hW => by clear hHeld; simp only [jA, jB, jC]; go_simp⟩) ?_
    simp only [Act.put, jA, jB, jC, jD, jE, jF]
    refine tkH 3 ((.pointer (some ⟨bk1, o1 + k, none⟩))) rfl (by kernel_rfl) (fun _ _ _ => False.elim) hHeld (Or.inl ⟨by rfl, fun W9 hW => by clear hHeld; simp only [jA, jB, jC]; go_simp⟩) ?_
    simp only [Act.put, jA, jB, jC, jD, jE, jF]
    refine tkH 4 ((.int .u64 (z0 : Int))) rfl (by kernel_rfl) (fun _ _ _ => False.elim) hHeld (Or.inl ⟨by rfl, fun W9 hW => by have hWW := HSI.out _ hW; have q0 := HX.out _ hWW 0 _ rfl; rw [Nat.mul_one, Nat.add_zero] at q0; clear hHeld; simp only [jA, jB, jC]; go_simp⟩) ?_
    simp only [Act.put, jA, jB, jC, jD, jE, jF]
    refine tkH 5 ((.slice (some ⟨bk2, o2, none⟩) n c2)) rfl (by kernel_rfl) (fun _ _ _ => False.elim) hHeld (Or.inl ⟨by rfl, fun W9 hW => by clear hHeld; simp only [jA, jB, jC]; go_simp⟩) ?_
    simp only [Act.put, jA, jB, jC, jD, jE, jF]
    refine tkH 6 ((.int .i64 (k : Int))) rfl (by kernel_rfl) (fun _ _ _ => False.elim) hHeld (Or.inl ⟨by rfl, fun W9 hW => by clear hHeld; simp only [jA, jB, jC]; go_simp⟩) ?_
    simp only [Act.put, jA, jB, jC, jD, jE, jF]
    refine tkH 7 ((.pointer (some ⟨bk2, o2 + k, none⟩))) rfl (by kernel_rfl) (fun _ _ _ => False.elim) hHeld (Or.inl ⟨by rfl, fun W9 hW => by clear hHeld; simp only [jA, jB, jC]; go_simp⟩) ?_
    simp only [Act.put, jA, jB, jC, jD, jE, jF]
    refine tkH 8 ((.int .u64 (z0 : Int))) rfl (by kernel_rfl) (fun _ _ _ => False.elim) hHeld (Or.inl ⟨by rfl, fun W9 hW => by have hWW := HSI.out _ hW; have q0 := HY.out _ hWW 0 _ rfl; rw [Nat.mul_one, Nat.add_zero] at q0; clear hHeld; simp only [jA, jB, jC]; go_simp⟩) ?_
    simp only [Act.put, jA, jB, jC, jD, jE, jF]
    have CC := hid (CF.out _ HWd.out)
    refine rdH 9 (by kernel_rfl) rfl fun K hK => ?_
    go_simp
    go_wp2_with (first | (go_at_call 122; refine CC.out.mono ?_; rintro en wE ⟨rfl, hbE⟩; have HBE := hid (HWd.out.trans (hbE.mono HWd.out.size)); clear hbE))
    refine hK.out _ _ (HS.out _ HBE.out) (fun hHeld => ?_)
    clear hK K
    refine tkH 10 (.bool false) rfl (by kernel_rfl) (fun _ _ _ => False.elim) hHeld (Or.inl ⟨by rfl, fun W9 hW => by clear hHeld; simp only [jA, jB, jC]; go_simp⟩) ?_
    simp only [Act.put, jA, jB, jC, jD, jE, jF]
    refine wpAnyH_done (by kernel_rfl) ?_ _
    refine NoPanic.normal ?_
    go_wp2_with fail
    go_roundw
    case rel => exact ⟨k + 1, by omega, by go_num, HBE.out⟩
    case measure => simp [intOf]; omega
  · obtain rfl : n = k := by omega
    have hki : ¬ (n : Int) < (n : Int) := by omega
    go_wp2_with fail
    go_ret
    exact ⟨rfl, HB.out⟩
set_option maxHeartbeats 1000000 in
theorem pl_num {w : World} {v1 v2 : Value} (h : Twin w (.list .num) [v1] [v2]) :
 Calls Tryz.prog 62 #[v1, v2] w (fun e w' => e = .returned (.bool true) ∧ Below w.heap.size w w') := by
 have C := hid (sm_num h)
 clear h
 go_enter Tryz.func62, Tryz.ntmps62
 go_wp2_with (first | (go_at_call 121; refine C.out.mono ?_; rintro en w2 ⟨rfl, hb⟩; have HB := hid hb; clear hb))
 go_ret
 exact ⟨rfl, HB.out⟩
set_option maxHeartbeats 1000000 in
theorem pl1_Column (z0 : ByteArray) (z1 : Int) (z2 : Bool) (w : World) : Calls Tryz.prog 158 #[.agg #[(.string z0), (.int .i64 z1), (.bool z2)], .agg #[(.string z0), (.int .i64 z1), (.bool z2)]] w (fun e w' => e = .returned (.bool true) ∧ Below w.heap.size w w') := by
 have hb : Below w.heap.size w ((w.alloc (.cells #[(.string z0), (.int .i64 z1), (.bool z2)] 190)).alloc (.cells #[(.string z0), (.int .i64 z1), (.bool z2)] 190)) := ((Below.refl _ _).alloc (Nat.le_refl _) _).alloc (by simp) _
 have h0 : ((w.alloc (.cells #[(.string z0), (.int .i64 z1), (.bool z2)] 190)).alloc (.cells #[(.string z0), (.int .i64 z1), (.bool z2)] 190)).heap[w.heap.size]? = some (.cells ([(.string z0), (.int .i64 z1), (.bool z2)] : List Value).toArray 190 (0, 0)) := (Below.heap_alloc (w.alloc (.cells #[(.string z0), (.int .i64 z1), (.bool z2)] 190)) (.cells #[(.string z0), (.int .i64 z1), (.bool z2)] 190) w.heap.size (by simp)).trans (heap_alloc_new w (.cells #[(.string z0), (.int .i64 z1), (.bool z2)] 190))
 have h1 : ((w.alloc (.cells #[(.string z0), (.int .i64 z1), (.bool z2)] 190)).alloc (.cells #[(.string z0), (.int .i64 z1), (.bool z2)] 190)).heap[w.heap.size + 1]? = some (.cells ([(.string z0), (.int .i64 z1), (.bool z2)] : List Value).toArray 190 (0, 0)) := heap_alloc2_new w (.cells #[(.string z0), (.int .i64 z1), (.bool z2)] 190) (.cells #[(.string z0), (.int .i64 z1), (.bool z2)] 190)
 have c0 : ∀ (i : Nat) u, ([(.string z0), (.int .i64 z1), (.bool z2)] : List Value)[i]? = some u → ((w.alloc (.cells #[(.string z0), (.int .i64 z1), (.bool z2)] 190)).alloc (.cells #[(.string z0), (.int .i64 z1), (.bool z2)] 190)).cell? ⟨w.heap.size, i, none⟩ = some u := fun i u hu => by simp only [World.cell?, h0]; simpa using hu
 have c1 : ∀ (i : Nat) u, ([(.string z0), (.int .i64 z1), (.bool z2)] : List Value)[i]? = some u → ((w.alloc (.cells #[(.string z0), (.int .i64 z1), (.bool z2)] 190)).alloc (.cells #[(.string z0), (.int .i64 z1), (.bool z2)] 190)).cell? ⟨w.heap.size + 1, i, none⟩ = some u := fun i u hu => by simp only [World.cell?, h1]; simpa using hu
 have x0 := c0 0 _ rfl
 have y0 := c1 0 _ rfl
 have x1 := c0 1 _ rfl
 have y1 := c1 1 _ rfl
 have x2 := c0 2 _ rfl
 have y2 := c1 2 _ rfl
 clear h0 h1 c0 c1
 go_enter Tryz.func158, Tryz.ntmps158
 go_upto_region 1 with fail
 generalize (w.alloc (.cells #[(.string z0), (.int .i64 z1), (.bool z2)] 190)).alloc (.cells #[(.string z0), (.int .i64 z1), (.bool z2)] 190) = w1 at *
 go_wp2_with fail
 go_ret
 exact ⟨rfl, hb⟩
set_option maxHeartbeats 8000000 in
theorem sm_Column {w : World} {v1 v2 : Value} (h : Twin w (.list sColumn) [v1] [v2]) :
 Calls Tryz.prog 157 #[v1, v2, (.func (.func 158) #[] #[])] w (fun e w' => e = .returned (.bool true) ∧ Below w.heap.size w w') := by
 obtain ⟨a1, a2, n, c1, c2, M1, M2, rfl, rfl, hL1, hL2, hM⟩ := tw_list h
 have hc1 := hL1.cap.1
 have hc2 := hL2.cap.1
 have hn6 := hL1.cap.2.1
 have HL1 := hid hL1
 have HL2 := hid hL2
 have HM := hid hM
 clear h hL1 hL2 hM
 go_enter Tryz.func157, Tryz.ntmps157
 go_wp2_with fail
 go_loopw [7] (fun i wr => ∃ k, k ≤ n ∧ i = .int .i64 (k : Int) ∧ Below w.heap.size w wr) (fun i _ => n - (intOf i).toNat)
 case atStart => exact ⟨0, by omega, rfl, Below.refl _ _⟩
 case round =>
  obtain ⟨k, hk, rfl, hb⟩ := hrel
  have HB := hid hb
  clear hb
  by_cases hlt : k < n
  · have hki : (k : Int) < (n : Int) := by omega
    obtain ⟨x, y, bk1, o1, bk2, o2, hxy, rfl, rfl, hcx, hcy⟩ := tw_get HL1.out HL2.out HM.out (by decide) hlt
    obtain ⟨v0, v1, v2, u0, u1, u2, rfl, rfl, e0, e1, e2⟩ := Column_twin hxy
    obtain ⟨z0, rfl, rfl⟩ := tw_name e0
    obtain ⟨z1, rfl, rfl⟩ := tw_int e1
    obtain ⟨z2, rfl, rfl⟩ := tw_bool e2
    have CF : Hid (∀ V, Below w.heap.size w V → Calls Tryz.prog 158 #[.agg #[(.string z0), (.int .i64 z1), (.bool z2)], .agg #[(.string z0), (.int .i64 z1), (.bool z2)]] V (fun e w' => e = .returned (.bool true) ∧ Below V.heap.size V w')) := hid fun V _ => pl1_Column z0 z1 z2 V
    have hX : ∀ V, Below w.heap.size w V → ∀ (j : Nat) u, ([(.string z0), (.int .i64 z1), (.bool z2)] : List Value)[j]? = some u → V.cell? ⟨bk1, o1 + k * 3 + j, none⟩ = some u := hcx
    have hY : ∀ V, Below w.heap.size w V → ∀ (j : Nat) u, ([(.string z0), (.int .i64 z1), (.bool z2)] : List Value)[j]? = some u → V.cell? ⟨bk2, o2 + k * 3 + j, none⟩ = some u := hcy
    have HX := hid hX
    have HY := hid hY
    clear hX hY hcx hcy
    go_upto_region 6 with fail
    have HWd : Hid (Below w.heap.size w wr.drew) := hid (HB.out.trans ((show Below wr.heap.size wr wr.drew from ⟨rfl, rfl, rfl, Nat.le_refl _, fun _ _ => rfl⟩).mono HB.out.size))
    obtain ⟨S9, hS9⟩ : ∃ S9 : World → Prop, S9 = fun V => Below w.heap.size w V := ⟨_, rfl⟩
    have HS : Hid (∀ V, Below w.heap.size w V → S9 V) := hid fun V h => by rw [hS9]; exact h
    have HSI : Hid (∀ V, S9 V → Below w.heap.size w V) := hid fun V h => by rw [hS9] at h; exact h
    clear hS9
    refine wp_region_noPanic ?_
    refine wp_region_held_drew (S := S9) (by kernel_rfl) (HS.out _ HWd.out) (fun hHeld => ?_)
    generalize wr.drew = Wd at *
    refine tkH 0 ((.func (.func 158) #[] #[])) rfl (by kernel_rfl) (fun _ _ _ => False.elim) hHeld (Or.inl ⟨by rfl, fun W9 hW => by clear hHeld; simp only [jA, jB, jC]; go_simp⟩) ?_
    simp only [Act.put, jA, jB, jC, jD, jE, jF]
    refine tkH 1 ((.slice (some ⟨bk1, o1, none⟩) n c1)) rfl (by kernel_rfl) (fun _ _ _ => False.elim) hHeld (Or.inl ⟨by rfl, fun W9 hW => by clear hHeld; simp only [jA, jB, jC]; go_simp⟩) ?_
    simp only [Act.put, jA, jB, jC, jD, jE, jF]
    refine tkH 2 ((.int .i64 (k : Int))) rfl (by kernel_rfl) (fun _ _ _ => False.elim) hHeld (Or.inl ⟨by rfl, fun W9 hW => by clear hHeld; simp only [jA, jB, jC]; go_simp⟩) ?_
    simp only [Act.put, jA, jB, jC, jD, jE, jF]
    refine tkH 3 ((.pointer (some ⟨bk1, o1 + k * 3, none⟩))) rfl (by kernel_rfl) (fun _ _ _ => False.elim) hHeld (Or.inl ⟨by rfl, fun W9 hW => by clear hHeld; simp only [jA, jB, jC]; go_simp⟩) ?_
    simp only [Act.put, jA, jB, jC, jD, jE, jF]
    refine tkH 4 ((.agg #[(.string z0), (.int .i64 z1), (.bool z2)])) rfl (by kernel_rfl) (fun _ _ _ => False.elim) hHeld (Or.inl ⟨by rfl, fun W9 hW => by have hWW := HSI.out _ hW; have q0 := HX.out _ hWW 0 _ rfl; rw [Nat.add_zero] at q0; have q1 := HX.out _ hWW 1 _ rfl; have q2 := HX.out _ hWW 2 _ rfl; clear hHeld; simp only [jA, jB, jC]; go_simp⟩) ?_
    simp only [Act.put, jA, jB, jC, jD, jE, jF]
    refine tkH 5 ((.slice (some ⟨bk2, o2, none⟩) n c2)) rfl (by kernel_rfl) (fun _ _ _ => False.elim) hHeld (Or.inl ⟨by rfl, fun W9 hW => by clear hHeld; simp only [jA, jB, jC]; go_simp⟩) ?_
    simp only [Act.put, jA, jB, jC, jD, jE, jF]
    refine tkH 6 ((.int .i64 (k : Int))) rfl (by kernel_rfl) (fun _ _ _ => False.elim) hHeld (Or.inl ⟨by rfl, fun W9 hW => by clear hHeld; simp only [jA, jB, jC]; go_simp⟩) ?_
    simp only [Act.put, jA, jB, jC, jD, jE, jF]
    refine tkH 7 ((.pointer (some ⟨bk2, o2 + k * 3, none⟩))) rfl (by kernel_rfl) (fun _ _ _ => False.elim) hHeld (Or.inl ⟨by rfl, fun W9 hW => by clear hHeld; simp only [jA, jB, jC]; go_simp⟩) ?_
    simp only [Act.put, jA, jB, jC, jD, jE, jF]
    refine tkH 8 ((.agg #[(.string z0), (.int .i64 z1), (.bool z2)])) rfl (by kernel_rfl) (fun _ _ _ => False.elim) hHeld (Or.inl ⟨by rfl, fun W9 hW => by have hWW := HSI.out _ hW; have q0 := HY.out _ hWW 0 _ rfl; rw [Nat.add_zero] at q0; have q1 := HY.out _ hWW 1 _ rfl; have q2 := HY.out _ hWW 2 _ rfl; clear hHeld; simp only [jA, jB, jC]; go_simp⟩) ?_
    simp only [Act.put, jA, jB, jC, jD, jE, jF]
    have CC := hid (CF.out _ HWd.out)
    refine rdH 9 (by kernel_rfl) rfl fun K hK => ?_
    go_simp
    go_wp2_with (first | (go_at_call 158; refine CC.out.mono ?_; rintro en wE ⟨rfl, hbE⟩; have HBE := hid (HWd.out.trans (hbE.mono HWd.out.size)); clear hbE))
    refine hK.out _ _ (HS.out _ HBE.out) (fun hHeld => ?_)
    clear hK K
    refine tkH 10 (.bool false) rfl (by kernel_rfl) (fun _ _ _ => False.elim) hHeld (Or.inl ⟨by rfl, fun W9 hW => by clear hHeld; simp only [jA, jB, jC]; go_simp⟩) ?_
    simp only [Act.put, jA, jB, jC, jD, jE, jF]
    refine wpAnyH_done (by kernel_rfl) ?_ _
    refine NoPanic.normal ?_
    go_wp2_with fail
    go_roundw
    case rel => exact ⟨k + 1, by omega, by go_num, HBE.out⟩
    case measure => simp [intOf]; omega
  · obtain rfl : n = k := by omega
    have hki : ¬ (n : Int) < (n : Int) := by omega
    go_wp2_with fail
    go_ret
    exact ⟨rfl, HB.out⟩
set_option maxHeartbeats 1000000 in
theorem pl_Column {w : World} {v1 v2 : Value} (h : Twin w (.list sColumn) [v1] [v2]) :
 Calls Tryz.prog 119 #[v1, v2] w (fun e w' => e = .returned (.bool true) ∧ Below w.heap.size w w') := by
 have C := hid (sm_Column h)
 clear h
 go_enter Tryz.func119, Tryz.ntmps119
 go_wp2_with (first | (go_at_call 157; refine C.out.mono ?_; rintro en w2 ⟨rfl, hb⟩; have HB := hid hb; clear hb))
 go_ret
 exact ⟨rfl, HB.out⟩
set_option maxHeartbeats 8000000 in
theorem st_Table {w : World} {v0 v1 v2 v3 u0 u1 u2 u3 : Value} (e0 : Twin w .int [v0] [u0]) (e1 : Twin w .name [v1] [u1]) (e2 : Twin w (.list sColumn) [v2] [u2]) (e3 : Twin w (.list .int) [v3] [u3]) :
 Calls Tryz.prog 60 #[.agg #[v0, v1, v2, v3], .agg #[u0, u1, u2, u3]] w (fun e w' => e = .returned (.bool true) ∧ Below w.heap.size w w') := by
 obtain ⟨z0, rfl, rfl⟩ := tw_int e0
 obtain ⟨z1, rfl, rfl⟩ := tw_name e1
 have hb : Below w.heap.size w ((w.alloc (.cells #[(.int .i64 z0), (.string z1), v2, v3] 39)).alloc (.cells #[(.int .i64 z0), (.string z1), u2, u3] 39)) := ((Below.refl _ _).alloc (Nat.le_refl _) _).alloc (by simp) _
 have h0 : ((w.alloc (.cells #[(.int .i64 z0), (.string z1), v2, v3] 39)).alloc (.cells #[(.int .i64 z0), (.string z1), u2, u3] 39)).heap[w.heap.size]? = some (.cells ([(.int .i64 z0), (.string z1), v2, v3] : List Value).toArray 39 (0, 0)) := (Below.heap_alloc (w.alloc (.cells #[(.int .i64 z0), (.string z1), v2, v3] 39)) (.cells #[(.int .i64 z0), (.string z1), u2, u3] 39) w.heap.size (by simp)).trans (heap_alloc_new w (.cells #[(.int .i64 z0), (.string z1), v2, v3] 39))
 have h1 : ((w.alloc (.cells #[(.int .i64 z0), (.string z1), v2, v3] 39)).alloc (.cells #[(.int .i64 z0), (.string z1), u2, u3] 39)).heap[w.heap.size + 1]? = some (.cells ([(.int .i64 z0), (.string z1), u2, u3] : List Value).toArray 39 (0, 0)) := heap_alloc2_new w (.cells #[(.int .i64 z0), (.string z1), v2, v3] 39) (.cells #[(.int .i64 z0), (.string z1), u2, u3] 39)
 have C2 : Hid (∀ V, Below w.heap.size w V → _) := hid fun V hV => pl_Column (e2.old hV)
 have C3 : Hid (∀ V, Below w.heap.size w V → _) := hid fun V hV => pl_int (e3.old hV)
 have HC0 : Hid (∀ V, Below ((w.alloc (.cells #[(.int .i64 z0), (.string z1), v2, v3] 39)).alloc (.cells #[(.int .i64 z0), (.string z1), u2, u3] 39)).heap.size ((w.alloc (.cells #[(.int .i64 z0), (.string z1), v2, v3] 39)).alloc (.cells #[(.int .i64 z0), (.string z1), u2, u3] 39)) V → ∀ (i : Nat) u, ([(.int .i64 z0), (.string z1), v2, v3] : List Value)[i]? = some u → V.cell? ⟨w.heap.size, i, none⟩ = some u) := hid fun V hV i u hu => by have := (hV.block _ (lt_of_block h0)).trans h0; simp only [World.cell?, this]; simpa using hu
 have HC1 : Hid (∀ V, Below ((w.alloc (.cells #[(.int .i64 z0), (.string z1), v2, v3] 39)).alloc (.cells #[(.int .i64 z0), (.string z1), u2, u3] 39)).heap.size ((w.alloc (.cells #[(.int .i64 z0), (.string z1), v2, v3] 39)).alloc (.cells #[(.int .i64 z0), (.string z1), u2, u3] 39)) V → ∀ (i : Nat) u, ([(.int .i64 z0), (.string z1), u2, u3] : List Value)[i]? = some u → V.cell? ⟨w.heap.size + 1, i, none⟩ = some u) := hid fun V hV i u hu => by have := (hV.block _ (lt_of_block h1)).trans h1; simp only [World.cell?, this]; simpa using hu
 have HB := hid hb
 clear hb h0 h1 e0 e1 e2 e3
 go_enter Tryz.func60, Tryz.ntmps60
 go_upto_region 1 with fail
 generalize (w.alloc (.cells #[(.int .i64 z0), (.string z1), v2, v3] 39)).alloc (.cells #[(.int .i64 z0), (.string z1), u2, u3] 39) = w0 at *
 have HW0 : Hid (Below w0.heap.size w0 w0) := hid (Below.refl _ _)
 have x0 := HC0.out _ (Below.refl _ _) 0 _ rfl
 have y0 := HC1.out _ (Below.refl _ _) 0 _ rfl
 have x1 := HC0.out _ (Below.refl _ _) 1 _ rfl
 have y1 := HC1.out _ (Below.refl _ _) 1 _ rfl
 have x2 := HC0.out _ (Below.refl _ _) 2 _ rfl
 have y2 := HC1.out _ (Below.refl _ _) 2 _ rfl
 have CA0 := hid (C2.out _ HB.out)
 go_wp2_with (first | (go_at_call 119; refine CA0.out.mono ?_; rintro en r1 ⟨rfl, hb0⟩; have HW1 := hid (HW0.out.trans (hb0.mono HW0.out.size)); clear hb0; have CA1 := hid (C3.out _ (HB.out.trans (HW1.out.mono HB.out.size))); clear x0 y0; clear x1 y1; clear x2 y2; have x3_0 := HC0.out _ HW1.out 3 _ rfl; have y3_0 := HC1.out _ HW1.out 3 _ rfl) | (go_at_call 120; refine CA1.out.mono ?_; rintro en r2 ⟨rfl, hb1⟩; have HW2 := hid (HW1.out.trans (hb1.mono HW1.out.size)); clear hb1; clear x3_0 y3_0))
 go_ret
 exact ⟨rfl, HB.out.trans (HW2.out.mono HB.out.size)⟩
set_option maxHeartbeats 8000000 in
theorem sm_Table {w : World} {v1 v2 : Value} (h : Twin w (.list sTable) [v1] [v2]) :
 Calls Tryz.prog 64 #[v1, v2, (.func (.func 60) #[] #[])] w (fun e w' => e = .returned (.bool true) ∧ Below w.heap.size w w') := by
 obtain ⟨a1, a2, n, c1, c2, M1, M2, rfl, rfl, hL1, hL2, hM⟩ := tw_list h
 have hc1 := hL1.cap.1
 have hc2 := hL2.cap.1
 have hn6 := hL1.cap.2.1
 have HL1 := hid hL1
 have HL2 := hid hL2
 have HM := hid hM
 clear h hL1 hL2 hM
 go_enter Tryz.func64, Tryz.ntmps64
 go_wp2_with fail
 go_loopw [7] (fun i wr => ∃ k, k ≤ n ∧ i = .int .i64 (k : Int) ∧ Below w.heap.size w wr) (fun i _ => n - (intOf i).toNat)
 case atStart => exact ⟨0, by omega, rfl, Below.refl _ _⟩
 case round =>
  obtain ⟨k, hk, rfl, hb⟩ := hrel
  have HB := hid hb
  clear hb
  by_cases hlt : k < n
  · have hki : (k : Int) < (n : Int) := by omega
    obtain ⟨x, y, bk1, o1, bk2, o2, hxy, rfl, rfl, hcx, hcy⟩ := tw_get HL1.out HL2.out HM.out (by decide) hlt
    obtain ⟨v0, v1, v2, v3, u0, u1, u2, u3, rfl, rfl, e0, e1, e2, e3⟩ := Table_twin hxy
    have CF : Hid (∀ V, Below w.heap.size w V → Calls Tryz.prog 60 #[.agg #[v0, v1, v2, v3], .agg #[u0, u1, u2, u3]] V (fun e w' => e = .returned (.bool true) ∧ Below V.heap.size V w')) := hid fun V hV => st_Table (e0.old hV) (e1.old hV) (e2.old hV) (e3.old hV)
    have hX : ∀ V, Below w.heap.size w V → ∀ (j : Nat) u, ([v0, v1, v2, v3] : List Value)[j]? = some u → V.cell? ⟨bk1, o1 + k * 4 + j, none⟩ = some u := hcx
    have hY : ∀ V, Below w.heap.size w V → ∀ (j : Nat) u, ([u0, u1, u2, u3] : List Value)[j]? = some u → V.cell? ⟨bk2, o2 + k * 4 + j, none⟩ = some u := hcy
    have HX := hid hX
    have HY := hid hY
    clear hX hY hcx hcy
    go_upto_region 6 with fail
    have HWd : Hid (Below w.heap.size w wr.drew) := hid (HB.out.trans ((show Below wr.heap.size wr wr.drew from ⟨rfl, rfl, rfl, Nat.le_refl _, fun _ _ => rfl⟩).mono HB.out.size))
    obtain ⟨S9, hS9⟩ : ∃ S9 : World → Prop, S9 = fun V => Below w.heap.size w V := ⟨_, rfl⟩
    have HS : Hid (∀ V, Below w.heap.size w V → S9 V) := hid fun V h => by rw [hS9]; exact h
    have HSI : Hid (∀ V, S9 V → Below w.heap.size w V) := hid fun V h => by rw [hS9] at h; exact h
    clear hS9
    refine wp_region_noPanic ?_
    refine wp_region_held_drew (S := S9) (by kernel_rfl) (HS.out _ HWd.out) (fun hHeld => ?_)
    generalize wr.drew = Wd at *
    refine tkH 0 ((.func (.func 60) #[] #[])) rfl (by kernel_rfl) (fun _ _ _ => False.elim) hHeld (Or.inl ⟨by rfl, fun W9 hW => by clear hHeld; simp only [jA, jB, jC]; go_simp⟩) ?_
    simp only [Act.put, jA, jB, jC, jD, jE, jF]
    refine tkH 1 ((.slice (some ⟨bk1, o1, none⟩) n c1)) rfl (by kernel_rfl) (fun _ _ _ => False.elim) hHeld (Or.inl ⟨by rfl, fun W9 hW => by clear hHeld; simp only [jA, jB, jC]; go_simp⟩) ?_
    simp only [Act.put, jA, jB, jC, jD, jE, jF]
    refine tkH 2 ((.int .i64 (k : Int))) rfl (by kernel_rfl) (fun _ _ _ => False.elim) hHeld (Or.inl ⟨by rfl, fun W9 hW => by clear hHeld; simp only [jA, jB, jC]; go_simp⟩) ?_
    simp only [Act.put, jA, jB, jC, jD, jE, jF]
    refine tkH 3 ((.pointer (some ⟨bk1, o1 + k * 4, none⟩))) rfl (by kernel_rfl) (fun _ _ _ => False.elim) hHeld (Or.inl ⟨by rfl, fun W9 hW => by clear hHeld; simp only [jA, jB, jC]; go_simp⟩) ?_
    simp only [Act.put, jA, jB, jC, jD, jE, jF]
    refine tkH 4 (.agg #[v0, v1, v2, v3]) rfl (by kernel_rfl) (fun _ _ _ => False.elim) hHeld (Or.inl ⟨by rfl, fun W9 hW => by have hWW := HSI.out _ hW; have q0 := HX.out _ hWW 0 _ rfl; rw [Nat.add_zero] at q0; have q1 := HX.out _ hWW 1 _ rfl; have q2 := HX.out _ hWW 2 _ rfl; have q3 := HX.out _ hWW 3 _ rfl; clear hHeld; simp only [jA, jB, jC]; go_simp⟩) ?_
    simp only [Act.put, jA, jB, jC, jD, jE, jF]
    refine tkH 5 ((.slice (some ⟨bk2, o2, none⟩) n c2)) rfl (by kernel_rfl) (fun _ _ _ => False.elim) hHeld (Or.inl ⟨by rfl, fun W9 hW => by clear hHeld; simp only [jA, jB, jC]; go_simp⟩) ?_
    simp only [Act.put, jA, jB, jC, jD, jE, jF]
    refine tkH 6 ((.int .i64 (k : Int))) rfl (by kernel_rfl) (fun _ _ _ => False.elim) hHeld (Or.inl ⟨by rfl, fun W9 hW => by clear hHeld; simp only [jA, jB, jC]; go_simp⟩) ?_
    simp only [Act.put, jA, jB, jC, jD, jE, jF]
    refine tkH 7 ((.pointer (some ⟨bk2, o2 + k * 4, none⟩))) rfl (by kernel_rfl) (fun _ _ _ => False.elim) hHeld (Or.inl ⟨by rfl, fun W9 hW => by clear hHeld; simp only [jA, jB, jC]; go_simp⟩) ?_
    simp only [Act.put, jA, jB, jC, jD, jE, jF]
    refine tkH 8 (.agg #[u0, u1, u2, u3]) rfl (by kernel_rfl) (fun _ _ _ => False.elim) hHeld (Or.inl ⟨by rfl, fun W9 hW => by have hWW := HSI.out _ hW; have q0 := HY.out _ hWW 0 _ rfl; rw [Nat.add_zero] at q0; have q1 := HY.out _ hWW 1 _ rfl; have q2 := HY.out _ hWW 2 _ rfl; have q3 := HY.out _ hWW 3 _ rfl; clear hHeld; simp only [jA, jB, jC]; go_simp⟩) ?_
    simp only [Act.put, jA, jB, jC, jD, jE, jF]
    have CC := hid (CF.out _ HWd.out)
    refine rdH 9 (by kernel_rfl) rfl fun K hK => ?_
    go_simp
    go_wp2_with (first | (go_at_call 60; refine CC.out.mono ?_; rintro en wE ⟨rfl, hbE⟩; have HBE := hid (HWd.out.trans (hbE.mono HWd.out.size)); clear hbE))
    refine hK.out _ _ (HS.out _ HBE.out) (fun hHeld => ?_)
    clear hK K
    refine tkH 10 (.bool false) rfl (by kernel_rfl) (fun _ _ _ => False.elim) hHeld (Or.inl ⟨by rfl, fun W9 hW => by clear hHeld; simp only [jA, jB, jC]; go_simp⟩) ?_
    simp only [Act.put, jA, jB, jC, jD, jE, jF]
    refine wpAnyH_done (by kernel_rfl) ?_ _
    refine NoPanic.normal ?_
    go_wp2_with fail
    go_roundw
    case rel => exact ⟨k + 1, by omega, by go_num, HBE.out⟩
    case measure => simp [intOf]; omega
  · obtain rfl : n = k := by omega
    have hki : ¬ (n : Int) < (n : Int) := by omega
    go_wp2_with fail
    go_ret
    exact ⟨rfl, HB.out⟩
end Go.Proofs.YtmdgifmigikffaaGreat
namespace Go.Proofs.YtmdgifmigikffaaGreat
open Go.RowKit Go.Deep
set_option maxHeartbeats 8000000 in
theorem st_Index {w : World} {v0 v1 v2 v3 v4 v5 v6 u0 u1 u2 u3 u4 u5 u6 : Value} (e0 : Twin w .int [v0] [u0]) (e1 : Twin w .int [v1] [u1]) (e2 : Twin w .name [v2] [u2]) (e3 : Twin w (.list .int) [v3] [u3]) (e4 : Twin w .bool [v4] [u4]) (e5 : Twin w .int [v5] [u5]) (e6 : Twin w .bool [v6] [u6]) :
 Calls Tryz.prog 61 #[.agg #[v0, v1, v2, v3, v4, v5, v6], .agg #[u0, u1, u2, u3, u4, u5, u6]] w (fun e w' => e = .returned (.bool true) ∧ Below w.heap.size w w') := by
 obtain ⟨z0, rfl, rfl⟩ := tw_int e0
 obtain ⟨z1, rfl, rfl⟩ := tw_int e1
 obtain ⟨z2, rfl, rfl⟩ := tw_name e2
 obtain ⟨z4, rfl, rfl⟩ := tw_bool e4
 obtain ⟨z5, rfl, rfl⟩ := tw_int e5
 obtain ⟨z6, rfl, rfl⟩ := tw_bool e6
 have hb : Below w.heap.size w ((w.alloc (.cells #[(.int .i64 z0), (.int .i64 z1), (.string z2), v3, (.bool z4), (.int .i64 z5), (.bool z6)] 41)).alloc (.cells #[(.int .i64 z0), (.int .i64 z1), (.string z2), u3, (.bool z4), (.int .i64 z5), (.bool z6)] 41)) := ((Below.refl _ _).alloc (Nat.le_refl _) _).alloc (by simp) _
 have h0 : ((w.alloc (.cells #[(.int .i64 z0), (.int .i64 z1), (.string z2), v3, (.bool z4), (.int .i64 z5), (.bool z6)] 41)).alloc (.cells #[(.int .i64 z0), (.int .i64 z1), (.string z2), u3, (.bool z4), (.int .i64 z5), (.bool z6)] 41)).heap[w.heap.size]? = some (.cells ([(.int .i64 z0), (.int .i64 z1), (.string z2), v3, (.bool z4), (.int .i64 z5), (.bool z6)] : List Value).toArray 41 (0, 0)) := (Below.heap_alloc (w.alloc (.cells #[(.int .i64 z0), (.int .i64 z1), (.string z2), v3, (.bool z4), (.int .i64 z5), (.bool z6)] 41)) (.cells #[(.int .i64 z0), (.int .i64 z1), (.string z2), u3, (.bool z4), (.int .i64 z5), (.bool z6)] 41) w.heap.size (by simp)).trans (heap_alloc_new w (.cells #[(.int .i64 z0), (.int .i64 z1), (.string z2), v3, (.bool z4), (.int .i64 z5), (.bool z6)] 41))
 have h1 : ((w.alloc (.cells #[(.int .i64 z0), (.int .i64 z1), (.string z2), v3, (.bool z4), (.int .i64 z5), (.bool z6)] 41)).alloc (.cells #[(.int .i64 z0), (.int .i64 z1), (.string z2), u3, (.bool z4), (.int .i64 z5), (.bool z6)] 41)).heap[w.heap.size + 1]? = some (.cells ([(.int .i64 z0), (.int .i64 z1), (.string z2), u3, (.bool z4), (.int .i64 z5), (.bool z6)] : List Value).toArray 41 (0, 0)) := heap_alloc2_new w (.cells #[(.int .i64 z0), (.int .i64 z1), (.string z2), v3, (.bool z4), (.int .i64 z5), (.bool z6)] 41) (.cells #[(.int .i64 z0), (.int .i64 z1), (.string z2), u3, (.bool z4), (.int .i64 z5), (.bool z6)] 41)
 have C3 : Hid (∀ V, Below w.heap.size w V → _) := hid fun V hV => pl_int (e3.old hV)
 have HC0 : Hid (∀ V, Below ((w.alloc (.cells #[(.int .i64 z0), (.int .i64 z1), (.string z2), v3, (.bool z4), (.int .i64 z5), (.bool z6)] 41)).alloc (.cells #[(.int .i64 z0), (.int .i64 z1), (.string z2), u3, (.bool z4), (.int .i64 z5), (.bool z6)] 41)).heap.size ((w.alloc (.cells #[(.int .i64 z0), (.int .i64 z1), (.string z2), v3, (.bool z4), (.int .i64 z5), (.bool z6)] 41)).alloc (.cells #[(.int .i64 z0), (.int .i64 z1), (.string z2), u3, (.bool z4), (.int .i64 z5), (.bool z6)] 41)) V → ∀ (i : Nat) u, ([(.int .i64 z0), (.int .i64 z1), (.string z2), v3, (.bool z4), (.int .i64 z5), (.bool z6)] : List Value)[i]? = some u → V.cell? ⟨w.heap.size, i, none⟩ = some u) := hid fun V hV i u hu => by have := (hV.block _ (lt_of_block h0)).trans h0; simp only [World.cell?, this]; simpa using hu
 have HC1 : Hid (∀ V, Below ((w.alloc (.cells #[(.int .i64 z0), (.int .i64 z1), (.string z2), v3, (.bool z4), (.int .i64 z5), (.bool z6)] 41)).alloc (.cells #[(.int .i64 z0), (.int .i64 z1), (.string z2), u3, (.bool z4), (.int .i64 z5), (.bool z6)] 41)).heap.size ((w.alloc (.cells #[(.int .i64 z0), (.int .i64 z1), (.string z2), v3, (.bool z4), (.int .i64 z5), (.bool z6)] 41)).alloc (.cells #[(.int .i64 z0), (.int .i64 z1), (.string z2), u3, (.bool z4), (.int .i64 z5), (.bool z6)] 41)) V → ∀ (i : Nat) u, ([(.int .i64 z0), (.int .i64 z1), (.string z2), u3, (.bool z4), (.int .i64 z5), (.bool z6)] : List Value)[i]? = some u → V.cell? ⟨w.heap.size + 1, i, none⟩ = some u) := hid fun V hV i u hu => by have := (hV.block _ (lt_of_block h1)).trans h1; simp only [World.cell?, this]; simpa using hu
 have HB := hid hb
 clear hb h0 h1 e0 e1 e2 e3 e4 e5 e6
 go_enter Tryz.func61, Tryz.ntmps61
 go_upto_region 1 with fail
 generalize (w.alloc (.cells #[(.int .i64 z0), (.int .i64 z1), (.string z2), v3, (.bool z4), (.int .i64 z5), (.bool z6)] 41)).alloc (.cells #[(.int .i64 z0), (.int .i64 z1), (.string z2), u3, (.bool z4), (.int .i64 z5), (.bool z6)] 41) = w0 at *
 have HW0 : Hid (Below w0.heap.size w0 w0) := hid (Below.refl _ _)
 have x0 := HC0.out _ (Below.refl _ _) 0 _ rfl
 have y0 := HC1.out _ (Below.refl _ _) 0 _ rfl
 have x1 := HC0.out _ (Below.refl _ _) 1 _ rfl
 have y1 := HC1.out _ (Below.refl _ _) 1 _ rfl
 have x2 := HC0.out _ (Below.refl _ _) 2 _ rfl
 have y2 := HC1.out _ (Below.refl _ _) 2 _ rfl
 have x3 := HC0.out _ (Below.refl _ _) 3 _ rfl
 have y3 := HC1.out _ (Below.refl _ _) 3 _ rfl
 have CA0 := hid (C3.out _ HB.out)
 go_wp2_with (first | (go_at_call 120; refine CA0.out.mono ?_; rintro en r1 ⟨rfl, hb0⟩; have HW1 := hid (HW0.out.trans (hb0.mono HW0.out.size)); clear hb0; clear x0 y0; clear x1 y1; clear x2 y2; clear x3 y3; have x4_0 := HC0.out _ HW1.out 4 _ rfl; have y4_0 := HC1.out _ HW1.out 4 _ rfl; have x5_0 := HC0.out _ HW1.out 5 _ rfl; have y5_0 := HC1.out _ HW1.out 5 _ rfl; have x6_0 := HC0.out _ HW1.out 6 _ rfl; have y6_0 := HC1.out _ HW1.out 6 _ rfl))
 go_ret
 exact ⟨rfl, HB.out.trans (HW1.out.mono HB.out.size)⟩
set_option maxHeartbeats 8000000 in
theorem sm_Index {w : World} {v1 v2 : Value} (h : Twin w (.list sIndex) [v1] [v2]) :
 Calls Tryz.prog 65 #[v1, v2, (.func (.func 61) #[] #[])] w (fun e w' => e = .returned (.bool true) ∧ Below w.heap.size w w') := by
 obtain ⟨a1, a2, n, c1, c2, M1, M2, rfl, rfl, hL1, hL2, hM⟩ := tw_list h
 have hc1 := hL1.cap.1
 have hc2 := hL2.cap.1
 have hn6 := hL1.cap.2.1
 have HL1 := hid hL1
 have HL2 := hid hL2
 have HM := hid hM
 clear h hL1 hL2 hM
 go_enter Tryz.func65, Tryz.ntmps65
 go_wp2_with fail
 go_loopw [7] (fun i wr => ∃ k, k ≤ n ∧ i = .int .i64 (k : Int) ∧ Below w.heap.size w wr) (fun i _ => n - (intOf i).toNat)
 case atStart => exact ⟨0, by omega, rfl, Below.refl _ _⟩
 case round =>
  obtain ⟨k, hk, rfl, hb⟩ := hrel
  have HB := hid hb
  clear hb
  by_cases hlt : k < n
  · have hki : (k : Int) < (n : Int) := by omega
    obtain ⟨x, y, bk1, o1, bk2, o2, hxy, rfl, rfl, hcx, hcy⟩ := tw_get HL1.out HL2.out HM.out (by decide) hlt
    obtain ⟨v0, v1, v2, v3, v4, v5, v6, u0, u1, u2, u3, u4, u5, u6, rfl, rfl, e0, e1, e2, e3, e4, e5, e6⟩ := Index_twin hxy
    have CF : Hid (∀ V, Below w.heap.size w V → Calls Tryz.prog 61 #[.agg #[v0, v1, v2, v3, v4, v5, v6], .agg #[u0, u1, u2, u3, u4, u5, u6]] V (fun e w' => e = .returned (.bool true) ∧ Below V.heap.size V w')) := hid fun V hV => st_Index (e0.old hV) (e1.old hV) (e2.old hV) (e3.old hV) (e4.old hV) (e5.old hV) (e6.old hV)
    have hX : ∀ V, Below w.heap.size w V → ∀ (j : Nat) u, ([v0, v1, v2, v3, v4, v5, v6] : List Value)[j]? = some u → V.cell? ⟨bk1, o1 + k * 7 + j, none⟩ = some u := hcx
    have hY : ∀ V, Below w.heap.size w V → ∀ (j : Nat) u, ([u0, u1, u2, u3, u4, u5, u6] : List Value)[j]? = some u → V.cell? ⟨bk2, o2 + k * 7 + j, none⟩ = some u := hcy
    have HX := hid hX
    have HY := hid hY
    clear hX hY hcx hcy
    go_upto_region 6 with fail
    have HWd : Hid (Below w.heap.size w wr.drew) := hid (HB.out.trans ((show Below wr.heap.size wr wr.drew from ⟨rfl, rfl, rfl, Nat.le_refl _, fun _ _ => rfl⟩).mono HB.out.size))
    obtain ⟨S9, hS9⟩ : ∃ S9 : World → Prop, S9 = fun V => Below w.heap.size w V := ⟨_, rfl⟩
    have HS : Hid (∀ V, Below w.heap.size w V → S9 V) := hid fun V h => by rw [hS9]; exact h
    have HSI : Hid (∀ V, S9 V → Below w.heap.size w V) := hid fun V h => by rw [hS9] at h; exact h
    clear hS9
    refine wp_region_noPanic ?_
    refine wp_region_held_drew (S := S9) (by kernel_rfl) (HS.out _ HWd.out) (fun hHeld => ?_)
    generalize wr.drew = Wd at *
    refine tkH 0 ((.func (.func 61) #[] #[])) rfl (by kernel_rfl) (fun _ _ _ => False.elim) hHeld (Or.inl ⟨by rfl, fun W9 hW => by clear hHeld; simp only [jA, jB, jC]; go_simp⟩) ?_
    simp only [Act.put, jA, jB, jC, jD, jE, jF]
    refine tkH 1 ((.slice (some ⟨bk1, o1, none⟩) n c1)) rfl (by kernel_rfl) (fun _ _ _ => False.elim) hHeld (Or.inl ⟨by rfl, fun W9 hW => by clear hHeld; simp only [jA, jB, jC]; go_simp⟩) ?_
    simp only [Act.put, jA, jB, jC, jD, jE, jF]
    refine tkH 2 ((.int .i64 (k : Int))) rfl (by kernel_rfl) (fun _ _ _ => False.elim) hHeld (Or.inl ⟨by rfl, fun W9 hW => by clear hHeld; simp only [jA, jB, jC]; go_simp⟩) ?_
    simp only [Act.put, jA, jB, jC, jD, jE, jF]
    refine tkH 3 ((.pointer (some ⟨bk1, o1 + k * 7, none⟩))) rfl (by kernel_rfl) (fun _ _ _ => False.elim) hHeld (Or.inl ⟨by rfl, fun W9 hW => by clear hHeld; simp only [jA, jB, jC]; go_simp⟩) ?_
    simp only [Act.put, jA, jB, jC, jD, jE, jF]
    refine tkH 4 (.agg #[v0, v1, v2, v3, v4, v5, v6]) rfl (by kernel_rfl) (fun _ _ _ => False.elim) hHeld (Or.inl ⟨by rfl, fun W9 hW => by have hWW := HSI.out _ hW; have q0 := HX.out _ hWW 0 _ rfl; rw [Nat.add_zero] at q0; have q1 := HX.out _ hWW 1 _ rfl; have q2 := HX.out _ hWW 2 _ rfl; have q3 := HX.out _ hWW 3 _ rfl; have q4 := HX.out _ hWW 4 _ rfl; have q5 := HX.out _ hWW 5 _ rfl; have q6 := HX.out _ hWW 6 _ rfl; clear hHeld; simp only [jA, jB, jC]; go_simp⟩) ?_
    simp only [Act.put, jA, jB, jC, jD, jE, jF]
    refine tkH 5 ((.slice (some ⟨bk2, o2, none⟩) n c2)) rfl (by kernel_rfl) (fun _ _ _ => False.elim) hHeld (Or.inl ⟨by rfl, fun W9 hW => by clear hHeld; simp only [jA, jB, jC]; go_simp⟩) ?_
    simp only [Act.put, jA, jB, jC, jD, jE, jF]
    refine tkH 6 ((.int .i64 (k : Int))) rfl (by kernel_rfl) (fun _ _ _ => False.elim) hHeld (Or.inl ⟨by rfl, fun W9 hW => by clear hHeld; simp only [jA, jB, jC]; go_simp⟩) ?_
    simp only [Act.put, jA, jB, jC, jD, jE, jF]
    refine tkH 7 ((.pointer (some ⟨bk2, o2 + k * 7, none⟩))) rfl (by kernel_rfl) (fun _ _ _ => False.elim) hHeld (Or.inl ⟨by rfl, fun W9 hW => by clear hHeld; simp only [jA, jB, jC]; go_simp⟩) ?_
    simp only [Act.put, jA, jB, jC, jD, jE, jF]
    refine tkH 8 (.agg #[u0, u1, u2, u3, u4, u5, u6]) rfl (by kernel_rfl) (fun _ _ _ => False.elim) hHeld (Or.inl ⟨by rfl, fun W9 hW => by have hWW := HSI.out _ hW; have q0 := HY.out _ hWW 0 _ rfl; rw [Nat.add_zero] at q0; have q1 := HY.out _ hWW 1 _ rfl; have q2 := HY.out _ hWW 2 _ rfl; have q3 := HY.out _ hWW 3 _ rfl; have q4 := HY.out _ hWW 4 _ rfl; have q5 := HY.out _ hWW 5 _ rfl; have q6 := HY.out _ hWW 6 _ rfl; clear hHeld; simp only [jA, jB, jC]; go_simp⟩) ?_
    simp only [Act.put, jA, jB, jC, jD, jE, jF]
    have CC := hid (CF.out _ HWd.out)
    refine rdH 9 (by kernel_rfl) rfl fun K hK => ?_
    go_simp
    go_wp2_with (first | (go_at_call 61; refine CC.out.mono ?_; rintro en wE ⟨rfl, hbE⟩; have HBE := hid (HWd.out.trans (hbE.mono HWd.out.size)); clear hbE))
    refine hK.out _ _ (HS.out _ HBE.out) (fun hHeld => ?_)
    clear hK K
    refine tkH 10 (.bool false) rfl (by kernel_rfl) (fun _ _ _ => False.elim) hHeld (Or.inl ⟨by rfl, fun W9 hW => by clear hHeld; simp only [jA, jB, jC]; go_simp⟩) ?_
    simp only [Act.put, jA, jB, jC, jD, jE, jF]
    refine wpAnyH_done (by kernel_rfl) ?_ _
    refine NoPanic.normal ?_
    go_wp2_with fail
    go_roundw
    case rel => exact ⟨k + 1, by omega, by go_num, HBE.out⟩
    case measure => simp [intOf]; omega
  · obtain rfl : n = k := by omega
    have hki : ¬ (n : Int) < (n : Int) := by omega
    go_wp2_with fail
    go_ret
    exact ⟨rfl, HB.out⟩
set_option maxHeartbeats 8000000 in
theorem st_Catalog {w : World} {v0 v1 v2 v3 u0 u1 u2 u3 : Value} (e0 : Twin w .int [v0] [u0]) (e1 : Twin w .int [v1] [u1]) (e2 : Twin w (.list sTable) [v2] [u2]) (e3 : Twin w (.list sIndex) [v3] [u3]) :
 Calls Tryz.prog 19 #[.agg #[v0, v1, v2, v3], .agg #[u0, u1, u2, u3]] w (fun e w' => e = .returned (.bool true) ∧ Below w.heap.size w w') := by
 obtain ⟨z0, rfl, rfl⟩ := tw_int e0
 obtain ⟨z1, rfl, rfl⟩ := tw_int e1
 have hb : Below w.heap.size w ((w.alloc (.cells #[(.int .i64 z0), (.int .i64 z1), v2, v3] 50)).alloc (.cells #[(.int .i64 z0), (.int .i64 z1), u2, u3] 50)) := ((Below.refl _ _).alloc (Nat.le_refl _) _).alloc (by simp) _
 have h0 : ((w.alloc (.cells #[(.int .i64 z0), (.int .i64 z1), v2, v3] 50)).alloc (.cells #[(.int .i64 z0), (.int .i64 z1), u2, u3] 50)).heap[w.heap.size]? = some (.cells ([(.int .i64 z0), (.int .i64 z1), v2, v3] : List Value).toArray 50 (0, 0)) := (Below.heap_alloc (w.alloc (.cells #[(.int .i64 z0), (.int .i64 z1), v2, v3] 50)) (.cells #[(.int .i64 z0), (.int .i64 z1), u2, u3] 50) w.heap.size (by simp)).trans (heap_alloc_new w (.cells #[(.int .i64 z0), (.int .i64 z1), v2, v3] 50))
 have h1 : ((w.alloc (.cells #[(.int .i64 z0), (.int .i64 z1), v2, v3] 50)).alloc (.cells #[(.int .i64 z0), (.int .i64 z1), u2, u3] 50)).heap[w.heap.size + 1]? = some (.cells ([(.int .i64 z0), (.int .i64 z1), u2, u3] : List Value).toArray 50 (0, 0)) := heap_alloc2_new w (.cells #[(.int .i64 z0), (.int .i64 z1), v2, v3] 50) (.cells #[(.int .i64 z0), (.int .i64 z1), u2, u3] 50)
 have C2 : Hid (∀ V, Below w.heap.size w V → _) := hid fun V hV => sm_Table (e2.old hV)
 have C3 : Hid (∀ V, Below w.heap.size w V → _) := hid fun V hV => sm_Index (e3.old hV)
 have HC0 : Hid (∀ V, Below ((w.alloc (.cells #[(.int .i64 z0), (.int .i64 z1), v2, v3] 50)).alloc (.cells #[(.int .i64 z0), (.int .i64 z1), u2, u3] 50)).heap.size ((w.alloc (.cells #[(.int .i64 z0), (.int .i64 z1), v2, v3] 50)).alloc (.cells #[(.int .i64 z0), (.int .i64 z1), u2, u3] 50)) V → ∀ (i : Nat) u, ([(.int .i64 z0), (.int .i64 z1), v2, v3] : List Value)[i]? = some u → V.cell? ⟨w.heap.size, i, none⟩ = some u) := hid fun V hV i u hu => by have := (hV.block _ (lt_of_block h0)).trans h0; simp only [World.cell?, this]; simpa using hu
 have HC1 : Hid (∀ V, Below ((w.alloc (.cells #[(.int .i64 z0), (.int .i64 z1), v2, v3] 50)).alloc (.cells #[(.int .i64 z0), (.int .i64 z1), u2, u3] 50)).heap.size ((w.alloc (.cells #[(.int .i64 z0), (.int .i64 z1), v2, v3] 50)).alloc (.cells #[(.int .i64 z0), (.int .i64 z1), u2, u3] 50)) V → ∀ (i : Nat) u, ([(.int .i64 z0), (.int .i64 z1), u2, u3] : List Value)[i]? = some u → V.cell? ⟨w.heap.size + 1, i, none⟩ = some u) := hid fun V hV i u hu => by have := (hV.block _ (lt_of_block h1)).trans h1; simp only [World.cell?, this]; simpa using hu
 have HB := hid hb
 clear hb h0 h1 e0 e1 e2 e3
 go_enter Tryz.func19, Tryz.ntmps19
 go_upto_region 1 with fail
 generalize (w.alloc (.cells #[(.int .i64 z0), (.int .i64 z1), v2, v3] 50)).alloc (.cells #[(.int .i64 z0), (.int .i64 z1), u2, u3] 50) = w0 at *
 have HW0 : Hid (Below w0.heap.size w0 w0) := hid (Below.refl _ _)
 have x0 := HC0.out _ (Below.refl _ _) 0 _ rfl
 have y0 := HC1.out _ (Below.refl _ _) 0 _ rfl
 have x1 := HC0.out _ (Below.refl _ _) 1 _ rfl
 have y1 := HC1.out _ (Below.refl _ _) 1 _ rfl
 have x2 := HC0.out _ (Below.refl _ _) 2 _ rfl
 have y2 := HC1.out _ (Below.refl _ _) 2 _ rfl
 have CA0 := hid (C2.out _ HB.out)
 go_wp2_with (first | (go_at_call 64; refine CA0.out.mono ?_; rintro en r1 ⟨rfl, hb0⟩; have HW1 := hid (HW0.out.trans (hb0.mono HW0.out.size)); clear hb0; have CA1 := hid (C3.out _ (HB.out.trans (HW1.out.mono HB.out.size))); clear x0 y0; clear x1 y1; clear x2 y2; have x3_0 := HC0.out _ HW1.out 3 _ rfl; have y3_0 := HC1.out _ HW1.out 3 _ rfl) | (go_at_call 65; refine CA1.out.mono ?_; rintro en r2 ⟨rfl, hb1⟩; have HW2 := hid (HW1.out.trans (hb1.mono HW1.out.size)); clear hb1; clear x3_0 y3_0))
 go_ret
 exact ⟨rfl, HB.out.trans (HW2.out.mono HB.out.size)⟩
end Go.Proofs.YtmdgifmigikffaaGreat
namespace Go.Proofs.YtmdgifmigikffaaGreat
open Go.RowKit Go.Deep
set_option maxHeartbeats 8000000 in
theorem st_Span {w : World} {v0 v1 u0 u1 : Value} (e0 : Twin w .data [v0] [u0]) (e1 : Twin w .data [v1] [u1]) :
 Calls Tryz.prog 53 #[.agg #[v0, v1], .agg #[u0, u1]] w (fun e w' => e = .returned (.bool true) ∧ Below w.heap.size w w') := by
 have hb : Below w.heap.size w ((w.alloc (.cells #[v0, v1] 32)).alloc (.cells #[u0, u1] 32)) := ((Below.refl _ _).alloc (Nat.le_refl _) _).alloc (by simp) _
 have h0 : ((w.alloc (.cells #[v0, v1] 32)).alloc (.cells #[u0, u1] 32)).heap[w.heap.size]? = some (.cells ([v0, v1] : List Value).toArray 32 (0, 0)) := (Below.heap_alloc (w.alloc (.cells #[v0, v1] 32)) (.cells #[u0, u1] 32) w.heap.size (by simp)).trans (heap_alloc_new w (.cells #[v0, v1] 32))
 have h1 : ((w.alloc (.cells #[v0, v1] 32)).alloc (.cells #[u0, u1] 32)).heap[w.heap.size + 1]? = some (.cells ([u0, u1] : List Value).toArray 32 (0, 0)) := heap_alloc2_new w (.cells #[v0, v1] 32) (.cells #[u0, u1] 32)
 have C0 : Hid (∀ V, Below w.heap.size w V → _) := hid fun V hV => tw_Bytes (e0.old hV)
 have C1 : Hid (∀ V, Below w.heap.size w V → _) := hid fun V hV => tw_Bytes (e1.old hV)
 have HC0 : Hid (∀ V, Below ((w.alloc (.cells #[v0, v1] 32)).alloc (.cells #[u0, u1] 32)).heap.size ((w.alloc (.cells #[v0, v1] 32)).alloc (.cells #[u0, u1] 32)) V → ∀ (i : Nat) u, ([v0, v1] : List Value)[i]? = some u → V.cell? ⟨w.heap.size, i, none⟩ = some u) := hid fun V hV i u hu => by have := (hV.block _ (lt_of_block h0)).trans h0; simp only [World.cell?, this]; simpa using hu
 have HC1 : Hid (∀ V, Below ((w.alloc (.cells #[v0, v1] 32)).alloc (.cells #[u0, u1] 32)).heap.size ((w.alloc (.cells #[v0, v1] 32)).alloc (.cells #[u0, u1] 32)) V → ∀ (i : Nat) u, ([u0, u1] : List Value)[i]? = some u → V.cell? ⟨w.heap.size + 1, i, none⟩ = some u) := hid fun V hV i u hu => by have := (hV.block _ (lt_of_block h1)).trans h1; simp only [World.cell?, this]; simpa using hu
 have HB := hid hb
 clear hb h0 h1 e0 e1
 go_enter Tryz.func53, Tryz.ntmps53
 go_upto_region 1 with fail
 generalize (w.alloc (.cells #[v0, v1] 32)).alloc (.cells #[u0, u1] 32) = w0 at *
 have HW0 : Hid (Below w0.heap.size w0 w0) := hid (Below.refl _ _)
 have x0 := HC0.out _ (Below.refl _ _) 0 _ rfl
 have y0 := HC1.out _ (Below.refl _ _) 0 _ rfl
 have CA0 := hid (C0.out _ HB.out)
 go_wp2_with (first | (go_at_call 52; refine CA0.out.mono ?_; rintro en r1 ⟨rfl, hb0⟩; have HW1 := hid (HW0.out.trans (hb0.mono HW0.out.size)); clear hb0; have CA1 := hid (C1.out _ (HB.out.trans (HW1.out.mono HB.out.size))); clear x0 y0; have x1_0 := HC0.out _ HW1.out 1 _ rfl; have y1_0 := HC1.out _ HW1.out 1 _ rfl) | (go_at_call 52; refine CA1.out.mono ?_; rintro en r2 ⟨rfl, hb1⟩; have HW2 := hid (HW1.out.trans (hb1.mono HW1.out.size)); clear hb1; clear x1_0 y1_0))
 go_ret
 exact ⟨rfl, HB.out.trans (HW2.out.mono HB.out.size)⟩
set_option maxHeartbeats 8000000 in
theorem st_Pair {w : World} {v0 v1 v2 u0 u1 u2 : Value} (e0 : Twin w .data [v0] [u0]) (e1 : Twin w .data [v1] [u1]) (e2 : Twin w .int [v2] [u2]) :
 Calls Tryz.prog 55 #[.agg #[v0, v1, v2], .agg #[u0, u1, u2]] w (fun e w' => e = .returned (.bool true) ∧ Below w.heap.size w w') := by
 obtain ⟨z2, rfl, rfl⟩ := tw_int e2
 have hb : Below w.heap.size w ((w.alloc (.cells #[v0, v1, (.int .i64 z2)] 72)).alloc (.cells #[u0, u1, (.int .i64 z2)] 72)) := ((Below.refl _ _).alloc (Nat.le_refl _) _).alloc (by simp) _
 have h0 : ((w.alloc (.cells #[v0, v1, (.int .i64 z2)] 72)).alloc (.cells #[u0, u1, (.int .i64 z2)] 72)).heap[w.heap.size]? = some (.cells ([v0, v1, (.int .i64 z2)] : List Value).toArray 72 (0, 0)) := (Below.heap_alloc (w.alloc (.cells #[v0, v1, (.int .i64 z2)] 72)) (.cells #[u0, u1, (.int .i64 z2)] 72) w.heap.size (by simp)).trans (heap_alloc_new w (.cells #[v0, v1, (.int .i64 z2)] 72))
 have h1 : ((w.alloc (.cells #[v0, v1, (.int .i64 z2)] 72)).alloc (.cells #[u0, u1, (.int .i64 z2)] 72)).heap[w.heap.size + 1]? = some (.cells ([u0, u1, (.int .i64 z2)] : List Value).toArray 72 (0, 0)) := heap_alloc2_new w (.cells #[v0, v1, (.int .i64 z2)] 72) (.cells #[u0, u1, (.int .i64 z2)] 72)
 have C0 : Hid (∀ V, Below w.heap.size w V → _) := hid fun V hV => tw_Bytes (e0.old hV)
 have C1 : Hid (∀ V, Below w.heap.size w V → _) := hid fun V hV => tw_Bytes (e1.old hV)
 have HC0 : Hid (∀ V, Below ((w.alloc (.cells #[v0, v1, (.int .i64 z2)] 72)).alloc (.cells #[u0, u1, (.int .i64 z2)] 72)).heap.size ((w.alloc (.cells #[v0, v1, (.int .i64 z2)] 72)).alloc (.cells #[u0, u1, (.int .i64 z2)] 72)) V → ∀ (i : Nat) u, ([v0, v1, (.int .i64 z2)] : List Value)[i]? = some u → V.cell? ⟨w.heap.size, i, none⟩ = some u) := hid fun V hV i u hu => by have := (hV.block _ (lt_of_block h0)).trans h0; simp only [World.cell?, this]; simpa using hu
 have HC1 : Hid (∀ V, Below ((w.alloc (.cells #[v0, v1, (.int .i64 z2)] 72)).alloc (.cells #[u0, u1, (.int .i64 z2)] 72)).heap.size ((w.alloc (.cells #[v0, v1, (.int .i64 z2)] 72)).alloc (.cells #[u0, u1, (.int .i64 z2)] 72)) V → ∀ (i : Nat) u, ([u0, u1, (.int .i64 z2)] : List Value)[i]? = some u → V.cell? ⟨w.heap.size + 1, i, none⟩ = some u) := hid fun V hV i u hu => by have := (hV.block _ (lt_of_block h1)).trans h1; simp only [World.cell?, this]; simpa using hu
 have HB := hid hb
 clear hb h0 h1 e0 e1 e2
 go_enter Tryz.func55, Tryz.ntmps55
 go_upto_region 1 with fail
 generalize (w.alloc (.cells #[v0, v1, (.int .i64 z2)] 72)).alloc (.cells #[u0, u1, (.int .i64 z2)] 72) = w0 at *
 have HW0 : Hid (Below w0.heap.size w0 w0) := hid (Below.refl _ _)
 have x0 := HC0.out _ (Below.refl _ _) 0 _ rfl
 have y0 := HC1.out _ (Below.refl _ _) 0 _ rfl
 have CA0 := hid (C0.out _ HB.out)
 go_wp2_with (first | (go_at_call 52; refine CA0.out.mono ?_; rintro en r1 ⟨rfl, hb0⟩; have HW1 := hid (HW0.out.trans (hb0.mono HW0.out.size)); clear hb0; have CA1 := hid (C1.out _ (HB.out.trans (HW1.out.mono HB.out.size))); clear x0 y0; have x1_0 := HC0.out _ HW1.out 1 _ rfl; have y1_0 := HC1.out _ HW1.out 1 _ rfl) | (go_at_call 52; refine CA1.out.mono ?_; rintro en r2 ⟨rfl, hb1⟩; have HW2 := hid (HW1.out.trans (hb1.mono HW1.out.size)); clear hb1; clear x1_0 y1_0; have x2_1 := HC0.out _ HW2.out 2 _ rfl; have y2_1 := HC1.out _ HW2.out 2 _ rfl))
 go_ret
 exact ⟨rfl, HB.out.trans (HW2.out.mono HB.out.size)⟩
set_option maxHeartbeats 8000000 in
theorem sm_Pair {w : World} {v1 v2 : Value} (h : Twin w (.list sPair) [v1] [v2]) :
 Calls Tryz.prog 54 #[v1, v2, (.func (.func 55) #[] #[])] w (fun e w' => e = .returned (.bool true) ∧ Below w.heap.size w w') := by
 obtain ⟨a1, a2, n, c1, c2, M1, M2, rfl, rfl, hL1, hL2, hM⟩ := tw_list h
 have hc1 := hL1.cap.1
 have hc2 := hL2.cap.1
 have hn6 := hL1.cap.2.1
 have HL1 := hid hL1
 have HL2 := hid hL2
 have HM := hid hM
 clear h hL1 hL2 hM
 go_enter Tryz.func54, Tryz.ntmps54
 go_wp2_with fail
 go_loopw [7] (fun i wr => ∃ k, k ≤ n ∧ i = .int .i64 (k : Int) ∧ Below w.heap.size w wr) (fun i _ => n - (intOf i).toNat)
 case atStart => exact ⟨0, by omega, rfl, Below.refl _ _⟩
 case round =>
  obtain ⟨k, hk, rfl, hb⟩ := hrel
  have HB := hid hb
  clear hb
  by_cases hlt : k < n
  · have hki : (k : Int) < (n : Int) := by omega
    obtain ⟨x, y, bk1, o1, bk2, o2, hxy, rfl, rfl, hcx, hcy⟩ := tw_get HL1.out HL2.out HM.out (by decide) hlt
    obtain ⟨v0, v1, v2, u0, u1, u2, rfl, rfl, e0, e1, e2⟩ := Pair_twin hxy
    have CF : Hid (∀ V, Below w.heap.size w V → Calls Tryz.prog 55 #[.agg #[v0, v1, v2], .agg #[u0, u1, u2]] V (fun e w' => e = .returned (.bool true) ∧ Below V.heap.size V w')) := hid fun V hV => st_Pair (e0.old hV) (e1.old hV) (e2.old hV)
    have hX : ∀ V, Below w.heap.size w V → ∀ (j : Nat) u, ([v0, v1, v2] : List Value)[j]? = some u → V.cell? ⟨bk1, o1 + k * 3 + j, none⟩ = some u := hcx
    have hY : ∀ V, Below w.heap.size w V → ∀ (j : Nat) u, ([u0, u1, u2] : List Value)[j]? = some u → V.cell? ⟨bk2, o2 + k * 3 + j, none⟩ = some u := hcy
    have HX := hid hX
    have HY := hid hY
    clear hX hY hcx hcy
    go_upto_region 6 with fail
    have HWd : Hid (Below w.heap.size w wr.drew) := hid (HB.out.trans ((show Below wr.heap.size wr wr.drew from ⟨rfl, rfl, rfl, Nat.le_refl _, fun _ _ => rfl⟩).mono HB.out.size))
    obtain ⟨S9, hS9⟩ : ∃ S9 : World → Prop, S9 = fun V => Below w.heap.size w V := ⟨_, rfl⟩
    have HS : Hid (∀ V, Below w.heap.size w V → S9 V) := hid fun V h => by rw [hS9]; exact h
    have HSI : Hid (∀ V, S9 V → Below w.heap.size w V) := hid fun V h => by rw [hS9] at h; exact h
    clear hS9
    refine wp_region_noPanic ?_
    refine wp_region_held_drew (S := S9) (by kernel_rfl) (HS.out _ HWd.out) (fun hHeld => ?_)
    generalize wr.drew = Wd at *
    refine tkH 0 ((.func (.func 55) #[] #[])) rfl (by kernel_rfl) (fun _ _ _ => False.elim) hHeld (Or.inl ⟨by rfl, fun W9 hW => by clear hHeld; simp only [jA, jB, jC]; go_simp⟩) ?_
    simp only [Act.put, jA, jB, jC, jD, jE, jF]
    refine tkH 1 ((.slice (some ⟨bk1, o1, none⟩) n c1)) rfl (by kernel_rfl) (fun _ _ _ => False.elim) hHeld (Or.inl ⟨by rfl, fun W9 hW => by clear hHeld; simp only [jA, jB, jC]; go_simp⟩) ?_
    simp only [Act.put, jA, jB, jC, jD, jE, jF]
    refine tkH 2 ((.int .i64 (k : Int))) rfl (by kernel_rfl) (fun _ _ _ => False.elim) hHeld (Or.inl ⟨by rfl, fun W9 hW => by clear hHeld; simp only [jA, jB, jC]; go_simp⟩) ?_
    simp only [Act.put, jA, jB, jC, jD, jE, jF]
    refine tkH 3 ((.pointer (some ⟨bk1, o1 + k * 3, none⟩))) rfl (by kernel_rfl) (fun _ _ _ => False.elim) hHeld (Or.inl ⟨by rfl, fun W9 hW => by clear hHeld; simp only [jA, jB, jC]; go_simp⟩) ?_
    simp only [Act.put, jA, jB, jC, jD, jE, jF]
    refine tkH 4 (.agg #[v0, v1, v2]) rfl (by kernel_rfl) (fun _ _ _ => False.elim) hHeld (Or.inl ⟨by rfl, fun W9 hW => by have hWW := HSI.out _ hW; have q0 := HX.out _ hWW 0 _ rfl; rw [Nat.add_zero] at q0; have q1 := HX.out _ hWW 1 _ rfl; have q2 := HX.out _ hWW 2 _ rfl; clear hHeld; simp only [jA, jB, jC]; go_simp⟩) ?_
    simp only [Act.put, jA, jB, jC, jD, jE, jF]
    refine tkH 5 ((.slice (some ⟨bk2, o2, none⟩) n c2)) rfl (by kernel_rfl) (fun _ _ _ => False.elim) hHeld (Or.inl ⟨by rfl, fun W9 hW => by clear hHeld; simp only [jA, jB, jC]; go_simp⟩) ?_
    simp only [Act.put, jA, jB, jC, jD, jE, jF]
    refine tkH 6 ((.int .i64 (k : Int))) rfl (by kernel_rfl) (fun _ _ _ => False.elim) hHeld (Or.inl ⟨by rfl, fun W9 hW => by clear hHeld; simp only [jA, jB, jC]; go_simp⟩) ?_
    simp only [Act.put, jA, jB, jC, jD, jE, jF]
    refine tkH 7 ((.pointer (some ⟨bk2, o2 + k * 3, none⟩))) rfl (by kernel_rfl) (fun _ _ _ => False.elim) hHeld (Or.inl ⟨by rfl, fun W9 hW => by clear hHeld; simp only [jA, jB, jC]; go_simp⟩) ?_
    simp only [Act.put, jA, jB, jC, jD, jE, jF]
    refine tkH 8 (.agg #[u0, u1, u2]) rfl (by kernel_rfl) (fun _ _ _ => False.elim) hHeld (Or.inl ⟨by rfl, fun W9 hW => by have hWW := HSI.out _ hW; have q0 := HY.out _ hWW 0 _ rfl; rw [Nat.add_zero] at q0; have q1 := HY.out _ hWW 1 _ rfl; have q2 := HY.out _ hWW 2 _ rfl; clear hHeld; simp only [jA, jB, jC]; go_simp⟩) ?_
    simp only [Act.put, jA, jB, jC, jD, jE, jF]
    have CC := hid (CF.out _ HWd.out)
    refine rdH 9 (by kernel_rfl) rfl fun K hK => ?_
    go_simp
    go_wp2_with (first | (go_at_call 55; refine CC.out.mono ?_; rintro en wE ⟨rfl, hbE⟩; have HBE := hid (HWd.out.trans (hbE.mono HWd.out.size)); clear hbE))
    refine hK.out _ _ (HS.out _ HBE.out) (fun hHeld => ?_)
    clear hK K
    refine tkH 10 (.bool false) rfl (by kernel_rfl) (fun _ _ _ => False.elim) hHeld (Or.inl ⟨by rfl, fun W9 hW => by clear hHeld; simp only [jA, jB, jC]; go_simp⟩) ?_
    simp only [Act.put, jA, jB, jC, jD, jE, jF]
    refine wpAnyH_done (by kernel_rfl) ?_ _
    refine NoPanic.normal ?_
    go_wp2_with fail
    go_roundw
    case rel => exact ⟨k + 1, by omega, by go_num, HBE.out⟩
    case measure => simp [intOf]; omega
  · obtain rfl : n = k := by omega
    have hki : ¬ (n : Int) < (n : Int) := by omega
    go_wp2_with fail
    go_ret
    exact ⟨rfl, HB.out⟩
set_option maxHeartbeats 8000000 in
theorem st_Write {w : World} {v0 v1 v2 u0 u1 u2 : Value} (e0 : Twin w .data [v0] [u0]) (e1 : Twin w .data [v1] [u1]) (e2 : Twin w .bool [v2] [u2]) :
 Calls Tryz.prog 59 #[.agg #[v0, v1, v2], .agg #[u0, u1, u2]] w (fun e w' => e = .returned (.bool true) ∧ Below w.heap.size w w') := by
 obtain ⟨z2, rfl, rfl⟩ := tw_bool e2
 have hb : Below w.heap.size w ((w.alloc (.cells #[v0, v1, (.bool z2)] 116)).alloc (.cells #[u0, u1, (.bool z2)] 116)) := ((Below.refl _ _).alloc (Nat.le_refl _) _).alloc (by simp) _
 have h0 : ((w.alloc (.cells #[v0, v1, (.bool z2)] 116)).alloc (.cells #[u0, u1, (.bool z2)] 116)).heap[w.heap.size]? = some (.cells ([v0, v1, (.bool z2)] : List Value).toArray 116 (0, 0)) := (Below.heap_alloc (w.alloc (.cells #[v0, v1, (.bool z2)] 116)) (.cells #[u0, u1, (.bool z2)] 116) w.heap.size (by simp)).trans (heap_alloc_new w (.cells #[v0, v1, (.bool z2)] 116))
 have h1 : ((w.alloc (.cells #[v0, v1, (.bool z2)] 116)).alloc (.cells #[u0, u1, (.bool z2)] 116)).heap[w.heap.size + 1]? = some (.cells ([u0, u1, (.bool z2)] : List Value).toArray 116 (0, 0)) := heap_alloc2_new w (.cells #[v0, v1, (.bool z2)] 116) (.cells #[u0, u1, (.bool z2)] 116)
 have C0 : Hid (∀ V, Below w.heap.size w V → _) := hid fun V hV => tw_Bytes (e0.old hV)
 have C1 : Hid (∀ V, Below w.heap.size w V → _) := hid fun V hV => tw_Bytes (e1.old hV)
 have HC0 : Hid (∀ V, Below ((w.alloc (.cells #[v0, v1, (.bool z2)] 116)).alloc (.cells #[u0, u1, (.bool z2)] 116)).heap.size ((w.alloc (.cells #[v0, v1, (.bool z2)] 116)).alloc (.cells #[u0, u1, (.bool z2)] 116)) V → ∀ (i : Nat) u, ([v0, v1, (.bool z2)] : List Value)[i]? = some u → V.cell? ⟨w.heap.size, i, none⟩ = some u) := hid fun V hV i u hu => by have := (hV.block _ (lt_of_block h0)).trans h0; simp only [World.cell?, this]; simpa using hu
 have HC1 : Hid (∀ V, Below ((w.alloc (.cells #[v0, v1, (.bool z2)] 116)).alloc (.cells #[u0, u1, (.bool z2)] 116)).heap.size ((w.alloc (.cells #[v0, v1, (.bool z2)] 116)).alloc (.cells #[u0, u1, (.bool z2)] 116)) V → ∀ (i : Nat) u, ([u0, u1, (.bool z2)] : List Value)[i]? = some u → V.cell? ⟨w.heap.size + 1, i, none⟩ = some u) := hid fun V hV i u hu => by have := (hV.block _ (lt_of_block h1)).trans h1; simp only [World.cell?, this]; simpa using hu
 have HB := hid hb
 clear hb h0 h1 e0 e1 e2
 go_enter Tryz.func59, Tryz.ntmps59
 go_upto_region 1 with fail
 generalize (w.alloc (.cells #[v0, v1, (.bool z2)] 116)).alloc (.cells #[u0, u1, (.bool z2)] 116) = w0 at *
 have HW0 : Hid (Below w0.heap.size w0 w0) := hid (Below.refl _ _)
 have x0 := HC0.out _ (Below.refl _ _) 0 _ rfl
 have y0 := HC1.out _ (Below.refl _ _) 0 _ rfl
 have CA0 := hid (C0.out _ HB.out)
 go_wp2_with (first | (go_at_call 52; refine CA0.out.mono ?_; rintro en r1 ⟨rfl, hb0⟩; have HW1 := hid (HW0.out.trans (hb0.mono HW0.out.size)); clear hb0; have CA1 := hid (C1.out _ (HB.out.trans (HW1.out.mono HB.out.size))); clear x0 y0; have x1_0 := HC0.out _ HW1.out 1 _ rfl; have y1_0 := HC1.out _ HW1.out 1 _ rfl) | (go_at_call 52; refine CA1.out.mono ?_; rintro en r2 ⟨rfl, hb1⟩; have HW2 := hid (HW1.out.trans (hb1.mono HW1.out.size)); clear hb1; clear x1_0 y1_0; have x2_1 := HC0.out _ HW2.out 2 _ rfl; have y2_1 := HC1.out _ HW2.out 2 _ rfl))
 go_ret
 exact ⟨rfl, HB.out.trans (HW2.out.mono HB.out.size)⟩
set_option maxHeartbeats 8000000 in
theorem sm_Write {w : World} {v1 v2 : Value} (h : Twin w (.list sWrite) [v1] [v2]) :
 Calls Tryz.prog 58 #[v1, v2, (.func (.func 59) #[] #[])] w (fun e w' => e = .returned (.bool true) ∧ Below w.heap.size w w') := by
 obtain ⟨a1, a2, n, c1, c2, M1, M2, rfl, rfl, hL1, hL2, hM⟩ := tw_list h
 have hc1 := hL1.cap.1
 have hc2 := hL2.cap.1
 have hn6 := hL1.cap.2.1
 have HL1 := hid hL1
 have HL2 := hid hL2
 have HM := hid hM
 clear h hL1 hL2 hM
 go_enter Tryz.func58, Tryz.ntmps58
 go_wp2_with fail
 go_loopw [7] (fun i wr => ∃ k, k ≤ n ∧ i = .int .i64 (k : Int) ∧ Below w.heap.size w wr) (fun i _ => n - (intOf i).toNat)
 case atStart => exact ⟨0, by omega, rfl, Below.refl _ _⟩
 case round =>
  obtain ⟨k, hk, rfl, hb⟩ := hrel
  have HB := hid hb
  clear hb
  by_cases hlt : k < n
  · have hki : (k : Int) < (n : Int) := by omega
    obtain ⟨x, y, bk1, o1, bk2, o2, hxy, rfl, rfl, hcx, hcy⟩ := tw_get HL1.out HL2.out HM.out (by decide) hlt
    obtain ⟨v0, v1, v2, u0, u1, u2, rfl, rfl, e0, e1, e2⟩ := Write_twin hxy
    have CF : Hid (∀ V, Below w.heap.size w V → Calls Tryz.prog 59 #[.agg #[v0, v1, v2], .agg #[u0, u1, u2]] V (fun e w' => e = .returned (.bool true) ∧ Below V.heap.size V w')) := hid fun V hV => st_Write (e0.old hV) (e1.old hV) (e2.old hV)
    have hX : ∀ V, Below w.heap.size w V → ∀ (j : Nat) u, ([v0, v1, v2] : List Value)[j]? = some u → V.cell? ⟨bk1, o1 + k * 3 + j, none⟩ = some u := hcx
    have hY : ∀ V, Below w.heap.size w V → ∀ (j : Nat) u, ([u0, u1, u2] : List Value)[j]? = some u → V.cell? ⟨bk2, o2 + k * 3 + j, none⟩ = some u := hcy
    have HX := hid hX
    have HY := hid hY
    clear hX hY hcx hcy
    go_upto_region 6 with fail
    have HWd : Hid (Below w.heap.size w wr.drew) := hid (HB.out.trans ((show Below wr.heap.size wr wr.drew from ⟨rfl, rfl, rfl, Nat.le_refl _, fun _ _ => rfl⟩).mono HB.out.size))
    obtain ⟨S9, hS9⟩ : ∃ S9 : World → Prop, S9 = fun V => Below w.heap.size w V := ⟨_, rfl⟩
    have HS : Hid (∀ V, Below w.heap.size w V → S9 V) := hid fun V h => by rw [hS9]; exact h
    have HSI : Hid (∀ V, S9 V → Below w.heap.size w V) := hid fun V h => by rw [hS9] at h; exact h
    clear hS9
    refine wp_region_noPanic ?_
    refine wp_region_held_drew (S := S9) (by kernel_rfl) (HS.out _ HWd.out) (fun hHeld => ?_)
    generalize wr.drew = Wd at *
    refine tkH 0 ((.func (.func 59) #[] #[])) rfl (by kernel_rfl) (fun _ _ _ => False.elim) hHeld (Or.inl ⟨by rfl, fun W9 hW => by clear hHeld; simp only [jA, jB, jC]; go_simp⟩) ?_
    simp only [Act.put, jA, jB, jC, jD, jE, jF]
    refine tkH 1 ((.slice (some ⟨bk1, o1, none⟩) n c1)) rfl (by kernel_rfl) (fun _ _ _ => False.elim) hHeld (Or.inl ⟨by rfl, fun W9 hW => by clear hHeld; simp only [jA, jB, jC]; go_simp⟩) ?_
    simp only [Act.put, jA, jB, jC, jD, jE, jF]
    refine tkH 2 ((.int .i64 (k : Int))) rfl (by kernel_rfl) (fun _ _ _ => False.elim) hHeld (Or.inl ⟨by rfl, fun W9 hW => by clear hHeld; simp only [jA, jB, jC]; go_simp⟩) ?_
    simp only [Act.put, jA, jB, jC, jD, jE, jF]
    refine tkH 3 ((.pointer (some ⟨bk1, o1 + k * 3, none⟩))) rfl (by kernel_rfl) (fun _ _ _ => False.elim) hHeld (Or.inl ⟨by rfl, fun W9 hW => by clear hHeld; simp only [jA, jB, jC]; go_simp⟩) ?_
    simp only [Act.put, jA, jB, jC, jD, jE, jF]
    refine tkH 4 (.agg #[v0, v1, v2]) rfl (by kernel_rfl) (fun _ _ _ => False.elim) hHeld (Or.inl ⟨by rfl, fun W9 hW => by have hWW := HSI.out _ hW; have q0 := HX.out _ hWW 0 _ rfl; rw [Nat.add_zero] at q0; have q1 := HX.out _ hWW 1 _ rfl; have q2 := HX.out _ hWW 2 _ rfl; clear hHeld; simp only [jA, jB, jC]; go_simp⟩) ?_
    simp only [Act.put, jA, jB, jC, jD, jE, jF]
    refine tkH 5 ((.slice (some ⟨bk2, o2, none⟩) n c2)) rfl (by kernel_rfl) (fun _ _ _ => False.elim) hHeld (Or.inl ⟨by rfl, fun W9 hW => by clear hHeld; simp only [jA, jB, jC]; go_simp⟩) ?_
    simp only [Act.put, jA, jB, jC, jD, jE, jF]
    refine tkH 6 ((.int .i64 (k : Int))) rfl (by kernel_rfl) (fun _ _ _ => False.elim) hHeld (Or.inl ⟨by rfl, fun W9 hW => by clear hHeld; simp only [jA, jB, jC]; go_simp⟩) ?_
    simp only [Act.put, jA, jB, jC, jD, jE, jF]
    refine tkH 7 ((.pointer (some ⟨bk2, o2 + k * 3, none⟩))) rfl (by kernel_rfl) (fun _ _ _ => False.elim) hHeld (Or.inl ⟨by rfl, fun W9 hW => by clear hHeld; simp only [jA, jB, jC]; go_simp⟩) ?_
    simp only [Act.put, jA, jB, jC, jD, jE, jF]
    refine tkH 8 (.agg #[u0, u1, u2]) rfl (by kernel_rfl) (fun _ _ _ => False.elim) hHeld (Or.inl ⟨by rfl, fun W9 hW => by have hWW := HSI.out _ hW; have q0 := HY.out _ hWW 0 _ rfl; rw [Nat.add_zero] at q0; have q1 := HY.out _ hWW 1 _ rfl; have q2 := HY.out _ hWW 2 _ rfl; clear hHeld; simp only [jA, jB, jC]; go_simp⟩) ?_
    simp only [Act.put, jA, jB, jC, jD, jE, jF]
    have CC := hid (CF.out _ HWd.out)
    refine rdH 9 (by kernel_rfl) rfl fun K hK => ?_
    go_simp
    go_wp2_with (first | (go_at_call 59; refine CC.out.mono ?_; rintro en wE ⟨rfl, hbE⟩; have HBE := hid (HWd.out.trans (hbE.mono HWd.out.size)); clear hbE))
    refine hK.out _ _ (HS.out _ HBE.out) (fun hHeld => ?_)
    clear hK K
    refine tkH 10 (.bool false) rfl (by kernel_rfl) (fun _ _ _ => False.elim) hHeld (Or.inl ⟨by rfl, fun W9 hW => by clear hHeld; simp only [jA, jB, jC]; go_simp⟩) ?_
    simp only [Act.put, jA, jB, jC, jD, jE, jF]
    refine wpAnyH_done (by kernel_rfl) ?_ _
    refine NoPanic.normal ?_
    go_wp2_with fail
    go_roundw
    case rel => exact ⟨k + 1, by omega, by go_num, HBE.out⟩
    case measure => simp [intOf]; omega
  · obtain rfl : n = k := by omega
    have hki : ¬ (n : Int) < (n : Int) := by omega
    go_wp2_with fail
    go_ret
    exact ⟨rfl, HB.out⟩
end Go.Proofs.YtmdgifmigikffaaGreat
