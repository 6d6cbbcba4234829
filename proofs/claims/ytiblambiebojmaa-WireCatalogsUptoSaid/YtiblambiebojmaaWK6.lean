import Derived.WalkKit
import Derived.OpenShut
import Derived.Test.YtiblambiebojmaaRows
import Derived.WalkSpells
import Derived.WalkLawsBesides
import Derived.Laws.AppendOwnNone
import Derived.ProofKit
import Derived.ShutString
import Derived.ChangeOld
import Derived.Below
import Derived.SizedLaws
import Derived.Deep.Slices
import Derived.Deep.AppendLies
import Derived.Deep.Strs
import Derived.Deep.RegionHeld3
import Derived.Lib.ConvBytes
import Derived.Laws.AppendOwn
import Derived.Deep.CutRange
import Derived.Deep.MidRow
import Derived.Great.Walk
import Derived.Test.YtiblambiebojmaaWK1
import Derived.Test.YtiblambiebojmaaWK2
import Derived.Test.YtiblambiebojmaaWK3
import Derived.Test.YtiblambiebojmaaWK4
import Derived.Test.YtiblambiebojmaaWK5
set_option linter.unusedVariables false
set_option linter.unusedSimpArgs false
set_option linter.unusedVariables false
set_option linter.unusedSimpArgs false
set_option maxRecDepth 100000
namespace Go.Proofs.Ytiblambiebojmaa
open Go.RowKit Go.Deep

set_option maxHeartbeats 8000000 in
theorem same_Table {w : World} {v1 v2 : Value} {b : List UInt8} (h1 : Enc w (.list sTable) [v1] b) (h2 : Enc w (.list sTable) [v2] b) (hl : b.length ≤ 5000) :
    Calls Try.prog 44 #[v1, v2, (.func (.func 45) #[] #[])] w (fun e w' => e = .returned (.bool true) ∧ Below w.heap.size w w') := by
  obtain ⟨a1, n, c1, M1, rfl, hL1, rfl⟩ := list_open h1
  obtain ⟨a2, n2, c2, M2, rfl, hL2, hbb⟩ := list_open h2
  obtain ⟨hnn, hM⟩ := list_pair (by decide) hL1 hL2 hbb hl
  subst hnn
  have hc1 := hL1.cap.1
  have hc2 := hL2.cap.1
  have hn6 := hL1.cap.2.1
  have htl : (takeB M1 n).length ≤ 5000 := by rw [List.length_append] at hl; omega
  have HL1 := hid hL1
  have HL2 := hid hL2
  have HM := hid (And.intro hM htl)
  clear h1 h2 hL1 hL2 hM hbb hl htl
  go_enter Try.func44, Try.ntmps44
  go_wp2_with fail
  go_loopw [7] (fun i wr => ∃ k, k ≤ n ∧ i = .int .i64 (k : Int) ∧ Below w.heap.size w wr) (fun i _ => n - (intOf i).toNat)
  case atStart => exact ⟨0, by omega, rfl, Below.refl _ _⟩
  case round =>
    obtain ⟨k, hk, rfl, hb⟩ := hrel
    have HB := hid hb
    clear hb
    by_cases hlt : k < n
    · have hki : (k : Int) < (n : Int) := by omega
      obtain ⟨x, y, b, bk1, o1, bk2, o2, hx, hy, hbl, rfl, rfl, hcx, hcy⟩ := pair_get HL1.out HL2.out HM.out.1 (by decide) hlt HM.out.2
      obtain ⟨v0, v1, v2, v3, b0, b1, b2, b3, rfl, rfl, e0, e1, e2, e3⟩ := Table_cells hx
      obtain ⟨u0, u1, u2, u3, p0, p1, p2, p3, rfl, hbq, f0, f1, f2, f3⟩ := Table_cells hy
      have hbl2 : (p0 ++ (p1 ++ (p2 ++ p3))).length ≤ 5000 := by rw [← hbq]; exact hbl
      simp only [List.length_append] at hbl hbl2
      obtain ⟨rfl, hbq0⟩ := enc_inj (by decide) e0 f0 (by omega) (by omega) hbq
      obtain ⟨rfl, hbq1⟩ := enc_inj (by decide) e1 f1 (by omega) (by omega) hbq0
      obtain ⟨rfl, hbq2⟩ := enc_inj (by decide) e2 f2 (by omega) (by omega) hbq1
      subst hbq2
      have CF : Hid (∀ V, Below w.heap.size w V → Calls Try.prog 45 #[.agg #[v0, v1, v2, v3], .agg #[u0, u1, u2, u3]] V (fun e w' => e = .returned (.bool true) ∧ Below V.heap.size V w')) := hid fun V hV => samest_Table (Enc.old hV _ e0) (Enc.old hV _ f0) (Enc.old hV _ e1) (Enc.old hV _ f1) (Enc.old hV _ e2) (Enc.old hV _ f2) (Enc.old hV _ e3) (Enc.old hV _ f3) (by simp only [List.length_append]; omega)
      have hX : ∀ V, Below w.heap.size w V → ∀ (j : Nat) u, ([v0, v1, v2, v3] : List Value)[j]? = some u → V.cell? ⟨bk1, o1 + k * 4 + j, none⟩ = some u := hcx
      have hY : ∀ V, Below w.heap.size w V → ∀ (j : Nat) u, ([u0, u1, u2, u3] : List Value)[j]? = some u → V.cell? ⟨bk2, o2 + k * 4 + j, none⟩ = some u := hcy
      have HX := hid hX
      have HY := hid hY
      clear hX hY hcx hcy
      go_upto_region 6 with fail
      have HWd : Hid (Below w.heap.size w wr.drew) := hid (HB.out.trans ((show Below wr.heap.size wr wr.drew from ⟨rfl, rfl, rfl, Nat.le_refl _, fun _ _ => rfl⟩).mono HB.out.size))
      obtain ⟨S9, hS9⟩ : ∃ S9 : World → Prop, S9 = fun V => Below w.heap.size w V := ⟨_, rfl⟩
      have HS : Hid (∀ V, Below w.heap.size w V → S9 V) := hid fun V h => by rw [hS9]; exact h
      have HSI : Hid (∀ V, S9 V → Below w.heap.size w V) := hid fun V h => by rw [hS9] at h; exact h
      clear hS9
      refine wp_region_noPanic ?_
      refine wp_region_held_drew (S := S9) (by kernel_rfl) (HS.out _ HWd.out) (fun hHeld => ?_)
      generalize wr.drew = Wd at *
      refine wpAnyH_take (i := 0) (v := (.func (.func 45) #[] #[])) rfl (by kernel_rfl) (by kernel_rfl) (by kernel_rfl) (fun _ _ _ h => (show False from h).elim) ?xySMTable1 ?xhSMTable1 ?xrSMTable1
      case xhSMTable1 => exact hHeld
      case xySMTable1 => exact Or.inl ⟨by rfl, fun W9 hW => by clear hHeld; simp only [List.getElem_toArray, List.getElem_cons_succ, List.getElem_cons_zero]; go_simp⟩
      simp only [Act.put, List.getElem_toArray, List.getElem_cons_succ, List.getElem_cons_zero, List.setIfInBounds_toArray, List.set_cons_succ, List.set_cons_zero]
      refine wpAnyH_take (i := 1) (v := (.slice (some ⟨bk1, o1, none⟩) n c1)) rfl (by kernel_rfl) (by kernel_rfl) (by kernel_rfl) (fun _ _ _ h => (show False from h).elim) ?xySMTable2 ?xhSMTable2 ?xrSMTable2
      case xhSMTable2 => exact hHeld
      case xySMTable2 => exact Or.inl ⟨by rfl, fun W9 hW => by clear hHeld; simp only [List.getElem_toArray, List.getElem_cons_succ, List.getElem_cons_zero]; go_simp⟩
      simp only [Act.put, List.getElem_toArray, List.getElem_cons_succ, List.getElem_cons_zero, List.setIfInBounds_toArray, List.set_cons_succ, List.set_cons_zero]
      refine wpAnyH_take (i := 2) (v := (.int .i64 (k : Int))) rfl (by kernel_rfl) (by kernel_rfl) (by kernel_rfl) (fun _ _ _ h => (show False from h).elim) ?xySMTable3 ?xhSMTable3 ?xrSMTable3
      case xhSMTable3 => exact hHeld
      case xySMTable3 => exact Or.inl ⟨by rfl, fun W9 hW => by clear hHeld; simp only [List.getElem_toArray, List.getElem_cons_succ, List.getElem_cons_zero]; go_simp⟩
      simp only [Act.put, List.getElem_toArray, List.getElem_cons_succ, List.getElem_cons_zero, List.setIfInBounds_toArray, List.set_cons_succ, List.set_cons_zero]
      refine wpAnyH_take (i := 3) (v := (.pointer (some ⟨bk1, o1 + k * 4, none⟩))) rfl (by kernel_rfl) (by kernel_rfl) (by kernel_rfl) (fun _ _ _ h => (show False from h).elim) ?xySMTable4 ?xhSMTable4 ?xrSMTable4
      case xhSMTable4 => exact hHeld
      case xySMTable4 => exact Or.inl ⟨by rfl, fun W9 hW => by clear hHeld; simp only [List.getElem_toArray, List.getElem_cons_succ, List.getElem_cons_zero]; go_simp⟩
      simp only [Act.put, List.getElem_toArray, List.getElem_cons_succ, List.getElem_cons_zero, List.setIfInBounds_toArray, List.set_cons_succ, List.set_cons_zero]
      refine wpAnyH_take (i := 4) (v := (.agg #[v0, v1, v2, v3])) rfl (by kernel_rfl) (by kernel_rfl) (by kernel_rfl) (fun _ _ _ h => (show False from h).elim) ?xySMTable5 ?xhSMTable5 ?xrSMTable5
      case xhSMTable5 => exact hHeld
      case xySMTable5 => exact Or.inl ⟨by rfl, fun W9 hW => by have hWW := HSI.out _ hW; have q0 := HX.out _ hWW 0 _ rfl; rw [Nat.add_zero] at q0; have q1 := HX.out _ hWW 1 _ rfl; have q2 := HX.out _ hWW 2 _ rfl; have q3 := HX.out _ hWW 3 _ rfl; clear hHeld; simp only [List.getElem_toArray, List.getElem_cons_succ, List.getElem_cons_zero]; go_simp⟩
      simp only [Act.put, List.getElem_toArray, List.getElem_cons_succ, List.getElem_cons_zero, List.setIfInBounds_toArray, List.set_cons_succ, List.set_cons_zero]
      refine wpAnyH_take (i := 5) (v := (.slice (some ⟨bk2, o2, none⟩) n c2)) rfl (by kernel_rfl) (by kernel_rfl) (by kernel_rfl) (fun _ _ _ h => (show False from h).elim) ?xySMTable6 ?xhSMTable6 ?xrSMTable6
      case xhSMTable6 => exact hHeld
      case xySMTable6 => exact Or.inl ⟨by rfl, fun W9 hW => by clear hHeld; simp only [List.getElem_toArray, List.getElem_cons_succ, List.getElem_cons_zero]; go_simp⟩
      simp only [Act.put, List.getElem_toArray, List.getElem_cons_succ, List.getElem_cons_zero, List.setIfInBounds_toArray, List.set_cons_succ, List.set_cons_zero]
      refine wpAnyH_take (i := 6) (v := (.int .i64 (k : Int))) rfl (by kernel_rfl) (by kernel_rfl) (by kernel_rfl) (fun _ _ _ h => (show False from h).elim) ?xySMTable7 ?xhSMTable7 ?xrSMTable7
      case xhSMTable7 => exact hHeld
      case xySMTable7 => exact Or.inl ⟨by rfl, fun W9 hW => by clear hHeld; simp only [List.getElem_toArray, List.getElem_cons_succ, List.getElem_cons_zero]; go_simp⟩
      simp only [Act.put, List.getElem_toArray, List.getElem_cons_succ, List.getElem_cons_zero, List.setIfInBounds_toArray, List.set_cons_succ, List.set_cons_zero]
      refine wpAnyH_take (i := 7) (v := (.pointer (some ⟨bk2, o2 + k * 4, none⟩))) rfl (by kernel_rfl) (by kernel_rfl) (by kernel_rfl) (fun _ _ _ h => (show False from h).elim) ?xySMTable8 ?xhSMTable8 ?xrSMTable8
      case xhSMTable8 => exact hHeld
      case xySMTable8 => exact Or.inl ⟨by rfl, fun W9 hW => by clear hHeld; simp only [List.getElem_toArray, List.getElem_cons_succ, List.getElem_cons_zero]; go_simp⟩
      simp only [Act.put, List.getElem_toArray, List.getElem_cons_succ, List.getElem_cons_zero, List.setIfInBounds_toArray, List.set_cons_succ, List.set_cons_zero]
      refine wpAnyH_take (i := 8) (v := (.agg #[u0, u1, u2, u3])) rfl (by kernel_rfl) (by kernel_rfl) (by kernel_rfl) (fun _ _ _ h => (show False from h).elim) ?xySMTable9 ?xhSMTable9 ?xrSMTable9
      case xhSMTable9 => exact hHeld
      case xySMTable9 => exact Or.inl ⟨by rfl, fun W9 hW => by have hWW := HSI.out _ hW; have q0 := HY.out _ hWW 0 _ rfl; rw [Nat.add_zero] at q0; have q1 := HY.out _ hWW 1 _ rfl; have q2 := HY.out _ hWW 2 _ rfl; have q3 := HY.out _ hWW 3 _ rfl; clear hHeld; simp only [List.getElem_toArray, List.getElem_cons_succ, List.getElem_cons_zero]; go_simp⟩
      simp only [Act.put, List.getElem_toArray, List.getElem_cons_succ, List.getElem_cons_zero, List.setIfInBounds_toArray, List.set_cons_succ, List.set_cons_zero]
      have CC := hid (CF.out _ HWd.out)
      refine wpAnyH_ready (rs := [9]) (by kernel_rfl) (by simp) ?_
      refine AllReadyH.cons rfl (fun K hK => ?_) AllReadyH.nil
      go_simp
      go_wp2_with (first | (go_at_call 45; refine CC.out.mono ?_; rintro en wE ⟨rfl, hbE⟩; have HBE := hid (HWd.out.trans (hbE.mono HWd.out.size)); clear hbE))
      refine hK.out _ _ (HS.out _ HBE.out) (fun hHeld => ?_)
      clear hK K
      refine wpAnyH_take (i := 10) (v := (.bool false)) rfl (by kernel_rfl) (by kernel_rfl) (by kernel_rfl) (fun _ _ _ h => (show False from h).elim) ?xySMTable10 ?xhSMTable10 ?xrSMTable10
      case xhSMTable10 => exact hHeld
      case xySMTable10 => exact Or.inl ⟨by rfl, fun W9 hW => by clear hHeld; simp only [List.getElem_toArray, List.getElem_cons_succ, List.getElem_cons_zero]; go_simp⟩
      simp only [Act.put, List.getElem_toArray, List.getElem_cons_succ, List.getElem_cons_zero, List.setIfInBounds_toArray, List.set_cons_succ, List.set_cons_zero]
      refine wpAnyH_done (by kernel_rfl) ?_ _
      refine NoPanic.normal ?_
      go_wp2_with fail
      go_roundw
      case rel => exact ⟨k + 1, by omega, by go_num, HBE.out⟩
      case measure => simp [intOf]; omega
    · obtain rfl : n = k := by omega
      have hki : ¬ (n : Int) < (n : Int) := by omega
      go_wp2_with fail
      go_ret
      exact ⟨rfl, HB.out⟩

set_option maxHeartbeats 8000000 in
theorem samest_Index {w : World} {v0 v1 v2 v3 v4 v5 v6 u0 u1 u2 u3 u4 u5 u6 : Value} {b0 b1 b2 b3 b4 b5 b6 : List UInt8} (e0 : Enc w .int [v0] b0) (f0 : Enc w .int [u0] b0) (e1 : Enc w .int [v1] b1) (f1 : Enc w .int [u1] b1) (e2 : Enc w .name [v2] b2) (f2 : Enc w .name [u2] b2) (e3 : Enc w (.list .int) [v3] b3) (f3 : Enc w (.list .int) [u3] b3) (e4 : Enc w .bool [v4] b4) (f4 : Enc w .bool [u4] b4) (e5 : Enc w .int [v5] b5) (f5 : Enc w .int [u5] b5) (e6 : Enc w .bool [v6] b6) (f6 : Enc w .bool [u6] b6) (hl : (b0 ++ (b1 ++ (b2 ++ (b3 ++ (b4 ++ (b5 ++ b6)))))).length ≤ 5000) :
    Calls Try.prog 47 #[.agg #[v0, v1, v2, v3, v4, v5, v6], .agg #[u0, u1, u2, u3, u4, u5, u6]] w (fun e w' => e = .returned (.bool true) ∧ Below w.heap.size w w') := by
  simp only [List.length_append] at hl
  obtain ⟨z0, rfl, rfl⟩ := eq_int e0 f0
  obtain ⟨z1, rfl, rfl⟩ := eq_int e1 f1
  obtain ⟨z2, rfl, rfl⟩ := eq_name e2 f2
  obtain ⟨z4, rfl, rfl⟩ := eq_bool e4 f4
  obtain ⟨z5, rfl, rfl⟩ := eq_int e5 f5
  obtain ⟨z6, rfl, rfl⟩ := eq_bool e6 f6
  have hb : Below w.heap.size w ((w.alloc (.cells #[(.int .i64 z0), (.int .i64 z1), (.string z2), v3, (.bool z4), (.int .i64 z5), (.bool z6)] 36)).alloc (.cells #[(.int .i64 z0), (.int .i64 z1), (.string z2), u3, (.bool z4), (.int .i64 z5), (.bool z6)] 36)) := ((Below.refl _ _).alloc (Nat.le_refl _) _).alloc (by simp) _
  have h0 : ((w.alloc (.cells #[(.int .i64 z0), (.int .i64 z1), (.string z2), v3, (.bool z4), (.int .i64 z5), (.bool z6)] 36)).alloc (.cells #[(.int .i64 z0), (.int .i64 z1), (.string z2), u3, (.bool z4), (.int .i64 z5), (.bool z6)] 36)).heap[w.heap.size]? = some (.cells ([(.int .i64 z0), (.int .i64 z1), (.string z2), v3, (.bool z4), (.int .i64 z5), (.bool z6)] : List Value).toArray 36 (0, 0)) := (Below.heap_alloc (w.alloc (.cells #[(.int .i64 z0), (.int .i64 z1), (.string z2), v3, (.bool z4), (.int .i64 z5), (.bool z6)] 36)) (.cells #[(.int .i64 z0), (.int .i64 z1), (.string z2), u3, (.bool z4), (.int .i64 z5), (.bool z6)] 36) w.heap.size (by simp)).trans (heap_alloc_new w (.cells #[(.int .i64 z0), (.int .i64 z1), (.string z2), v3, (.bool z4), (.int .i64 z5), (.bool z6)] 36))
  have h1 : ((w.alloc (.cells #[(.int .i64 z0), (.int .i64 z1), (.string z2), v3, (.bool z4), (.int .i64 z5), (.bool z6)] 36)).alloc (.cells #[(.int .i64 z0), (.int .i64 z1), (.string z2), u3, (.bool z4), (.int .i64 z5), (.bool z6)] 36)).heap[w.heap.size + 1]? = some (.cells ([(.int .i64 z0), (.int .i64 z1), (.string z2), u3, (.bool z4), (.int .i64 z5), (.bool z6)] : List Value).toArray 36 (0, 0)) := heap_alloc2_new w (.cells #[(.int .i64 z0), (.int .i64 z1), (.string z2), v3, (.bool z4), (.int .i64 z5), (.bool z6)] 36) (.cells #[(.int .i64 z0), (.int .i64 z1), (.string z2), u3, (.bool z4), (.int .i64 z5), (.bool z6)] 36)
  have C3 : Hid (∀ V, Below w.heap.size w V → _) := hid fun V hV => plain_int (Enc.old hV _ e3) (Enc.old hV _ f3) (by omega)
  have HC0 : Hid (∀ V, Below ((w.alloc (.cells #[(.int .i64 z0), (.int .i64 z1), (.string z2), v3, (.bool z4), (.int .i64 z5), (.bool z6)] 36)).alloc (.cells #[(.int .i64 z0), (.int .i64 z1), (.string z2), u3, (.bool z4), (.int .i64 z5), (.bool z6)] 36)).heap.size ((w.alloc (.cells #[(.int .i64 z0), (.int .i64 z1), (.string z2), v3, (.bool z4), (.int .i64 z5), (.bool z6)] 36)).alloc (.cells #[(.int .i64 z0), (.int .i64 z1), (.string z2), u3, (.bool z4), (.int .i64 z5), (.bool z6)] 36)) V → ∀ (i : Nat) u, ([(.int .i64 z0), (.int .i64 z1), (.string z2), v3, (.bool z4), (.int .i64 z5), (.bool z6)] : List Value)[i]? = some u → V.cell? ⟨w.heap.size, i, none⟩ = some u) := hid fun V hV i u hu => by have := (hV.block _ (lt_of_block h0)).trans h0; simp only [World.cell?, this]; simpa using hu
  have HC1 : Hid (∀ V, Below ((w.alloc (.cells #[(.int .i64 z0), (.int .i64 z1), (.string z2), v3, (.bool z4), (.int .i64 z5), (.bool z6)] 36)).alloc (.cells #[(.int .i64 z0), (.int .i64 z1), (.string z2), u3, (.bool z4), (.int .i64 z5), (.bool z6)] 36)).heap.size ((w.alloc (.cells #[(.int .i64 z0), (.int .i64 z1), (.string z2), v3, (.bool z4), (.int .i64 z5), (.bool z6)] 36)).alloc (.cells #[(.int .i64 z0), (.int .i64 z1), (.string z2), u3, (.bool z4), (.int .i64 z5), (.bool z6)] 36)) V → ∀ (i : Nat) u, ([(.int .i64 z0), (.int .i64 z1), (.string z2), u3, (.bool z4), (.int .i64 z5), (.bool z6)] : List Value)[i]? = some u → V.cell? ⟨w.heap.size + 1, i, none⟩ = some u) := hid fun V hV i u hu => by have := (hV.block _ (lt_of_block h1)).trans h1; simp only [World.cell?, this]; simpa using hu
  have HB := hid hb
  clear hb h0 h1 hl e0 f0 e1 f1 e2 f2 e3 f3 e4 f4 e5 f5 e6 f6
  go_enter Try.func47, Try.ntmps47
  go_upto_region 1 with fail
  generalize (w.alloc (.cells #[(.int .i64 z0), (.int .i64 z1), (.string z2), v3, (.bool z4), (.int .i64 z5), (.bool z6)] 36)).alloc (.cells #[(.int .i64 z0), (.int .i64 z1), (.string z2), u3, (.bool z4), (.int .i64 z5), (.bool z6)] 36) = w0 at *
  have x0 := HC0.out _ (Below.refl _ _) 0 _ rfl
  have y0 := HC1.out _ (Below.refl _ _) 0 _ rfl
  have x1 := HC0.out _ (Below.refl _ _) 1 _ rfl
  have y1 := HC1.out _ (Below.refl _ _) 1 _ rfl
  have x2 := HC0.out _ (Below.refl _ _) 2 _ rfl
  have y2 := HC1.out _ (Below.refl _ _) 2 _ rfl
  have x3 := HC0.out _ (Below.refl _ _) 3 _ rfl
  have y3 := HC1.out _ (Below.refl _ _) 3 _ rfl
  have x4 := HC0.out _ (Below.refl _ _) 4 _ rfl
  have y4 := HC1.out _ (Below.refl _ _) 4 _ rfl
  have x5 := HC0.out _ (Below.refl _ _) 5 _ rfl
  have y5 := HC1.out _ (Below.refl _ _) 5 _ rfl
  have x6 := HC0.out _ (Below.refl _ _) 6 _ rfl
  have y6 := HC1.out _ (Below.refl _ _) 6 _ rfl
  have HW0 : Hid (Below w0.heap.size w0 w0) := hid (Below.refl _ _)
  have CA0 := hid (C3.out _ HB.out)
  go_wp2_with (first | (go_at_call 85; refine CA0.out.mono ?_; rintro en r1 ⟨rfl, hb0⟩; have HW1 := hid (HW0.out.trans (hb0.mono HW0.out.size)); clear hb0; have x4_0 := HC0.out _ HW1.out 4 _ rfl; have y4_0 := HC1.out _ HW1.out 4 _ rfl; have x5_0 := HC0.out _ HW1.out 5 _ rfl; have y5_0 := HC1.out _ HW1.out 5 _ rfl; have x6_0 := HC0.out _ HW1.out 6 _ rfl; have y6_0 := HC1.out _ HW1.out 6 _ rfl))
  go_ret
  exact ⟨rfl, HB.out.trans (HW1.out.mono HB.out.size)⟩

set_option maxHeartbeats 8000000 in
theorem same_Index {w : World} {v1 v2 : Value} {b : List UInt8} (h1 : Enc w (.list sIndex) [v1] b) (h2 : Enc w (.list sIndex) [v2] b) (hl : b.length ≤ 5000) :
    Calls Try.prog 46 #[v1, v2, (.func (.func 47) #[] #[])] w (fun e w' => e = .returned (.bool true) ∧ Below w.heap.size w w') := by
  obtain ⟨a1, n, c1, M1, rfl, hL1, rfl⟩ := list_open h1
  obtain ⟨a2, n2, c2, M2, rfl, hL2, hbb⟩ := list_open h2
  obtain ⟨hnn, hM⟩ := list_pair (by decide) hL1 hL2 hbb hl
  subst hnn
  have hc1 := hL1.cap.1
  have hc2 := hL2.cap.1
  have hn6 := hL1.cap.2.1
  have htl : (takeB M1 n).length ≤ 5000 := by rw [List.length_append] at hl; omega
  have HL1 := hid hL1
  have HL2 := hid hL2
  have HM := hid (And.intro hM htl)
  clear h1 h2 hL1 hL2 hM hbb hl htl
  go_enter Try.func46, Try.ntmps46
  go_wp2_with fail
  go_loopw [7] (fun i wr => ∃ k, k ≤ n ∧ i = .int .i64 (k : Int) ∧ Below w.heap.size w wr) (fun i _ => n - (intOf i).toNat)
  case atStart => exact ⟨0, by omega, rfl, Below.refl _ _⟩
  case round =>
    obtain ⟨k, hk, rfl, hb⟩ := hrel
    have HB := hid hb
    clear hb
    by_cases hlt : k < n
    · have hki : (k : Int) < (n : Int) := by omega
      obtain ⟨x, y, b, bk1, o1, bk2, o2, hx, hy, hbl, rfl, rfl, hcx, hcy⟩ := pair_get HL1.out HL2.out HM.out.1 (by decide) hlt HM.out.2
      obtain ⟨v0, v1, v2, v3, v4, v5, v6, b0, b1, b2, b3, b4, b5, b6, rfl, rfl, e0, e1, e2, e3, e4, e5, e6⟩ := Index_cells hx
      obtain ⟨u0, u1, u2, u3, u4, u5, u6, p0, p1, p2, p3, p4, p5, p6, rfl, hbq, f0, f1, f2, f3, f4, f5, f6⟩ := Index_cells hy
      have hbl2 : (p0 ++ (p1 ++ (p2 ++ (p3 ++ (p4 ++ (p5 ++ p6)))))).length ≤ 5000 := by rw [← hbq]; exact hbl
      simp only [List.length_append] at hbl hbl2
      obtain ⟨rfl, hbq0⟩ := enc_inj (by decide) e0 f0 (by omega) (by omega) hbq
      obtain ⟨rfl, hbq1⟩ := enc_inj (by decide) e1 f1 (by omega) (by omega) hbq0
      obtain ⟨rfl, hbq2⟩ := enc_inj (by decide) e2 f2 (by omega) (by omega) hbq1
      obtain ⟨rfl, hbq3⟩ := enc_inj (by decide) e3 f3 (by omega) (by omega) hbq2
      obtain ⟨rfl, hbq4⟩ := enc_inj (by decide) e4 f4 (by omega) (by omega) hbq3
      obtain ⟨rfl, hbq5⟩ := enc_inj (by decide) e5 f5 (by omega) (by omega) hbq4
      subst hbq5
      have CF : Hid (∀ V, Below w.heap.size w V → Calls Try.prog 47 #[.agg #[v0, v1, v2, v3, v4, v5, v6], .agg #[u0, u1, u2, u3, u4, u5, u6]] V (fun e w' => e = .returned (.bool true) ∧ Below V.heap.size V w')) := hid fun V hV => samest_Index (Enc.old hV _ e0) (Enc.old hV _ f0) (Enc.old hV _ e1) (Enc.old hV _ f1) (Enc.old hV _ e2) (Enc.old hV _ f2) (Enc.old hV _ e3) (Enc.old hV _ f3) (Enc.old hV _ e4) (Enc.old hV _ f4) (Enc.old hV _ e5) (Enc.old hV _ f5) (Enc.old hV _ e6) (Enc.old hV _ f6) (by simp only [List.length_append]; omega)
      have hX : ∀ V, Below w.heap.size w V → ∀ (j : Nat) u, ([v0, v1, v2, v3, v4, v5, v6] : List Value)[j]? = some u → V.cell? ⟨bk1, o1 + k * 7 + j, none⟩ = some u := hcx
      have hY : ∀ V, Below w.heap.size w V → ∀ (j : Nat) u, ([u0, u1, u2, u3, u4, u5, u6] : List Value)[j]? = some u → V.cell? ⟨bk2, o2 + k * 7 + j, none⟩ = some u := hcy
      have HX := hid hX
      have HY := hid hY
      clear hX hY hcx hcy
      go_upto_region 6 with fail
      have HWd : Hid (Below w.heap.size w wr.drew) := hid (HB.out.trans ((show Below wr.heap.size wr wr.drew from ⟨rfl, rfl, rfl, Nat.le_refl _, fun _ _ => rfl⟩).mono HB.out.size))
      obtain ⟨S9, hS9⟩ : ∃ S9 : World → Prop, S9 = fun V => Below w.heap.size w V := ⟨_, rfl⟩
      have HS : Hid (∀ V, Below w.heap.size w V → S9 V) := hid fun V h => by rw [hS9]; exact h
      have HSI : Hid (∀ V, S9 V → Below w.heap.size w V) := hid fun V h => by rw [hS9] at h; exact h
      clear hS9
      refine wp_region_noPanic ?_
      refine wp_region_held_drew (S := S9) (by kernel_rfl) (HS.out _ HWd.out) (fun hHeld => ?_)
      generalize wr.drew = Wd at *
      refine wpAnyH_take (i := 0) (v := (.func (.func 47) #[] #[])) rfl (by kernel_rfl) (by kernel_rfl) (by kernel_rfl) (fun _ _ _ h => (show False from h).elim) ?xySMIndex1 ?xhSMIndex1 ?xrSMIndex1
      case xhSMIndex1 => exact hHeld
      case xySMIndex1 => exact Or.inl ⟨by rfl, fun W9 hW => by clear hHeld; simp only [List.getElem_toArray, List.getElem_cons_succ, List.getElem_cons_zero]; go_simp⟩
      simp only [Act.put, List.getElem_toArray, List.getElem_cons_succ, List.getElem_cons_zero, List.setIfInBounds_toArray, List.set_cons_succ, List.set_cons_zero]
      refine wpAnyH_take (i := 1) (v := (.slice (some ⟨bk1, o1, none⟩) n c1)) rfl (by kernel_rfl) (by kernel_rfl) (by kernel_rfl) (fun _ _ _ h => (show False from h).elim) ?xySMIndex2 ?xhSMIndex2 ?xrSMIndex2
      case xhSMIndex2 => exact hHeld
      case xySMIndex2 => exact Or.inl ⟨by rfl, fun W9 hW => by clear hHeld; simp only [List.getElem_toArray, List.getElem_cons_succ, List.getElem_cons_zero]; go_simp⟩
      simp only [Act.put, List.getElem_toArray, List.getElem_cons_succ, List.getElem_cons_zero, List.setIfInBounds_toArray, List.set_cons_succ, List.set_cons_zero]
      refine wpAnyH_take (i := 2) (v := (.int .i64 (k : Int))) rfl (by kernel_rfl) (by kernel_rfl) (by kernel_rfl) (fun _ _ _ h => (show False from h).elim) ?xySMIndex3 ?xhSMIndex3 ?xrSMIndex3
      case xhSMIndex3 => exact hHeld
      case xySMIndex3 => exact Or.inl ⟨by rfl, fun W9 hW => by clear hHeld; simp only [List.getElem_toArray, List.getElem_cons_succ, List.getElem_cons_zero]; go_simp⟩
      simp only [Act.put, List.getElem_toArray, List.getElem_cons_succ, List.getElem_cons_zero, List.setIfInBounds_toArray, List.set_cons_succ, List.set_cons_zero]
      refine wpAnyH_take (i := 3) (v := (.pointer (some ⟨bk1, o1 + k * 7, none⟩))) rfl (by kernel_rfl) (by kernel_rfl) (by kernel_rfl) (fun _ _ _ h => (show False from h).elim) ?xySMIndex4 ?xhSMIndex4 ?xrSMIndex4
      case xhSMIndex4 => exact hHeld
      case xySMIndex4 => exact Or.inl ⟨by rfl, fun W9 hW => by clear hHeld; simp only [List.getElem_toArray, List.getElem_cons_succ, List.getElem_cons_zero]; go_simp⟩
      simp only [Act.put, List.getElem_toArray, List.getElem_cons_succ, List.getElem_cons_zero, List.setIfInBounds_toArray, List.set_cons_succ, List.set_cons_zero]
      refine wpAnyH_take (i := 4) (v := (.agg #[v0, v1, v2, v3, v4, v5, v6])) rfl (by kernel_rfl) (by kernel_rfl) (by kernel_rfl) (fun _ _ _ h => (show False from h).elim) ?xySMIndex5 ?xhSMIndex5 ?xrSMIndex5
      case xhSMIndex5 => exact hHeld
      case xySMIndex5 => exact Or.inl ⟨by rfl, fun W9 hW => by have hWW := HSI.out _ hW; have q0 := HX.out _ hWW 0 _ rfl; rw [Nat.add_zero] at q0; have q1 := HX.out _ hWW 1 _ rfl; have q2 := HX.out _ hWW 2 _ rfl; have q3 := HX.out _ hWW 3 _ rfl; have q4 := HX.out _ hWW 4 _ rfl; have q5 := HX.out _ hWW 5 _ rfl; have q6 := HX.out _ hWW 6 _ rfl; clear hHeld; simp only [List.getElem_toArray, List.getElem_cons_succ, List.getElem_cons_zero]; go_simp⟩
      simp only [Act.put, List.getElem_toArray, List.getElem_cons_succ, List.getElem_cons_zero, List.setIfInBounds_toArray, List.set_cons_succ, List.set_cons_zero]
      refine wpAnyH_take (i := 5) (v := (.slice (some ⟨bk2, o2, none⟩) n c2)) rfl (by kernel_rfl) (by kernel_rfl) (by kernel_rfl) (fun _ _ _ h => (show False from h).elim) ?xySMIndex6 ?xhSMIndex6 ?xrSMIndex6
      case xhSMIndex6 => exact hHeld
      case xySMIndex6 => exact Or.inl ⟨by rfl, fun W9 hW => by clear hHeld; simp only [List.getElem_toArray, List.getElem_cons_succ, List.getElem_cons_zero]; go_simp⟩
      simp only [Act.put, List.getElem_toArray, List.getElem_cons_succ, List.getElem_cons_zero, List.setIfInBounds_toArray, List.set_cons_succ, List.set_cons_zero]
      refine wpAnyH_take (i := 6) (v := (.int .i64 (k : Int))) rfl (by kernel_rfl) (by kernel_rfl) (by kernel_rfl) (fun _ _ _ h => (show False from h).elim) ?xySMIndex7 ?xhSMIndex7 ?xrSMIndex7
      case xhSMIndex7 => exact hHeld
      case xySMIndex7 => exact Or.inl ⟨by rfl, fun W9 hW => by clear hHeld; simp only [List.getElem_toArray, List.getElem_cons_succ, List.getElem_cons_zero]; go_simp⟩
      simp only [Act.put, List.getElem_toArray, List.getElem_cons_succ, List.getElem_cons_zero, List.setIfInBounds_toArray, List.set_cons_succ, List.set_cons_zero]
      refine wpAnyH_take (i := 7) (v := (.pointer (some ⟨bk2, o2 + k * 7, none⟩))) rfl (by kernel_rfl) (by kernel_rfl) (by kernel_rfl) (fun _ _ _ h => (show False from h).elim) ?xySMIndex8 ?xhSMIndex8 ?xrSMIndex8
      case xhSMIndex8 => exact hHeld
      case xySMIndex8 => exact Or.inl ⟨by rfl, fun W9 hW => by clear hHeld; simp only [List.getElem_toArray, List.getElem_cons_succ, List.getElem_cons_zero]; go_simp⟩
      simp only [Act.put, List.getElem_toArray, List.getElem_cons_succ, List.getElem_cons_zero, List.setIfInBounds_toArray, List.set_cons_succ, List.set_cons_zero]
      refine wpAnyH_take (i := 8) (v := (.agg #[u0, u1, u2, u3, u4, u5, u6])) rfl (by kernel_rfl) (by kernel_rfl) (by kernel_rfl) (fun _ _ _ h => (show False from h).elim) ?xySMIndex9 ?xhSMIndex9 ?xrSMIndex9
      case xhSMIndex9 => exact hHeld
      case xySMIndex9 => exact Or.inl ⟨by rfl, fun W9 hW => by have hWW := HSI.out _ hW; have q0 := HY.out _ hWW 0 _ rfl; rw [Nat.add_zero] at q0; have q1 := HY.out _ hWW 1 _ rfl; have q2 := HY.out _ hWW 2 _ rfl; have q3 := HY.out _ hWW 3 _ rfl; have q4 := HY.out _ hWW 4 _ rfl; have q5 := HY.out _ hWW 5 _ rfl; have q6 := HY.out _ hWW 6 _ rfl; clear hHeld; simp only [List.getElem_toArray, List.getElem_cons_succ, List.getElem_cons_zero]; go_simp⟩
      simp only [Act.put, List.getElem_toArray, List.getElem_cons_succ, List.getElem_cons_zero, List.setIfInBounds_toArray, List.set_cons_succ, List.set_cons_zero]
      have CC := hid (CF.out _ HWd.out)
      refine wpAnyH_ready (rs := [9]) (by kernel_rfl) (by simp) ?_
      refine AllReadyH.cons rfl (fun K hK => ?_) AllReadyH.nil
      go_simp
      go_wp2_with (first | (go_at_call 47; refine CC.out.mono ?_; rintro en wE ⟨rfl, hbE⟩; have HBE := hid (HWd.out.trans (hbE.mono HWd.out.size)); clear hbE))
      refine hK.out _ _ (HS.out _ HBE.out) (fun hHeld => ?_)
      clear hK K
      refine wpAnyH_take (i := 10) (v := (.bool false)) rfl (by kernel_rfl) (by kernel_rfl) (by kernel_rfl) (fun _ _ _ h => (show False from h).elim) ?xySMIndex10 ?xhSMIndex10 ?xrSMIndex10
      case xhSMIndex10 => exact hHeld
      case xySMIndex10 => exact Or.inl ⟨by rfl, fun W9 hW => by clear hHeld; simp only [List.getElem_toArray, List.getElem_cons_succ, List.getElem_cons_zero]; go_simp⟩
      simp only [Act.put, List.getElem_toArray, List.getElem_cons_succ, List.getElem_cons_zero, List.setIfInBounds_toArray, List.set_cons_succ, List.set_cons_zero]
      refine wpAnyH_done (by kernel_rfl) ?_ _
      refine NoPanic.normal ?_
      go_wp2_with fail
      go_roundw
      case rel => exact ⟨k + 1, by omega, by go_num, HBE.out⟩
      case measure => simp [intOf]; omega
    · obtain rfl : n = k := by omega
      have hki : ¬ (n : Int) < (n : Int) := by omega
      go_wp2_with fail
      go_ret
      exact ⟨rfl, HB.out⟩

set_option maxHeartbeats 8000000 in
theorem samest_Catalog {w : World} {v0 v1 v2 v3 u0 u1 u2 u3 : Value} {b0 b1 b2 b3 : List UInt8} (e0 : Enc w .int [v0] b0) (f0 : Enc w .int [u0] b0) (e1 : Enc w .int [v1] b1) (f1 : Enc w .int [u1] b1) (e2 : Enc w (.list sTable) [v2] b2) (f2 : Enc w (.list sTable) [u2] b2) (e3 : Enc w (.list sIndex) [v3] b3) (f3 : Enc w (.list sIndex) [u3] b3) (hl : (b0 ++ (b1 ++ (b2 ++ b3))).length ≤ 5000) :
    Calls Try.prog 21 #[.agg #[v0, v1, v2, v3], .agg #[u0, u1, u2, u3]] w (fun e w' => e = .returned (.bool true) ∧ Below w.heap.size w w') := by
  simp only [List.length_append] at hl
  obtain ⟨z0, rfl, rfl⟩ := eq_int e0 f0
  obtain ⟨z1, rfl, rfl⟩ := eq_int e1 f1
  have hb : Below w.heap.size w ((w.alloc (.cells #[(.int .i64 z0), (.int .i64 z1), v2, v3] 44)).alloc (.cells #[(.int .i64 z0), (.int .i64 z1), u2, u3] 44)) := ((Below.refl _ _).alloc (Nat.le_refl _) _).alloc (by simp) _
  have h0 : ((w.alloc (.cells #[(.int .i64 z0), (.int .i64 z1), v2, v3] 44)).alloc (.cells #[(.int .i64 z0), (.int .i64 z1), u2, u3] 44)).heap[w.heap.size]? = some (.cells ([(.int .i64 z0), (.int .i64 z1), v2, v3] : List Value).toArray 44 (0, 0)) := (Below.heap_alloc (w.alloc (.cells #[(.int .i64 z0), (.int .i64 z1), v2, v3] 44)) (.cells #[(.int .i64 z0), (.int .i64 z1), u2, u3] 44) w.heap.size (by simp)).trans (heap_alloc_new w (.cells #[(.int .i64 z0), (.int .i64 z1), v2, v3] 44))
  have h1 : ((w.alloc (.cells #[(.int .i64 z0), (.int .i64 z1), v2, v3] 44)).alloc (.cells #[(.int .i64 z0), (.int .i64 z1), u2, u3] 44)).heap[w.heap.size + 1]? = some (.cells ([(.int .i64 z0), (.int .i64 z1), u2, u3] : List Value).toArray 44 (0, 0)) := heap_alloc2_new w (.cells #[(.int .i64 z0), (.int .i64 z1), v2, v3] 44) (.cells #[(.int .i64 z0), (.int .i64 z1), u2, u3] 44)
  have C2 : Hid (∀ V, Below w.heap.size w V → _) := hid fun V hV => same_Table (Enc.old hV _ e2) (Enc.old hV _ f2) (by omega)
  have C3 : Hid (∀ V, Below w.heap.size w V → _) := hid fun V hV => same_Index (Enc.old hV _ e3) (Enc.old hV _ f3) (by omega)
  have HC0 : Hid (∀ V, Below ((w.alloc (.cells #[(.int .i64 z0), (.int .i64 z1), v2, v3] 44)).alloc (.cells #[(.int .i64 z0), (.int .i64 z1), u2, u3] 44)).heap.size ((w.alloc (.cells #[(.int .i64 z0), (.int .i64 z1), v2, v3] 44)).alloc (.cells #[(.int .i64 z0), (.int .i64 z1), u2, u3] 44)) V → ∀ (i : Nat) u, ([(.int .i64 z0), (.int .i64 z1), v2, v3] : List Value)[i]? = some u → V.cell? ⟨w.heap.size, i, none⟩ = some u) := hid fun V hV i u hu => by have := (hV.block _ (lt_of_block h0)).trans h0; simp only [World.cell?, this]; simpa using hu
  have HC1 : Hid (∀ V, Below ((w.alloc (.cells #[(.int .i64 z0), (.int .i64 z1), v2, v3] 44)).alloc (.cells #[(.int .i64 z0), (.int .i64 z1), u2, u3] 44)).heap.size ((w.alloc (.cells #[(.int .i64 z0), (.int .i64 z1), v2, v3] 44)).alloc (.cells #[(.int .i64 z0), (.int .i64 z1), u2, u3] 44)) V → ∀ (i : Nat) u, ([(.int .i64 z0), (.int .i64 z1), u2, u3] : List Value)[i]? = some u → V.cell? ⟨w.heap.size + 1, i, none⟩ = some u) := hid fun V hV i u hu => by have := (hV.block _ (lt_of_block h1)).trans h1; simp only [World.cell?, this]; simpa using hu
  have HB := hid hb
  clear hb h0 h1 hl e0 f0 e1 f1 e2 f2 e3 f3
  go_enter Try.func21, Try.ntmps21
  go_upto_region 1 with fail
  generalize (w.alloc (.cells #[(.int .i64 z0), (.int .i64 z1), v2, v3] 44)).alloc (.cells #[(.int .i64 z0), (.int .i64 z1), u2, u3] 44) = w0 at *
  have x0 := HC0.out _ (Below.refl _ _) 0 _ rfl
  have y0 := HC1.out _ (Below.refl _ _) 0 _ rfl
  have x1 := HC0.out _ (Below.refl _ _) 1 _ rfl
  have y1 := HC1.out _ (Below.refl _ _) 1 _ rfl
  have x2 := HC0.out _ (Below.refl _ _) 2 _ rfl
  have y2 := HC1.out _ (Below.refl _ _) 2 _ rfl
  have x3 := HC0.out _ (Below.refl _ _) 3 _ rfl
  have y3 := HC1.out _ (Below.refl _ _) 3 _ rfl
  have HW0 : Hid (Below w0.heap.size w0 w0) := hid (Below.refl _ _)
  have CA0 := hid (C2.out _ HB.out)
  go_wp2_with (first | (go_at_call 44; refine CA0.out.mono ?_; rintro en r1 ⟨rfl, hb0⟩; have HW1 := hid (HW0.out.trans (hb0.mono HW0.out.size)); clear hb0; have CA1 := hid (C3.out _ (HB.out.trans (HW1.out.mono HB.out.size))); have x3_0 := HC0.out _ HW1.out 3 _ rfl; have y3_0 := HC1.out _ HW1.out 3 _ rfl) | (go_at_call 46; refine CA1.out.mono ?_; rintro en r2 ⟨rfl, hb1⟩; have HW2 := hid (HW1.out.trans (hb1.mono HW1.out.size)); clear hb1))
  go_ret
  exact ⟨rfl, HB.out.trans (HW2.out.mono HB.out.size)⟩

end Go.Proofs.Ytiblambiebojmaa

set_option linter.unusedVariables false
set_option linter.unusedSimpArgs false
set_option maxRecDepth 100000
namespace Go.Proofs.Ytiblambiebojmaa
open Go.RowKit Go.Deep

set_option maxHeartbeats 8000000 in
theorem wColumn_any {W0 w : World} {KK : List (Nat × Obj)} {a : Nat} {l : List UInt8} {v0 v1 v2 : Value} {b0 b1 b2 : List UInt8} (h : St 69 W0 KK a w l) (e0 : Enc W0 .name [v0] b0) (e1 : Enc W0 .int [v1] b1) (e2 : Enc W0 .bool [v2] b2) (hl : l.length + (b0 ++ (b1 ++ b2)).length ≤ 1000000000000) :
    Calls Try.prog 90 #[.pointer (some ⟨a, 0, none⟩), .agg #[v0, v1, v2]] w (Wrote 69 W0 KK a l (b0 ++ (b1 ++ b2))) := by
  have H0 := hid (h.box #[v0, v1, v2] 120)
  have HL0 := hid hl
  have E0 := hid e0
  have E1 := hid e1
  have E2 := hid e2
  clear h hl e0 e1 e2
  go_enter Try.func90, Try.ntmps90
  go_upto_region 1 with fail
  generalize w.alloc (.cells #[v0, v1, v2] 120) = w0 at *
  generalize w.heap.size = B at *
  have x0 := box_cell H0.out 0 v0 rfl
  have HN0 := hid (len_now HL0.out)
  have HL1 := hid (len_step HL0.out)
  go_upto_region 2 with (first | (go_at_call 63; refine (wnameE H0.out E0.out HN0.out).mono ?_; rintro en w1 ⟨rfl, h1⟩; have H1 := hid h1; clear h1))
  clear x0
  have x1 := box_cell H1.out 1 v1 rfl
  have HN1 := hid (len_now HL1.out)
  have HL2 := hid (len_step HL1.out)
  go_upto_region 3 with (first | (go_at_call 52; refine (wwholeE H1.out E1.out HN1.out).mono ?_; rintro en w2 ⟨rfl, h2⟩; have H2 := hid h2; clear h2))
  clear x1
  have x2 := box_cell H2.out 2 v2 rfl
  go_wp2_with (first | (go_at_call 53; refine (wflagE H2.out E2.out HL2.out).mono ?_; rintro en w3 ⟨rfl, h3⟩; have H3 := hid h3; clear h3))
  clear x2
  go_end0
  exact ⟨rfl, by simpa only [List.append_assoc] using H3.out.drop⟩

set_option maxHeartbeats 4000000 in
theorem wlist_Column {W0 w : World} {KK : List (Nat × Obj)} {a : Nat} {l : List UInt8} {v : Value} {b : List UInt8} (h : St 69 W0 KK a w l) (e : Enc W0 (.list sColumn) [v] b) (hl : l.length + b.length ≤ 1000000000000) :
    Calls Try.prog 89 #[.pointer (some ⟨a, 0, none⟩), v, (.func (.func 90) #[.pointer (some ⟨a, 0, none⟩)] #[])] w (Wrote 69 W0 KK a l b) := by
  obtain ⟨ao, n, c, M, rfl, hL, rfl⟩ := list_open e
  obtain ⟨hcap, hn6, hn64, hw⟩ := hL.cap
  have HLst := hid hL
  have HL := hid hl
  have C0 := hid (wnum_any h n hn64 (by have := HL.out; simp only [List.length_append] at this ⊢; omega))
  clear h e hl hL hn64
  go_enter Try.func89, Try.ntmps89
  go_wp2_with (first | (go_at_call 48; refine C0.out.mono ?_; rintro en w1 ⟨rfl, h1⟩; have H1 := hid h1; clear h1))
  clear hw C0
  go_loopw [15] (fun i wr => ∃ k, k ≤ n ∧ i = .int .i64 (k : Int) ∧ St 69 W0 KK a wr ((l ++ numL n) ++ takeB M k)) (fun i _ => n - (intOf i).toNat)
  case atStart => exact ⟨0, by omega, rfl, by rw [takeB_zero, List.append_nil]; exact H1.out⟩
  case round =>
    obtain ⟨k, hk, rfl, hst⟩ := hrel
    have HS := hid hst
    clear hst
    by_cases hlt : k < n
    · obtain ⟨⟨mc, mb⟩, bk, off, hm, rfl, hcell, htk, hle⟩ := HLst.out.get (by decide) hlt
      simp only at hm hcell htk hle
      obtain ⟨v0, v1, v2, b0, b1, b2, rfl, rfl, e0, e1, e2⟩ := Column_cells hm
      obtain ⟨y0, rfl⟩ := form_name e0
      obtain ⟨y1, rfl⟩ := form_int e1
      obtain ⟨y2, rfl⟩ := form_bool e2
      have d0 : wr.cell? ⟨bk, off + k * 3, none⟩ = some (.string y0) := hcell _ HS.out.below 0 _ rfl
      have d1 : wr.cell? ⟨bk, off + k * 3 + 1, none⟩ = some (.int .i64 y1) := hcell _ HS.out.below 1 _ rfl
      have d2 : wr.cell? ⟨bk, off + k * 3 + 2, none⟩ = some (.bool y2) := hcell _ HS.out.below 2 _ rfl
      have HB := hid (HS.out.box #[(.string y0), (.int .i64 y1), (.bool y2)] 120)
      have HX := hid hle
      have C := hid (wColumn_any HB.out e0 e1 e2 (by have := HL.out; have := HX.out; simp only [List.length_append] at *; omega))
      have HT := hid htk
      clear htk hle hcell hm e0 e1 e2
      have hki : (k : Int) < (n : Int) := by omega
      go_wp2_with (first | (go_at_call 90; refine C.out.mono ?_; rintro en w2 ⟨rfl, h2⟩; have H2 := hid h2.drop; clear h2))
      go_roundw
      case rel => exact ⟨k + 1, by omega, by go_num, by rw [HT.out, ← List.append_assoc]; exact H2.out⟩
      case measure => simp [intOf]; omega
    · obtain rfl : k = n := by omega
      have hki : ¬ (k : Int) < (k : Int) := by omega
      go_wp2_with fail
      go_end0
      exact ⟨rfl, by rw [← List.append_assoc]; exact HS.out⟩

set_option maxHeartbeats 4000000 in
theorem wlist_int {W0 w : World} {KK : List (Nat × Obj)} {a : Nat} {l : List UInt8} {v : Value} {b : List UInt8} (h : St 69 W0 KK a w l) (e : Enc W0 (.list .int) [v] b) (hl : l.length + b.length ≤ 1000000000000) :
    Calls Try.prog 91 #[.pointer (some ⟨a, 0, none⟩), v, (.func (.func 52) #[.pointer (some ⟨a, 0, none⟩)] #[])] w (Wrote 69 W0 KK a l b) := by
  obtain ⟨ao, n, c, M, rfl, hL, rfl⟩ := list_open e
  obtain ⟨hcap, hn6, hn64, hw⟩ := hL.cap
  have HLst := hid hL
  have HL := hid hl
  have C0 := hid (wnum_any h n hn64 (by have := HL.out; simp only [List.length_append] at this ⊢; omega))
  clear h e hl hL hn64
  go_enter Try.func91, Try.ntmps91
  go_wp2_with (first | (go_at_call 48; refine C0.out.mono ?_; rintro en w1 ⟨rfl, h1⟩; have H1 := hid h1; clear h1))
  clear hw C0
  go_loopw [15] (fun i wr => ∃ k, k ≤ n ∧ i = .int .i64 (k : Int) ∧ St 69 W0 KK a wr ((l ++ numL n) ++ takeB M k)) (fun i _ => n - (intOf i).toNat)
  case atStart => exact ⟨0, by omega, rfl, by rw [takeB_zero, List.append_nil]; exact H1.out⟩
  case round =>
    obtain ⟨k, hk, rfl, hst⟩ := hrel
    have HS := hid hst
    clear hst
    by_cases hlt : k < n
    · obtain ⟨⟨mc, mb⟩, bk, off, hm, rfl, hcell, htk, hle⟩ := HLst.out.get (by decide) hlt
      simp only at hm hcell htk hle
      obtain ⟨v0, rfl⟩ := one_of hm rfl
      have d0 : wr.cell? ⟨bk, off + k, none⟩ = some v0 := by have := hcell _ HS.out.below 0 v0 rfl; rw [show Sh.wid .int = 1 from rfl, Nat.mul_one] at this; exact this
      have HX := hid hle
      have C := hid (wwholeE HS.out hm (by have := HL.out; have := HX.out; simp only [List.length_append] at *; omega))
      have HT := hid htk
      clear htk hle hcell hm
      have hki : (k : Int) < (n : Int) := by omega
      go_wp2_with (first | (go_at_call 52; refine C.out.mono ?_; rintro en w2 ⟨rfl, h2⟩; have H2 := hid h2; clear h2))
      go_roundw
      case rel => exact ⟨k + 1, by omega, by go_num, by rw [HT.out, ← List.append_assoc]; exact H2.out⟩
      case measure => simp [intOf]; omega
    · obtain rfl : k = n := by omega
      have hki : ¬ (k : Int) < (k : Int) := by omega
      go_wp2_with fail
      go_end0
      exact ⟨rfl, by rw [← List.append_assoc]; exact HS.out⟩

set_option maxHeartbeats 8000000 in
theorem wTable_any {W0 w : World} {KK : List (Nat × Obj)} {a : Nat} {l : List UInt8} {v0 v1 v2 v3 : Value} {b0 b1 b2 b3 : List UInt8} (h : St 69 W0 KK a w l) (e0 : Enc W0 .int [v0] b0) (e1 : Enc W0 .name [v1] b1) (e2 : Enc W0 (.list sColumn) [v2] b2) (e3 : Enc W0 (.list .int) [v3] b3) (hl : l.length + (b0 ++ (b1 ++ (b2 ++ b3))).length ≤ 1000000000000) :
    Calls Try.prog 61 #[.pointer (some ⟨a, 0, none⟩), .agg #[v0, v1, v2, v3]] w (Wrote 69 W0 KK a l (b0 ++ (b1 ++ (b2 ++ b3)))) := by
  have H0 := hid (h.box #[v0, v1, v2, v3] 34)
  have HL0 := hid hl
  have E0 := hid e0
  have E1 := hid e1
  have E2 := hid e2
  have E3 := hid e3
  clear h hl e0 e1 e2 e3
  go_enter Try.func61, Try.ntmps61
  go_upto_region 1 with fail
  generalize w.alloc (.cells #[v0, v1, v2, v3] 34) = w0 at *
  generalize w.heap.size = B at *
  have x0 := box_cell H0.out 0 v0 rfl
  have HN0 := hid (len_now HL0.out)
  have HL1 := hid (len_step HL0.out)
  go_upto_region 2 with (first | (go_at_call 52; refine (wwholeE H0.out E0.out HN0.out).mono ?_; rintro en w1 ⟨rfl, h1⟩; have H1 := hid h1; clear h1))
  clear x0
  have x1 := box_cell H1.out 1 v1 rfl
  have HN1 := hid (len_now HL1.out)
  have HL2 := hid (len_step HL1.out)
  go_upto_region 3 with (first | (go_at_call 63; refine (wnameE H1.out E1.out HN1.out).mono ?_; rintro en w2 ⟨rfl, h2⟩; have H2 := hid h2; clear h2))
  clear x1
  have x2 := box_cell H2.out 2 v2 rfl
  have HN2 := hid (len_now HL2.out)
  have HL3 := hid (len_step HL2.out)
  go_upto_region 4 with (first | (go_at_call 89; refine (wlist_Column H2.out E2.out HN2.out).mono ?_; rintro en w3 ⟨rfl, h3⟩; have H3 := hid h3; clear h3))
  clear x2
  have x3 := box_cell H3.out 3 v3 rfl
  go_wp2_with (first | (go_at_call 91; refine (wlist_int H3.out E3.out HL3.out).mono ?_; rintro en w4 ⟨rfl, h4⟩; have H4 := hid h4; clear h4))
  clear x3
  go_end0
  exact ⟨rfl, by simpa only [List.append_assoc] using H4.out.drop⟩

end Go.Proofs.Ytiblambiebojmaa

set_option linter.unusedVariables false
set_option linter.unusedSimpArgs false
set_option maxRecDepth 100000
namespace Go.Proofs.Ytiblambiebojmaa
open Go.RowKit Go.Deep

set_option maxHeartbeats 8000000 in
theorem wIndex_any {W0 w : World} {KK : List (Nat × Obj)} {a : Nat} {l : List UInt8} {v0 v1 v2 v3 v4 v5 v6 : Value} {b0 b1 b2 b3 b4 b5 b6 : List UInt8} (h : St 69 W0 KK a w l) (e0 : Enc W0 .int [v0] b0) (e1 : Enc W0 .int [v1] b1) (e2 : Enc W0 .name [v2] b2) (e3 : Enc W0 (.list .int) [v3] b3) (e4 : Enc W0 .bool [v4] b4) (e5 : Enc W0 .int [v5] b5) (e6 : Enc W0 .bool [v6] b6) (hl : l.length + (b0 ++ (b1 ++ (b2 ++ (b3 ++ (b4 ++ (b5 ++ b6)))))).length ≤ 1000000000000) :
    Calls Try.prog 62 #[.pointer (some ⟨a, 0, none⟩), .agg #[v0, v1, v2, v3, v4, v5, v6]] w (Wrote 69 W0 KK a l (b0 ++ (b1 ++ (b2 ++ (b3 ++ (b4 ++ (b5 ++ b6))))))) := by
  have H0 := hid (h.box #[v0, v1, v2, v3, v4, v5, v6] 36)
  have HL0 := hid hl
  have E0 := hid e0
  have E1 := hid e1
  have E2 := hid e2
  have E3 := hid e3
  have E4 := hid e4
  have E5 := hid e5
  have E6 := hid e6
  clear h hl e0 e1 e2 e3 e4 e5 e6
  go_enter Try.func62, Try.ntmps62
  go_upto_region 1 with fail
  generalize w.alloc (.cells #[v0, v1, v2, v3, v4, v5, v6] 36) = w0 at *
  generalize w.heap.size = B at *
  have x0 := box_cell H0.out 0 v0 rfl
  have HN0 := hid (len_now HL0.out)
  have HL1 := hid (len_step HL0.out)
  go_upto_region 2 with (first | (go_at_call 52; refine (wwholeE H0.out E0.out HN0.out).mono ?_; rintro en w1 ⟨rfl, h1⟩; have H1 := hid h1; clear h1))
  clear x0
  have x1 := box_cell H1.out 1 v1 rfl
  have HN1 := hid (len_now HL1.out)
  have HL2 := hid (len_step HL1.out)
  go_upto_region 3 with (first | (go_at_call 52; refine (wwholeE H1.out E1.out HN1.out).mono ?_; rintro en w2 ⟨rfl, h2⟩; have H2 := hid h2; clear h2))
  clear x1
  have x2 := box_cell H2.out 2 v2 rfl
  have HN2 := hid (len_now HL2.out)
  have HL3 := hid (len_step HL2.out)
  go_upto_region 4 with (first | (go_at_call 63; refine (wnameE H2.out E2.out HN2.out).mono ?_; rintro en w3 ⟨rfl, h3⟩; have H3 := hid h3; clear h3))
  clear x2
  have x3 := box_cell H3.out 3 v3 rfl
  have HN3 := hid (len_now HL3.out)
  have HL4 := hid (len_step HL3.out)
  go_upto_region 5 with (first | (go_at_call 91; refine (wlist_int H3.out E3.out HN3.out).mono ?_; rintro en w4 ⟨rfl, h4⟩; have H4 := hid h4; clear h4))
  clear x3
  have x4 := box_cell H4.out 4 v4 rfl
  have HN4 := hid (len_now HL4.out)
  have HL5 := hid (len_step HL4.out)
  go_upto_region 6 with (first | (go_at_call 53; refine (wflagE H4.out E4.out HN4.out).mono ?_; rintro en w5 ⟨rfl, h5⟩; have H5 := hid h5; clear h5))
  clear x4
  have x5 := box_cell H5.out 5 v5 rfl
  have HN5 := hid (len_now HL5.out)
  have HL6 := hid (len_step HL5.out)
  go_upto_region 7 with (first | (go_at_call 52; refine (wwholeE H5.out E5.out HN5.out).mono ?_; rintro en w6 ⟨rfl, h6⟩; have H6 := hid h6; clear h6))
  clear x5
  have x6 := box_cell H6.out 6 v6 rfl
  go_wp2_with (first | (go_at_call 53; refine (wflagE H6.out E6.out HL6.out).mono ?_; rintro en w7 ⟨rfl, h7⟩; have H7 := hid h7; clear h7))
  clear x6
  go_end0
  exact ⟨rfl, by simpa only [List.append_assoc] using H7.out.drop⟩

set_option maxHeartbeats 4000000 in
theorem wlist_Table {W0 w : World} {KK : List (Nat × Obj)} {a : Nat} {l : List UInt8} {v : Value} {b : List UInt8} (h : St 69 W0 KK a w l) (e : Enc W0 (.list sTable) [v] b) (hl : l.length + b.length ≤ 1000000000000) :
    Calls Try.prog 70 #[.pointer (some ⟨a, 0, none⟩), v, (.func (.func 61) #[.pointer (some ⟨a, 0, none⟩)] #[])] w (Wrote 69 W0 KK a l b) := by
  obtain ⟨ao, n, c, M, rfl, hL, rfl⟩ := list_open e
  obtain ⟨hcap, hn6, hn64, hw⟩ := hL.cap
  have HLst := hid hL
  have HL := hid hl
  have C0 := hid (wnum_any h n hn64 (by have := HL.out; simp only [List.length_append] at this ⊢; omega))
  clear h e hl hL hn64
  go_enter Try.func70, Try.ntmps70
  go_wp2_with (first | (go_at_call 48; refine C0.out.mono ?_; rintro en w1 ⟨rfl, h1⟩; have H1 := hid h1; clear h1))
  clear hw C0
  go_loopw [15] (fun i wr => ∃ k, k ≤ n ∧ i = .int .i64 (k : Int) ∧ St 69 W0 KK a wr ((l ++ numL n) ++ takeB M k)) (fun i _ => n - (intOf i).toNat)
  case atStart => exact ⟨0, by omega, rfl, by rw [takeB_zero, List.append_nil]; exact H1.out⟩
  case round =>
    obtain ⟨k, hk, rfl, hst⟩ := hrel
    have HS := hid hst
    clear hst
    by_cases hlt : k < n
    · obtain ⟨⟨mc, mb⟩, bk, off, hm, rfl, hcell, htk, hle⟩ := HLst.out.get (by decide) hlt
      simp only at hm hcell htk hle
      obtain ⟨v0, v1, v2, v3, b0, b1, b2, b3, rfl, rfl, e0, e1, e2, e3⟩ := Table_cells hm
      obtain ⟨y0, rfl⟩ := form_int e0
      obtain ⟨y1, rfl⟩ := form_name e1
      obtain ⟨y2, j2, c2, rfl⟩ := form_list e2
      obtain ⟨y3, j3, c3, rfl⟩ := form_list e3
      have d0 : wr.cell? ⟨bk, off + k * 4, none⟩ = some (.int .i64 y0) := hcell _ HS.out.below 0 _ rfl
      have d1 : wr.cell? ⟨bk, off + k * 4 + 1, none⟩ = some (.string y1) := hcell _ HS.out.below 1 _ rfl
      have d2 : wr.cell? ⟨bk, off + k * 4 + 2, none⟩ = some (.slice y2 j2 c2) := hcell _ HS.out.below 2 _ rfl
      have d3 : wr.cell? ⟨bk, off + k * 4 + 3, none⟩ = some (.slice y3 j3 c3) := hcell _ HS.out.below 3 _ rfl
      have HB := hid (HS.out.box #[(.int .i64 y0), (.string y1), (.slice y2 j2 c2), (.slice y3 j3 c3)] 34)
      have HX := hid hle
      have C := hid (wTable_any HB.out e0 e1 e2 e3 (by have := HL.out; have := HX.out; simp only [List.length_append] at *; omega))
      have HT := hid htk
      clear htk hle hcell hm e0 e1 e2 e3
      have hki : (k : Int) < (n : Int) := by omega
      go_wp2_with (first | (go_at_call 61; refine C.out.mono ?_; rintro en w2 ⟨rfl, h2⟩; have H2 := hid h2.drop; clear h2))
      go_roundw
      case rel => exact ⟨k + 1, by omega, by go_num, by rw [HT.out, ← List.append_assoc]; exact H2.out⟩
      case measure => simp [intOf]; omega
    · obtain rfl : k = n := by omega
      have hki : ¬ (k : Int) < (k : Int) := by omega
      go_wp2_with fail
      go_end0
      exact ⟨rfl, by rw [← List.append_assoc]; exact HS.out⟩

set_option maxHeartbeats 4000000 in
theorem wlist_Index {W0 w : World} {KK : List (Nat × Obj)} {a : Nat} {l : List UInt8} {v : Value} {b : List UInt8} (h : St 69 W0 KK a w l) (e : Enc W0 (.list sIndex) [v] b) (hl : l.length + b.length ≤ 1000000000000) :
    Calls Try.prog 71 #[.pointer (some ⟨a, 0, none⟩), v, (.func (.func 62) #[.pointer (some ⟨a, 0, none⟩)] #[])] w (Wrote 69 W0 KK a l b) := by
  obtain ⟨ao, n, c, M, rfl, hL, rfl⟩ := list_open e
  obtain ⟨hcap, hn6, hn64, hw⟩ := hL.cap
  have HLst := hid hL
  have HL := hid hl
  have C0 := hid (wnum_any h n hn64 (by have := HL.out; simp only [List.length_append] at this ⊢; omega))
  clear h e hl hL hn64
  go_enter Try.func71, Try.ntmps71
  go_wp2_with (first | (go_at_call 48; refine C0.out.mono ?_; rintro en w1 ⟨rfl, h1⟩; have H1 := hid h1; clear h1))
  clear hw C0
  go_loopw [15] (fun i wr => ∃ k, k ≤ n ∧ i = .int .i64 (k : Int) ∧ St 69 W0 KK a wr ((l ++ numL n) ++ takeB M k)) (fun i _ => n - (intOf i).toNat)
  case atStart => exact ⟨0, by omega, rfl, by rw [takeB_zero, List.append_nil]; exact H1.out⟩
  case round =>
    obtain ⟨k, hk, rfl, hst⟩ := hrel
    have HS := hid hst
    clear hst
    by_cases hlt : k < n
    · obtain ⟨⟨mc, mb⟩, bk, off, hm, rfl, hcell, htk, hle⟩ := HLst.out.get (by decide) hlt
      simp only at hm hcell htk hle
      obtain ⟨v0, v1, v2, v3, v4, v5, v6, b0, b1, b2, b3, b4, b5, b6, rfl, rfl, e0, e1, e2, e3, e4, e5, e6⟩ := Index_cells hm
      obtain ⟨y0, rfl⟩ := form_int e0
      obtain ⟨y1, rfl⟩ := form_int e1
      obtain ⟨y2, rfl⟩ := form_name e2
      obtain ⟨y3, j3, c3, rfl⟩ := form_list e3
      obtain ⟨y4, rfl⟩ := form_bool e4
      obtain ⟨y5, rfl⟩ := form_int e5
      obtain ⟨y6, rfl⟩ := form_bool e6
      have d0 : wr.cell? ⟨bk, off + k * 7, none⟩ = some (.int .i64 y0) := hcell _ HS.out.below 0 _ rfl
      have d1 : wr.cell? ⟨bk, off + k * 7 + 1, none⟩ = some (.int .i64 y1) := hcell _ HS.out.below 1 _ rfl
      have d2 : wr.cell? ⟨bk, off + k * 7 + 2, none⟩ = some (.string y2) := hcell _ HS.out.below 2 _ rfl
      have d3 : wr.cell? ⟨bk, off + k * 7 + 3, none⟩ = some (.slice y3 j3 c3) := hcell _ HS.out.below 3 _ rfl
      have d4 : wr.cell? ⟨bk, off + k * 7 + 4, none⟩ = some (.bool y4) := hcell _ HS.out.below 4 _ rfl
      have d5 : wr.cell? ⟨bk, off + k * 7 + 5, none⟩ = some (.int .i64 y5) := hcell _ HS.out.below 5 _ rfl
      have d6 : wr.cell? ⟨bk, off + k * 7 + 6, none⟩ = some (.bool y6) := hcell _ HS.out.below 6 _ rfl
      have HB := hid (HS.out.box #[(.int .i64 y0), (.int .i64 y1), (.string y2), (.slice y3 j3 c3), (.bool y4), (.int .i64 y5), (.bool y6)] 36)
      have HX := hid hle
      have C := hid (wIndex_any HB.out e0 e1 e2 e3 e4 e5 e6 (by have := HL.out; have := HX.out; simp only [List.length_append] at *; omega))
      have HT := hid htk
      clear htk hle hcell hm e0 e1 e2 e3 e4 e5 e6
      have hki : (k : Int) < (n : Int) := by omega
      go_wp2_with (first | (go_at_call 62; refine C.out.mono ?_; rintro en w2 ⟨rfl, h2⟩; have H2 := hid h2.drop; clear h2))
      go_roundw
      case rel => exact ⟨k + 1, by omega, by go_num, by rw [HT.out, ← List.append_assoc]; exact H2.out⟩
      case measure => simp [intOf]; omega
    · obtain rfl : k = n := by omega
      have hki : ¬ (k : Int) < (k : Int) := by omega
      go_wp2_with fail
      go_end0
      exact ⟨rfl, by rw [← List.append_assoc]; exact HS.out⟩

set_option maxHeartbeats 8000000 in
theorem wCatalog_any {W0 w : World} {KK : List (Nat × Obj)} {a : Nat} {l : List UInt8} {v0 v1 v2 v3 : Value} {b0 b1 b2 b3 : List UInt8} (h : St 69 W0 KK a w l) (e0 : Enc W0 .int [v0] b0) (e1 : Enc W0 .int [v1] b1) (e2 : Enc W0 (.list sTable) [v2] b2) (e3 : Enc W0 (.list sIndex) [v3] b3) (hl : l.length + (b0 ++ (b1 ++ (b2 ++ b3))).length ≤ 1000000000000) :
    Calls Try.prog 38 #[.pointer (some ⟨a, 0, none⟩), .agg #[v0, v1, v2, v3]] w (Wrote 69 W0 KK a l (b0 ++ (b1 ++ (b2 ++ b3)))) := by
  have H0 := hid (h.box #[v0, v1, v2, v3] 44)
  have HL0 := hid hl
  have E0 := hid e0
  have E1 := hid e1
  have E2 := hid e2
  have E3 := hid e3
  clear h hl e0 e1 e2 e3
  go_enter Try.func38, Try.ntmps38
  go_upto_region 1 with fail
  generalize w.alloc (.cells #[v0, v1, v2, v3] 44) = w0 at *
  generalize w.heap.size = B at *
  have x0 := box_cell H0.out 0 v0 rfl
  have HN0 := hid (len_now HL0.out)
  have HL1 := hid (len_step HL0.out)
  go_upto_region 2 with (first | (go_at_call 52; refine (wwholeE H0.out E0.out HN0.out).mono ?_; rintro en w1 ⟨rfl, h1⟩; have H1 := hid h1; clear h1))
  clear x0
  have x1 := box_cell H1.out 1 v1 rfl
  have HN1 := hid (len_now HL1.out)
  have HL2 := hid (len_step HL1.out)
  go_upto_region 3 with (first | (go_at_call 52; refine (wwholeE H1.out E1.out HN1.out).mono ?_; rintro en w2 ⟨rfl, h2⟩; have H2 := hid h2; clear h2))
  clear x1
  have x2 := box_cell H2.out 2 v2 rfl
  have HN2 := hid (len_now HL2.out)
  have HL3 := hid (len_step HL2.out)
  go_upto_region 4 with (first | (go_at_call 70; refine (wlist_Table H2.out E2.out HN2.out).mono ?_; rintro en w3 ⟨rfl, h3⟩; have H3 := hid h3; clear h3))
  clear x2
  have x3 := box_cell H3.out 3 v3 rfl
  go_wp2_with (first | (go_at_call 71; refine (wlist_Index H3.out E3.out HL3.out).mono ?_; rintro en w4 ⟨rfl, h4⟩; have H4 := hid h4; clear h4))
  clear x3
  go_end0
  exact ⟨rfl, by simpa only [List.append_assoc] using H4.out.drop⟩

end Go.Proofs.Ytiblambiebojmaa

set_option linter.unusedVariables false
set_option linter.unusedSimpArgs false
set_option maxRecDepth 100000
namespace Go.Proofs.Ytiblambiebojmaa
open Go.RowKit Go.Deep

set_option maxHeartbeats 8000000 in
theorem wCall_any {W0 w : World} {KK : List (Nat × Obj)} {a : Nat} {l : List UInt8} {v0 v1 v2 : Value} {b0 b1 b2 : List UInt8} (h : St 69 W0 KK a w l) (e0 : Enc W0 .num [v0] b0) (e1 : Enc W0 .num [v1] b1) (e2 : Enc W0 .data [v2] b2) (hl : l.length + (b0 ++ (b1 ++ b2)).length ≤ 1000000000000) :
    Calls Try.prog 22 #[.pointer (some ⟨a, 0, none⟩), .agg #[v0, v1, v2]] w (Wrote 69 W0 KK a l (b0 ++ (b1 ++ b2))) := by
  have H0 := hid (h.box #[v0, v1, v2] 25)
  have HL0 := hid hl
  have E0 := hid e0
  have E1 := hid e1
  have E2 := hid e2
  clear h hl e0 e1 e2
  go_enter Try.func22, Try.ntmps22
  go_upto_region 1 with fail
  generalize w.alloc (.cells #[v0, v1, v2] 25) = w0 at *
  generalize w.heap.size = B at *
  have x0 := box_cell H0.out 0 v0 rfl
  have HN0 := hid (len_now HL0.out)
  have HL1 := hid (len_step HL0.out)
  go_upto_region 2 with (first | (go_at_call 48; refine (wnumE H0.out E0.out HN0.out).mono ?_; rintro en w1 ⟨rfl, h1⟩; have H1 := hid h1; clear h1))
  clear x0
  have x1 := box_cell H1.out 1 v1 rfl
  have HN1 := hid (len_now HL1.out)
  have HL2 := hid (len_step HL1.out)
  go_upto_region 3 with (first | (go_at_call 48; refine (wnumE H1.out E1.out HN1.out).mono ?_; rintro en w2 ⟨rfl, h2⟩; have H2 := hid h2; clear h2))
  clear x1
  have x2 := box_cell H2.out 2 v2 rfl
  go_wp2_with (first | (go_at_call 49; refine (wdataE H2.out E2.out HL2.out).mono ?_; rintro en w3 ⟨rfl, h3⟩; have H3 := hid h3; clear h3))
  clear x2
  go_end0
  exact ⟨rfl, by simpa only [List.append_assoc] using H3.out.drop⟩

end Go.Proofs.Ytiblambiebojmaa

