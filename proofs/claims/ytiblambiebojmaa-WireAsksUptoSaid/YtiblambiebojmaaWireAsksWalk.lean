/-
  THE LAW WireAsks: its walk.
-/
import Derived.Test.YtiblambiebojmaaWG1
import Derived.Test.YtiblambiebojmaaWG2
import Derived.Test.YtiblambiebojmaaWG3
import Derived.Test.YtiblambiebojmaaWG4
import Derived.Test.YtiblambiebojmaaWG5
import Derived.Test.YtiblambiebojmaaWG6
import Derived.Test.YtiblambiebojmaaWG7
set_option linter.unusedVariables false
set_option linter.unusedSimpArgs false
set_option maxRecDepth 100000
namespace Go.Proofs.Ytiblambiebojmaa
open Go.RowKit Go.Deep Go.ChangeShapes Go.WideShapes Go.ChangeAt
namespace wireAsksUpto

set_option maxHeartbeats 16000000 in
theorem walk {H : Type} {enc : TypeId × Value → H} (v0 v1 : Value) (W : World) {base : Nat} {d0 d1 : DataW H} {p0 p1 : List MemPlace} (hw0 : Value.okWide Try.prog W .any base 44 v0) (h0 : DataW.Trod enc Try.prog W 0 (fun _ => true) true 44 v0 d0 p0) (hw1 : Value.okWide Try.prog W .any base 59 v1) (h1 : DataW.Trod enc Try.prog W 0 (fun _ => true) true 59 v1 d1 p1) (hk : Rows.uptoSmall H [d0, d1] = true) :
    Calls Try.prog 4 #[v0, v1] W (fun e w' => e = .returned (.bool true) ∧ Below W.heap.size W w') := by
  obtain ⟨cs0, bs0, rfl, he0, hl0⟩ := struct_in 20 sCatalog 44 Try.underlying44 (by kernel_rfl) hw0 h0 (bulk_at hk (by simp))
  obtain ⟨v0_0, v0_1, v0_2, v0_3, b0_0, b0_1, b0_2, b0_3, rfl, rfl, e0_0, e0_1, e0_2, e0_3⟩ := Catalog_cells he0
  obtain ⟨cs1, bs1, rfl, he1, hl1⟩ := struct_in 20 sAsk 59 Try.underlying59 (by kernel_rfl) hw1 h1 (bulk_at hk (by simp))
  obtain ⟨v1_0, v1_1, v1_2, v1_3, v1_4, v1_5, v1_6, v1_7, v1_8, v1_9, v1_10, v1_11, v1_12, v1_13, v1_14, v1_15, b1_0, b1_1, b1_2, b1_3, b1_4, b1_5, b1_6, b1_7, b1_8, b1_9, b1_10, b1_11, b1_12, b1_13, b1_14, b1_15, rfl, rfl, e1_0, e1_1, e1_2, e1_3, e1_4, e1_5, e1_6, e1_7, e1_8, e1_9, e1_10, e1_11, e1_12, e1_13, e1_14, e1_15⟩ := Ask_cells he1
  obtain ⟨a0_2, n0_2, c0_2, rfl⟩ := form_list e0_2
  obtain ⟨hc0_2, hn0_2⟩ := list_len e0_2
  obtain ⟨a0_3, n0_3, c0_3, rfl⟩ := form_list e0_3
  obtain ⟨hc0_3, hn0_3⟩ := list_len e0_3
  obtain ⟨a1_1, n1_1, c1_1, rfl⟩ := form_list e1_1
  obtain ⟨hc1_1, hn1_1⟩ := list_len e1_1
  clear hk hw0 h0 he0 hw1 h1 he1
  obtain ⟨B0, hB0⟩ : ∃ B, B = b0_0 ++ (b0_1 ++ (b0_2 ++ b0_3)) := ⟨_, rfl⟩
  have CW0 : Hid (∀ V, Below W.heap.size W V → Calls Try.prog 15 #[.agg #[v0_0, v0_1, (.slice a0_2 n0_2 c0_2), (.slice a0_3 n0_3 c0_3)]] V (Gives 5 V B0)) := hid fun V hV => by rw [hB0]; exact wtopCatalog_any (Enc.old hV _ e0_0) (Enc.old hV _ e0_1) (Enc.old hV _ e0_2) (Enc.old hV _ e0_3) (by omega)
  have CR0 : Hid (∀ V, Below W.heap.size W V → Calls Try.prog 16 #[.agg #[v0_0, v0_1, (.slice a0_2 n0_2 c0_2), (.slice a0_3 n0_3 c0_3)]] V (Gives 5 V B0)) := hid fun V hV => by rw [hB0]; exact rtopCatalog_any (Enc.old hV _ e0_0) (Enc.old hV _ e0_1) (Enc.old hV _ e0_2) (Enc.old hV _ e0_3) (by omega)
  clear hB0 hl0 e0_0 e0_1 e0_2 e0_3
  obtain ⟨B1, hB1⟩ : ∃ B, B = b1_0 ++ (b1_1 ++ (b1_2 ++ (b1_3 ++ (b1_4 ++ (b1_5 ++ (b1_6 ++ (b1_7 ++ (b1_8 ++ (b1_9 ++ (b1_10 ++ (b1_11 ++ (b1_12 ++ (b1_13 ++ (b1_14 ++ b1_15)))))))))))))) := ⟨_, rfl⟩
  have CW1 : Hid (∀ V, Below W.heap.size W V → Calls Try.prog 17 #[.agg #[v1_0, (.slice a1_1 n1_1 c1_1), v1_2, v1_3, v1_4, v1_5, v1_6, v1_7, v1_8, v1_9, v1_10, v1_11, v1_12, v1_13, v1_14, v1_15]] V (Gives 5 V B1)) := hid fun V hV => by rw [hB1]; exact wtopAsk_any (Enc.old hV _ e1_0) (Enc.old hV _ e1_1) (Enc.old hV _ e1_2) (Enc.old hV _ e1_3) (Enc.old hV _ e1_4) (Enc.old hV _ e1_5) (Enc.old hV _ e1_6) (Enc.old hV _ e1_7) (Enc.old hV _ e1_8) (Enc.old hV _ e1_9) (Enc.old hV _ e1_10) (Enc.old hV _ e1_11) (Enc.old hV _ e1_12) (Enc.old hV _ e1_13) (Enc.old hV _ e1_14) (Enc.old hV _ e1_15) (by omega)
  have CR1 : Hid (∀ V, Below W.heap.size W V → Calls Try.prog 18 #[.agg #[v1_0, (.slice a1_1 n1_1 c1_1), v1_2, v1_3, v1_4, v1_5, v1_6, v1_7, v1_8, v1_9, v1_10, v1_11, v1_12, v1_13, v1_14, v1_15]] V (Gives 5 V B1)) := hid fun V hV => by rw [hB1]; exact rtopAsk_any (Enc.old hV _ e1_0) (Enc.old hV _ e1_1) (Enc.old hV _ e1_2) (Enc.old hV _ e1_3) (Enc.old hV _ e1_4) (Enc.old hV _ e1_5) (Enc.old hV _ e1_6) (Enc.old hV _ e1_7) (Enc.old hV _ e1_8) (Enc.old hV _ e1_9) (Enc.old hV _ e1_10) (Enc.old hV _ e1_11) (Enc.old hV _ e1_12) (Enc.old hV _ e1_13) (Enc.old hV _ e1_14) (Enc.old hV _ e1_15) (by omega)
  clear hB1 hl1 e1_0 e1_1 e1_2 e1_3 e1_4 e1_5 e1_6 e1_7 e1_8 e1_9 e1_10 e1_11 e1_12 e1_13 e1_14 e1_15
  have hb0 : Below W.heap.size W ((W.alloc (.cells #[v0_0, v0_1, (.slice a0_2 n0_2 c0_2), (.slice a0_3 n0_3 c0_3)] 44)).alloc (.cells #[v1_0, (.slice a1_1 n1_1 c1_1), v1_2, v1_3, v1_4, v1_5, v1_6, v1_7, v1_8, v1_9, v1_10, v1_11, v1_12, v1_13, v1_14, v1_15] 59)) := ((Below.refl _ _).alloc (Nat.le_refl _) _).alloc (by simp) _
  have hz0 := (Below.heap_alloc (W.alloc (.cells #[v0_0, v0_1, (.slice a0_2 n0_2 c0_2), (.slice a0_3 n0_3 c0_3)] 44)) (.cells #[v1_0, (.slice a1_1 n1_1 c1_1), v1_2, v1_3, v1_4, v1_5, v1_6, v1_7, v1_8, v1_9, v1_10, v1_11, v1_12, v1_13, v1_14, v1_15] 59) W.heap.size (by simp)).trans (heap_alloc_new W (.cells #[v0_0, v0_1, (.slice a0_2 n0_2 c0_2), (.slice a0_3 n0_3 c0_3)] 44))
  have hz1 := heap_alloc2_new W (.cells #[v0_0, v0_1, (.slice a0_2 n0_2 c0_2), (.slice a0_3 n0_3 c0_3)] 44) (.cells #[v1_0, (.slice a1_1 n1_1 c1_1), v1_2, v1_3, v1_4, v1_5, v1_6, v1_7, v1_8, v1_9, v1_10, v1_11, v1_12, v1_13, v1_14, v1_15] 59)
  have HZ0 : Hid (∀ V, Below ((W.alloc (.cells #[v0_0, v0_1, (.slice a0_2 n0_2 c0_2), (.slice a0_3 n0_3 c0_3)] 44)).alloc (.cells #[v1_0, (.slice a1_1 n1_1 c1_1), v1_2, v1_3, v1_4, v1_5, v1_6, v1_7, v1_8, v1_9, v1_10, v1_11, v1_12, v1_13, v1_14, v1_15] 59)).heap.size ((W.alloc (.cells #[v0_0, v0_1, (.slice a0_2 n0_2 c0_2), (.slice a0_3 n0_3 c0_3)] 44)).alloc (.cells #[v1_0, (.slice a1_1 n1_1 c1_1), v1_2, v1_3, v1_4, v1_5, v1_6, v1_7, v1_8, v1_9, v1_10, v1_11, v1_12, v1_13, v1_14, v1_15] 59)) V → ∀ (i : Nat) u, ([v0_0, v0_1, (.slice a0_2 n0_2 c0_2), (.slice a0_3 n0_3 c0_3)] : List Value)[i]? = some u → V.cell? ⟨W.heap.size, i, none⟩ = some u) := hid fun V hV i u hu => by have := (hV.block _ (lt_of_block hz0)).trans hz0; simp only [World.cell?, this]; simpa using hu
  have HZ1 : Hid (∀ V, Below ((W.alloc (.cells #[v0_0, v0_1, (.slice a0_2 n0_2 c0_2), (.slice a0_3 n0_3 c0_3)] 44)).alloc (.cells #[v1_0, (.slice a1_1 n1_1 c1_1), v1_2, v1_3, v1_4, v1_5, v1_6, v1_7, v1_8, v1_9, v1_10, v1_11, v1_12, v1_13, v1_14, v1_15] 59)).heap.size ((W.alloc (.cells #[v0_0, v0_1, (.slice a0_2 n0_2 c0_2), (.slice a0_3 n0_3 c0_3)] 44)).alloc (.cells #[v1_0, (.slice a1_1 n1_1 c1_1), v1_2, v1_3, v1_4, v1_5, v1_6, v1_7, v1_8, v1_9, v1_10, v1_11, v1_12, v1_13, v1_14, v1_15] 59)) V → ∀ (i : Nat) u, ([v1_0, (.slice a1_1 n1_1 c1_1), v1_2, v1_3, v1_4, v1_5, v1_6, v1_7, v1_8, v1_9, v1_10, v1_11, v1_12, v1_13, v1_14, v1_15] : List Value)[i]? = some u → V.cell? ⟨W.heap.size + 1, i, none⟩ = some u) := hid fun V hV i u hu => by have := (hV.block _ (lt_of_block hz1)).trans hz1; simp only [World.cell?, this]; simpa using hu
  have HB0 := hid hb0
  clear hb0 hz0 hz1
  go_enter Try.func4, Try.ntmps4
  go_upto_region 1 with fail
  generalize (W.alloc (.cells #[v0_0, v0_1, (.slice a0_2 n0_2 c0_2), (.slice a0_3 n0_3 c0_3)] 44)).alloc (.cells #[v1_0, (.slice a1_1 n1_1 c1_1), v1_2, v1_3, v1_4, v1_5, v1_6, v1_7, v1_8, v1_9, v1_10, v1_11, v1_12, v1_13, v1_14, v1_15] 59) = w1 at *
  have HB1 : Hid (∀ V, Below w1.heap.size w1 V → Below W.heap.size W V) := hid fun V hV => HB0.out.trans (hV.mono HB0.out.size)
  have z0_2 := HZ0.out _ (Below.refl _ _) 2 _ rfl
  have z0_3 := HZ0.out _ (Below.refl _ _) 3 _ rfl
  have z1_1 := HZ1.out _ (Below.refl _ _) 1 _ rfl
  have hs0 : IntKind.i64.wrap ((n0_2 : Int) + (n0_3 : Int)) = (n0_2 : Int) + (n0_3 : Int) := by rw [IntKind.wrap_i64]; omega
  by_cases q0 : (60 : Int) < (n0_2 : Int) + (n0_3 : Int)
  · go_wp2_with (first | (go_at_call 7; refine (xawake_any _).mono ?_; rintro en w2 ⟨rfl, hb2⟩; have HB2 := hid (HB1.out _ (hb2)); clear hb2))
    go_ret
    exact ⟨rfl, HB2.out⟩
  · skip
    by_cases q1 : (60 : Int) < (n1_1 : Int)
    · go_wp2_with (first | (go_at_call 7; refine (xawake_any _).mono ?_; rintro en w2 ⟨rfl, hb2⟩; have HB2 := hid (HB1.out _ (hb2)); clear hb2))
      go_ret
      exact ⟨rfl, HB2.out⟩
    · skip
      go_upto_region 3 with (first | fail)
      have HX : Hid (Below w1.heap.size w1 w1) := hid (Below.refl _ _)
      clear z0_2 z0_3 z1_1
      obtain ⟨S9, hS9⟩ : ∃ S9 : World → Prop, S9 = fun V => Below w1.heap.size w1 V := ⟨_, rfl⟩
      have HS : Hid (∀ V, Below w1.heap.size w1 V → S9 V) := hid fun V h => by rw [hS9]; exact h
      have HSI : Hid (∀ V, S9 V → Below w1.heap.size w1 V) := hid fun V h => by rw [hS9] at h; exact h
      have HWd : Hid (Below w1.heap.size w1 w1.drew) := hid (HX.out.trans ((show Below w1.heap.size w1 w1.drew from ⟨rfl, rfl, rfl, Nat.le_refl _, fun _ _ => rfl⟩).mono HX.out.size))
      have CBY : ∀ (l : List UInt8) (V : World) (x y : Value), Rd V x l → Rd V y l → Calls Try.prog 8 #[x, y] V (fun e w' => e = .returned (.bool true) ∧ V = w') := fun l V x y hx hy => by have := bytes_any x y l l V hx hy; simpa using this
      have HBY := hid CBY
      clear hS9 CBY
      refine wp_region_noPanic ?_
      refine wp_region_held_drew (S := S9) (by kernel_rfl) (HS.out _ HWd.out) (fun hHeld => ?_)
      generalize w1.drew = Wd at *
      refine wpAnyH_ready (rs := [0]) (by kernel_rfl) (by simp) ?_
      refine AllReadyH.cons rfl (fun K hK => ?_) AllReadyH.nil
      go_simp
      go_wp2_with (first | (go_at_call 7; refine (xawake_any _).mono ?_; rintro en wA ⟨rfl, hbA⟩; have HBA := hid (HWd.out.trans (hbA.mono HWd.out.size)); clear hbA))
      refine hK.out _ _ (HS.out _ HBA.out) (fun hHeld => ?_)
      clear hK K
      refine wpAnyH_take (i := 1) (v := (.bool true)) rfl (by kernel_rfl) (by kernel_rfl) (by kernel_rfl) (fun _ _ _ h => (show False from h).elim) ?xyWLWireAsks1 ?xhWLWireAsks1 ?xrWLWireAsks1
      case xhWLWireAsks1 => exact hHeld
      case xyWLWireAsks1 => exact Or.inl ⟨by rfl, fun W9 hW => by clear hHeld; simp only [List.getElem_toArray, List.getElem_cons_succ, List.getElem_cons_zero]; go_simp⟩
      simp only [Act.put, List.getElem_toArray, List.getElem_cons_succ, List.getElem_cons_zero, List.setIfInBounds_toArray, List.set_cons_succ, List.set_cons_zero]
      refine wpAnyH_take (i := 2) (v := (.agg #[v0_0, v0_1, (.slice a0_2 n0_2 c0_2), (.slice a0_3 n0_3 c0_3)])) rfl (by kernel_rfl) (by kernel_rfl) (by kernel_rfl) (fun _ _ _ h => (show False from h).elim) ?xyWLWireAsks2 ?xhWLWireAsks2 ?xrWLWireAsks2
      case xhWLWireAsks2 => exact hHeld
      case xyWLWireAsks2 => exact Or.inl ⟨by rfl, fun W9 hW => by have hWW := HSI.out _ hW; have y0 := HZ0.out _ hWW 0 _ rfl; have y1 := HZ0.out _ hWW 1 _ rfl; have y2 := HZ0.out _ hWW 2 _ rfl; have y3 := HZ0.out _ hWW 3 _ rfl; clear hHeld; simp only [List.getElem_toArray, List.getElem_cons_succ, List.getElem_cons_zero]; go_simp⟩
      simp only [Act.put, List.getElem_toArray, List.getElem_cons_succ, List.getElem_cons_zero, List.setIfInBounds_toArray, List.set_cons_succ, List.set_cons_zero]
      refine wpAnyH_take (i := 4) (v := (.agg #[v0_0, v0_1, (.slice a0_2 n0_2 c0_2), (.slice a0_3 n0_3 c0_3)])) rfl (by kernel_rfl) (by kernel_rfl) (by kernel_rfl) (fun _ _ _ h => (show False from h).elim) ?xyWLWireAsks3 ?xhWLWireAsks3 ?xrWLWireAsks3
      case xhWLWireAsks3 => exact hHeld
      case xyWLWireAsks3 => exact Or.inl ⟨by rfl, fun W9 hW => by have hWW := HSI.out _ hW; have y0 := HZ0.out _ hWW 0 _ rfl; have y1 := HZ0.out _ hWW 1 _ rfl; have y2 := HZ0.out _ hWW 2 _ rfl; have y3 := HZ0.out _ hWW 3 _ rfl; clear hHeld; simp only [List.getElem_toArray, List.getElem_cons_succ, List.getElem_cons_zero]; go_simp⟩
      simp only [Act.put, List.getElem_toArray, List.getElem_cons_succ, List.getElem_cons_zero, List.setIfInBounds_toArray, List.set_cons_succ, List.set_cons_zero]
      have CC0 := hid (CW0.out _ (HB1.out _ HBA.out))
      refine wpAnyH_ready (rs := [3]) (by kernel_rfl) (by simp) ?_
      refine AllReadyH.cons rfl (fun K hK => ?_) AllReadyH.nil
      go_simp
      go_wp2_with (first | (go_at_call 15; refine CC0.out.mono ?_; rintro en wP0 ⟨x0, rfl, ho0, hb0⟩; have HR0 := hid (Rd.own ho0); have HP0 := hid (HBA.out.trans (hb0.mono HBA.out.size)); clear ho0 hb0))
      refine hK.out _ _ (HS.out _ HP0.out) (fun hHeld => ?_)
      clear hK K
      have CD0 := hid (CR0.out _ (HB1.out _ HP0.out))
      refine wpAnyH_ready (rs := [5]) (by kernel_rfl) (by simp) ?_
      refine AllReadyH.cons rfl (fun K hK => ?_) AllReadyH.nil
      go_simp
      go_wp2_with (first | (go_at_call 16; refine CD0.out.mono ?_; rintro en wQ0 ⟨y0, rfl, ho0, hb0⟩; have HT0 := hid (Rd.own ho0); have HQ0 := hid (HP0.out.trans (hb0.mono HP0.out.size)); have HU0 := hid (HR0.out.old hb0); clear ho0 hb0))
      refine hK.out _ _ (HS.out _ HQ0.out) (fun hHeld => ?_)
      clear hK K
      have CE0 := hid (HBY.out _ _ _ _ HU0.out HT0.out)
      refine wpAnyH_ready (rs := [6]) (by kernel_rfl) (by simp) ?_
      refine AllReadyH.cons rfl (fun K hK => ?_) AllReadyH.nil
      go_simp
      go_wp2_with (first | (go_at_call 8; refine CE0.out.mono ?_; rintro en wE0 ⟨rfl, rfl⟩))
      refine hK.out _ _ (HS.out _ HQ0.out) (fun hHeld => ?_)
      clear hK K
      refine wpAnyH_take (i := 7) (v := (.bool true)) rfl (by kernel_rfl) (by kernel_rfl) (by kernel_rfl) (fun _ _ _ h => (show False from h).elim) ?xyWLWireAsks4 ?xhWLWireAsks4 ?xrWLWireAsks4
      case xhWLWireAsks4 => exact hHeld
      case xyWLWireAsks4 => exact Or.inl ⟨by rfl, fun W9 hW => by clear hHeld; simp only [List.getElem_toArray, List.getElem_cons_succ, List.getElem_cons_zero]; go_simp⟩
      simp only [Act.put, List.getElem_toArray, List.getElem_cons_succ, List.getElem_cons_zero, List.setIfInBounds_toArray, List.set_cons_succ, List.set_cons_zero]
      refine wpAnyH_take (i := 8) (v := (.bool true)) rfl (by kernel_rfl) (by kernel_rfl) (by kernel_rfl) (fun _ _ _ h => (show False from h).elim) ?xyWLWireAsks5 ?xhWLWireAsks5 ?xrWLWireAsks5
      case xhWLWireAsks5 => exact hHeld
      case xyWLWireAsks5 => exact Or.inl ⟨by rfl, fun W9 hW => by clear hHeld; simp only [List.getElem_toArray, List.getElem_cons_succ, List.getElem_cons_zero]; go_simp⟩
      simp only [Act.put, List.getElem_toArray, List.getElem_cons_succ, List.getElem_cons_zero, List.setIfInBounds_toArray, List.set_cons_succ, List.set_cons_zero]
      refine wpAnyH_take (i := 9) (v := (.agg #[v1_0, (.slice a1_1 n1_1 c1_1), v1_2, v1_3, v1_4, v1_5, v1_6, v1_7, v1_8, v1_9, v1_10, v1_11, v1_12, v1_13, v1_14, v1_15])) rfl (by kernel_rfl) (by kernel_rfl) (by kernel_rfl) (fun _ _ _ h => (show False from h).elim) ?xyWLWireAsks6 ?xhWLWireAsks6 ?xrWLWireAsks6
      case xhWLWireAsks6 => exact hHeld
      case xyWLWireAsks6 => exact Or.inl ⟨by rfl, fun W9 hW => by clear hHeld; simp only [List.getElem_toArray, List.getElem_cons_succ, List.getElem_cons_zero]; exact exec_load (t := 59) (x := .tmp 3) rfl (cells_load (HZ1.out _ (HSI.out _ hW)) Try.underlying59 rfl (by kernel_rfl))⟩
      simp only [Act.put, List.getElem_toArray, List.getElem_cons_succ, List.getElem_cons_zero, List.setIfInBounds_toArray, List.set_cons_succ, List.set_cons_zero]
      refine wpAnyH_take (i := 11) (v := (.agg #[v1_0, (.slice a1_1 n1_1 c1_1), v1_2, v1_3, v1_4, v1_5, v1_6, v1_7, v1_8, v1_9, v1_10, v1_11, v1_12, v1_13, v1_14, v1_15])) rfl (by kernel_rfl) (by kernel_rfl) (by kernel_rfl) (fun _ _ _ h => (show False from h).elim) ?xyWLWireAsks7 ?xhWLWireAsks7 ?xrWLWireAsks7
      case xhWLWireAsks7 => exact hHeld
      case xyWLWireAsks7 => exact Or.inl ⟨by rfl, fun W9 hW => by clear hHeld; simp only [List.getElem_toArray, List.getElem_cons_succ, List.getElem_cons_zero]; exact exec_load (t := 59) (x := .tmp 3) rfl (cells_load (HZ1.out _ (HSI.out _ hW)) Try.underlying59 rfl (by kernel_rfl))⟩
      simp only [Act.put, List.getElem_toArray, List.getElem_cons_succ, List.getElem_cons_zero, List.setIfInBounds_toArray, List.set_cons_succ, List.set_cons_zero]
      have CC1 := hid (CW1.out _ (HB1.out _ HQ0.out))
      refine wpAnyH_ready (rs := [10]) (by kernel_rfl) (by simp) ?_
      refine AllReadyH.cons rfl (fun K hK => ?_) AllReadyH.nil
      go_simp
      go_wp2_with (first | (go_at_call 17; refine CC1.out.mono ?_; rintro en wP1 ⟨x1, rfl, ho1, hb1⟩; have HR1 := hid (Rd.own ho1); have HP1 := hid (HQ0.out.trans (hb1.mono HQ0.out.size)); clear ho1 hb1))
      refine hK.out _ _ (HS.out _ HP1.out) (fun hHeld => ?_)
      clear hK K
      have CD1 := hid (CR1.out _ (HB1.out _ HP1.out))
      refine wpAnyH_ready (rs := [12]) (by kernel_rfl) (by simp) ?_
      refine AllReadyH.cons rfl (fun K hK => ?_) AllReadyH.nil
      go_simp
      go_wp2_with (first | (go_at_call 18; refine CD1.out.mono ?_; rintro en wQ1 ⟨y1, rfl, ho1, hb1⟩; have HT1 := hid (Rd.own ho1); have HQ1 := hid (HP1.out.trans (hb1.mono HP1.out.size)); have HU1 := hid (HR1.out.old hb1); clear ho1 hb1))
      refine hK.out _ _ (HS.out _ HQ1.out) (fun hHeld => ?_)
      clear hK K
      have CE1 := hid (HBY.out _ _ _ _ HU1.out HT1.out)
      refine wpAnyH_ready (rs := [13]) (by kernel_rfl) (by simp) ?_
      refine AllReadyH.cons rfl (fun K hK => ?_) AllReadyH.nil
      go_simp
      go_wp2_with (first | (go_at_call 8; refine CE1.out.mono ?_; rintro en wE1 ⟨rfl, rfl⟩))
      refine hK.out _ _ (HS.out _ HQ1.out) (fun hHeld => ?_)
      clear hK K
      refine wpAnyH_take (i := 14) (v := (.bool true)) rfl (by kernel_rfl) (by kernel_rfl) (by kernel_rfl) (fun _ _ _ h => (show False from h).elim) ?xyWLWireAsks8 ?xhWLWireAsks8 ?xrWLWireAsks8
      case xhWLWireAsks8 => exact hHeld
      case xyWLWireAsks8 => exact Or.inl ⟨by rfl, fun W9 hW => by clear hHeld; simp only [List.getElem_toArray, List.getElem_cons_succ, List.getElem_cons_zero]; go_simp⟩
      simp only [Act.put, List.getElem_toArray, List.getElem_cons_succ, List.getElem_cons_zero, List.setIfInBounds_toArray, List.set_cons_succ, List.set_cons_zero]
      refine wpAnyH_take (i := 15) (v := (.bool true)) rfl (by kernel_rfl) (by kernel_rfl) (by kernel_rfl) (fun _ _ _ h => (show False from h).elim) ?xyWLWireAsks9 ?xhWLWireAsks9 ?xrWLWireAsks9
      case xhWLWireAsks9 => exact hHeld
      case xyWLWireAsks9 => exact Or.inl ⟨by rfl, fun W9 hW => by clear hHeld; simp only [List.getElem_toArray, List.getElem_cons_succ, List.getElem_cons_zero]; go_simp⟩
      simp only [Act.put, List.getElem_toArray, List.getElem_cons_succ, List.getElem_cons_zero, List.setIfInBounds_toArray, List.set_cons_succ, List.set_cons_zero]
      refine wpAnyH_done (by kernel_rfl) ?_ _
      refine NoPanic.normal ?_
      go_wp2_with fail
      go_ret
      exact ⟨rfl, HB1.out _ HQ1.out⟩

end wireAsksUpto
end Go.Proofs.Ytiblambiebojmaa
