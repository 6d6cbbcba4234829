/-
  LAYER 12: THE HELPER's comparisons: what reads as the same thing is the same (made by src2/gen_ssame.py).
-/
import Derived.Test.YtafcbelkhhjcoaaSqj
import Derived.Test.YtafcbelkhhjcoaaTk
import Derived.Test.YtafcbelkhhjcoaaSi
set_option linter.unusedVariables false
set_option linter.unusedSimpArgs false
set_option maxRecDepth 100000
namespace Go.Proofs.Ytafcbelkhhjcoaa
open Go.RowKit Go.Deep

set_option maxHeartbeats 2000000 in
theorem same1Col_any (w : World) (u : Col) : Calls Try.prog 187 #[.agg #[.string ⟨u.name.toArray⟩, .int .i64 u.kind, .bool u.null], .agg #[.string ⟨u.name.toArray⟩, .int .i64 u.kind, .bool u.null]] w (fun e w' => e = .returned (.bool true) ∧ Below w.heap.size w w') := by
  have hb : Below w.heap.size w ((w.alloc (.cells #[.string ⟨u.name.toArray⟩, .int .i64 u.kind, .bool u.null] 123)).alloc (.cells #[.string ⟨u.name.toArray⟩, .int .i64 u.kind, .bool u.null] 123)) := ((Below.refl _ _).alloc (Nat.le_refl _) _).alloc (by simp) _
  have h0 := (Below.heap_alloc (w.alloc (.cells #[.string ⟨u.name.toArray⟩, .int .i64 u.kind, .bool u.null] 123)) (.cells #[.string ⟨u.name.toArray⟩, .int .i64 u.kind, .bool u.null] 123) w.heap.size (by simp)).trans (heap_alloc_new w (.cells #[.string ⟨u.name.toArray⟩, .int .i64 u.kind, .bool u.null] 123))
  have h1 := heap_alloc2_new w (.cells #[.string ⟨u.name.toArray⟩, .int .i64 u.kind, .bool u.null] 123) (.cells #[.string ⟨u.name.toArray⟩, .int .i64 u.kind, .bool u.null] 123)
  go_enter Try.func187, Try.ntmps187
  go_upto_region 1 with fail
  generalize (w.alloc (.cells #[.string ⟨u.name.toArray⟩, .int .i64 u.kind, .bool u.null] 123)).alloc (.cells #[.string ⟨u.name.toArray⟩, .int .i64 u.kind, .bool u.null] 123) = w1 at *
  have x0 := cell_in h0 0 _ rfl
  have y0 := cell_in h1 0 _ rfl
  have x1 := cell_in h0 1 _ rfl
  have y1 := cell_in h1 1 _ rfl
  have x2 := cell_in h0 2 _ rfl
  have y2 := cell_in h1 2 _ rfl
  clear h0 h1
  go_wp2_with fail
  go_ret
  exact ⟨rfl, hb⟩

set_option maxHeartbeats 8000000 in
theorem sameCol_any (w : World) {x y : Value} {l : List Col} (hx : Rws 3 w x (l.map colRow)) (hy : Rws 3 w y (l.map colRow)) : Calls Try.prog 186 #[x, y, .func (.func 187) #[] #[]] w (fun e w' => e = .returned (.bool true) ∧ Below w.heap.size w w') := by
  obtain ⟨ao, c, rfl, h1, h2, hc⟩ := cl_cells hx
  obtain ⟨bo, d, rfl, h3, h4, hd⟩ := cl_cells hy
  have hlm : l.length ≤ 9223372036854775807 := by unfold maxLen at h2; omega
  have HC := hid hc
  have HD := hid hd
  clear hx hy hc hd
  go_enter Try.func186, Try.ntmps186
  go_wp2_with fail
  go_loopw [7] (fun i wr => ∃ k : Nat, k ≤ l.length ∧ i = .int .i64 (k : Int) ∧ Below w.heap.size w wr) (fun i _ => l.length - (intOf i).toNat)
  case atStart => exact ⟨0, by omega, rfl, Below.refl _ _⟩
  case round =>
    obtain ⟨k, hk, rfl, hb⟩ := hrel
    have HB := hid hb
    clear hb
    by_cases hlt : k < l.length
    · obtain ⟨u, hu⟩ : ∃ u, l[k]? = some u := ⟨_, List.getElem?_eq_getElem hlt⟩
      obtain ⟨bk1, o1, rfl, c0, c1, c2⟩ := HC.out k u hu
      obtain ⟨bk2, o2, rfl, d0, d1, d2⟩ := HD.out k u hu
      have hki : (k : Int) < (l.length : Int) := by omega
      have HKp : Hid (∀ V, Below w.heap.size w V → V.cell? ⟨bk1, o1 + k * 3, none⟩ = some (.string ⟨u.name.toArray⟩) ∧ V.cell? ⟨bk1, o1 + k * 3 + 1, none⟩ = some (.int .i64 u.kind) ∧ V.cell? ⟨bk1, o1 + k * 3 + 2, none⟩ = some (.bool u.null) ∧ V.cell? ⟨bk2, o2 + k * 3, none⟩ = some (.string ⟨u.name.toArray⟩) ∧ V.cell? ⟨bk2, o2 + k * 3 + 1, none⟩ = some (.int .i64 u.kind) ∧ V.cell? ⟨bk2, o2 + k * 3 + 2, none⟩ = some (.bool u.null)) := hid (fun V hV => ⟨(hV.cell (block_cell c0)).trans c0, (hV.cell (block_cell c1)).trans c1, (hV.cell (block_cell c2)).trans c2, (hV.cell (block_cell d0)).trans d0, (hV.cell (block_cell d1)).trans d1, (hV.cell (block_cell d2)).trans d2⟩)
      have CF : Hid (∀ V, Below w.heap.size w V → Calls Try.prog 187 #[.agg #[.string ⟨u.name.toArray⟩, .int .i64 u.kind, .bool u.null], .agg #[.string ⟨u.name.toArray⟩, .int .i64 u.kind, .bool u.null]] V (fun e w' => e = .returned (.bool true) ∧ Below V.heap.size V w')) := hid (fun V _ => same1Col_any V u)
      clear c0 d0 c1 d1 c2 d2 hu
      go_upto_region 6 with fail
      have HWd : Hid (Below w.heap.size w wr.drew) := hid (HB.out.trans ((show Below wr.heap.size wr wr.drew from ⟨rfl, rfl, rfl, Nat.le_refl _, fun _ _ => rfl⟩).mono HB.out.size))
      refine wp_region_noPanic ?_
      refine wp_region_held_drew (S := fun V => Hid (Below w.heap.size w V)) (by kernel_rfl) HWd (fun hHeld => ?_)
      generalize wr.drew = Wd at *
      refine tkH 0 (.func (.func 187) #[] #[]) rfl (by kernel_rfl) (fun _ _ _ => False.elim) hHeld (Or.inl ⟨by rfl, fun W9 hW => by clear hHeld hW HWd; simp only [jA, jB, jC]; go_simp⟩) ?_
      simp only [Act.put, jA, jB, jC, jD, jE, jF]
      refine tkH 1 (.slice (some ⟨bk1, o1, none⟩) l.length c) rfl (by kernel_rfl) (fun _ _ _ => False.elim) hHeld (Or.inl ⟨by rfl, fun W9 hW => by clear hHeld hW HWd; simp only [jA, jB, jC]; go_simp⟩) ?_
      simp only [Act.put, jA, jB, jC, jD, jE, jF]
      refine tkH 2 (.int .i64 (k : Int)) rfl (by kernel_rfl) (fun _ _ _ => False.elim) hHeld (Or.inl ⟨by rfl, fun W9 hW => by clear hHeld hW HWd; simp only [jA, jB, jC]; go_simp⟩) ?_
      simp only [Act.put, jA, jB, jC, jD, jE, jF]
      refine tkH 3 (.pointer (some ⟨bk1, o1 + k * 3, none⟩)) rfl (by kernel_rfl) (fun _ _ _ => False.elim) hHeld (Or.inl ⟨by rfl, fun W9 hW => by clear hHeld hW HWd; simp only [jA, jB, jC]; go_simp⟩) ?_
      simp only [Act.put, jA, jB, jC, jD, jE, jF]
      refine tkH 4 (.agg #[.string ⟨u.name.toArray⟩, .int .i64 u.kind, .bool u.null]) rfl (by kernel_rfl) (fun _ _ _ => False.elim) hHeld (Or.inl ⟨by rfl, fun W9 hW => by obtain ⟨q0, q1, q2, q3, q4, q5⟩ := HKp.out _ hW.out; clear hHeld hW HWd; simp only [jA, jB, jC]; go_simp⟩) ?_
      simp only [Act.put, jA, jB, jC, jD, jE, jF]
      refine tkH 5 (.slice (some ⟨bk2, o2, none⟩) l.length d) rfl (by kernel_rfl) (fun _ _ _ => False.elim) hHeld (Or.inl ⟨by rfl, fun W9 hW => by clear hHeld hW HWd; simp only [jA, jB, jC]; go_simp⟩) ?_
      simp only [Act.put, jA, jB, jC, jD, jE, jF]
      refine tkH 6 (.int .i64 (k : Int)) rfl (by kernel_rfl) (fun _ _ _ => False.elim) hHeld (Or.inl ⟨by rfl, fun W9 hW => by clear hHeld hW HWd; simp only [jA, jB, jC]; go_simp⟩) ?_
      simp only [Act.put, jA, jB, jC, jD, jE, jF]
      refine tkH 7 (.pointer (some ⟨bk2, o2 + k * 3, none⟩)) rfl (by kernel_rfl) (fun _ _ _ => False.elim) hHeld (Or.inl ⟨by rfl, fun W9 hW => by clear hHeld hW HWd; simp only [jA, jB, jC]; go_simp⟩) ?_
      simp only [Act.put, jA, jB, jC, jD, jE, jF]
      refine tkH 8 (.agg #[.string ⟨u.name.toArray⟩, .int .i64 u.kind, .bool u.null]) rfl (by kernel_rfl) (fun _ _ _ => False.elim) hHeld (Or.inl ⟨by rfl, fun W9 hW => by obtain ⟨q0, q1, q2, q3, q4, q5⟩ := HKp.out _ hW.out; clear hHeld hW HWd; simp only [jA, jB, jC]; go_simp⟩) ?_
      simp only [Act.put, jA, jB, jC, jD, jE, jF]
      refine rdH 9 (by kernel_rfl) rfl fun K hK => ?_
      go_simp
      go_wp2_with (first | (go_at_call 187; refine (CF.out _ hHeld.out).mono ?_; rintro en wE ⟨rfl, hbE⟩; have HBE := hid (hHeld.out.trans (hbE.mono hHeld.out.size)); clear hbE))
      refine hK.out _ _ HBE (fun hHeld => ?_)
      clear hK K
      try simp only [Act.put, jA, jB, jC, jD, jE, jF]
      refine tkH 10 (.bool false) rfl (by kernel_rfl) (fun _ _ _ => False.elim) hHeld (Or.inl ⟨by rfl, fun W9 hW => by clear hHeld hW HWd; simp only [jA, jB, jC]; go_simp⟩) ?_
      simp only [Act.put, jA, jB, jC, jD, jE, jF]
      refine wpAnyH_done (by kernel_rfl) (NoPanic.normal ?_) _
      go_wp2_with fail
      go_roundw
      case rel => exact ⟨k + 1, by omega, by go_num, HBE.out⟩
      case measure => simp [intOf]; omega
    · obtain rfl : k = l.length := by omega
      have hki : ¬ (l.length : Int) < (l.length : Int) := by omega
      go_wp2_with fail
      go_ret
      exact ⟨rfl, HB.out⟩

set_option maxHeartbeats 2000000 in
theorem plainCol_any (w : World) {x y : Value} {l : List Col} (hx : Rws 3 w x (l.map colRow)) (hy : Rws 3 w y (l.map colRow)) : Calls Try.prog 105 #[x, y] w (fun e w' => e = .returned (.bool true) ∧ Below w.heap.size w w') := by
  have C := hid (sameCol_any w hx hy)
  clear hx hy
  go_enter Try.func105, Try.ntmps105
  go_wp2_with (first | (go_at_call 186; refine C.out.mono ?_; rintro en w2 ⟨rfl, hb⟩; have HB := hid hb; clear hb))
  go_ret
  exact ⟨rfl, HB.out⟩

set_option maxHeartbeats 2000000 in
theorem same1Int_any (w : World) (u : Int) : Calls Try.prog 132 #[.int .i64 u, .int .i64 u] w (fun e w' => e = .returned (.bool true) ∧ Below w.heap.size w w') := by
  go_enter Try.func132, Try.ntmps132
  go_wp2_with fail
  go_ret
  exact ⟨rfl, Below.refl _ _⟩

set_option maxHeartbeats 8000000 in
theorem sameInt_any (w : World) {x y : Value} {l : List Int} (hx : Rws 1 w x (l.map zRow)) (hy : Rws 1 w y (l.map zRow)) : Calls Try.prog 131 #[x, y, .func (.func 132) #[] #[]] w (fun e w' => e = .returned (.bool true) ∧ Below w.heap.size w w') := by
  obtain ⟨ao, c, rfl, h1, h2, hc⟩ := zs_cells hx
  obtain ⟨bo, d, rfl, h3, h4, hd⟩ := zs_cells hy
  have hlm : l.length ≤ 9223372036854775807 := by unfold maxLen at h2; omega
  have HC := hid hc
  have HD := hid hd
  clear hx hy hc hd
  go_enter Try.func131, Try.ntmps131
  go_wp2_with fail
  go_loopw [7] (fun i wr => ∃ k : Nat, k ≤ l.length ∧ i = .int .i64 (k : Int) ∧ Below w.heap.size w wr) (fun i _ => l.length - (intOf i).toNat)
  case atStart => exact ⟨0, by omega, rfl, Below.refl _ _⟩
  case round =>
    obtain ⟨k, hk, rfl, hb⟩ := hrel
    have HB := hid hb
    clear hb
    by_cases hlt : k < l.length
    · obtain ⟨u, hu⟩ : ∃ u, l[k]? = some u := ⟨_, List.getElem?_eq_getElem hlt⟩
      obtain ⟨bk1, o1, rfl, c0⟩ := HC.out k u hu
      obtain ⟨bk2, o2, rfl, d0⟩ := HD.out k u hu
      have hki : (k : Int) < (l.length : Int) := by omega
      have HKp : Hid (∀ V, Below w.heap.size w V → V.cell? ⟨bk1, o1 + k, none⟩ = some (.int .i64 u) ∧ V.cell? ⟨bk2, o2 + k, none⟩ = some (.int .i64 u)) := hid (fun V hV => ⟨(hV.cell (block_cell c0)).trans c0, (hV.cell (block_cell d0)).trans d0⟩)
      have CF : Hid (∀ V, Below w.heap.size w V → Calls Try.prog 132 #[.int .i64 u, .int .i64 u] V (fun e w' => e = .returned (.bool true) ∧ Below V.heap.size V w')) := hid (fun V _ => same1Int_any V u)
      clear c0 d0 hu
      go_upto_region 6 with fail
      have HWd : Hid (Below w.heap.size w wr.drew) := hid (HB.out.trans ((show Below wr.heap.size wr wr.drew from ⟨rfl, rfl, rfl, Nat.le_refl _, fun _ _ => rfl⟩).mono HB.out.size))
      refine wp_region_noPanic ?_
      refine wp_region_held_drew (S := fun V => Hid (Below w.heap.size w V)) (by kernel_rfl) HWd (fun hHeld => ?_)
      generalize wr.drew = Wd at *
      refine tkH 0 (.func (.func 132) #[] #[]) rfl (by kernel_rfl) (fun _ _ _ => False.elim) hHeld (Or.inl ⟨by rfl, fun W9 hW => by clear hHeld hW HWd; simp only [jA, jB, jC]; go_simp⟩) ?_
      simp only [Act.put, jA, jB, jC, jD, jE, jF]
      refine tkH 1 (.slice (some ⟨bk1, o1, none⟩) l.length c) rfl (by kernel_rfl) (fun _ _ _ => False.elim) hHeld (Or.inl ⟨by rfl, fun W9 hW => by clear hHeld hW HWd; simp only [jA, jB, jC]; go_simp⟩) ?_
      simp only [Act.put, jA, jB, jC, jD, jE, jF]
      refine tkH 2 (.int .i64 (k : Int)) rfl (by kernel_rfl) (fun _ _ _ => False.elim) hHeld (Or.inl ⟨by rfl, fun W9 hW => by clear hHeld hW HWd; simp only [jA, jB, jC]; go_simp⟩) ?_
      simp only [Act.put, jA, jB, jC, jD, jE, jF]
      refine tkH 3 (.pointer (some ⟨bk1, o1 + k, none⟩)) rfl (by kernel_rfl) (fun _ _ _ => False.elim) hHeld (Or.inl ⟨by rfl, fun W9 hW => by clear hHeld hW HWd; simp only [jA, jB, jC]; go_simp⟩) ?_
      simp only [Act.put, jA, jB, jC, jD, jE, jF]
      refine tkH 4 (.int .i64 u) rfl (by kernel_rfl) (fun _ _ _ => False.elim) hHeld (Or.inl ⟨by rfl, fun W9 hW => by obtain ⟨q0, q1⟩ := HKp.out _ hW.out; clear hHeld hW HWd; simp only [jA, jB, jC]; go_simp⟩) ?_
      simp only [Act.put, jA, jB, jC, jD, jE, jF]
      refine tkH 5 (.slice (some ⟨bk2, o2, none⟩) l.length d) rfl (by kernel_rfl) (fun _ _ _ => False.elim) hHeld (Or.inl ⟨by rfl, fun W9 hW => by clear hHeld hW HWd; simp only [jA, jB, jC]; go_simp⟩) ?_
      simp only [Act.put, jA, jB, jC, jD, jE, jF]
      refine tkH 6 (.int .i64 (k : Int)) rfl (by kernel_rfl) (fun _ _ _ => False.elim) hHeld (Or.inl ⟨by rfl, fun W9 hW => by clear hHeld hW HWd; simp only [jA, jB, jC]; go_simp⟩) ?_
      simp only [Act.put, jA, jB, jC, jD, jE, jF]
      refine tkH 7 (.pointer (some ⟨bk2, o2 + k, none⟩)) rfl (by kernel_rfl) (fun _ _ _ => False.elim) hHeld (Or.inl ⟨by rfl, fun W9 hW => by clear hHeld hW HWd; simp only [jA, jB, jC]; go_simp⟩) ?_
      simp only [Act.put, jA, jB, jC, jD, jE, jF]
      refine tkH 8 (.int .i64 u) rfl (by kernel_rfl) (fun _ _ _ => False.elim) hHeld (Or.inl ⟨by rfl, fun W9 hW => by obtain ⟨q0, q1⟩ := HKp.out _ hW.out; clear hHeld hW HWd; simp only [jA, jB, jC]; go_simp⟩) ?_
      simp only [Act.put, jA, jB, jC, jD, jE, jF]
      refine rdH 9 (by kernel_rfl) rfl fun K hK => ?_
      go_simp
      go_wp2_with (first | (go_at_call 132; refine (CF.out _ hHeld.out).mono ?_; rintro en wE ⟨rfl, hbE⟩; have HBE := hid (hHeld.out.trans (hbE.mono hHeld.out.size)); clear hbE))
      refine hK.out _ _ HBE (fun hHeld => ?_)
      clear hK K
      try simp only [Act.put, jA, jB, jC, jD, jE, jF]
      refine tkH 10 (.bool false) rfl (by kernel_rfl) (fun _ _ _ => False.elim) hHeld (Or.inl ⟨by rfl, fun W9 hW => by clear hHeld hW HWd; simp only [jA, jB, jC]; go_simp⟩) ?_
      simp only [Act.put, jA, jB, jC, jD, jE, jF]
      refine wpAnyH_done (by kernel_rfl) (NoPanic.normal ?_) _
      go_wp2_with fail
      go_roundw
      case rel => exact ⟨k + 1, by omega, by go_num, HBE.out⟩
      case measure => simp [intOf]; omega
    · obtain rfl : k = l.length := by omega
      have hki : ¬ (l.length : Int) < (l.length : Int) := by omega
      go_wp2_with fail
      go_ret
      exact ⟨rfl, HB.out⟩

set_option maxHeartbeats 2000000 in
theorem plainInt_any (w : World) {x y : Value} {l : List Int} (hx : Rws 1 w x (l.map zRow)) (hy : Rws 1 w y (l.map zRow)) : Calls Try.prog 55 #[x, y] w (fun e w' => e = .returned (.bool true) ∧ Below w.heap.size w w') := by
  have C := hid (sameInt_any w hx hy)
  clear hx hy
  go_enter Try.func55, Try.ntmps55
  go_wp2_with (first | (go_at_call 131; refine C.out.mono ?_; rintro en w2 ⟨rfl, hb⟩; have HB := hid hb; clear hb))
  go_ret
  exact ⟨rfl, HB.out⟩

set_option maxHeartbeats 8000000 in
theorem tab_same {N N2 : Nat → Prop} {w : World} {cs ds : List Value} {t : Tab} (h : TabN N w cs t) (k : TabN N2 w ds t) : Calls Try.prog 24 #[.agg cs.toArray, .agg ds.toArray] w (fun e w' => e = .returned (.bool true) ∧ Below w.heap.size w w') := by
  obtain ⟨x, y, rfl, ⟨hx, -⟩, ⟨hy, -⟩, -, -⟩ := h
  obtain ⟨x', y', rfl, ⟨hx2, -⟩, ⟨hy2, -⟩, -, -⟩ := k
  obtain ⟨a1, e1, rfl, -, -, -⟩ := cl_cells hx
  obtain ⟨a2, e2, rfl, -, -, -⟩ := zs_cells hy
  obtain ⟨g1, k1, rfl, -, -, -⟩ := cl_cells hx2
  obtain ⟨g2, k2, rfl, -, -, -⟩ := zs_cells hy2
  have H1 := hid hx
  have H2 := hid hy
  have H3 := hid hx2
  have H4 := hid hy2
  clear hx hy hx2 hy2
  go_enter Try.func24, Try.ntmps24
  go_upto_region 1 with fail
  have hb0 := (Below.refl w.heap.size w).alloc (Nat.le_refl _) (.cells #[.int .i64 t.id, .string ⟨t.name.toArray⟩, .slice a1 t.cols.length e1, .slice a2 t.key.length e2] 33)
  have hz0 := heap_alloc_new w (.cells #[.int .i64 t.id, .string ⟨t.name.toArray⟩, .slice a1 t.cols.length e1, .slice a2 t.key.length e2] 33)
  have hsz : (w.alloc (.cells #[.int .i64 t.id, .string ⟨t.name.toArray⟩, .slice a1 t.cols.length e1, .slice a2 t.key.length e2] 33)).heap.size = w.heap.size + 1 := by simp
  generalize w.alloc (.cells #[.int .i64 t.id, .string ⟨t.name.toArray⟩, .slice a1 t.cols.length e1, .slice a2 t.key.length e2] 33) = w0 at *
  have hb := hb0.alloc (by omega) (.cells #[.int .i64 t.id, .string ⟨t.name.toArray⟩, .slice g1 t.cols.length k1, .slice g2 t.key.length k2] 33)
  have hbz := (Below.refl w0.heap.size w0).alloc (Nat.le_refl _) (.cells #[.int .i64 t.id, .string ⟨t.name.toArray⟩, .slice g1 t.cols.length k1, .slice g2 t.key.length k2] 33)
  have hz := heap_alloc_new w0 (.cells #[.int .i64 t.id, .string ⟨t.name.toArray⟩, .slice g1 t.cols.length k1, .slice g2 t.key.length k2] 33)
  rw [hsz] at hz
  generalize w0.alloc (.cells #[.int .i64 t.id, .string ⟨t.name.toArray⟩, .slice g1 t.cols.length k1, .slice g2 t.key.length k2] 33) = w1 at *
  have HX := hid ((hbz.block _ (lt_of_block hz0)).trans hz0)
  have HY := hid hz
  have HB1 := hid hb
  clear hb hb0 hbz hz0 hsz hz
  have x0 := cell_in HX.out 0 _ rfl
  have x1 := cell_in HX.out 1 _ rfl
  have x2 := cell_in HX.out 2 _ rfl
  have x3 := cell_in HX.out 3 _ rfl
  have y0 := cell_in HY.out 0 _ rfl
  have y1 := cell_in HY.out 1 _ rfl
  have y2 := cell_in HY.out 2 _ rfl
  have y3 := cell_in HY.out 3 _ rfl
  have C1 := hid (plainCol_any _ (H1.out.old HB1.out) (H3.out.old HB1.out))
  go_wp2_with (first
    | (go_at_call 105; refine C1.out.mono ?_; rintro en w2 ⟨rfl, hb2⟩; have HB2 := hid (below_step HB1.out hb2); have HX2 := hid ((hb2.block _ (lt_of_block HX.out)).trans HX.out); have HY2 := hid ((hb2.block _ (lt_of_block HY.out)).trans HY.out); clear x0 y0 x1 y1 x2 y2 x3 y3; have x0 := cell_in HX2.out 0 _ rfl; have x1 := cell_in HX2.out 1 _ rfl; have x2 := cell_in HX2.out 2 _ rfl; have x3 := cell_in HX2.out 3 _ rfl; have y0 := cell_in HY2.out 0 _ rfl; have y1 := cell_in HY2.out 1 _ rfl; have y2 := cell_in HY2.out 2 _ rfl; have y3 := cell_in HY2.out 3 _ rfl; have C2 := hid (plainInt_any _ (H2.out.old HB2.out) (H4.out.old HB2.out)); clear hb2)
    | (go_at_call 55; refine C2.out.mono ?_; rintro en w3 ⟨rfl, hb3⟩; have HB3 := hid (below_step HB2.out hb3); have HX3 := hid ((hb3.block _ (lt_of_block HX2.out)).trans HX2.out); have HY3 := hid ((hb3.block _ (lt_of_block HY2.out)).trans HY2.out); clear x0 y0 x1 y1 x2 y2 x3 y3; have x0 := cell_in HX3.out 0 _ rfl; have x1 := cell_in HX3.out 1 _ rfl; have x2 := cell_in HX3.out 2 _ rfl; have x3 := cell_in HX3.out 3 _ rfl; have y0 := cell_in HY3.out 0 _ rfl; have y1 := cell_in HY3.out 1 _ rfl; have y2 := cell_in HY3.out 2 _ rfl; have y3 := cell_in HY3.out 3 _ rfl; clear hb3))
  go_ret
  exact ⟨rfl, HB3.out⟩

set_option maxHeartbeats 8000000 in
theorem idx_same {N N2 : Nat → Prop} {w : World} {cs ds : List Value} {t : Idx} (h : IdxN N w cs t) (k : IdxN N2 w ds t) : Calls Try.prog 25 #[.agg cs.toArray, .agg ds.toArray] w (fun e w' => e = .returned (.bool true) ∧ Below w.heap.size w w') := by
  obtain ⟨x, rfl, ⟨hx, -⟩, -⟩ := h
  obtain ⟨x', rfl, ⟨hx2, -⟩, -⟩ := k
  obtain ⟨a1, e1, rfl, -, -, -⟩ := zs_cells hx
  obtain ⟨g1, k1, rfl, -, -, -⟩ := zs_cells hx2
  have H1 := hid hx
  have H3 := hid hx2
  clear hx hx2
  go_enter Try.func25, Try.ntmps25
  go_upto_region 1 with fail
  have hb0 := (Below.refl w.heap.size w).alloc (Nat.le_refl _) (.cells #[.int .i64 t.id, .int .i64 t.table, .string ⟨t.name.toArray⟩, .slice a1 t.cols.length e1, .bool t.uniq, .int .i64 t.state, .bool t.bad] 37)
  have hz0 := heap_alloc_new w (.cells #[.int .i64 t.id, .int .i64 t.table, .string ⟨t.name.toArray⟩, .slice a1 t.cols.length e1, .bool t.uniq, .int .i64 t.state, .bool t.bad] 37)
  have hsz : (w.alloc (.cells #[.int .i64 t.id, .int .i64 t.table, .string ⟨t.name.toArray⟩, .slice a1 t.cols.length e1, .bool t.uniq, .int .i64 t.state, .bool t.bad] 37)).heap.size = w.heap.size + 1 := by simp
  generalize w.alloc (.cells #[.int .i64 t.id, .int .i64 t.table, .string ⟨t.name.toArray⟩, .slice a1 t.cols.length e1, .bool t.uniq, .int .i64 t.state, .bool t.bad] 37) = w0 at *
  have hb := hb0.alloc (by omega) (.cells #[.int .i64 t.id, .int .i64 t.table, .string ⟨t.name.toArray⟩, .slice g1 t.cols.length k1, .bool t.uniq, .int .i64 t.state, .bool t.bad] 37)
  have hbz := (Below.refl w0.heap.size w0).alloc (Nat.le_refl _) (.cells #[.int .i64 t.id, .int .i64 t.table, .string ⟨t.name.toArray⟩, .slice g1 t.cols.length k1, .bool t.uniq, .int .i64 t.state, .bool t.bad] 37)
  have hz := heap_alloc_new w0 (.cells #[.int .i64 t.id, .int .i64 t.table, .string ⟨t.name.toArray⟩, .slice g1 t.cols.length k1, .bool t.uniq, .int .i64 t.state, .bool t.bad] 37)
  rw [hsz] at hz
  generalize w0.alloc (.cells #[.int .i64 t.id, .int .i64 t.table, .string ⟨t.name.toArray⟩, .slice g1 t.cols.length k1, .bool t.uniq, .int .i64 t.state, .bool t.bad] 37) = w1 at *
  have HX := hid ((hbz.block _ (lt_of_block hz0)).trans hz0)
  have HY := hid hz
  have HB1 := hid hb
  clear hb hb0 hbz hz0 hsz hz
  have x0 := cell_in HX.out 0 _ rfl
  have x1 := cell_in HX.out 1 _ rfl
  have x2 := cell_in HX.out 2 _ rfl
  have x3 := cell_in HX.out 3 _ rfl
  have x4 := cell_in HX.out 4 _ rfl
  have x5 := cell_in HX.out 5 _ rfl
  have x6 := cell_in HX.out 6 _ rfl
  have y0 := cell_in HY.out 0 _ rfl
  have y1 := cell_in HY.out 1 _ rfl
  have y2 := cell_in HY.out 2 _ rfl
  have y3 := cell_in HY.out 3 _ rfl
  have y4 := cell_in HY.out 4 _ rfl
  have y5 := cell_in HY.out 5 _ rfl
  have y6 := cell_in HY.out 6 _ rfl
  have C1 := hid (plainInt_any _ (H1.out.old HB1.out) (H3.out.old HB1.out))
  go_wp2_with (first
    | (go_at_call 55; refine C1.out.mono ?_; rintro en w2 ⟨rfl, hb2⟩; have HB2 := hid (below_step HB1.out hb2); have HX2 := hid ((hb2.block _ (lt_of_block HX.out)).trans HX.out); have HY2 := hid ((hb2.block _ (lt_of_block HY.out)).trans HY.out); clear x0 y0 x1 y1 x2 y2 x3 y3 x4 y4 x5 y5 x6 y6; have x0 := cell_in HX2.out 0 _ rfl; have x1 := cell_in HX2.out 1 _ rfl; have x2 := cell_in HX2.out 2 _ rfl; have x3 := cell_in HX2.out 3 _ rfl; have x4 := cell_in HX2.out 4 _ rfl; have x5 := cell_in HX2.out 5 _ rfl; have x6 := cell_in HX2.out 6 _ rfl; have y0 := cell_in HY2.out 0 _ rfl; have y1 := cell_in HY2.out 1 _ rfl; have y2 := cell_in HY2.out 2 _ rfl; have y3 := cell_in HY2.out 3 _ rfl; have y4 := cell_in HY2.out 4 _ rfl; have y5 := cell_in HY2.out 5 _ rfl; have y6 := cell_in HY2.out 6 _ rfl; clear hb2))
  go_ret
  exact ⟨rfl, HB2.out⟩

set_option maxHeartbeats 8000000 in
theorem sameTab_any {N N2 : Nat → Prop} (w : World) {x y : Value} {l : List Tab} (hx : LstN (TabN N) 4 N w x l) (hy : LstN (TabN N2) 4 N2 w y l) : Calls Try.prog 37 #[x, y, .func (.func 24) #[] #[]] w (fun e w' => e = .returned (.bool true) ∧ Below w.heap.size w w') := by
  obtain ⟨ao, c, rfl, h1, h2, hc⟩ := tb_cells hx
  obtain ⟨bo, d, rfl, h3, h4, hd⟩ := tb_cells hy
  have hlm : l.length ≤ 9223372036854775807 := by unfold maxLen at h2; omega
  have HC := hid hc
  have HD := hid hd
  clear hx hy hc hd
  go_enter Try.func37, Try.ntmps37
  go_wp2_with fail
  go_loopw [7] (fun i wr => ∃ k : Nat, k ≤ l.length ∧ i = .int .i64 (k : Int) ∧ Below w.heap.size w wr) (fun i _ => l.length - (intOf i).toNat)
  case atStart => exact ⟨0, by omega, rfl, Below.refl _ _⟩
  case round =>
    obtain ⟨k, hk, rfl, hb⟩ := hrel
    have HB := hid hb
    clear hb
    by_cases hlt : k < l.length
    · obtain ⟨u, hu⟩ : ∃ u, l[k]? = some u := ⟨_, List.getElem?_eq_getElem hlt⟩
      obtain ⟨bk1, o1, a1, e1, a2, e2, rfl, h5, c0, c1, c2, c3⟩ := HC.out k u hu
      obtain ⟨bk2, o2, g1, k1, g2, k2, rfl, h6, d0, d1, d2, d3⟩ := HD.out k u hu
      have hki : (k : Int) < (l.length : Int) := by omega
      have HKp : Hid (∀ V, Below w.heap.size w V → V.cell? ⟨bk1, o1 + k * 4, none⟩ = some (.int .i64 u.id) ∧ V.cell? ⟨bk1, o1 + k * 4 + 1, none⟩ = some (.string ⟨u.name.toArray⟩) ∧ V.cell? ⟨bk1, o1 + k * 4 + 2, none⟩ = some (.slice a1 u.cols.length e1) ∧ V.cell? ⟨bk1, o1 + k * 4 + 3, none⟩ = some (.slice a2 u.key.length e2) ∧ V.cell? ⟨bk2, o2 + k * 4, none⟩ = some (.int .i64 u.id) ∧ V.cell? ⟨bk2, o2 + k * 4 + 1, none⟩ = some (.string ⟨u.name.toArray⟩) ∧ V.cell? ⟨bk2, o2 + k * 4 + 2, none⟩ = some (.slice g1 u.cols.length k1) ∧ V.cell? ⟨bk2, o2 + k * 4 + 3, none⟩ = some (.slice g2 u.key.length k2)) := hid (fun V hV => ⟨(hV.cell (block_cell c0)).trans c0, (hV.cell (block_cell c1)).trans c1, (hV.cell (block_cell c2)).trans c2, (hV.cell (block_cell c3)).trans c3, (hV.cell (block_cell d0)).trans d0, (hV.cell (block_cell d1)).trans d1, (hV.cell (block_cell d2)).trans d2, (hV.cell (block_cell d3)).trans d3⟩)
      have CF : Hid (∀ V, Below w.heap.size w V → Calls Try.prog 24 #[.agg #[.int .i64 u.id, .string ⟨u.name.toArray⟩, .slice a1 u.cols.length e1, .slice a2 u.key.length e2], .agg #[.int .i64 u.id, .string ⟨u.name.toArray⟩, .slice g1 u.cols.length k1, .slice g2 u.key.length k2]] V (fun e w' => e = .returned (.bool true) ∧ Below V.heap.size V w')) := hid (fun V hV => tab_same (h5.old hV) (h6.old hV))
      clear h5 h6
      clear c0 d0 c1 d1 c2 d2 c3 d3 hu
      go_upto_region 6 with fail
      have HWd : Hid (Below w.heap.size w wr.drew) := hid (HB.out.trans ((show Below wr.heap.size wr wr.drew from ⟨rfl, rfl, rfl, Nat.le_refl _, fun _ _ => rfl⟩).mono HB.out.size))
      refine wp_region_noPanic ?_
      refine wp_region_held_drew (S := fun V => Hid (Below w.heap.size w V)) (by kernel_rfl) HWd (fun hHeld => ?_)
      generalize wr.drew = Wd at *
      refine tkH 0 (.func (.func 24) #[] #[]) rfl (by kernel_rfl) (fun _ _ _ => False.elim) hHeld (Or.inl ⟨by rfl, fun W9 hW => by clear hHeld hW HWd; simp only [jA, jB, jC]; go_simp⟩) ?_
      simp only [Act.put, jA, jB, jC, jD, jE, jF]
      refine tkH 1 (.slice (some ⟨bk1, o1, none⟩) l.length c) rfl (by kernel_rfl) (fun _ _ _ => False.elim) hHeld (Or.inl ⟨by rfl, fun W9 hW => by clear hHeld hW HWd; simp only [jA, jB, jC]; go_simp⟩) ?_
      simp only [Act.put, jA, jB, jC, jD, jE, jF]
      refine tkH 2 (.int .i64 (k : Int)) rfl (by kernel_rfl) (fun _ _ _ => False.elim) hHeld (Or.inl ⟨by rfl, fun W9 hW => by clear hHeld hW HWd; simp only [jA, jB, jC]; go_simp⟩) ?_
      simp only [Act.put, jA, jB, jC, jD, jE, jF]
      refine tkH 3 (.pointer (some ⟨bk1, o1 + k * 4, none⟩)) rfl (by kernel_rfl) (fun _ _ _ => False.elim) hHeld (Or.inl ⟨by rfl, fun W9 hW => by clear hHeld hW HWd; simp only [jA, jB, jC]; go_simp⟩) ?_
      simp only [Act.put, jA, jB, jC, jD, jE, jF]
      refine tkH 4 (.agg #[.int .i64 u.id, .string ⟨u.name.toArray⟩, .slice a1 u.cols.length e1, .slice a2 u.key.length e2]) rfl (by kernel_rfl) (fun _ _ _ => False.elim) hHeld (Or.inl ⟨by rfl, fun W9 hW => by obtain ⟨q0, q1, q2, q3, q4, q5, q6, q7⟩ := HKp.out _ hW.out; clear hHeld hW HWd; simp only [jA, jB, jC]; go_simp⟩) ?_
      simp only [Act.put, jA, jB, jC, jD, jE, jF]
      refine tkH 5 (.slice (some ⟨bk2, o2, none⟩) l.length d) rfl (by kernel_rfl) (fun _ _ _ => False.elim) hHeld (Or.inl ⟨by rfl, fun W9 hW => by clear hHeld hW HWd; simp only [jA, jB, jC]; go_simp⟩) ?_
      simp only [Act.put, jA, jB, jC, jD, jE, jF]
      refine tkH 6 (.int .i64 (k : Int)) rfl (by kernel_rfl) (fun _ _ _ => False.elim) hHeld (Or.inl ⟨by rfl, fun W9 hW => by clear hHeld hW HWd; simp only [jA, jB, jC]; go_simp⟩) ?_
      simp only [Act.put, jA, jB, jC, jD, jE, jF]
      refine tkH 7 (.pointer (some ⟨bk2, o2 + k * 4, none⟩)) rfl (by kernel_rfl) (fun _ _ _ => False.elim) hHeld (Or.inl ⟨by rfl, fun W9 hW => by clear hHeld hW HWd; simp only [jA, jB, jC]; go_simp⟩) ?_
      simp only [Act.put, jA, jB, jC, jD, jE, jF]
      refine tkH 8 (.agg #[.int .i64 u.id, .string ⟨u.name.toArray⟩, .slice g1 u.cols.length k1, .slice g2 u.key.length k2]) rfl (by kernel_rfl) (fun _ _ _ => False.elim) hHeld (Or.inl ⟨by rfl, fun W9 hW => by obtain ⟨q0, q1, q2, q3, q4, q5, q6, q7⟩ := HKp.out _ hW.out; clear hHeld hW HWd; simp only [jA, jB, jC]; go_simp⟩) ?_
      simp only [Act.put, jA, jB, jC, jD, jE, jF]
      refine rdH 9 (by kernel_rfl) rfl fun K hK => ?_
      go_simp
      go_wp2_with (first | (go_at_call 24; refine (CF.out _ hHeld.out).mono ?_; rintro en wE ⟨rfl, hbE⟩; have HBE := hid (hHeld.out.trans (hbE.mono hHeld.out.size)); clear hbE))
      refine hK.out _ _ HBE (fun hHeld => ?_)
      clear hK K
      try simp only [Act.put, jA, jB, jC, jD, jE, jF]
      refine tkH 10 (.bool false) rfl (by kernel_rfl) (fun _ _ _ => False.elim) hHeld (Or.inl ⟨by rfl, fun W9 hW => by clear hHeld hW HWd; simp only [jA, jB, jC]; go_simp⟩) ?_
      simp only [Act.put, jA, jB, jC, jD, jE, jF]
      refine wpAnyH_done (by kernel_rfl) (NoPanic.normal ?_) _
      go_wp2_with fail
      go_roundw
      case rel => exact ⟨k + 1, by omega, by go_num, HBE.out⟩
      case measure => simp [intOf]; omega
    · obtain rfl : k = l.length := by omega
      have hki : ¬ (l.length : Int) < (l.length : Int) := by omega
      go_wp2_with fail
      go_ret
      exact ⟨rfl, HB.out⟩

set_option maxHeartbeats 8000000 in
theorem sameIdx_any {N N2 : Nat → Prop} (w : World) {x y : Value} {l : List Idx} (hx : LstN (IdxN N) 7 N w x l) (hy : LstN (IdxN N2) 7 N2 w y l) : Calls Try.prog 26 #[x, y, .func (.func 25) #[] #[]] w (fun e w' => e = .returned (.bool true) ∧ Below w.heap.size w w') := by
  obtain ⟨ao, c, rfl, h1, h2, hc⟩ := ix_cells hx
  obtain ⟨bo, d, rfl, h3, h4, hd⟩ := ix_cells hy
  have hlm : l.length ≤ 9223372036854775807 := by unfold maxLen at h2; omega
  have HC := hid hc
  have HD := hid hd
  clear hx hy hc hd
  go_enter Try.func26, Try.ntmps26
  go_wp2_with fail
  go_loopw [7] (fun i wr => ∃ k : Nat, k ≤ l.length ∧ i = .int .i64 (k : Int) ∧ Below w.heap.size w wr) (fun i _ => l.length - (intOf i).toNat)
  case atStart => exact ⟨0, by omega, rfl, Below.refl _ _⟩
  case round =>
    obtain ⟨k, hk, rfl, hb⟩ := hrel
    have HB := hid hb
    clear hb
    by_cases hlt : k < l.length
    · obtain ⟨u, hu⟩ : ∃ u, l[k]? = some u := ⟨_, List.getElem?_eq_getElem hlt⟩
      obtain ⟨bk1, o1, a1, e1, rfl, h5, c0, c1, c2, c3, c4, c5, c6⟩ := HC.out k u hu
      obtain ⟨bk2, o2, g1, k1, rfl, h6, d0, d1, d2, d3, d4, d5, d6⟩ := HD.out k u hu
      have hki : (k : Int) < (l.length : Int) := by omega
      have HKp : Hid (∀ V, Below w.heap.size w V → V.cell? ⟨bk1, o1 + k * 7, none⟩ = some (.int .i64 u.id) ∧ V.cell? ⟨bk1, o1 + k * 7 + 1, none⟩ = some (.int .i64 u.table) ∧ V.cell? ⟨bk1, o1 + k * 7 + 2, none⟩ = some (.string ⟨u.name.toArray⟩) ∧ V.cell? ⟨bk1, o1 + k * 7 + 3, none⟩ = some (.slice a1 u.cols.length e1) ∧ V.cell? ⟨bk1, o1 + k * 7 + 4, none⟩ = some (.bool u.uniq) ∧ V.cell? ⟨bk1, o1 + k * 7 + 5, none⟩ = some (.int .i64 u.state) ∧ V.cell? ⟨bk1, o1 + k * 7 + 6, none⟩ = some (.bool u.bad) ∧ V.cell? ⟨bk2, o2 + k * 7, none⟩ = some (.int .i64 u.id) ∧ V.cell? ⟨bk2, o2 + k * 7 + 1, none⟩ = some (.int .i64 u.table) ∧ V.cell? ⟨bk2, o2 + k * 7 + 2, none⟩ = some (.string ⟨u.name.toArray⟩) ∧ V.cell? ⟨bk2, o2 + k * 7 + 3, none⟩ = some (.slice g1 u.cols.length k1) ∧ V.cell? ⟨bk2, o2 + k * 7 + 4, none⟩ = some (.bool u.uniq) ∧ V.cell? ⟨bk2, o2 + k * 7 + 5, none⟩ = some (.int .i64 u.state) ∧ V.cell? ⟨bk2, o2 + k * 7 + 6, none⟩ = some (.bool u.bad)) := hid (fun V hV => ⟨(hV.cell (block_cell c0)).trans c0, (hV.cell (block_cell c1)).trans c1, (hV.cell (block_cell c2)).trans c2, (hV.cell (block_cell c3)).trans c3, (hV.cell (block_cell c4)).trans c4, (hV.cell (block_cell c5)).trans c5, (hV.cell (block_cell c6)).trans c6, (hV.cell (block_cell d0)).trans d0, (hV.cell (block_cell d1)).trans d1, (hV.cell (block_cell d2)).trans d2, (hV.cell (block_cell d3)).trans d3, (hV.cell (block_cell d4)).trans d4, (hV.cell (block_cell d5)).trans d5, (hV.cell (block_cell d6)).trans d6⟩)
      have CF : Hid (∀ V, Below w.heap.size w V → Calls Try.prog 25 #[.agg #[.int .i64 u.id, .int .i64 u.table, .string ⟨u.name.toArray⟩, .slice a1 u.cols.length e1, .bool u.uniq, .int .i64 u.state, .bool u.bad], .agg #[.int .i64 u.id, .int .i64 u.table, .string ⟨u.name.toArray⟩, .slice g1 u.cols.length k1, .bool u.uniq, .int .i64 u.state, .bool u.bad]] V (fun e w' => e = .returned (.bool true) ∧ Below V.heap.size V w')) := hid (fun V hV => idx_same (h5.old hV) (h6.old hV))
      clear h5 h6
      clear c0 d0 c1 d1 c2 d2 c3 d3 c4 d4 c5 d5 c6 d6 hu
      go_upto_region 6 with fail
      have HWd : Hid (Below w.heap.size w wr.drew) := hid (HB.out.trans ((show Below wr.heap.size wr wr.drew from ⟨rfl, rfl, rfl, Nat.le_refl _, fun _ _ => rfl⟩).mono HB.out.size))
      refine wp_region_noPanic ?_
      refine wp_region_held_drew (S := fun V => Hid (Below w.heap.size w V)) (by kernel_rfl) HWd (fun hHeld => ?_)
      generalize wr.drew = Wd at *
      refine tkH 0 (.func (.func 25) #[] #[]) rfl (by kernel_rfl) (fun _ _ _ => False.elim) hHeld (Or.inl ⟨by rfl, fun W9 hW => by clear hHeld hW HWd; simp only [jA, jB, jC]; go_simp⟩) ?_
      simp only [Act.put, jA, jB, jC, jD, jE, jF]
      refine tkH 1 (.slice (some ⟨bk1, o1, none⟩) l.length c) rfl (by kernel_rfl) (fun _ _ _ => False.elim) hHeld (Or.inl ⟨by rfl, fun W9 hW => by clear hHeld hW HWd; simp only [jA, jB, jC]; go_simp⟩) ?_
      simp only [Act.put, jA, jB, jC, jD, jE, jF]
      refine tkH 2 (.int .i64 (k : Int)) rfl (by kernel_rfl) (fun _ _ _ => False.elim) hHeld (Or.inl ⟨by rfl, fun W9 hW => by clear hHeld hW HWd; simp only [jA, jB, jC]; go_simp⟩) ?_
      simp only [Act.put, jA, jB, jC, jD, jE, jF]
      refine tkH 3 (.pointer (some ⟨bk1, o1 + k * 7, none⟩)) rfl (by kernel_rfl) (fun _ _ _ => False.elim) hHeld (Or.inl ⟨by rfl, fun W9 hW => by clear hHeld hW HWd; simp only [jA, jB, jC]; go_simp⟩) ?_
      simp only [Act.put, jA, jB, jC, jD, jE, jF]
      refine tkH 4 (.agg #[.int .i64 u.id, .int .i64 u.table, .string ⟨u.name.toArray⟩, .slice a1 u.cols.length e1, .bool u.uniq, .int .i64 u.state, .bool u.bad]) rfl (by kernel_rfl) (fun _ _ _ => False.elim) hHeld (Or.inl ⟨by rfl, fun W9 hW => by obtain ⟨q0, q1, q2, q3, q4, q5, q6, q7, q8, q9, q10, q11, q12, q13⟩ := HKp.out _ hW.out; clear hHeld hW HWd; simp only [jA, jB, jC]; go_simp⟩) ?_
      simp only [Act.put, jA, jB, jC, jD, jE, jF]
      refine tkH 5 (.slice (some ⟨bk2, o2, none⟩) l.length d) rfl (by kernel_rfl) (fun _ _ _ => False.elim) hHeld (Or.inl ⟨by rfl, fun W9 hW => by clear hHeld hW HWd; simp only [jA, jB, jC]; go_simp⟩) ?_
      simp only [Act.put, jA, jB, jC, jD, jE, jF]
      refine tkH 6 (.int .i64 (k : Int)) rfl (by kernel_rfl) (fun _ _ _ => False.elim) hHeld (Or.inl ⟨by rfl, fun W9 hW => by clear hHeld hW HWd; simp only [jA, jB, jC]; go_simp⟩) ?_
      simp only [Act.put, jA, jB, jC, jD, jE, jF]
      refine tkH 7 (.pointer (some ⟨bk2, o2 + k * 7, none⟩)) rfl (by kernel_rfl) (fun _ _ _ => False.elim) hHeld (Or.inl ⟨by rfl, fun W9 hW => by clear hHeld hW HWd; simp only [jA, jB, jC]; go_simp⟩) ?_
      simp only [Act.put, jA, jB, jC, jD, jE, jF]
      refine tkH 8 (.agg #[.int .i64 u.id, .int .i64 u.table, .string ⟨u.name.toArray⟩, .slice g1 u.cols.length k1, .bool u.uniq, .int .i64 u.state, .bool u.bad]) rfl (by kernel_rfl) (fun _ _ _ => False.elim) hHeld (Or.inl ⟨by rfl, fun W9 hW => by obtain ⟨q0, q1, q2, q3, q4, q5, q6, q7, q8, q9, q10, q11, q12, q13⟩ := HKp.out _ hW.out; clear hHeld hW HWd; simp only [jA, jB, jC]; go_simp⟩) ?_
      simp only [Act.put, jA, jB, jC, jD, jE, jF]
      refine rdH 9 (by kernel_rfl) rfl fun K hK => ?_
      go_simp
      go_wp2_with (first | (go_at_call 25; refine (CF.out _ hHeld.out).mono ?_; rintro en wE ⟨rfl, hbE⟩; have HBE := hid (hHeld.out.trans (hbE.mono hHeld.out.size)); clear hbE))
      refine hK.out _ _ HBE (fun hHeld => ?_)
      clear hK K
      try simp only [Act.put, jA, jB, jC, jD, jE, jF]
      refine tkH 10 (.bool false) rfl (by kernel_rfl) (fun _ _ _ => False.elim) hHeld (Or.inl ⟨by rfl, fun W9 hW => by clear hHeld hW HWd; simp only [jA, jB, jC]; go_simp⟩) ?_
      simp only [Act.put, jA, jB, jC, jD, jE, jF]
      refine wpAnyH_done (by kernel_rfl) (NoPanic.normal ?_) _
      go_wp2_with fail
      go_roundw
      case rel => exact ⟨k + 1, by omega, by go_num, HBE.out⟩
      case measure => simp [intOf]; omega
    · obtain rfl : k = l.length := by omega
      have hki : ¬ (l.length : Int) < (l.length : Int) := by omega
      go_wp2_with fail
      go_ret
      exact ⟨rfl, HB.out⟩

set_option maxHeartbeats 8000000 in
theorem cat_same {N N2 : Nat → Prop} {w : World} {cs ds : List Value} {t : Cat} (h : CatN N w cs t) (k : CatN N2 w ds t) : Calls Try.prog 18 #[.agg cs.toArray, .agg ds.toArray] w (fun e w' => e = .returned (.bool true) ∧ Below w.heap.size w w') := by
  obtain ⟨a1, e1, a2, e2, rfl, hx, hy, -, -⟩ := cat_open h
  obtain ⟨g1, k1, g2, k2, rfl, hx2, hy2, -, -⟩ := cat_open k
  have H1 := hid hx
  have H2 := hid hy
  have H3 := hid hx2
  have H4 := hid hy2
  clear h k hx hy hx2 hy2
  go_enter Try.func18, Try.ntmps18
  go_upto_region 1 with fail
  have hb0 := (Below.refl w.heap.size w).alloc (Nat.le_refl _) (.cells #[.int .i64 t.ver, .int .i64 t.nxt, .slice a1 t.tabs.length e1, .slice a2 t.idxs.length e2] 25)
  have hz0 := heap_alloc_new w (.cells #[.int .i64 t.ver, .int .i64 t.nxt, .slice a1 t.tabs.length e1, .slice a2 t.idxs.length e2] 25)
  have hsz : (w.alloc (.cells #[.int .i64 t.ver, .int .i64 t.nxt, .slice a1 t.tabs.length e1, .slice a2 t.idxs.length e2] 25)).heap.size = w.heap.size + 1 := by simp
  generalize w.alloc (.cells #[.int .i64 t.ver, .int .i64 t.nxt, .slice a1 t.tabs.length e1, .slice a2 t.idxs.length e2] 25) = w0 at *
  have hb := hb0.alloc (by omega) (.cells #[.int .i64 t.ver, .int .i64 t.nxt, .slice g1 t.tabs.length k1, .slice g2 t.idxs.length k2] 25)
  have hbz := (Below.refl w0.heap.size w0).alloc (Nat.le_refl _) (.cells #[.int .i64 t.ver, .int .i64 t.nxt, .slice g1 t.tabs.length k1, .slice g2 t.idxs.length k2] 25)
  have hz := heap_alloc_new w0 (.cells #[.int .i64 t.ver, .int .i64 t.nxt, .slice g1 t.tabs.length k1, .slice g2 t.idxs.length k2] 25)
  rw [hsz] at hz
  generalize w0.alloc (.cells #[.int .i64 t.ver, .int .i64 t.nxt, .slice g1 t.tabs.length k1, .slice g2 t.idxs.length k2] 25) = w1 at *
  have HX := hid ((hbz.block _ (lt_of_block hz0)).trans hz0)
  have HY := hid hz
  have HB1 := hid hb
  clear hb hb0 hbz hz0 hsz hz
  have x0 := cell_in HX.out 0 _ rfl
  have x1 := cell_in HX.out 1 _ rfl
  have x2 := cell_in HX.out 2 _ rfl
  have x3 := cell_in HX.out 3 _ rfl
  have y0 := cell_in HY.out 0 _ rfl
  have y1 := cell_in HY.out 1 _ rfl
  have y2 := cell_in HY.out 2 _ rfl
  have y3 := cell_in HY.out 3 _ rfl
  have C1 := hid (sameTab_any _ (H1.out.oldT HB1.out) (H3.out.oldT HB1.out))
  go_wp2_with (first
    | (go_at_call 37; refine C1.out.mono ?_; rintro en w2 ⟨rfl, hb2⟩; have HB2 := hid (below_step HB1.out hb2); have HX2 := hid ((hb2.block _ (lt_of_block HX.out)).trans HX.out); have HY2 := hid ((hb2.block _ (lt_of_block HY.out)).trans HY.out); clear x0 y0 x1 y1 x2 y2 x3 y3; have x0 := cell_in HX2.out 0 _ rfl; have x1 := cell_in HX2.out 1 _ rfl; have x2 := cell_in HX2.out 2 _ rfl; have x3 := cell_in HX2.out 3 _ rfl; have y0 := cell_in HY2.out 0 _ rfl; have y1 := cell_in HY2.out 1 _ rfl; have y2 := cell_in HY2.out 2 _ rfl; have y3 := cell_in HY2.out 3 _ rfl; have C2 := hid (sameIdx_any _ (H2.out.oldI HB2.out) (H4.out.oldI HB2.out)); clear hb2)
    | (go_at_call 26; refine C2.out.mono ?_; rintro en w3 ⟨rfl, hb3⟩; have HB3 := hid (below_step HB2.out hb3); have HX3 := hid ((hb3.block _ (lt_of_block HX2.out)).trans HX2.out); have HY3 := hid ((hb3.block _ (lt_of_block HY2.out)).trans HY2.out); clear x0 y0 x1 y1 x2 y2 x3 y3; have x0 := cell_in HX3.out 0 _ rfl; have x1 := cell_in HX3.out 1 _ rfl; have x2 := cell_in HX3.out 2 _ rfl; have x3 := cell_in HX3.out 3 _ rfl; have y0 := cell_in HY3.out 0 _ rfl; have y1 := cell_in HY3.out 1 _ rfl; have y2 := cell_in HY3.out 2 _ rfl; have y3 := cell_in HY3.out 3 _ rfl; clear hb3))
  go_ret
  exact ⟨rfl, HB3.out⟩
end Go.Proofs.Ytafcbelkhhjcoaa
