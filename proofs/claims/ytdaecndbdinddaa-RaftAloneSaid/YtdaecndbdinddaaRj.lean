/-
  RAFT: Status.
-/
import Derived.Test.YtdaecndbdinddaaRa
import Derived.Deep.CutRange
set_option linter.unusedVariables false
set_option linter.unusedSimpArgs false
set_option maxRecDepth 100000
namespace Go.Proofs.Ytdaecndbdinddaa
open Go.RowKit Go.Deep

theorem seven_set {V : World} {g : Nat} {a b c d e f h : Value} {t : TypeId} (hh : V.heap[g]? = some (.cells #[a, b, c, d, e, f, h] t (0, 0))) (a' b' c' d' e' f' h' : Value) :
    (((((((V.setCell ⟨g, 0, none⟩ a').setCell ⟨g, 1, none⟩ b').setCell ⟨g, 2, none⟩ c').setCell ⟨g, 3, none⟩ d').setCell ⟨g, 4, none⟩ e').setCell ⟨g, 5, none⟩ f').setCell ⟨g, 6, none⟩ h').heap[g]? = some (.cells #[a', b', c', d', e', f', h'] t (0, 0)) := by
  have q0 : (V.setCell ⟨g, 0, none⟩ a').heap[g]? = some (.cells #[a', b, c, d, e, f, h] t (0, 0)) := set_at (k := 0) a' hh
  have q1 : ((V.setCell ⟨g, 0, none⟩ a').setCell ⟨g, 1, none⟩ b').heap[g]? = some (.cells #[a', b', c, d, e, f, h] t (0, 0)) := set_at (k := 1) b' q0
  have q2 : (((V.setCell ⟨g, 0, none⟩ a').setCell ⟨g, 1, none⟩ b').setCell ⟨g, 2, none⟩ c').heap[g]? = some (.cells #[a', b', c', d, e, f, h] t (0, 0)) := set_at (k := 2) c' q1
  have q3 : ((((V.setCell ⟨g, 0, none⟩ a').setCell ⟨g, 1, none⟩ b').setCell ⟨g, 2, none⟩ c').setCell ⟨g, 3, none⟩ d').heap[g]? = some (.cells #[a', b', c', d', e, f, h] t (0, 0)) := set_at (k := 3) d' q2
  have q4 : (((((V.setCell ⟨g, 0, none⟩ a').setCell ⟨g, 1, none⟩ b').setCell ⟨g, 2, none⟩ c').setCell ⟨g, 3, none⟩ d').setCell ⟨g, 4, none⟩ e').heap[g]? = some (.cells #[a', b', c', d', e', f, h] t (0, 0)) := set_at (k := 4) e' q3
  have q5 : ((((((V.setCell ⟨g, 0, none⟩ a').setCell ⟨g, 1, none⟩ b').setCell ⟨g, 2, none⟩ c').setCell ⟨g, 3, none⟩ d').setCell ⟨g, 4, none⟩ e').setCell ⟨g, 5, none⟩ f').heap[g]? = some (.cells #[a', b', c', d', e', f', h] t (0, 0)) := set_at (k := 5) f' q4
  have q6 : (((((((V.setCell ⟨g, 0, none⟩ a').setCell ⟨g, 1, none⟩ b').setCell ⟨g, 2, none⟩ c').setCell ⟨g, 3, none⟩ d').setCell ⟨g, 4, none⟩ e').setCell ⟨g, 5, none⟩ f').setCell ⟨g, 6, none⟩ h').heap[g]? = some (.cells #[a', b', c', d', e', f', h'] t (0, 0)) := set_at (k := 6) h' q5
  exact q6
theorem keep_seven (V : World) (g : Nat) (a' b' c' d' e' f' h' : Value) :
    Keep (fun j => j = g) V (((((((V.setCell ⟨g, 0, none⟩ a').setCell ⟨g, 1, none⟩ b').setCell ⟨g, 2, none⟩ c').setCell ⟨g, 3, none⟩ d').setCell ⟨g, 4, none⟩ e').setCell ⟨g, 5, none⟩ f').setCell ⟨g, 6, none⟩ h') := by
  have hs := fun (W : World) (k : Nat) (x : Value) => Keep.set (X := fun j => j = g) W ⟨g, k, none⟩ x rfl
  exact ((((((hs _ _ _).trans (hs _ _ _)).trans (hs _ _ _)).trans (hs _ _ _)).trans (hs _ _ _)).trans (hs _ _ _)).trans (hs _ _ _)
theorem seven_cells {w : World} {b : Nat} {x y z u p q r : Value} {t : TypeId} (h : w.heap[b]? = some (.cells #[x, y, z, u, p, q, r] t (0, 0))) : w.cell? ⟨b, 0, none⟩ = some x ∧ w.cell? ⟨b, 1, none⟩ = some y ∧ w.cell? ⟨b, 2, none⟩ = some z ∧ w.cell? ⟨b, 3, none⟩ = some u ∧ w.cell? ⟨b, 4, none⟩ = some p ∧ w.cell? ⟨b, 5, none⟩ = some q ∧ w.cell? ⟨b, 6, none⟩ = some r := by simp [World.cell?, h]
section
variable {w w' : World} {b : Nat} {id n : Int} {l : Lo} {role ld : Int} {cm : Nat} {tk : Int} {v : Bool}
set_option maxHeartbeats 8000000 in
theorem status_any (h : NdAt w b id n l role ld cm tk v) (hn : n ≠ 0) (hs : l.si + 1 < 18446744073709551616) (hm : l.si + l.es.length < 18446744073709551616) :
    Calls Try.prog 17 #[.pointer (some ⟨b, 0, none⟩)] w (fun e w' => e = .returned (.agg #[.int .i64 role, .int .u64 (l.ht : Int), .int .i64 l.hv, .int .i64 ld, .int .u64 (cm : Int), .int .u64 ((l.si + 1 : Nat) : Int), .int .u64 ((l.si + l.es.length : Nat) : Int)]) ∧ Below w.heap.size w w') := by
  have HN := hid h
  obtain ⟨m, hme⟩ : ∃ m, m = l.es.length := ⟨_, rfl⟩
  have HME := hid hme
  rw [← hme] at hm ⊢
  have hb : Below w.heap.size w (w.alloc (.cells #[.int .i64 0, .int .u64 0, .int .i64 0, .int .i64 0, .int .u64 0, .int .u64 0, .int .u64 0] 53)) := (Below.refl _ _).alloc (Nat.le_refl _) _
  have h0 := heap_alloc_new w (.cells #[.int .i64 0, .int .u64 0, .int .i64 0, .int .i64 0, .int .u64 0, .int .u64 0, .int .u64 0] 53)
  have CN : Hid (∀ W, Below w.heap.size w W → Calls Try.prog 36 #[.pointer (some ⟨b, 0, none⟩)] W (fun e w' => e = .returned (.bool false) ∧ w' = W)) := hid fun W hW => rnone_any (h.old hW) hn
  have CF : Hid (∀ W, Below w.heap.size w W → Calls Try.prog 46 #[.pointer (some ⟨b, 0, none⟩)] W (fun e w' => e = .returned (.int .u64 ((l.si + 1 : Nat) : Int)) ∧ w' = W)) := hid fun W hW => rfirst_any (h.old hW) hs
  have CL : Hid (∀ W, Below w.heap.size w W → Calls Try.prog 37 #[.pointer (some ⟨b, 0, none⟩)] W (Draws W (.int .u64 ((l.si + m : Nat) : Int)))) := hid fun W hW => by rw [hme]; exact rlast_any (h.old hW) (by omega)
  clear h hme
  go_enter Try.func17, Try.ntmps17
  go_upto_region 1 with fail
  generalize w.alloc (.cells #[.int .i64 0, .int .u64 0, .int .i64 0, .int .i64 0, .int .u64 0, .int .u64 0, .int .u64 0] 53) = w1 at *
  have HB := hid hb
  have H0 := hid h0
  obtain ⟨-, -, c2, c3, -⟩ := (HN.out.old hb).cells
  have CN1 := hid (CN.out _ hb)
  have hb3 : Below w1.heap.size w1 (w1.alloc (.cells #[.int .u64 (l.ht : Int), .int .i64 l.hv] 65)) := (Below.refl _ _).alloc (Nat.le_refl _) _
  have h3 := heap_alloc_new w1 (.cells #[.int .u64 (l.ht : Int), .int .i64 l.hv] 65)
  go_upto_region 4 with (first | (go_at_call 36; refine CN1.out.mono ?_; rintro en w2 ⟨rfl, rfl⟩))
  generalize w2.alloc (.cells #[.int .u64 (l.ht : Int), .int .i64 l.hv] 65) = w3 at *
  have HB3 := hid (HB.out.trans (hb3.mono HB.out.size))
  have HQ := hid (show w.heap.size < w3.heap.size ∧ True from ⟨by have := lt_of_block H0.out; have := hb3.size; omega, trivial⟩)
  have H03 := hid ((hb3.block _ (lt_of_block H0.out)).trans H0.out)
  have HWd : Hid (Below w3.heap.size w3 w3.drew) := hid ⟨rfl, rfl, rfl, Nat.le_refl _, fun _ _ => rfl⟩
  have CFd := hid (CF.out _ (HB3.out.trans (HWd.out.mono HB3.out.size)))
  have CLd := hid (CL.out _ (HB3.out.trans (HWd.out.mono HB3.out.size)))
  have HN3 := hid (HN.out.old HB3.out)
  obtain ⟨hbk, hhbk⟩ : ∃ hbk, hbk = w2.heap.size := ⟨_, rfl⟩
  have H33 := hid h3
  rw [← hhbk] at H33
  obtain ⟨S9, hS9⟩ : ∃ S9 : World → Prop, S9 = fun V => NdAt V b id n l role ld cm tk v ∧ V.heap[hbk]? = some (.cells #[.int .u64 (l.ht : Int), .int .i64 l.hv] 65 (0, 0)) := ⟨_, rfl⟩
  have HZ : Hid (∀ V, S9 V → V.cell? ⟨b, 8, none⟩ = some (.int .i64 role) ∧ V.cell? ⟨b, 9, none⟩ = some (.int .i64 ld) ∧ V.cell? ⟨b, 10, none⟩ = some (.int .u64 (cm : Int)) ∧ V.cell? ⟨hbk, 0, none⟩ = some (.int .u64 (l.ht : Int)) ∧ V.cell? ⟨hbk, 1, none⟩ = some (.int .i64 l.hv)) := hid fun V h9 => by
    rw [hS9] at h9
    obtain ⟨-, -, -, -, -, -, -, -, d8, d9, d10, -⟩ := h9.1.cells
    have h8 := h9.2
    exact ⟨d8, d9, d10, by simp [World.cell?, h8], by simp [World.cell?, h8]⟩
  have HS : Hid (∀ V, NdAt V b id n l role ld cm tk v → V.heap[hbk]? = some (.cells #[.int .u64 (l.ht : Int), .int .i64 l.hv] 65 (0, 0)) → S9 V) := hid fun V h h2 => by rw [hS9]; exact ⟨h, h2⟩
  have HHB := hid hhbk
  have HHL := hid (lt_of_block H33.out)
  have HNE : Hid (b < w.heap.size ∧ w.heap.size < hbk) := hid ⟨HN.out.lt, by rw [hhbk]; exact lt_of_block H0.out⟩
  rw [← hhbk]
  clear hS9 c2 c3 hb h0 hb3 h3 hhbk
  refine wp_region_noPanic ?_
  refine wp_region_held_drew (S := S9) (by kernel_rfl) (HS.out _ HN3.out H33.out) (fun hHeld => ?_)
  have HNd := hid (HN3.out.old HWd.out)
  have H3d := hid ((HWd.out.block _ HHL.out).trans H33.out)
  have HR0 := hid ((HWd.out.block _ (lt_of_block H03.out)).trans H03.out)
  generalize w3.drew = Wd at *
  refine wpAnyH_take (i := 0) (v := (.pointer (some ⟨b, 0, none⟩))) rfl (by kernel_rfl) (by kernel_rfl) (by kernel_rfl) (fun _ _ _ h => (show False from h).elim) ?xyRJ1 ?xhRJ1 ?xrRJ1
  case xhRJ1 => exact hHeld
  case xyRJ1 => exact Or.inl ⟨by rfl, fun W9 hW => by clear hHeld; simp only [List.getElem_toArray, List.getElem_cons_succ, List.getElem_cons_zero]; go_simp⟩
  simp only [Act.put, List.getElem_toArray, List.getElem_cons_succ, List.getElem_cons_zero, List.setIfInBounds_toArray, List.set_cons_succ, List.set_cons_zero]
  refine wpAnyH_take (i := 1) (v := (.pointer (some ⟨b, 0, none⟩))) rfl (by kernel_rfl) (by kernel_rfl) (by kernel_rfl) (fun _ _ _ h => (show False from h).elim) ?xyRJ2 ?xhRJ2 ?xrRJ2
  case xhRJ2 => exact hHeld
  case xyRJ2 => exact Or.inl ⟨by rfl, fun W9 hW => by clear hHeld; simp only [List.getElem_toArray, List.getElem_cons_succ, List.getElem_cons_zero]; go_simp⟩
  simp only [Act.put, List.getElem_toArray, List.getElem_cons_succ, List.getElem_cons_zero, List.setIfInBounds_toArray, List.set_cons_succ, List.set_cons_zero]
  refine wpAnyH_take (i := 2) (v := (.pointer (some ⟨b, 8, none⟩))) rfl (by kernel_rfl) (by kernel_rfl) (by kernel_rfl) (fun _ _ _ h => (show False from h).elim) ?xyRJ3 ?xhRJ3 ?xrRJ3
  case xhRJ3 => exact hHeld
  case xyRJ3 => exact Or.inl ⟨by rfl, fun W9 hW => by clear hHeld; simp only [List.getElem_toArray, List.getElem_cons_succ, List.getElem_cons_zero]; go_simp⟩
  simp only [Act.put, List.getElem_toArray, List.getElem_cons_succ, List.getElem_cons_zero, List.setIfInBounds_toArray, List.set_cons_succ, List.set_cons_zero]
  refine wpAnyH_take (i := 3) (v := (.int .i64 role)) rfl (by kernel_rfl) (by kernel_rfl) (by kernel_rfl) (fun _ _ _ h => (show False from h).elim) ?xyRJ4 ?xhRJ4 ?xrRJ4
  case xhRJ4 => exact hHeld
  case xyRJ4 => exact Or.inl ⟨by rfl, fun W9 hW => by obtain ⟨y8, y9, y10, z0, z1⟩ := HZ.out _ hW; clear hHeld; simp only [List.getElem_toArray, List.getElem_cons_succ, List.getElem_cons_zero]; go_simp⟩
  simp only [Act.put, List.getElem_toArray, List.getElem_cons_succ, List.getElem_cons_zero, List.setIfInBounds_toArray, List.set_cons_succ, List.set_cons_zero]
  refine wpAnyH_take (i := 4) (v := (.pointer (some ⟨hbk, 0, none⟩))) rfl (by kernel_rfl) (by kernel_rfl) (by kernel_rfl) (fun _ _ _ h => (show False from h).elim) ?xyRJ5 ?xhRJ5 ?xrRJ5
  case xhRJ5 => exact hHeld
  case xyRJ5 => exact Or.inl ⟨by rfl, fun W9 hW => by clear hHeld; simp only [List.getElem_toArray, List.getElem_cons_succ, List.getElem_cons_zero]; go_simp⟩
  simp only [Act.put, List.getElem_toArray, List.getElem_cons_succ, List.getElem_cons_zero, List.setIfInBounds_toArray, List.set_cons_succ, List.set_cons_zero]
  refine wpAnyH_take (i := 5) (v := (.int .u64 (l.ht : Int))) rfl (by kernel_rfl) (by kernel_rfl) (by kernel_rfl) (fun _ _ _ h => (show False from h).elim) ?xyRJ6 ?xhRJ6 ?xrRJ6
  case xhRJ6 => exact hHeld
  case xyRJ6 => exact Or.inl ⟨by rfl, fun W9 hW => by obtain ⟨y8, y9, y10, z0, z1⟩ := HZ.out _ hW; clear hHeld; simp only [List.getElem_toArray, List.getElem_cons_succ, List.getElem_cons_zero]; go_simp⟩
  simp only [Act.put, List.getElem_toArray, List.getElem_cons_succ, List.getElem_cons_zero, List.setIfInBounds_toArray, List.set_cons_succ, List.set_cons_zero]
  refine wpAnyH_take (i := 6) (v := (.pointer (some ⟨hbk, 1, none⟩))) rfl (by kernel_rfl) (by kernel_rfl) (by kernel_rfl) (fun _ _ _ h => (show False from h).elim) ?xyRJ7 ?xhRJ7 ?xrRJ7
  case xhRJ7 => exact hHeld
  case xyRJ7 => exact Or.inl ⟨by rfl, fun W9 hW => by clear hHeld; simp only [List.getElem_toArray, List.getElem_cons_succ, List.getElem_cons_zero]; go_simp⟩
  simp only [Act.put, List.getElem_toArray, List.getElem_cons_succ, List.getElem_cons_zero, List.setIfInBounds_toArray, List.set_cons_succ, List.set_cons_zero]
  refine wpAnyH_take (i := 7) (v := (.int .i64 l.hv)) rfl (by kernel_rfl) (by kernel_rfl) (by kernel_rfl) (fun _ _ _ h => (show False from h).elim) ?xyRJ8 ?xhRJ8 ?xrRJ8
  case xhRJ8 => exact hHeld
  case xyRJ8 => exact Or.inl ⟨by rfl, fun W9 hW => by obtain ⟨y8, y9, y10, z0, z1⟩ := HZ.out _ hW; clear hHeld; simp only [List.getElem_toArray, List.getElem_cons_succ, List.getElem_cons_zero]; go_simp⟩
  simp only [Act.put, List.getElem_toArray, List.getElem_cons_succ, List.getElem_cons_zero, List.setIfInBounds_toArray, List.set_cons_succ, List.set_cons_zero]
  refine wpAnyH_take (i := 8) (v := (.pointer (some ⟨b, 0, none⟩))) rfl (by kernel_rfl) (by kernel_rfl) (by kernel_rfl) (fun _ _ _ h => (show False from h).elim) ?xyRJ9 ?xhRJ9 ?xrRJ9
  case xhRJ9 => exact hHeld
  case xyRJ9 => exact Or.inl ⟨by rfl, fun W9 hW => by clear hHeld; simp only [List.getElem_toArray, List.getElem_cons_succ, List.getElem_cons_zero]; go_simp⟩
  simp only [Act.put, List.getElem_toArray, List.getElem_cons_succ, List.getElem_cons_zero, List.setIfInBounds_toArray, List.set_cons_succ, List.set_cons_zero]
  refine wpAnyH_take (i := 9) (v := (.pointer (some ⟨b, 0, none⟩))) rfl (by kernel_rfl) (by kernel_rfl) (by kernel_rfl) (fun _ _ _ h => (show False from h).elim) ?xyRJ10 ?xhRJ10 ?xrRJ10
  case xhRJ10 => exact hHeld
  case xyRJ10 => exact Or.inl ⟨by rfl, fun W9 hW => by clear hHeld; simp only [List.getElem_toArray, List.getElem_cons_succ, List.getElem_cons_zero]; go_simp⟩
  simp only [Act.put, List.getElem_toArray, List.getElem_cons_succ, List.getElem_cons_zero, List.setIfInBounds_toArray, List.set_cons_succ, List.set_cons_zero]
  refine wpAnyH_take (i := 10) (v := (.pointer (some ⟨b, 9, none⟩))) rfl (by kernel_rfl) (by kernel_rfl) (by kernel_rfl) (fun _ _ _ h => (show False from h).elim) ?xyRJ11 ?xhRJ11 ?xrRJ11
  case xhRJ11 => exact hHeld
  case xyRJ11 => exact Or.inl ⟨by rfl, fun W9 hW => by clear hHeld; simp only [List.getElem_toArray, List.getElem_cons_succ, List.getElem_cons_zero]; go_simp⟩
  simp only [Act.put, List.getElem_toArray, List.getElem_cons_succ, List.getElem_cons_zero, List.setIfInBounds_toArray, List.set_cons_succ, List.set_cons_zero]
  refine wpAnyH_take (i := 11) (v := (.int .i64 ld)) rfl (by kernel_rfl) (by kernel_rfl) (by kernel_rfl) (fun _ _ _ h => (show False from h).elim) ?xyRJ12 ?xhRJ12 ?xrRJ12
  case xhRJ12 => exact hHeld
  case xyRJ12 => exact Or.inl ⟨by rfl, fun W9 hW => by obtain ⟨y8, y9, y10, z0, z1⟩ := HZ.out _ hW; clear hHeld; simp only [List.getElem_toArray, List.getElem_cons_succ, List.getElem_cons_zero]; go_simp⟩
  simp only [Act.put, List.getElem_toArray, List.getElem_cons_succ, List.getElem_cons_zero, List.setIfInBounds_toArray, List.set_cons_succ, List.set_cons_zero]
  refine wpAnyH_take (i := 12) (v := (.pointer (some ⟨b, 0, none⟩))) rfl (by kernel_rfl) (by kernel_rfl) (by kernel_rfl) (fun _ _ _ h => (show False from h).elim) ?xyRJ13 ?xhRJ13 ?xrRJ13
  case xhRJ13 => exact hHeld
  case xyRJ13 => exact Or.inl ⟨by rfl, fun W9 hW => by clear hHeld; simp only [List.getElem_toArray, List.getElem_cons_succ, List.getElem_cons_zero]; go_simp⟩
  simp only [Act.put, List.getElem_toArray, List.getElem_cons_succ, List.getElem_cons_zero, List.setIfInBounds_toArray, List.set_cons_succ, List.set_cons_zero]
  refine wpAnyH_take (i := 13) (v := (.pointer (some ⟨b, 0, none⟩))) rfl (by kernel_rfl) (by kernel_rfl) (by kernel_rfl) (fun _ _ _ h => (show False from h).elim) ?xyRJ14 ?xhRJ14 ?xrRJ14
  case xhRJ14 => exact hHeld
  case xyRJ14 => exact Or.inl ⟨by rfl, fun W9 hW => by clear hHeld; simp only [List.getElem_toArray, List.getElem_cons_succ, List.getElem_cons_zero]; go_simp⟩
  simp only [Act.put, List.getElem_toArray, List.getElem_cons_succ, List.getElem_cons_zero, List.setIfInBounds_toArray, List.set_cons_succ, List.set_cons_zero]
  refine wpAnyH_take (i := 14) (v := (.pointer (some ⟨b, 10, none⟩))) rfl (by kernel_rfl) (by kernel_rfl) (by kernel_rfl) (fun _ _ _ h => (show False from h).elim) ?xyRJ15 ?xhRJ15 ?xrRJ15
  case xhRJ15 => exact hHeld
  case xyRJ15 => exact Or.inl ⟨by rfl, fun W9 hW => by clear hHeld; simp only [List.getElem_toArray, List.getElem_cons_succ, List.getElem_cons_zero]; go_simp⟩
  simp only [Act.put, List.getElem_toArray, List.getElem_cons_succ, List.getElem_cons_zero, List.setIfInBounds_toArray, List.set_cons_succ, List.set_cons_zero]
  refine wpAnyH_take (i := 15) (v := (.int .u64 (cm : Int))) rfl (by kernel_rfl) (by kernel_rfl) (by kernel_rfl) (fun _ _ _ h => (show False from h).elim) ?xyRJ16 ?xhRJ16 ?xrRJ16
  case xhRJ16 => exact hHeld
  case xyRJ16 => exact Or.inl ⟨by rfl, fun W9 hW => by obtain ⟨y8, y9, y10, z0, z1⟩ := HZ.out _ hW; clear hHeld; simp only [List.getElem_toArray, List.getElem_cons_succ, List.getElem_cons_zero]; go_simp⟩
  simp only [Act.put, List.getElem_toArray, List.getElem_cons_succ, List.getElem_cons_zero, List.setIfInBounds_toArray, List.set_cons_succ, List.set_cons_zero]
  refine wpAnyH_take (i := 16) (v := (.pointer (some ⟨b, 0, none⟩))) rfl (by kernel_rfl) (by kernel_rfl) (by kernel_rfl) (fun _ _ _ h => (show False from h).elim) ?xyRJ17 ?xhRJ17 ?xrRJ17
  case xhRJ17 => exact hHeld
  case xyRJ17 => exact Or.inl ⟨by rfl, fun W9 hW => by clear hHeld; simp only [List.getElem_toArray, List.getElem_cons_succ, List.getElem_cons_zero]; go_simp⟩
  simp only [Act.put, List.getElem_toArray, List.getElem_cons_succ, List.getElem_cons_zero, List.setIfInBounds_toArray, List.set_cons_succ, List.set_cons_zero]
  refine wpAnyH_take (i := 18) (v := (.pointer (some ⟨b, 0, none⟩))) rfl (by kernel_rfl) (by kernel_rfl) (by kernel_rfl) (fun _ _ _ h => (show False from h).elim) ?xyRJ18 ?xhRJ18 ?xrRJ18
  case xhRJ18 => exact hHeld
  case xyRJ18 => exact Or.inl ⟨by rfl, fun W9 hW => by clear hHeld; simp only [List.getElem_toArray, List.getElem_cons_succ, List.getElem_cons_zero]; go_simp⟩
  simp only [Act.put, List.getElem_toArray, List.getElem_cons_succ, List.getElem_cons_zero, List.setIfInBounds_toArray, List.set_cons_succ, List.set_cons_zero]
  refine wpAnyH_ready (rs := [17]) (by kernel_rfl) (by simp) ?_
  refine AllReadyH.cons rfl (fun K hK => ?_) AllReadyH.nil
  go_simp
  go_wp2_with (first | (go_at_call 46; refine CFd.out.mono ?_; rintro en wF ⟨rfl, rfl⟩))
  refine hK.out _ _ (HS.out _ HNd.out H3d.out) (fun hHeld => ?_)
  clear hK K
  refine wpAnyH_ready (rs := [19]) (by kernel_rfl) (by simp) ?_
  refine AllReadyH.cons rfl (fun K hK => ?_) AllReadyH.nil
  go_simp
  go_wp2_with (first | (go_at_call 37; refine CLd.out.mono ?_; rintro en wT ⟨rfl, q, rfl⟩; have HBT : Hid (Below wF.heap.size wF (wF.drewN q)) := hid ⟨rfl, rfl, rfl, Nat.le_refl _, fun _ _ => rfl⟩))
  refine hK.out _ _ (HS.out _ (HNd.out.old HBT.out) ((HBT.out.block _ (lt_of_block H3d.out)).trans H3d.out)) (fun hHeld => ?_)
  clear hK K
  generalize wF.drewN q = wT at *
  refine wpAnyH_take (i := 20) (v := (.agg #[.int .i64 role, .int .u64 (l.ht : Int), .int .i64 l.hv, .int .i64 ld, .int .u64 (cm : Int), .int .u64 ((l.si + 1 : Nat) : Int), .int .u64 ((l.si + m : Nat) : Int)])) rfl (by kernel_rfl) (by kernel_rfl) (by kernel_rfl) (fun _ _ _ h => (show False from h).elim) ?xyRJ19 ?xhRJ19 ?xrRJ19
  case xhRJ19 => exact hHeld
  case xyRJ19 => exact Or.inl ⟨by rfl, fun W9 hW => by clear hHeld; simp only [List.getElem_toArray, List.getElem_cons_succ, List.getElem_cons_zero]; go_simp⟩
  simp only [Act.put, List.getElem_toArray, List.getElem_cons_succ, List.getElem_cons_zero, List.setIfInBounds_toArray, List.set_cons_succ, List.set_cons_zero]
  have hT1 := (HBT.out.block _ (lt_of_block HR0.out)).trans HR0.out
  obtain ⟨r0, r1, r2, r3, r4, r5, r6⟩ := seven_cells hT1
  have fz : ∀ k, wT.frozen? ⟨w.heap.size, k, none⟩ = false := fun k => by simp [World.frozen?, hT1]
  have g0 := fz 0
  have g1 := fz 1
  have g2 := fz 2
  have g3 := fz 3
  have g4 := fz 4
  have g5 := fz 5
  have g6 := fz 6
  have HT1 := hid hT1
  clear fz hT1
  refine wpAnyH_ready (rs := [21]) (by kernel_rfl) (by simp) ?_
  refine AllReadyH.cons rfl (fun K hK => ?_) AllReadyH.nil
  go_simp
  have HKS := hid (keep_seven wT w.heap.size (.int .i64 role) (.int .u64 (l.ht : Int)) (.int .i64 l.hv) (.int .i64 ld) (.int .u64 (cm : Int)) (.int .u64 ((l.si + 1 : Nat) : Int)) (.int .u64 ((l.si + m : Nat) : Int)))
  refine hK.out _ _ (HS.out _ ((HKS.out.block _ (HNd.out.old HBT.out).lt (by have := HNE.out; omega)).trans (HNd.out.old HBT.out)) ((HKS.out.block _ (by have := lt_of_block H3d.out; have := HBT.out.size; omega) (by have := HNE.out; omega)).trans ((HBT.out.block _ (lt_of_block H3d.out)).trans H3d.out))) (fun hHeld => ?_)
  clear hK K
  clear r0 r1 r2 r3 r4 r5 r6 g0 g1 g2 g3 g4 g5 g6
  refine wpAnyH_done (by kernel_rfl) ?_ _
  refine NoPanic.normal ?_
  go_wp2_with fail
  have hset := seven_set HT1.out (.int .i64 role) (.int .u64 (l.ht : Int)) (.int .i64 l.hv) (.int .i64 ld) (.int .u64 (cm : Int)) (.int .u64 ((l.si + 1 : Nat) : Int)) (.int .u64 ((l.si + m : Nat) : Int))
  refine bodyPost_ret (results_cell_row rfl _ _ w.heap.size 53 _ (0, 0) _ rfl hset Try.underlying53 rfl (by kernel_rfl)) rfl ?_
  have hb3 := HB3.out
  have hbb := (hb3.trans (HWd.out.mono hb3.size)).trans (HBT.out.mono (by have := HWd.out.size; have := hb3.size; omega))
  exact ⟨rfl, hbb.trans (HKS.out.below hbb.size (fun j e => by omega))⟩
end
end Go.Proofs.Ytdaecndbdinddaa
