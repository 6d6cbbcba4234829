/-
  RAFT: New.
-/
import Derived.Test.YtdaecndbdinddaaRd
import Derived.Deep.CutRange
set_option linter.unusedVariables false
set_option linter.unusedSimpArgs false
set_option maxRecDepth 100000
namespace Go.Proofs.Ytdaecndbdinddaa
open Go.RowKit Go.Deep

/-- May a node be made so? -/
def mayN (id n : Int) (l : PL) : Bool := decide (1 ≤ n ∧ n ≤ 5 ∧ 0 ≤ id ∧ id < n) && (rightP l && decide (l.hv ≤ n))
/-- A node of its own. -/
def Made (w : World) (id n : Int) (l : Lo) (b : Nat) (w' : World) : Prop := ∃ is : Lo, w.heap.size ≤ b ∧ NdAt w' b id n is 0 0 l.si 0 false ∧ is.pl = l.pl ∧ LoAt w' is ∧ Own3 w.heap.size w' is ∧ LoOff is (fun k => k = b ∨ k < w.heap.size) ∧ (∀ k, (Value.slice is.eo is.es.length is.ec).ownBlock = some k → k ≠ b)
def NewP (w : World) (id n : Int) (l : Lo) (en : Ending) (w' : World) : Prop := Below w.heap.size w w' ∧ ((mayN id n l.pl = false ∧ en = .returned (.tuple #[.pointer none, .int .i64 1])) ∨ (mayN id n l.pl = true ∧ ∃ b, en = .returned (.tuple #[.pointer (some ⟨b, 0, none⟩), .int .i64 0]) ∧ Made w id n l b w'))

set_option maxHeartbeats 16000000 in
theorem new_any (id n : Int) (l : Lo) (w : World) (hl : LoAt w l) (hmax : l.es.length ≤ 1000000000000) : Calls Try.prog 20 #[.int .i64 id, .int .i64 n, l.v] w (NewP w id n l) := by
  have HL0 := hid hl
  have HMX := hid hmax
  have hb : Below w.heap.size w (w.alloc (.cells #[.int .u64 (l.ht : Int), .int .i64 l.hv, .int .u64 (l.si : Int), .int .u64 (l.st : Int), .slice l.sd.a l.sd.b.length l.sd.c, .slice l.eo l.es.length l.ec] 69)) := (Below.refl _ _).alloc (Nat.le_refl _) _
  have h0 := heap_alloc_new w (.cells #[.int .u64 (l.ht : Int), .int .i64 l.hv, .int .u64 (l.si : Int), .int .u64 (l.st : Int), .slice l.sd.a l.sd.b.length l.sd.c, .slice l.eo l.es.length l.ec] 69)
  have hs1 : (w.alloc (.cells #[.int .u64 (l.ht : Int), .int .i64 l.hv, .int .u64 (l.si : Int), .int .u64 (l.st : Int), .slice l.sd.a l.sd.b.length l.sd.c, .slice l.eo l.es.length l.ec] 69)).heap.size = w.heap.size + 1 := by simp
  have CR : Hid (∀ W, Below w.heap.size w W → Calls Try.prog 48 #[l.v] W (fun en w' => en = .returned (.bool (rightP l.pl)) ∧ Below W.heap.size W w')) := hid fun W hW => right_any l W (hl.old hW)
  have CC : Hid (∀ W, Below w.heap.size w W → Calls Try.prog 49 #[l.v] W (CpB l W)) := hid fun W hW => clog_any l W (hl.old hW) hmax
  obtain ⟨R, hR⟩ : ∃ R, R = rightP l.pl := ⟨_, rfl⟩
  rw [← hR] at CR
  have HM : Hid (mayN id n l.pl = (decide (1 ≤ n ∧ n ≤ 5 ∧ 0 ≤ id ∧ id < n) && (R && decide (l.hv ≤ n)))) := hid (by rw [hR]; rfl)
  obtain ⟨P9, hP9⟩ : ∃ P9, P9 = NewP w id n l := ⟨_, rfl⟩
  have HNO : Hid (∀ W, Below w.heap.size w W → mayN id n l.pl = false → P9 (.returned (.tuple #[.pointer none, .int .i64 1])) W) := hid fun W hW hm => by rw [hP9]; exact ⟨hW, .inl ⟨hm, rfl⟩⟩
  have HYES : Hid (∀ W b, Below w.heap.size w W → mayN id n l.pl = true → Made w id n l b W → P9 (.returned (.tuple #[.pointer (some ⟨b, 0, none⟩), .int .i64 0])) W) := hid fun W b hW hm h => by rw [hP9]; exact ⟨hW, .inr ⟨hm, b, rfl, h⟩⟩
  rw [← hP9]
  clear hP9 hR hl hmax
  simp only [Lo.v] at CR CC ⊢
  go_enter Try.func20, Try.ntmps20
  go_upto_region 1 with fail
  generalize w.alloc (.cells #[.int .u64 (l.ht : Int), .int .i64 l.hv, .int .u64 (l.si : Int), .int .u64 (l.st : Int), .slice l.sd.a l.sd.b.length l.sd.c, .slice l.eo l.es.length l.ec] 69) = w1 at *
  have HB := hid hb
  have HS1 := hid hs1
  have H0 := hid h0
  obtain ⟨z0, z1, z2, z3, z4, z5⟩ := six_cells h0
  have CR1 := hid (CR.out _ hb)
  clear hb hs1 h0
  by_cases g1 : n < 1
  · have HMF : Hid (mayN id n l.pl = false) := hid (by rw [HM.out]; simp; omega)
    go_wp2_with fail
    exact HNO.out _ HB.out HMF.out
  by_cases g2 : n > 5
  · have HMF : Hid (mayN id n l.pl = false) := hid (by rw [HM.out]; simp; omega)
    go_wp2_with fail
    exact HNO.out _ HB.out HMF.out
  by_cases g3 : id < 0
  · have HMF : Hid (mayN id n l.pl = false) := hid (by rw [HM.out]; simp; omega)
    go_wp2_with fail
    exact HNO.out _ HB.out HMF.out
  by_cases g4 : id ≥ n
  · have HMF : Hid (mayN id n l.pl = false) := hid (by rw [HM.out]; simp; omega)
    go_wp2_with fail
    exact HNO.out _ HB.out HMF.out
  have HM2 : Hid (mayN id n l.pl = (R && decide (l.hv ≤ n))) := hid (by rw [HM.out]; simp; omega)
  cases R with
  | false =>
    go_wp2_with (first | (go_at_call 48; refine CR1.out.mono ?_; rintro en w2 ⟨rfl, hb2⟩; have HB2 := hid hb2; clear hb2))
    exact HNO.out _ (HB.out.trans (HB2.out.mono HB.out.size)) (by rw [HM2.out]; rfl)
  | true =>
    by_cases g6 : l.hv > n
    · go_upto_region 2 with (first | (go_at_call 48; refine CR1.out.mono ?_; rintro en w2 ⟨rfl, hb2⟩; have HB2 := hid hb2; have y1 := (World.cell?_of_block (w := w1) (a := ⟨w.heap.size, 1, none⟩) (hb2.block _ (lt_of_block H0.out))).trans z1; clear hb2))
      go_wp2_with fail
      exact HNO.out _ (HB.out.trans (HB2.out.mono HB.out.size)) (by rw [HM2.out]; simp; omega)
    · have HMT : Hid (mayN id n l.pl = true) := hid (by rw [HM2.out]; simp; omega)
      go_upto_region 3 with (first | (go_at_call 48; refine CR1.out.mono ?_; rintro en w2 ⟨rfl, hb2⟩; have HB2 := hid (HB.out.trans (hb2.mono HB.out.size)); have y1 := (World.cell?_of_block (w := w1) (a := ⟨w.heap.size, 1, none⟩) (hb2.block _ (lt_of_block H0.out))).trans z1; have HY := hid ((hb2.block _ (lt_of_block H0.out)).trans H0.out); have HSZ2 := hid (hb2.size); clear hb2))
      have hWd : Below w2.heap.size w2 w2.drew := ⟨rfl, rfl, rfl, Nat.le_refl _, fun _ _ => rfl⟩
      have HWd := hid hWd
      have CCd := hid (CC.out _ (HB2.out.trans (hWd.mono HB2.out.size)))
      obtain ⟨S9, hS9⟩ : ∃ S9 : World → Prop, S9 = fun V => V.heap[w.heap.size]? = w2.heap[w.heap.size]? := ⟨_, rfl⟩
      have HZ : Hid (∀ V, S9 V → (V.cell? ⟨w.heap.size, 0, none⟩ = some (.int .u64 (l.ht : Int)) ∧ V.cell? ⟨w.heap.size, 1, none⟩ = some (.int .i64 l.hv) ∧ V.cell? ⟨w.heap.size, 2, none⟩ = some (.int .u64 (l.si : Int)) ∧ V.cell? ⟨w.heap.size, 3, none⟩ = some (.int .u64 (l.st : Int)) ∧ V.cell? ⟨w.heap.size, 4, none⟩ = some (.slice l.sd.a l.sd.b.length l.sd.c) ∧ V.cell? ⟨w.heap.size, 5, none⟩ = some (.slice l.eo l.es.length l.ec))) := hid fun V h => by rw [hS9] at h; exact six_cells (h.trans HY.out)
      have HS : Hid (∀ V, V.heap[w.heap.size]? = w2.heap[w.heap.size]? → S9 V) := hid fun V h => by rw [hS9]; exact h
      have HLT : Hid (w.heap.size < w2.heap.size) := hid (lt_of_block HY.out)
      clear hS9 hWd z0 z1 z2 z3 z4 z5 y1
      refine wp_region_noPanic ?_
      refine wp_region_held_drew (S := S9) (by kernel_rfl) (HS.out _ rfl) (fun hHeld => ?_)
      generalize w2.drew = Wd at *
      refine wpAnyH_take (i := 0) (v := (.int .i64 id)) rfl (by kernel_rfl) (by kernel_rfl) (by kernel_rfl) (fun _ _ _ h => (show False from h).elim) ?xyRE1 ?xhRE1 ?xrRE1
      case xhRE1 => exact hHeld
      case xyRE1 => exact Or.inl ⟨by rfl, fun W9 hW => by clear hHeld; simp only [List.getElem_toArray, List.getElem_cons_succ, List.getElem_cons_zero]; go_simp⟩
      simp only [Act.put, List.getElem_toArray, List.getElem_cons_succ, List.getElem_cons_zero, List.setIfInBounds_toArray, List.set_cons_succ, List.set_cons_zero]
      refine wpAnyH_take (i := 1) (v := (.int .i64 n)) rfl (by kernel_rfl) (by kernel_rfl) (by kernel_rfl) (fun _ _ _ h => (show False from h).elim) ?xyRE2 ?xhRE2 ?xrRE2
      case xhRE2 => exact hHeld
      case xyRE2 => exact Or.inl ⟨by rfl, fun W9 hW => by clear hHeld; simp only [List.getElem_toArray, List.getElem_cons_succ, List.getElem_cons_zero]; go_simp⟩
      simp only [Act.put, List.getElem_toArray, List.getElem_cons_succ, List.getElem_cons_zero, List.setIfInBounds_toArray, List.set_cons_succ, List.set_cons_zero]
      refine wpAnyH_take (i := 2) (v := (.agg #[.int .u64 (l.ht : Int), .int .i64 l.hv, .int .u64 (l.si : Int), .int .u64 (l.st : Int), .slice l.sd.a l.sd.b.length l.sd.c, .slice l.eo l.es.length l.ec])) rfl (by kernel_rfl) (by kernel_rfl) (by kernel_rfl) (fun _ _ _ h => (show False from h).elim) ?xyRE3 ?xhRE3 ?xrRE3
      case xhRE3 => exact hHeld
      case xyRE3 => exact Or.inl ⟨by rfl, fun W9 hW => by obtain ⟨y0, y1, y2, y3, y4, y5⟩ := HZ.out _ hW; clear hHeld; simp only [List.getElem_toArray, List.getElem_cons_succ, List.getElem_cons_zero]; go_simp⟩
      simp only [Act.put, List.getElem_toArray, List.getElem_cons_succ, List.getElem_cons_zero, List.setIfInBounds_toArray, List.set_cons_succ, List.set_cons_zero]
      refine wpAnyH_take (i := 4) (v := (.pointer (some ⟨w.heap.size, 2, none⟩))) rfl (by kernel_rfl) (by kernel_rfl) (by kernel_rfl) (fun _ _ _ h => (show False from h).elim) ?xyRE4 ?xhRE4 ?xrRE4
      case xhRE4 => exact hHeld
      case xyRE4 => exact Or.inl ⟨by rfl, fun W9 hW => by clear hHeld; simp only [List.getElem_toArray, List.getElem_cons_succ, List.getElem_cons_zero]; go_simp⟩
      simp only [Act.put, List.getElem_toArray, List.getElem_cons_succ, List.getElem_cons_zero, List.setIfInBounds_toArray, List.set_cons_succ, List.set_cons_zero]
      refine wpAnyH_take (i := 5) (v := (.pointer (some ⟨w.heap.size, 2, none⟩))) rfl (by kernel_rfl) (by kernel_rfl) (by kernel_rfl) (fun _ _ _ h => (show False from h).elim) ?xyRE5 ?xhRE5 ?xrRE5
      case xhRE5 => exact hHeld
      case xyRE5 => exact Or.inl ⟨by rfl, fun W9 hW => by clear hHeld; simp only [List.getElem_toArray, List.getElem_cons_succ, List.getElem_cons_zero]; go_simp⟩
      simp only [Act.put, List.getElem_toArray, List.getElem_cons_succ, List.getElem_cons_zero, List.setIfInBounds_toArray, List.set_cons_succ, List.set_cons_zero]
      refine wpAnyH_take (i := 6) (v := (.int .u64 (l.si : Int))) rfl (by kernel_rfl) (by kernel_rfl) (by kernel_rfl) (fun _ _ _ h => (show False from h).elim) ?xyRE6 ?xhRE6 ?xrRE6
      case xhRE6 => exact hHeld
      case xyRE6 => exact Or.inl ⟨by rfl, fun W9 hW => by obtain ⟨y0, y1, y2, y3, y4, y5⟩ := HZ.out _ hW; clear hHeld; simp only [List.getElem_toArray, List.getElem_cons_succ, List.getElem_cons_zero]; go_simp⟩
      simp only [Act.put, List.getElem_toArray, List.getElem_cons_succ, List.getElem_cons_zero, List.setIfInBounds_toArray, List.set_cons_succ, List.set_cons_zero]
      refine wpAnyH_ready (rs := [3]) (by kernel_rfl) (by simp) ?_
      refine AllReadyH.cons rfl (fun K hK => ?_) AllReadyH.nil
      go_simp
      go_wp2_with (first | (go_at_call 49; refine CCd.out.mono ?_; rintro en wC ⟨is, rfl, hpl, hlo, hbC, hownC, hoC⟩; have HOW := hid hownC; have HPL := hid hpl; have HLO := hid hlo; have HOC := hid hoC; have HBC := hid (HWd.out.trans (hbC.mono HWd.out.size)); clear hpl hlo hbC hoC hownC; simp only [Lo.v]))
      refine hK.out _ _ (HS.out _ (HBC.out.block _ HLT.out)) (fun hHeld => ?_)
      clear hK K
      refine wpAnyH_take (i := 7) (v := (.agg #[.int .i64 id, .int .i64 n, .int .u64 (is.ht : Int), .int .i64 is.hv, .int .u64 (is.si : Int), .int .u64 (is.st : Int), .slice is.sd.a is.sd.b.length is.sd.c, .slice is.eo is.es.length is.ec, .int .i64 0, .int .i64 0, .int .u64 (l.si : Int), .int .i64 0, .bool false, .bool false, .bool false, .bool false, .bool false, .int .u64 0, .int .u64 0, .bool false, .int .u64 0, .int .u64 0, .bool false, .int .u64 0, .int .u64 0, .bool false, .int .u64 0, .int .u64 0, .bool false, .int .u64 0, .int .u64 0, .bool false, .slice none 0 0])) rfl (by kernel_rfl) (by kernel_rfl) (by kernel_rfl) (fun _ _ _ h => (show False from h).elim) ?xyRE7 ?xhRE7 ?xrRE7
      case xhRE7 => exact hHeld
      case xyRE7 => exact Or.inl ⟨by rfl, fun W9 hW => by clear hHeld; simp only [List.getElem_toArray, List.getElem_cons_succ, List.getElem_cons_zero]; go_simp⟩
      simp only [Act.put, List.getElem_toArray, List.getElem_cons_succ, List.getElem_cons_zero, List.setIfInBounds_toArray, List.set_cons_succ, List.set_cons_zero]
      refine wpAnyH_ready (rs := [8]) (by kernel_rfl) (by simp) ?_
      refine AllReadyH.cons rfl (fun K hK => ?_) AllReadyH.nil
      go_simp
      have HBX : Hid (Below wC.heap.size wC (wC.alloc (.cells #[.int .i64 id, .int .i64 n, .int .u64 (is.ht : Int), .int .i64 is.hv, .int .u64 (is.si : Int), .int .u64 (is.st : Int), .slice is.sd.a is.sd.b.length is.sd.c, .slice is.eo is.es.length is.ec, .int .i64 0, .int .i64 0, .int .u64 (l.si : Int), .int .i64 0, .bool false, .bool false, .bool false, .bool false, .bool false, .int .u64 0, .int .u64 0, .bool false, .int .u64 0, .int .u64 0, .bool false, .int .u64 0, .int .u64 0, .bool false, .int .u64 0, .int .u64 0, .bool false, .int .u64 0, .int .u64 0, .bool false, .slice none 0 0] 95))) := hid ((Below.refl _ _).alloc (Nat.le_refl _) _)
      have HND := hid (heap_alloc_new wC (.cells #[.int .i64 id, .int .i64 n, .int .u64 (is.ht : Int), .int .i64 is.hv, .int .u64 (is.si : Int), .int .u64 (is.st : Int), .slice is.sd.a is.sd.b.length is.sd.c, .slice is.eo is.es.length is.ec, .int .i64 0, .int .i64 0, .int .u64 (l.si : Int), .int .i64 0, .bool false, .bool false, .bool false, .bool false, .bool false, .int .u64 0, .int .u64 0, .bool false, .int .u64 0, .int .u64 0, .bool false, .int .u64 0, .int .u64 0, .bool false, .int .u64 0, .int .u64 0, .bool false, .int .u64 0, .int .u64 0, .bool false, .slice none 0 0] 95))
      refine hK.out _ _ (HS.out _ ((HBX.out.block _ (by have := HLT.out; have := HBC.out.size; omega)).trans (HBC.out.block _ HLT.out))) (fun hHeld => ?_)
      clear hK K
      refine wpAnyH_take (i := 9) (v := (.pointer (some ⟨wC.heap.size, 0, none⟩))) rfl (by kernel_rfl) (by kernel_rfl) (by kernel_rfl) (fun _ _ _ h => (show False from h).elim) ?xyRE8 ?xhRE8 ?xrRE8
      case xhRE8 => exact hHeld
      case xyRE8 => exact Or.inl ⟨by rfl, fun W9 hW => by clear hHeld; simp only [List.getElem_toArray, List.getElem_cons_succ, List.getElem_cons_zero]; go_simp⟩
      simp only [Act.put, List.getElem_toArray, List.getElem_cons_succ, List.getElem_cons_zero, List.setIfInBounds_toArray, List.set_cons_succ, List.set_cons_zero]
      refine wpAnyH_take (i := 10) (v := (.int .i64 0)) rfl (by kernel_rfl) (by kernel_rfl) (by kernel_rfl) (fun _ _ _ h => (show False from h).elim) ?xyRE9 ?xhRE9 ?xrRE9
      case xhRE9 => exact hHeld
      case xyRE9 => exact Or.inl ⟨by rfl, fun W9 hW => by clear hHeld; simp only [List.getElem_toArray, List.getElem_cons_succ, List.getElem_cons_zero]; go_simp⟩
      simp only [Act.put, List.getElem_toArray, List.getElem_cons_succ, List.getElem_cons_zero, List.setIfInBounds_toArray, List.set_cons_succ, List.set_cons_zero]
      refine wpAnyH_done (by kernel_rfl) ?_ _
      refine NoPanic.normal ?_
      go_wp2_with fail
      have hb2 := HB2.out
      have hbc := HBC.out.size
      have hwd := HWd.out.size
      refine HYES.out _ _ ((hb2.trans (HBC.out.mono hb2.size)).trans (HBX.out.mono (by have := hb2.size; omega))) HMT.out ⟨is, by have := hb2.size; omega, HND.out, HPL.out, HLO.out.old HBX.out, ⟨own_old (ownsRow_base HOW.out.own (by have := hb2.size; omega)) HBX.out, HOW.out.eoff, HOW.out.soff⟩, ?_, fun k hk e => by have := (HOW.out.own.lt k hk).2; omega⟩
      have hlow := HLO.out.low
      have hoc := HOC.out (fun k => k < w.heap.size) (fun k hk => by have := hb2.size; omega)
      exact (hlow.or hoc) (fun j hj => hj.elim (fun e => .inl (by omega)) .inr)
end Go.Proofs.Ytdaecndbdinddaa
