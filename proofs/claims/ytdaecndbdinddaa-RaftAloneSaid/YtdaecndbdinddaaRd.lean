/-
  RAFT: a copy of a log; New.
-/
import Derived.Test.YtdaecndbdinddaaRa
import Derived.Test.YtdaecndbdinddaaRc
import Derived.Deep.CutRange
set_option linter.unusedVariables false
set_option linter.unusedSimpArgs false
set_option maxRecDepth 100000
namespace Go.Proofs.Ytdaecndbdinddaa
open Go.RowKit Go.Deep

theorem ownsRow_base {w : World} {base base' : Nat} {e : TypeId} {size : Nat} {v : Value} {n : Nat} {xs : List Value} (h : w.ownsRow base e size v n xs) (hb : base' ≤ base) : w.ownsRow base' e size v n xs := by
  obtain ⟨h1, h2⟩ := h
  rcases h2 with h2 | ⟨g, cap, cur, hv, hg, r⟩
  · exact ⟨h1, .inl h2⟩
  · exact ⟨h1, .inr ⟨g, cap, cur, hv, Nat.le_trans hb hg, r⟩⟩
/-- A log whose entries lie in a row of its own. -/
structure Own3 (B : Nat) (w : World) (l : Lo) : Prop where
  own : w.ownsRow B 58 3 (.slice l.eo l.es.length l.ec) l.es.length (l.es.map rowE).flatten
  eoff : ∀ e ∈ l.es, e.r.b ≠ [] → ∀ a, e.r.a = some a → (Value.slice l.eo l.es.length l.ec).ownBlock ≠ some a.block
  soff : l.sd.b ≠ [] → ∀ a, l.sd.a = some a → (Value.slice l.eo l.es.length l.ec).ownBlock ≠ some a.block
/-- What a copy of a log is. -/
def CpB (l : Lo) (w : World) (en : Ending) (w' : World) : Prop := ∃ is : Lo, en = .returned is.v ∧ is.pl = l.pl ∧ LoAt w' is ∧ Below w.heap.size w w' ∧ Own3 w.heap.size w' is ∧ ∀ X : Nat → Prop, (∀ k, X k → k < w.heap.size) → LoOff is X

set_option maxHeartbeats 16000000 in
theorem clog_any (l : Lo) (w : World) (hl : LoAt w l) (hmax : l.es.length ≤ 1000000000000) : Calls Try.prog 49 #[l.v] w (CpB l w) := by
  have HL0 := hid hl
  have hb : Below w.heap.size w ((w.alloc (.cells #[.int .u64 (l.ht : Int), .int .i64 l.hv, .int .u64 (l.si : Int), .int .u64 (l.st : Int), .slice l.sd.a l.sd.b.length l.sd.c, .slice l.eo l.es.length l.ec] 69)).alloc (.cells #[.int .u64 0, .int .i64 0, .int .u64 0, .int .u64 0, .slice none 0 0, .slice none 0 0] 69)) := ((Below.refl _ _).alloc (Nat.le_refl _) _).alloc (by simp) _
  have h0 := (Below.heap_alloc (w.alloc (.cells #[.int .u64 (l.ht : Int), .int .i64 l.hv, .int .u64 (l.si : Int), .int .u64 (l.st : Int), .slice l.sd.a l.sd.b.length l.sd.c, .slice l.eo l.es.length l.ec] 69)) (.cells #[.int .u64 0, .int .i64 0, .int .u64 0, .int .u64 0, .slice none 0 0, .slice none 0 0] 69) w.heap.size (by simp)).trans (heap_alloc_new w (.cells #[.int .u64 (l.ht : Int), .int .i64 l.hv, .int .u64 (l.si : Int), .int .u64 (l.st : Int), .slice l.sd.a l.sd.b.length l.sd.c, .slice l.eo l.es.length l.ec] 69))
  have h1 := heap_alloc2_new w (.cells #[.int .u64 (l.ht : Int), .int .i64 l.hv, .int .u64 (l.si : Int), .int .u64 (l.st : Int), .slice l.sd.a l.sd.b.length l.sd.c, .slice l.eo l.es.length l.ec] 69) (.cells #[.int .u64 0, .int .i64 0, .int .u64 0, .int .u64 0, .slice none 0 0, .slice none 0 0] 69)
  have hs1 : ((w.alloc (.cells #[.int .u64 (l.ht : Int), .int .i64 l.hv, .int .u64 (l.si : Int), .int .u64 (l.st : Int), .slice l.sd.a l.sd.b.length l.sd.c, .slice l.eo l.es.length l.ec] 69)).alloc (.cells #[.int .u64 0, .int .i64 0, .int .u64 0, .int .u64 0, .slice none 0 0, .slice none 0 0] 69)).heap.size = w.heap.size + 2 := by simp
  obtain ⟨n, hn⟩ : ∃ n, n = l.es.length := ⟨_, rfl⟩
  have HN := hid hn
  simp only [Lo.v]
  rw [← hn] at h0 h1 hs1 hb hmax ⊢
  clear hl hn
  obtain ⟨eo0, heo0⟩ : ∃ eo0, eo0 = l.eo := ⟨_, rfl⟩
  have HE0 : Hid (Ents w (.slice eo0 n l.ec) l.es) := by show Ents _ _ _; rw [heo0, HN.out]; exact HL0.out.es
  rw [← heo0] at h0 h1 hs1 hb ⊢
  clear heo0
  go_enter Try.func49, Try.ntmps49
  go_upto_region 1 with fail
  generalize ((w.alloc (.cells #[.int .u64 (l.ht : Int), .int .i64 l.hv, .int .u64 (l.si : Int), .int .u64 (l.st : Int), .slice l.sd.a l.sd.b.length l.sd.c, .slice eo0 n l.ec] 69)).alloc (.cells #[.int .u64 0, .int .i64 0, .int .u64 0, .int .u64 0, .slice none 0 0, .slice none 0 0] 69)) = w1 at *
  have HB := hid hb
  have HS1 := hid hs1
  have H0 := hid h0
  have H1 := hid h1
  have HMX := hid hmax
  have hWd : Below w1.heap.size w1 w1.drew := ⟨rfl, rfl, rfl, Nat.le_refl _, fun _ _ => rfl⟩
  have HWd := hid hWd
  have CSn : Hid (∀ W, Below w1.heap.size w1 W → Calls Try.prog 67 #[.agg #[.int .u64 (l.si : Int), .int .u64 (l.st : Int), .slice l.sd.a l.sd.b.length l.sd.c]] W (SpA l.si l.st l.sd.b W)) := hid fun W hW => csnap_any l.si l.st l.sd.a l.sd.b.length l.sd.c l.sd.b W rfl ((HL0.out.sd.old HB.out).old hW) HL0.out.sl
  have CEn : Hid (∀ W, Below w1.heap.size w1 W → Calls Try.prog 47 #[.slice eo0 n l.ec] W (EpA l.es n W)) := hid fun W hW => cents_any l.es eo0 n l.ec W HN.out ((HE0.out.old HB.out).old hW) HMX.out
  obtain ⟨S9, hS9⟩ : ∃ S9 : World → Prop, S9 = fun V => V.heap[w.heap.size]? = w1.heap[w.heap.size]? := ⟨_, rfl⟩
  have HZ : Hid (∀ V, S9 V → (V.cell? ⟨w.heap.size, 0, none⟩ = some (.int .u64 (l.ht : Int)) ∧ V.cell? ⟨w.heap.size, 1, none⟩ = some (.int .i64 l.hv) ∧ V.cell? ⟨w.heap.size, 2, none⟩ = some (.int .u64 (l.si : Int)) ∧ V.cell? ⟨w.heap.size, 3, none⟩ = some (.int .u64 (l.st : Int)) ∧ V.cell? ⟨w.heap.size, 4, none⟩ = some (.slice l.sd.a l.sd.b.length l.sd.c) ∧ V.cell? ⟨w.heap.size, 5, none⟩ = some (.slice eo0 n l.ec))) := hid fun V h => by rw [hS9] at h; exact six_cells (h.trans h0)
  have HS : Hid (∀ V, V.heap[w.heap.size]? = w1.heap[w.heap.size]? → S9 V) := hid fun V h => by rw [hS9]; exact h
  have hbl : w.heap.size + 1 < w1.heap.size := by omega
  have HBL := hid hbl
  clear hS9 hWd hbl hmax hb hs1 h0 h1
  refine wp_region_noPanic ?_
  refine wp_region_held_drew (S := S9) (by kernel_rfl) (HS.out _ rfl) (fun hHeld => ?_)
  have HDW : Hid (w1.drew.heap[w.heap.size]? = w1.heap[w.heap.size]?) := hid rfl
  have CSd := hid (CSn.out _ HWd.out)
  generalize w1.drew = Wd at *
  refine wpAnyH_take (i := 0) (v := (.pointer (some ⟨w.heap.size, 0, none⟩))) rfl (by kernel_rfl) (by kernel_rfl) (by kernel_rfl) (fun _ _ _ h => (show False from h).elim) ?xyRD1 ?xhRD1 ?xrRD1
  case xhRD1 => exact hHeld
  case xyRD1 => exact Or.inl ⟨by rfl, fun W9 hW => by clear hHeld; simp only [List.getElem_toArray, List.getElem_cons_succ, List.getElem_cons_zero]; go_simp⟩
  simp only [Act.put, List.getElem_toArray, List.getElem_cons_succ, List.getElem_cons_zero, List.setIfInBounds_toArray, List.set_cons_succ, List.set_cons_zero]
  refine wpAnyH_take (i := 1) (v := (.agg #[.int .u64 (l.ht : Int), .int .i64 l.hv])) rfl (by kernel_rfl) (by kernel_rfl) (by kernel_rfl) (fun _ _ _ h => (show False from h).elim) ?xyRD2 ?xhRD2 ?xrRD2
  case xhRD2 => exact hHeld
  case xyRD2 => exact Or.inl ⟨by rfl, fun W9 hW => by obtain ⟨y0, y1, y2, y3, y4, y5⟩ := HZ.out _ hW; clear hHeld; simp only [List.getElem_toArray, List.getElem_cons_succ, List.getElem_cons_zero]; go_simp⟩
  simp only [Act.put, List.getElem_toArray, List.getElem_cons_succ, List.getElem_cons_zero, List.setIfInBounds_toArray, List.set_cons_succ, List.set_cons_zero]
  refine wpAnyH_take (i := 2) (v := (.pointer (some ⟨w.heap.size, 2, none⟩))) rfl (by kernel_rfl) (by kernel_rfl) (by kernel_rfl) (fun _ _ _ h => (show False from h).elim) ?xyRD3 ?xhRD3 ?xrRD3
  case xhRD3 => exact hHeld
  case xyRD3 => exact Or.inl ⟨by rfl, fun W9 hW => by clear hHeld; simp only [List.getElem_toArray, List.getElem_cons_succ, List.getElem_cons_zero]; go_simp⟩
  simp only [Act.put, List.getElem_toArray, List.getElem_cons_succ, List.getElem_cons_zero, List.setIfInBounds_toArray, List.set_cons_succ, List.set_cons_zero]
  refine wpAnyH_take (i := 3) (v := (.agg #[.int .u64 (l.si : Int), .int .u64 (l.st : Int), .slice l.sd.a l.sd.b.length l.sd.c])) rfl (by kernel_rfl) (by kernel_rfl) (by kernel_rfl) (fun _ _ _ h => (show False from h).elim) ?xyRD4 ?xhRD4 ?xrRD4
  case xhRD4 => exact hHeld
  case xyRD4 => exact Or.inl ⟨by rfl, fun W9 hW => by obtain ⟨y0, y1, y2, y3, y4, y5⟩ := HZ.out _ hW; clear hHeld; simp only [List.getElem_toArray, List.getElem_cons_succ, List.getElem_cons_zero]; go_simp⟩
  simp only [Act.put, List.getElem_toArray, List.getElem_cons_succ, List.getElem_cons_zero, List.setIfInBounds_toArray, List.set_cons_succ, List.set_cons_zero]
  refine wpAnyH_take (i := 5) (v := (.pointer (some ⟨w.heap.size, 5, none⟩))) rfl (by kernel_rfl) (by kernel_rfl) (by kernel_rfl) (fun _ _ _ h => (show False from h).elim) ?xyRD5 ?xhRD5 ?xrRD5
  case xhRD5 => exact hHeld
  case xyRD5 => exact Or.inl ⟨by rfl, fun W9 hW => by clear hHeld; simp only [List.getElem_toArray, List.getElem_cons_succ, List.getElem_cons_zero]; go_simp⟩
  simp only [Act.put, List.getElem_toArray, List.getElem_cons_succ, List.getElem_cons_zero, List.setIfInBounds_toArray, List.set_cons_succ, List.set_cons_zero]
  refine wpAnyH_take (i := 6) (v := (.slice eo0 n l.ec)) rfl (by kernel_rfl) (by kernel_rfl) (by kernel_rfl) (fun _ _ _ h => (show False from h).elim) ?xyRD6 ?xhRD6 ?xrRD6
  case xhRD6 => exact hHeld
  case xyRD6 => exact Or.inl ⟨by rfl, fun W9 hW => by obtain ⟨y0, y1, y2, y3, y4, y5⟩ := HZ.out _ hW; clear hHeld; simp only [List.getElem_toArray, List.getElem_cons_succ, List.getElem_cons_zero]; go_simp⟩
  simp only [Act.put, List.getElem_toArray, List.getElem_cons_succ, List.getElem_cons_zero, List.setIfInBounds_toArray, List.set_cons_succ, List.set_cons_zero]
  refine wpAnyH_ready (rs := [4]) (by kernel_rfl) (by simp) ?_
  refine AllReadyH.cons rfl (fun K hK => ?_) AllReadyH.nil
  go_simp
  go_wp2_with (first | (go_at_call 67; refine CSd.out.mono ?_; rintro en wS ⟨sr, rfl, hsb, hrS, hbS, hnS⟩; have HSB := hid hsb; have HRS := hid hrS; have HNS := hid hnS; have HBS := hid (HWd.out.trans (hbS.mono HWd.out.size)); have CEd := hid (CEn.out _ HBS.out); clear hsb hrS hbS hnS))
  refine hK.out _ _ (HS.out _ (HBS.out.block _ (by have := HBL.out; omega))) (fun hHeld => ?_)
  clear hK K
  refine wpAnyH_ready (rs := [7]) (by kernel_rfl) (by simp) ?_
  refine AllReadyH.cons rfl (fun K hK => ?_) AllReadyH.nil
  go_simp
  go_wp2_with (first | (go_at_call 47; refine CEd.out.mono ?_; rintro en wE ⟨F, yo, yc, rfl, hcl, hbE⟩; have HCL := hid hcl; have HBE := hid hbE; have HBX := hid (HBS.out.trans (hbE.mono HBS.out.size)); clear hcl hbE))
  refine hK.out _ _ (HS.out _ (HBX.out.block _ (by have := HBL.out; omega))) (fun hHeld => ?_)
  clear hK K
  refine wpAnyH_take (i := 8) (v := (.agg #[.int .u64 (l.ht : Int), .int .i64 l.hv, .int .u64 (l.si : Int), .int .u64 (l.st : Int), .slice sr.a sr.b.length sr.c, .slice yo n yc])) rfl (by kernel_rfl) (by kernel_rfl) (by kernel_rfl) (fun _ _ _ h => (show False from h).elim) ?xyRD7 ?xhRD7 ?xrRD7
  case xhRD7 => exact hHeld
  case xyRD7 => exact Or.inl ⟨by rfl, fun W9 hW => by clear hHeld; simp only [List.getElem_toArray, List.getElem_cons_succ, List.getElem_cons_zero]; go_simp⟩
  simp only [Act.put, List.getElem_toArray, List.getElem_cons_succ, List.getElem_cons_zero, List.setIfInBounds_toArray, List.set_cons_succ, List.set_cons_zero]
  have hT1 := (HBX.out.block _ (lt_of_block H1.out)).trans H1.out
  obtain ⟨r0, r1, r2, r3, r4, r5⟩ := six_cells hT1
  have fb : ∀ k, wE.frozen? ⟨w.heap.size + 1, k, none⟩ = false := fun k => by simp [World.frozen?, hT1]
  have f0 := fb 0
  have f1 := fb 1
  have f2 := fb 2
  have f3 := fb 3
  have f4 := fb 4
  have f5 := fb 5
  have HT1 := hid hT1
  clear fb hT1
  refine wpAnyH_ready (rs := [9]) (by kernel_rfl) (by simp) ?_
  refine AllReadyH.cons rfl (fun K hK => ?_) AllReadyH.nil
  go_simp
  have HKS := hid (keep_six wE (w.heap.size + 1) (.int .u64 (l.ht : Int)) (.int .i64 l.hv) (.int .u64 (l.si : Int)) (.int .u64 (l.st : Int)) (.slice sr.a sr.b.length sr.c) (.slice yo n yc))
  refine hK.out _ _ (HS.out _ ((HKS.out.block _ (by have := HBL.out; have := HBX.out.size; omega) (by omega)).trans (HBX.out.block _ (by have := HBL.out; omega)))) (fun hHeld => ?_)
  clear hK K
  clear r0 r1 r2 r3 r4 r5 f0 f1 f2 f3 f4 f5
  refine wpAnyH_done (by kernel_rfl) ?_ _
  refine NoPanic.normal ?_
  go_wp2_with fail
  have hset := six_set HT1.out (.int .u64 (l.ht : Int)) (.int .i64 l.hv) (.int .u64 (l.si : Int)) (.int .u64 (l.st : Int)) (.slice sr.a sr.b.length sr.c) (.slice yo n yc)
  have hbl := HBL.out
  have hbs := HBS.out.size
  have hbx := HBX.out.size
  have hs1 := HS1.out
  have hwd := HWd.out.size
  have hbb := HB.out
  have hFl : F.length = n := HCL.out.len.trans HN.out.symm
  have hown := HCL.out.own
  have hEn : Ents wE (.slice yo F.length yc) F := ents_own (B := wS.heap.size) hown HCL.out.each
  have p2 : LoAt wE ⟨l.ht, l.hv, l.si, l.st, sr, yo, yc, F⟩ := ⟨HRS.out.old HBE.out, hEn, HL0.out.ht, HL0.out.si, HL0.out.st, HL0.out.hv, by show sr.b.length ≤ _; rw [HSB.out]; exact HL0.out.sl, by show F.length ≤ _; have := HMX.out; omega⟩
  have p3 : ∀ X : Nat → Prop, (∀ k, X k → k < w1.heap.size) → LoOff ⟨l.ht, l.hv, l.si, l.st, sr, yo, yc, F⟩ X := fun X hX => ⟨fun hne a ha e => by have := HNS.out a ha; have := hX _ e; omega, fun e he hne a ha e9 => by obtain ⟨j, hj⟩ := List.mem_iff_getElem?.1 he; have hjl : j < F.length := (List.getElem?_eq_some_iff.1 hj).1; have := HCL.out.new j e hj (by omega) hne a ha; have := hX _ e9; omega, fun hne a ha e9 => by simp only at ha; subst ha; have := (hown.lt a.block rfl).1; have := hX _ e9; omega⟩
  refine bodyPost_ret (results_cell_row rfl _ _ (w.heap.size + 1) 69 _ (0, 0) _ rfl hset Try.underlying69 rfl (by kernel_rfl)) rfl ?_
  have hs9 : w1.heap.size ≤ wS.heap.size := by omega
  refine ⟨_, ?_, ?_, p2.kept HKS.out (p3 _ (fun k e => by omega)), ?_, ⟨own_keep (ownsRow_base hown (by omega)) HKS.out (fun j hj e => by have := (hown.lt j hj).1; omega), fun e he hne a ha => by have := HCL.out.off e he hne a ha; rw [hFl] at *; exact this, fun hne a ha e9 => by have h1 := rd_block HRS.out hne a ha; have h2 := (hown.lt _ e9).1; omega⟩, fun X hX => p3 X (fun k hk => by have := hX k hk; omega)⟩
  · simp only [Lo.v]
    rw [hFl]
  · unfold Lo.pl
    simp only [HCL.out.pe, HSB.out]
  · have hb9 := hbb.trans (HBX.out.mono hbb.size)
    exact hb9.trans (HKS.out.below hb9.size (fun j e => by rw [e]; omega))
end Go.Proofs.Ytdaecndbdinddaa
