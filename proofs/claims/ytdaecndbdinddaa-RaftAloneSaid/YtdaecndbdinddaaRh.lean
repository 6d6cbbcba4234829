/-
  RAFT: a group of one: it leads itself.
-/
import Derived.Test.YtdaecndbdinddaaRg
set_option linter.unusedVariables false
set_option linter.unusedSimpArgs false
set_option maxRecDepth 100000
namespace Go.Proofs.Ytdaecndbdinddaa
open Go.RowKit Go.Deep

section
variable {B : Nat} {w w' : World} {b : Nat} {l : Lo} {role ld : Int} {cm : Nat} {tk : Int} {v : Bool}
theorem One.keep {role' ld' : Int} {cm' : Nat} {tk' : Int} {v' : Bool} (h : One B w b l role ld cm tk v) (hk : Keep (fun j => j = b) w w') (hn : NdAt w' b 0 1 l role' ld' cm' tk' v') : One B w' b l role' ld' cm' tk' v' :=
  ⟨hn, h.lo.kept hk h.off, ⟨own_keep h.own.own hk (fun j hj e => h.ob j hj e), h.own.eoff, h.own.soff⟩, h.ob, h.off, h.bb⟩
theorem peers_same (h : NdAt w b 0 1 l role ld cm tk v) (k : Nat) (hk : k < 5) : NdAt (((w.setCell ⟨b, 17 + k * 3, none⟩ (.int .u64 0)).setCell ⟨b, 17 + k * 3 + 1, none⟩ (.int .u64 0)).setCell ⟨b, 17 + k * 3 + 2, none⟩ (.bool false)) b 0 1 l role ld cm tk v := by
  have h1 := set_at (k := 17 + k * 3) (.int .u64 0) h
  have h2 := set_at (k := 17 + k * 3 + 1) (.int .u64 0) h1
  have h3 := set_at (k := 17 + k * 3 + 2) (.bool false) h2
  have hor : k = 0 ∨ k = 1 ∨ k = 2 ∨ k = 3 ∨ k = 4 := by omega
  rcases hor with rfl | rfl | rfl | rfl | rfl <;> exact h3
theorem peers_cells (h : NdAt w b 0 1 l role ld cm tk v) (k : Nat) (hk : k < 5) : w.cell? ⟨b, 17 + k * 3, none⟩ = some (.int .u64 0) ∧ w.cell? ⟨b, 17 + k * 3 + 1, none⟩ = some (.int .u64 0) ∧ w.cell? ⟨b, 17 + k * 3 + 2, none⟩ = some (.bool false) := by
  unfold NdAt at h
  have hor : k = 0 ∨ k = 1 ∨ k = 2 ∨ k = 3 ∨ k = 4 := by omega
  rcases hor with rfl | rfl | rfl | rfl | rfl <;> simp [World.cell?, h]

/-- It leads. -/
def Leads (B b : Nat) (l : Lo) (w : World) (en : Ending) (w' : World) : Prop := en = .returned (.tuple #[]) ∧ ∃ po pc, One B w' b (l.more po pc ⟨none, 0, []⟩) 2 1 1 0 true ∧ Keep (XO b l) w w'

set_option maxHeartbeats 8000000 in
theorem lead1_any (h : One B w b l 1 0 0 0 true) (hz : l.si = 0) (he : l.es = []) (hB : B ≤ w.heap.size) : Calls Try.prog 81 #[.pointer (some ⟨b, 0, none⟩)] w (Leads B b l w) := by
  obtain ⟨c0, -, -, -, -, -, -, -, c8, c9, -⟩ := h.nd.cells
  have f8 := h.nd.soft 8
  have f9 := h.nd.soft 9
  have hel : l.es.length = 0 := by rw [he]; rfl
  have h1 : NdAt ((w.setCell ⟨b, 8, none⟩ (.int .i64 2)).setCell ⟨b, 9, none⟩ (.int .i64 1)) b 0 1 l 2 1 0 0 true := set_at (k := 9) (.int .i64 1) (set_at (k := 8) (.int .i64 2) h.nd)
  have hk1 : Keep (fun j => j = b) w ((w.setCell ⟨b, 8, none⟩ (.int .i64 2)).setCell ⟨b, 9, none⟩ (.int .i64 1)) := (Keep.set (X := fun j => j = b) w ⟨b, 8, none⟩ (.int .i64 2) rfl).trans (Keep.set (X := fun j => j = b) _ ⟨b, 9, none⟩ (.int .i64 1) rfl)
  have H1 := hid (h.keep hk1 h1)
  have HK1 := hid hk1
  have HH := hid h
  clear h h1 hk1 he
  go_enter Try.func81, Try.ntmps81
  go_upto_region 1 with fail
  generalize (w.setCell ⟨b, 8, none⟩ (.int .i64 2)).setCell ⟨b, 9, none⟩ (.int .i64 1) = w1 at *
  clear c0 c8 c9 f8 f9
  go_wp2_with fail
  go_loopw [14] (fun i wr => ∃ k : Nat, k ≤ 5 ∧ i = .int .i64 (k : Int) ∧ Hid (One B wr b l 2 1 0 0 true) ∧ Hid (Keep (fun j => j = b) w1 wr)) (fun i _ => 5 - (intOf i).toNat)
  case atStart => exact ⟨0, by omega, rfl, H1.out, Keep.refl _ _⟩
  case round =>
    obtain ⟨k, hk, rfl, HO, HKr⟩ := hrel
    by_cases hlt : k < 5
    · have hki : (k : Int) < 5 := by omega
      have hz9 : IntKind.i64.wrap ((k : Int) + 1) = (k : Int) + 1 := by rw [IntKind.wrap_i64]; omega
      go_upto_region 4 with fail
      have HWd : Hid (Below wr.heap.size wr wr.drew) := hid ⟨rfl, rfl, rfl, Nat.le_refl _, fun _ _ => rfl⟩
      have HOd := hid (HO.out.old HWd.out)
      have CL0 := rlast_any HOd.out.nd (by omega)
      rw [hz, hel] at CL0
      have CLd := hid CL0
      clear CL0
      refine wp_region_noPanic ?_
      refine wp_region_held_drew (S := fun _ => Hid True) (by kernel_rfl) (hid trivial) (fun hHeld => ?_)
      generalize wr.drew = Wd at *
      refine wpAnyH_take (i := 0) (v := (.pointer (some ⟨b, 0, none⟩))) rfl (by kernel_rfl) (by kernel_rfl) (by kernel_rfl) (fun _ _ _ h => (show False from h).elim) ?xyRH1 ?xhRH1 ?xrRH1
      case xhRH1 => exact hHeld
      case xyRH1 => exact Or.inl ⟨by rfl, fun W9 hW => by clear hHeld; simp only [List.getElem_toArray, List.getElem_cons_succ, List.getElem_cons_zero]; go_simp⟩
      simp only [Act.put, List.getElem_toArray, List.getElem_cons_succ, List.getElem_cons_zero, List.setIfInBounds_toArray, List.set_cons_succ, List.set_cons_zero]
      refine wpAnyH_take (i := 1) (v := (.int .i64 (k : Int))) rfl (by kernel_rfl) (by kernel_rfl) (by kernel_rfl) (fun _ _ _ h => (show False from h).elim) ?xyRH2 ?xhRH2 ?xrRH2
      case xhRH2 => exact hHeld
      case xyRH2 => exact Or.inl ⟨by rfl, fun W9 hW => by clear hHeld; simp only [List.getElem_toArray, List.getElem_cons_succ, List.getElem_cons_zero]; go_simp⟩
      simp only [Act.put, List.getElem_toArray, List.getElem_cons_succ, List.getElem_cons_zero, List.setIfInBounds_toArray, List.set_cons_succ, List.set_cons_zero]
      refine wpAnyH_take (i := 2) (v := (.pointer (some ⟨b, 0, none⟩))) rfl (by kernel_rfl) (by kernel_rfl) (by kernel_rfl) (fun _ _ _ h => (show False from h).elim) ?xyRH3 ?xhRH3 ?xrRH3
      case xhRH3 => exact hHeld
      case xyRH3 => exact Or.inl ⟨by rfl, fun W9 hW => by clear hHeld; simp only [List.getElem_toArray, List.getElem_cons_succ, List.getElem_cons_zero]; go_simp⟩
      simp only [Act.put, List.getElem_toArray, List.getElem_cons_succ, List.getElem_cons_zero, List.setIfInBounds_toArray, List.set_cons_succ, List.set_cons_zero]
      refine wpAnyH_take (i := 5) (v := (.pointer (some ⟨b, 0, none⟩))) rfl (by kernel_rfl) (by kernel_rfl) (by kernel_rfl) (fun _ _ _ h => (show False from h).elim) ?xyRH4 ?xhRH4 ?xrRH4
      case xhRH4 => exact hHeld
      case xyRH4 => exact Or.inl ⟨by rfl, fun W9 hW => by clear hHeld; simp only [List.getElem_toArray, List.getElem_cons_succ, List.getElem_cons_zero]; go_simp⟩
      simp only [Act.put, List.getElem_toArray, List.getElem_cons_succ, List.getElem_cons_zero, List.setIfInBounds_toArray, List.set_cons_succ, List.set_cons_zero]
      refine wpAnyH_take (i := 6) (v := (.pointer (some ⟨b, 17, none⟩))) rfl (by kernel_rfl) (by kernel_rfl) (by kernel_rfl) (fun _ _ _ h => (show False from h).elim) ?xyRH5 ?xhRH5 ?xrRH5
      case xhRH5 => exact hHeld
      case xyRH5 => exact Or.inl ⟨by rfl, fun W9 hW => by clear hHeld; simp only [List.getElem_toArray, List.getElem_cons_succ, List.getElem_cons_zero]; go_simp⟩
      simp only [Act.put, List.getElem_toArray, List.getElem_cons_succ, List.getElem_cons_zero, List.setIfInBounds_toArray, List.set_cons_succ, List.set_cons_zero]
      refine wpAnyH_ready (rs := [3]) (by kernel_rfl) (by simp) ?_
      refine AllReadyH.cons rfl (fun K hK => ?_) AllReadyH.nil
      go_simp
      go_wp2_with (first | (go_at_call 37; refine CLd.out.mono ?_; rintro en wT ⟨rfl, q, rfl⟩; have HBT : Hid (Below Wd.heap.size Wd (Wd.drewN q)) := hid ⟨rfl, rfl, rfl, Nat.le_refl _, fun _ _ => rfl⟩; have HOT := hid (HOd.out.old HBT.out)))
      refine hK.out _ _ (hid trivial) (fun hHeld => ?_)
      clear hK K
      generalize Wd.drewN q = wT at *
      refine wpAnyH_take (i := 4) (v := (.agg #[.int .u64 0, .int .u64 0, .bool false])) rfl (by kernel_rfl) (by kernel_rfl) (by kernel_rfl) (fun _ _ _ h => (show False from h).elim) ?xyRH6 ?xhRH6 ?xrRH6
      case xhRH6 => exact hHeld
      case xyRH6 => exact Or.inl ⟨by rfl, fun W9 hW => by clear hHeld; simp only [List.getElem_toArray, List.getElem_cons_succ, List.getElem_cons_zero]; go_simp⟩
      simp only [Act.put, List.getElem_toArray, List.getElem_cons_succ, List.getElem_cons_zero, List.setIfInBounds_toArray, List.set_cons_succ, List.set_cons_zero]
      refine wpAnyH_take (i := 7) (v := (.pointer (some ⟨b, 17 + k * 3, none⟩))) rfl (by kernel_rfl) (by kernel_rfl) (by kernel_rfl) (fun _ _ _ h => (show False from h).elim) ?xyRH7 ?xhRH7 ?xrRH7
      case xhRH7 => exact hHeld
      case xyRH7 => exact Or.inl ⟨by rfl, fun W9 hW => by clear hHeld; simp only [List.getElem_toArray, List.getElem_cons_succ, List.getElem_cons_zero]; go_simp⟩
      simp only [Act.put, List.getElem_toArray, List.getElem_cons_succ, List.getElem_cons_zero, List.setIfInBounds_toArray, List.set_cons_succ, List.set_cons_zero]
      obtain ⟨p0, p1, p2⟩ := peers_cells HOT.out.nd k hlt
      have g0 := HOT.out.nd.soft (17 + k * 3)
      have g1 := HOT.out.nd.soft (17 + k * 3 + 1)
      have g2 := HOT.out.nd.soft (17 + k * 3 + 2)
      refine wpAnyH_ready (rs := [8]) (by kernel_rfl) (by simp) ?_
      refine AllReadyH.cons rfl (fun K hK => ?_) AllReadyH.nil
      go_simp
      refine hK.out _ _ (hid trivial) (fun hHeld => ?_)
      clear hK K
      clear p0 p1 p2 g0 g1 g2
      refine wpAnyH_done (by kernel_rfl) ?_ _
      refine NoPanic.normal ?_
      go_wp2_with fail
      have hnx := peers_same HOT.out.nd k hlt
      have hks : Keep (fun j => j = b) wT (((wT.setCell ⟨b, 17 + k * 3, none⟩ (.int .u64 0)).setCell ⟨b, 17 + k * 3 + 1, none⟩ (.int .u64 0)).setCell ⟨b, 17 + k * 3 + 2, none⟩ (.bool false)) := ((Keep.set (X := fun j => j = b) wT ⟨b, 17 + k * 3, none⟩ (.int .u64 0) rfl).trans (Keep.set (X := fun j => j = b) _ ⟨b, 17 + k * 3 + 1, none⟩ (.int .u64 0) rfl)).trans (Keep.set (X := fun j => j = b) _ ⟨b, 17 + k * 3 + 2, none⟩ (.bool false) rfl)
      exact ⟨⟨k + 1, by omega, by simp, HOT.out.keep hks hnx, (HKr.out.trans (Keep.of_below (HWd.out.trans (HBT.out.mono HWd.out.size)))).trans hks⟩, by simp only [intOf]; omega⟩
    · obtain rfl : k = 5 := by omega
      have hki : ¬ ((5 : Nat) : Int) < 5 := by omega
      have hsz : w.heap.size ≤ wr.heap.size := Nat.le_trans HK1.out.size HKr.out.size
      have hrn : Rd wr (rcv ⟨none, 0, []⟩) (Rc.b ⟨none, 0, []⟩) := Rd.nil wr
      have CA := hid (add1_any HO.out ⟨none, 0, []⟩ hrn (by simp) (fun h => absurd rfl h) (by omega) (by omega) (by omega))
      clear hrn
      go_wp2_with (first
        | (go_at_call 38; refine CA.out.mono ?_; rintro en w3 ⟨rfl, po, pc, hO3, hK3⟩; have HO3 := hid hO3; have HK3 := hid hK3; have CS3 := hid (sendAll1_any hO3.nd); clear hO3 hK3)
        | (go_at_call 50; refine CS3.out.mono ?_; rintro en w4 ⟨rfl, hN4, hK4⟩; have HN4 := hid hN4; have HK4 := hid hK4; clear hN4 hK4))
      go_end0
      have hn4 := HN4.out
      rw [show max 0 (l.si + l.es.length + 1) = 1 from by omega] at hn4
      refine ⟨rfl, po, pc, HO3.out.keep HK4.out hn4, ?_⟩
      exact (((HK1.out.mono (fun k _ e => .inl e)).trans (HKr.out.mono (fun k _ e => .inl e))).trans HK3.out).trans (HK4.out.mono (fun k _ e => .inl e))

set_option maxHeartbeats 8000000 in
theorem counted1_any (h : One B w b l 1 0 0 0 false) (hz : l.si = 0) (he : l.es = []) (hB : B ≤ w.heap.size) : Calls Try.prog 71 #[.pointer (some ⟨b, 0, none⟩), .int .i64 0] w (Leads B b l w) := by
  obtain ⟨-, -, -, -, -, -, -, -, c8, -⟩ := h.nd.cells
  have c12 : w.cell? ⟨b, 12, none⟩ = some (.bool false) := by have := h.nd; unfold NdAt at this; simp [World.cell?, this]
  have f12 := h.nd.soft 12
  have h1 : NdAt (w.setCell ⟨b, 12, none⟩ (.bool true)) b 0 1 l 1 0 0 0 true := set_at (k := 12) (.bool true) h.nd
  have hk1 := Keep.set (X := fun j => j = b) w ⟨b, 12, none⟩ (.bool true) rfl
  have HO := hid (h.keep hk1 h1)
  have HK := hid hk1
  have HB := hid (show B ≤ (w.setCell ⟨b, 12, none⟩ (.bool true)).heap.size from Nat.le_trans hB hk1.size)
  have hcc : (w.setCell ⟨b, 12, none⟩ (.bool true)).cell? ⟨b, 12, none⟩ = some (.bool true) ∧ (w.setCell ⟨b, 12, none⟩ (.bool true)).cell? ⟨b, 13, none⟩ = some (.bool false) ∧ (w.setCell ⟨b, 12, none⟩ (.bool true)).cell? ⟨b, 14, none⟩ = some (.bool false) ∧ (w.setCell ⟨b, 12, none⟩ (.bool true)).cell? ⟨b, 15, none⟩ = some (.bool false) ∧ (w.setCell ⟨b, 12, none⟩ (.bool true)).cell? ⟨b, 16, none⟩ = some (.bool false) := by
    unfold NdAt at h1
    simp [World.cell?, h1]
  clear h h1 hk1
  go_enter Try.func71, Try.ntmps71
  go_upto_region 2 with fail
  generalize w.setCell ⟨b, 12, none⟩ (.bool true) = w1 at *
  clear c8 c12 f12
  obtain ⟨d0, d1, d2, d3, d4⟩ := hcc
  have CM := hid (majority1_any HO.out.nd)
  have i0 : ∀ w, (Instr.index 90 (.agg #[.bool true, .bool false, .bool false, .bool false, .bool false]) (.int .i64 0)).run Try.prog w = .ok (.bool true) w := fun _ => by kernel_rfl
  have i1 : ∀ w, (Instr.index 90 (.agg #[.bool true, .bool false, .bool false, .bool false, .bool false]) (.int .i64 1)).run Try.prog w = .ok (.bool false) w := fun _ => by kernel_rfl
  have i2 : ∀ w, (Instr.index 90 (.agg #[.bool true, .bool false, .bool false, .bool false, .bool false]) (.int .i64 2)).run Try.prog w = .ok (.bool false) w := fun _ => by kernel_rfl
  have i3 : ∀ w, (Instr.index 90 (.agg #[.bool true, .bool false, .bool false, .bool false, .bool false]) (.int .i64 3)).run Try.prog w = .ok (.bool false) w := fun _ => by kernel_rfl
  have i4 : ∀ w, (Instr.index 90 (.agg #[.bool true, .bool false, .bool false, .bool false, .bool false]) (.int .i64 4)).run Try.prog w = .ok (.bool false) w := fun _ => by kernel_rfl
  have CLd := hid (lead1_any HO.out hz he HB.out)
  go_wp2_with fail
  go_loopw [4, 21] (fun n i wr => ∃ k : Nat, k ≤ 5 ∧ i = .int .i64 (k : Int) ∧ n = .int .i64 (if k = 0 then 0 else 1) ∧ wr = w1) (fun _ i _ => 5 - (intOf i).toNat)
  case atStart => exact ⟨0, by omega, rfl, rfl, rfl⟩
  case round =>
    obtain ⟨k, hk, rfl, rfl, rfl⟩ := hrel
    have hor : k = 0 ∨ k = 1 ∨ k = 2 ∨ k = 3 ∨ k = 4 ∨ k = 5 := by omega
    rcases hor with rfl | rfl | rfl | rfl | rfl | rfl
    · go_wp2_with fail
      exact ⟨⟨1, by omega, rfl, rfl, trivial⟩, by simp [intOf]⟩
    · go_wp2_with fail
      exact ⟨⟨2, by omega, rfl, rfl, trivial⟩, by simp [intOf]⟩
    · go_wp2_with fail
      exact ⟨⟨3, by omega, rfl, rfl, trivial⟩, by simp [intOf]⟩
    · go_wp2_with fail
      exact ⟨⟨4, by omega, rfl, rfl, trivial⟩, by simp [intOf]⟩
    · go_wp2_with fail
      exact ⟨⟨5, by omega, rfl, rfl, trivial⟩, by simp [intOf]⟩
    · go_wp2_with (first
        | (go_at_call 80; refine CM.out.mono ?_; rintro en w3 ⟨rfl, rfl⟩)
        | (go_at_call 81; refine CLd.out.mono ?_; rintro en w4 ⟨rfl, hL4⟩; have HL4 := hid hL4; clear hL4))
      go_end0
      obtain ⟨po, pc, q1, q2⟩ := HL4.out
      exact ⟨rfl, po, pc, q1, (HK.out.mono (fun k _ e => .inl e)).trans q2⟩
end
end Go.Proofs.Ytdaecndbdinddaa
