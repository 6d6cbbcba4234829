/-
  PAGES: Scan.
-/
import Derived.Test.YtcgnghkjkdkmmaaGdw
set_option linter.unusedVariables false
namespace Go.Proofs.Ytcgnghkjkdkmmaa
open Go.RowKit Go.Shelf

theorem al1 {w : World} {n : Nat} {o : Obj} (h : n = w.heap.size) : (w.alloc o).heap[n]? = some o := by subst h; exact heap_alloc_new _ _


/-- What Scan gives: an iterator over pages of its own that hold what lies between. -/
def ScanA (G : List Pg) (f t : List UInt8) (back : Bool) (w : World) (e : Ending) (w' : World) : Prop :=
  ∃ (p i p' i' b : Nat) (ao : Option Addr) (H : List Pg) (n c : Nat), e = .returned (.func (.func (if back then 51 else 54)) #[] #[.pointer (some ⟨b, 0, none⟩)]) ∧ PartOk (mls G) f t p i p' i' ∧
    n = H.length ∧ mls H = betw (mls G) p i p' i' ∧ Pgs w' (.slice ao n c) H ∧ (∀ a, ao = some a → w.heap.size ≤ a.block) ∧ (∀ h ∈ H, FromG G h) ∧ w'.heap[b]? = some (.cells #[.slice ao n c] 63 (0, 0)) ∧ w.heap.size ≤ b ∧ Below w.heap.size w w'

set_option maxHeartbeats 8000000 in
set_option maxRecDepth 100000 in
theorem scan_any (pv0 fv tv : Value) (G : List Pg) (f t : List UInt8) (back : Bool) (w : World) (hM : MapR w pv0 G) (hf : Rd w fv f) (ht : Rd w tv t) (ho : Ord G) (hG : ∀ g ∈ G, g.M.length ≤ 1000000) (hl : G.length ≤ 10000) :
    Calls Try.prog 27 #[pv0, .agg #[fv, tv], .bool back] w (ScanA G f t back w) := by
  have hff := hf
  have htt := ht
  obtain ⟨fa, fc, rfl, -⟩ := hff
  obtain ⟨ta, tc, rfl, -⟩ := htt
  have HM := hid hM
  have HF := hid hf
  have HT := hid ht
  have HO := hid ho
  have HG := hid hG
  have HB1 := hid ((Below.refl w.heap.size w).alloc (Nat.le_refl _) (.cells #[.slice fa f.length fc, .slice ta t.length tc] 25))
  have H0 : Hid ((w.alloc (.cells #[.slice fa f.length fc, .slice ta t.length tc] 25)).heap[w.heap.size]? = some (.cells #[.slice fa f.length fc, .slice ta t.length tc] 25 (0, 0))) := heap_alloc_new _ _
  clear hM hf ht ho hG
  go_enter Try.func27, Try.ntmps27
  go_upto_region 1 with fail
  generalize w.alloc (.cells #[.slice fa f.length fc, .slice ta t.length tc] 25) = w1 at *
  have HS : Hid (∀ W, Below w1.heap.size w1 W → (Hid (Below w1.heap.size w1 W) ∧ W.cell? ⟨w.heap.size, 0, none⟩ = some (.slice fa f.length fc) ∧ W.cell? ⟨w.heap.size, 1, none⟩ = some (.slice ta t.length tc))) := fun W h => by
    obtain ⟨a1, a2, -, -⟩ := two_cells ((h.block _ (lt_of_block H0.out)).trans H0.out)
    exact ⟨h, a1, a2⟩
  obtain ⟨ao, c, hpg, hall⟩ := all_val pv0 G w HM.out
  have HPG := hid hpg
  have CA : Hid (∀ W, Below w1.heap.size w1 W → Calls Try.prog 31 #[pv0] W (fun e w' => e = .returned (.slice ao G.length c) ∧ w' = W)) := fun W h => hall W (HB1.out.trans (h.mono HB1.out.size))
  have CP : Hid (∀ W, Below w1.heap.size w1 W → Calls Try.prog 34 #[.slice ao G.length c, .agg #[.slice fa f.length fc, .slice ta t.length tc]] W (PartA G f t W)) := fun W h => by
    have hb : Below w.heap.size w W := HB1.out.trans (h.mono HB1.out.size)
    exact gpart_any _ _ _ G f t W (HPG.out.old hb) (HF.out.old hb) (HT.out.old hb) HO.out
  clear hpg hall
  go_cut [7, 8] from 11 to 16 (fun x y wx => ∃ p i p' i' b1 b2, x = .pointer (some ⟨b1, 0, none⟩) ∧ y = .pointer (some ⟨b2, 0, none⟩) ∧ PartOk (mls G) f t p i p' i' ∧ wx.heap[b1]? = some (.cells #[.int .i64 (p : Int), .int .i64 (i : Int)] 67 (0, 0)) ∧ wx.heap[b2]? = some (.cells #[.int .i64 (p' : Int), .int .i64 (i' : Int)] 67 (0, 0)) ∧ Below w1.heap.size w1 wx)
  case first =>
    have hb0 : Below w1.heap.size w1 w1 := Below.refl _ _
    obtain ⟨-, c1, c2⟩ := HS.out _ hb0
    clear hb0
    go_region_held3 (fun W => Hid (Below w1.heap.size w1 W) ∧ W.cell? ⟨w.heap.size, 0, none⟩ = some (.slice fa f.length fc) ∧ W.cell? ⟨w.heap.size, 1, none⟩ = some (.slice ta t.length tc))
      (first | (go_split_ands; first | exact HS.out _ (Hid.out (by assumption)) | exact HS.out _ (by (repeat' (first | with_reducible exact Below.refl _ _ | with_reducible exact Hid.out (by assumption) | with_reducible refine Below.drew ?_ | with_reducible refine Below.setCell ?_ ?_ _ | with_reducible refine Below.alloc ?_ ?_ _ | with_reducible exact Nat.le_refl _ | (simp; done) | (simp; omega) | omega)))) | go_keep)
      (first
        | (go_at_call 31; go_split_ands; refine (CA.out _ (by assumption : Hid (Below _ w1 _)).out).mono ?_; rintro e wa ⟨rfl, rfl⟩)
        | (go_at_call 34; go_split_ands; have HPRE := (by assumption : Hid (Below _ w1 _)); refine (CP.out _ HPRE.out).mono ?_; rintro e wf ⟨p, i, p', i', hs, rfl, hbf⟩; have HBF := hid (chain HPRE.out hbf); have hsz9 : w1.heap.size ≤ wf.heap.size := HBF.out.size; clear HPRE; unfold spotV; have HSP := hid hs; clear hs;
            (try (have hq9 : wf.heap[w1.heap.size]? = some (.cells #[.int .i64 0, .int .i64 0] 67 (0, 0)) := (hbf.block w1.heap.size (show w1.heap.size < ((w1.alloc (.cells #[.int .i64 0, .int .i64 0] 67)).alloc (.cells #[.int .i64 0, .int .i64 0] 67)).heap.size by first | (simp; done) | (simp; omega))).trans (al2 w1 (.cells #[.int .i64 0, .int .i64 0] 67) (.cells #[.int .i64 0, .int .i64 0] 67)); have hq8 : wf.heap[w1.heap.size + 1]? = some (.cells #[.int .i64 0, .int .i64 0] 67 (0, 0)) := (hbf.block (w1.heap.size + 1) (show w1.heap.size + 1 < ((w1.alloc (.cells #[.int .i64 0, .int .i64 0] 67)).alloc (.cells #[.int .i64 0, .int .i64 0] 67)).heap.size by first | (simp; done) | (simp; omega))).trans (heap_alloc2_new w1 (.cells #[.int .i64 0, .int .i64 0] 67) (.cells #[.int .i64 0, .int .i64 0] 67)); have HQ9 := hid hq9; have HQ8 := hid hq8; obtain ⟨z0, z1, z2, z3⟩ := two_cells hq9; obtain ⟨y0, y1, y2, y3⟩ := two_cells hq8; clear hq9 hq8));
            (try (have hq9 : wf.heap[w1.heap.size]? = some (.cells #[.int .i64 0, .int .i64 0] 67 (0, 0)) := (hbf.block w1.heap.size (show w1.heap.size < (w1.alloc _).heap.size by simp)).trans (heap_alloc_new w1 _); have HQ9 := hid hq9; obtain ⟨z0, z1, z2, z3⟩ := two_cells hq9; have hlt9 := lt_of_block hq9; have hne9 : ¬ (w1.heap.size = wf.heap.size) := Nat.ne_of_lt hlt9; have z4 := fun o => two_cells ((Below.heap_alloc wf o _ hlt9).trans hq9); have z5 := fun o => (z4 o).1; have z6 := fun o => (z4 o).2.1; have z7 := fun o => (z4 o).2.2.1; have z8 := fun o => (z4 o).2.2.2; clear z4 hq9)); clear hbf))
    all_goals (go_wp2_with fail)
    all_goals go_meet
    all_goals refine ⟨p, i, p', i', _, _, rfl, rfl, HSP.out, ?_, ?_, ?_⟩
    all_goals (first
      | (with_reducible exact al1 (by first | rfl | (simp; done) | (simp; omega)))
      | (with_reducible exact al2 _ _ _)
      | (with_reducible exact (Below.heap_alloc _ _ _ (by first | rfl | (simp; done) | (simp; omega))).trans (al1 (by first | rfl | (simp; done) | (simp; omega))))
      | (with_reducible exact two_set1 (two_set0 HQ9.out))
      | (with_reducible exact two_other (two_other (two_set1 (two_set0 HQ9.out)) (by omega)) (by omega))
      | (with_reducible exact two_set1 (two_set0 (two_other (two_other HQ9.out (by omega)) (by omega))))
      | (with_reducible exact (Below.heap_alloc _ _ _ (by first | rfl | (simp; done) | (simp; omega))).trans (two_set1 (two_set0 HQ9.out)))
      | (with_reducible exact two_set1 (two_set0 ((Below.heap_alloc _ _ _ (by first | rfl | (simp; done) | (simp; omega))).trans HQ9.out)))
      | (with_reducible exact two_set1 (two_set0 HQ8.out))
      | (with_reducible exact two_other (two_other (two_set1 (two_set0 HQ8.out)) (by omega)) (by omega))
      | (with_reducible exact two_set1 (two_set0 (two_other (two_other HQ8.out (by omega)) (by omega))))
      | (with_reducible exact (Below.heap_alloc _ _ _ (by first | rfl | (simp; done) | (simp; omega))).trans (two_set1 (two_set0 HQ8.out)))
      | (with_reducible exact two_set1 (two_set0 ((Below.heap_alloc _ _ _ (by first | rfl | (simp; done) | (simp; omega))).trans HQ8.out)))
      | (with_reducible exact two_other (two_other (al1 (by first | rfl | (simp; done) | (simp; omega))) (by omega)) (by omega))
      | ((repeat' (first | with_reducible exact Below.refl _ _ | with_reducible exact Hid.out (by assumption) | with_reducible refine Below.drew ?_ | with_reducible refine Below.setCell ?_ ?_ _ | with_reducible refine Below.alloc ?_ ?_ _ | with_reducible exact Nat.le_refl _ | (simp; done) | (simp; omega) | omega)); done))
  case rest =>
    obtain ⟨p, i, p', i', b1, b2, rfl, rfl, hsp, h1, h2, hbx⟩ := hcut
    have HSP := hid hsp
    have HBX := hid (HB1.out.trans (hbx.mono HB1.out.size))
    obtain ⟨a1, a2, -, -⟩ := two_cells h1
    obtain ⟨d1, d2, -, -⟩ := two_cells h2
    have HS3 : Hid (∀ W, Below wc.heap.size wc W → (Hid (Below wc.heap.size wc W) ∧ W.cell? ⟨b1, 0, none⟩ = some (.int .i64 (p : Int)) ∧ W.cell? ⟨b1, 1, none⟩ = some (.int .i64 (i : Int)) ∧ W.cell? ⟨b2, 0, none⟩ = some (.int .i64 (p' : Int)) ∧ W.cell? ⟨b2, 1, none⟩ = some (.int .i64 (i' : Int)))) := fun W h => by
      obtain ⟨a1, a2, -, -⟩ := two_cells ((h.block _ (lt_of_block h1)).trans h1)
      obtain ⟨b1, b2, -, -⟩ := two_cells ((h.block _ (lt_of_block h2)).trans h2)
      exact ⟨h, a1, a2, b1, b2⟩
    have CA2 : Hid (∀ W, Below wc.heap.size wc W → Calls Try.prog 31 #[pv0] W (fun e w' => e = .returned (.slice ao G.length c) ∧ w' = W)) := fun W h => CA.out W (hbx.trans (h.mono hbx.size))
    have CB : Hid (∀ W, Below wc.heap.size wc W → Calls Try.prog 38 #[.slice ao G.length c, .agg #[.int .i64 (p : Int), .int .i64 (i : Int)], .agg #[.int .i64 (p' : Int), .int .i64 (i' : Int)]] W (BetwA G p i p' i' W)) := fun W h => by
      have hb : Below w.heap.size w W := HBX.out.trans (h.mono HBX.out.size)
      exact between_any _ G p i p' i' W (HPG.out.old hb) HSP.out.le (by rw [← mls_len]; exact HSP.out.le') HSP.out.same (bound_of (Nat.le_trans HSP.out.le HSP.out.le') HSP.out.here HSP.out.none) (bound_of HSP.out.le' HSP.out.here' HSP.out.none') HG.out hl
    clear hsp h1 h2 hbx CA CP HS
    go_upto_region 2 with fail
    have hb0 : Below wc.heap.size wc wc := Below.refl _ _
    clear a1 a2 d1 d2
    obtain ⟨-, a1, a2, d1, d2⟩ := HS3.out _ hb0
    clear hb0
    go_region_held3 (fun W => Hid (Below wc.heap.size wc W) ∧ W.cell? ⟨b1, 0, none⟩ = some (.int .i64 (p : Int)) ∧ W.cell? ⟨b1, 1, none⟩ = some (.int .i64 (i : Int)) ∧ W.cell? ⟨b2, 0, none⟩ = some (.int .i64 (p' : Int)) ∧ W.cell? ⟨b2, 1, none⟩ = some (.int .i64 (i' : Int)))
      (first | (go_split_ands; first | exact HS3.out _ (Hid.out (by assumption)) | exact HS3.out _ (Below.drew (Below.refl _ _)) | exact HS3.out _ (chain (by assumption : Hid (Below _ wc _)).out (by assumption))) | go_keep)
      (first
        | (go_at_call 31; go_split_ands; refine (CA2.out _ (by assumption : Hid (Below _ wc _)).out).mono ?_; rintro e wa ⟨rfl, rfl⟩)
        | (go_at_call 38; go_split_ands; have HPRE := (by assumption : Hid (Below _ wc _)); refine (CB.out _ HPRE.out).mono ?_; rintro e wf ⟨bo, H, bn, bc, hbn, rfl, e1, e2, e3, e4, hbb⟩; have HBF := hid (chain HPRE.out hbb); have HBN := hid hbn; have E1 := hid e1; have E2 := hid e2; have E3 : Hid (∀ a, bo = some a → w.heap.size ≤ a.block) := (fun a ha => Nat.le_trans (Nat.le_trans HBX.out.size HPRE.out.size) (e3 a ha)); have E4 := hid e4; clear HPRE hbb hbn e1 e2 e3 e4))
    have CR : Hid (Calls Try.prog 40 #[.slice bo bn bc] wf (MakeA 54 63 (.slice bo bn bc) wf)) := rising_any _ H wf E2.out
    have CL : Hid (Calls Try.prog 39 #[.slice bo bn bc] wf (MakeA 51 63 (.slice bo bn bc) wf)) := falling_any _ H wf E2.out
    cases back with
    | true =>
      all_goals (go_wp2_with (first | (go_at_call 39; refine CL.out.mono ?_; rintro e wz ⟨rfl, rfl⟩)))
      all_goals go_ret
      exact ⟨p, i, p', i', wf.heap.size, bo, H, bn, bc, rfl, HSP.out, HBN.out, E1.out, E2.out.old ((Below.refl _ _).alloc (Nat.le_refl _) _), E3.out, E4.out, heap_alloc_new _ _, Nat.le_trans HBX.out.size HBF.out.size, (HBX.out.trans (HBF.out.mono HBX.out.size)).alloc (Nat.le_trans HBX.out.size HBF.out.size) _⟩
    | false =>
      all_goals (go_wp2_with (first | (go_at_call 40; refine CR.out.mono ?_; rintro e wz ⟨rfl, rfl⟩)))
      all_goals go_ret
      exact ⟨p, i, p', i', wf.heap.size, bo, H, bn, bc, rfl, HSP.out, HBN.out, E1.out, E2.out.old ((Below.refl _ _).alloc (Nat.le_refl _) _), E3.out, E4.out, heap_alloc_new _ _, Nat.le_trans HBX.out.size HBF.out.size, (HBX.out.trans (HBF.out.mono HBX.out.size)).alloc (Nat.le_trans HBX.out.size HBF.out.size) _⟩
end Go.Proofs.Ytcgnghkjkdkmmaa
