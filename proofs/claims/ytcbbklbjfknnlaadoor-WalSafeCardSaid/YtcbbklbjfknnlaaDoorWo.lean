/-
  WAL: newest; told of nothing; ready where all is well.
-/
import Derived.Test.YtcbbklbjfknnlaaDoorWl
set_option linter.unusedVariables false
set_option maxRecDepth 100000
namespace Go.Proofs.YtcbbklbjfknnlaaDoor
open Go.RowKit

/-- The newest head of the first k sectors. -/
def newK (S : List (List UInt8)) (h0 : Hd) : Nat → Hd
  | 0 => h0
  | k + 1 => if (hdOf (S.getD k [])).tn > (newK S h0 k).tn then hdOf (S.getD k []) else newK S h0 k

theorem newK_ok {S : List (List UInt8)} {h0 : Hd} (hS : ∀ s ∈ S, s.length = 64) (h : h0.Ok) : ∀ k, k ≤ S.length → (newK S h0 k).Ok
  | 0, _ => h
  | k + 1, hk => by
    unfold newK
    split
    · refine hdOf_ok _ ?_
      rw [List.getD, List.getElem?_eq_getElem (by omega)]
      exact hS _ (List.getElem_mem _)
    · exact newK_ok hS h k (by omega)

theorem Lk.setHead {w : World} {lb db : Nat} {rv : Value} {L : Ls} (h : Lk w lb db rv L) (g : Hd) : Lk ((((w.setCell ⟨lb, 1, none⟩ (.int .u64 (g.tn : Int))).setCell ⟨lb, 2, none⟩ (.int .u64 (g.fi : Int))).setCell ⟨lb, 3, none⟩ (.int .i64 (g.fr : Int))).setCell ⟨lb, 4, none⟩ (.int .i64 (g.su : Int))) lb db rv { L with h := g } :=
  set_at (k := 4) _ (set_at (k := 3) _ (set_at (k := 2) _ (set_at (k := 1) _ h)))
theorem Keep.set4 {X : Nat → Prop} {w0 w : World} {b : Nat} (h : Keep X w0 w) (hx : X b) (o1 o2 o3 o4 : Nat) (x y z u : Value) : Keep X w0 ((((w.setCell ⟨b, o1, none⟩ x).setCell ⟨b, o2, none⟩ y).setCell ⟨b, o3, none⟩ z).setCell ⟨b, o4, none⟩ u) :=
  (((h.trans (Keep.set w _ x hx)).trans (Keep.set _ _ y hx)).trans (Keep.set _ _ z hx)).trans (Keep.set _ _ u hx)

section
variable {base : Nat} {w : World} {lb db sb n : Nat} {vw rv : Value} {S : List (List UInt8)} {Q : List Wr} {dn : Bool} {lf : Nat} {L : Ls}

set_option maxHeartbeats 8000000 in
theorem newest_ok (h : Lk w lb db rv L) (hD : Dk base w db sb n vw S Q false lf) (hlb : ¬ DX db sb vw lb) (hn : 2 ≤ n) :
    Calls Tryd.prog 37 #[.pointer (some ⟨lb, 0, none⟩)] w (fun e w' => e = .returned .nilIface ∧ Lk w' lb db rv { L with h := newK S L.h 2 } ∧ Keep (fun k => k = lb) w w') := by
  obtain ⟨c0, -⟩ := h.cells
  have CS := hid (size_any hD)
  have hm : min (2 : Int) (n : Int) = 2 := by omega
  have hm2 : ¬ ((n : Int) < 2) := by omega
  have hm3 : (2 : Int) ≤ (n : Int) := by omega
  have H := hid h
  have HD := hid hD
  have HN := hid hlb
  clear h hD hlb
  go_enter Tryd.func37, Tryd.ntmps37
  go_wp2_with (first | (go_at_call 41; refine CS.out.mono ?_; rintro e w2 ⟨rfl, rfl⟩))
  clear c0
  go_loopw [13] (fun i wr => ∃ k : Nat, k ≤ 2 ∧ i = .int .i64 (k : Int) ∧ Hid (Lk wr lb db rv { L with h := newK S L.h k }) ∧ Hid (Keep (fun k => k = lb) w2 wr)) (fun i _ => 2 - (intOf i).toNat)
  case atStart => exact ⟨0, by omega, rfl, H, Keep.refl _ _⟩
  case round =>
    obtain ⟨k, hk, rfl, HL, HK⟩ := hrel
    by_cases hlt : k < 2
    · have hki : (k : Int) < 2 := by omega
      have hkS : k < S.length := by have := HD.out.few.1; omega
      have hs := List.getElem?_eq_getElem hkS
      have hsl := HD.out.len _ (List.getElem_mem hkS)
      have hD2 := HD.out.kept HK.out (fun j hj e => HN.out (by rw [← e]; exact hj))
      have CR := hid (lread_ok HL.out hD2 k _ hs (by omega))
      have hgd : S.getD k [] = S[k] := by rw [List.getD, hs]; rfl
      have HGD := hid hgd
      generalize S[k] = s at *
      have HSL := hid hsl
      clear hs hD2 hgd hsl
      go_wp2_with (first | (go_at_call 53; refine CR.out.mono ?_))
      rintro e w4 ⟨x, rfl, hx, hb4⟩
      obtain ⟨xo, xc, rfl⟩ := own_form hx
      have CH := hid (headOf_any w4 _ s (Rd.own hx) HSL.out)
      have HL4 := hid (HL.out.old hb4)
      have HK4 := hid (HK.out.trans (Keep.of_below hb4))
      clear hx hb4
      go_wp2_with (first | (go_at_call 54; refine CH.out.mono ?_))
      rintro e w5 ⟨rfl, hb5⟩
      have HL5 := hid (HL4.out.old hb5)
      have HK5 := hid (HK4.out.trans (Keep.of_below hb5))
      obtain ⟨g, hg⟩ : ∃ g, g = hdOf s := ⟨_, rfl⟩
      rw [← hg]
      have HG := hid hg
      clear hb5 hg
      unfold hv
      go_upto_region 8 with fail
      have hba : Below w5.heap.size w5 (w5.alloc (.cells #[.int .u64 (g.tn : Int), .int .u64 (g.fi : Int), .int .i64 (g.fr : Int), .int .i64 (g.su : Int)] 55)) := (Below.refl _ _).alloc (Nat.le_refl _) _
      have hxa : (w5.alloc (.cells #[.int .u64 (g.tn : Int), .int .u64 (g.fi : Int), .int .i64 (g.fr : Int), .int .i64 (g.su : Int)] 55)).heap[w5.heap.size]? = some (.cells #[.int .u64 (g.tn : Int), .int .u64 (g.fi : Int), .int .i64 (g.fr : Int), .int .i64 (g.su : Int)] 55 (0, 0)) := heap_alloc_new _ _
      generalize w5.alloc (.cells #[.int .u64 (g.tn : Int), .int .u64 (g.fi : Int), .int .i64 (g.fr : Int), .int .i64 (g.su : Int)] 55) = w6 at *
      have hL6 := HL5.out.old hba
      obtain ⟨d0, d1, d2, d3, -, -, -, -⟩ := four_cells hxa
      obtain ⟨c0, c1, c2, c3, c4, -⟩ := hL6.cells
      have f1 := hL6.soft 1
      have f2 := hL6.soft 2
      have f3 := hL6.soft 3
      have f4 := hL6.soft 4
      have HL6 := hid hL6
      have HK6 := hid (HK5.out.trans (Keep.of_below hba))
      have hneq : w5.heap.size ≠ lb := by have := HL5.out.lt; omega
      clear hba hL6
      have HXA : Hid (∀ a, (w6.drewN a).heap[w5.heap.size]? = some (.cells #[.int .u64 (g.tn : Int), .int .u64 (g.fi : Int), .int .i64 (g.fr : Int), .int .i64 (g.su : Int)] 55 (0, 0))) := fun _ => hxa
      clear hxa
      by_cases hgt : (newK S L.h k).tn < g.tn
      · have hgi : ((newK S L.h k).tn : Int) < (g.tn : Int) := by omega
        have HNX : Hid (newK S L.h (k + 1) = g) := by
          show (if _ then _ else _) = _
          rw [HGD.out, ← HG.out, if_pos hgt]
        go_quiet (fail)
        have hL7 : Lk (w6.drewN nq) lb db rv { L with h := newK S L.h k } := HL6.out.old ⟨rfl, rfl, rfl, Nat.le_refl _, fun _ _ => rfl⟩
        have hx7 := HXA.out nq
        have HK7 := hid (HK6.out.trans (Keep.of_below (⟨rfl, rfl, rfl, Nat.le_refl _, fun _ _ => rfl⟩ : Below w6.heap.size w6 (w6.drewN nq))))
        clear d0 d1 d2 d3 c0 c1 c2 c3 c4 f1 f2 f3 f4
        generalize w6.drewN nq = w7 at *
        obtain ⟨d0, d1, d2, d3, -, -, -, -⟩ := four_cells hx7
        obtain ⟨c0, c1, c2, c3, c4, -⟩ := hL7.cells
        have f1 := hL7.soft 1
        have f2 := hL7.soft 2
        have f3 := hL7.soft 3
        have f4 := hL7.soft 4
        have HL8 := hid (hL7.setHead g)
        have HK8 := hid (HK7.out.set4 (b := lb) rfl 1 2 3 4 (.int .u64 (g.tn : Int)) (.int .u64 (g.fi : Int)) (.int .i64 (g.fr : Int)) (.int .i64 (g.su : Int)))
        clear hL7 hx7
        go_wp2_with fail
        go_roundw
        case rel => exact ⟨k + 1, by omega, by go_num, by rw [HNX.out]; exact HL8, HK8⟩
        case measure => first | (simp [intOf]; done) | (simp [intOf]; omega)
      · have hgi : (g.tn : Int) ≤ ((newK S L.h k).tn : Int) := by omega
        have HNX : Hid (newK S L.h (k + 1) = newK S L.h k) := by
          show (if _ then _ else _) = _
          rw [HGD.out, ← HG.out, if_neg hgt]
        go_quiet (fail)
        have HL7 : Hid (Lk (w6.drewN nq) lb db rv { L with h := newK S L.h k }) := HL6.out.old ⟨rfl, rfl, rfl, Nat.le_refl _, fun _ _ => rfl⟩
        have HK7 := hid (HK6.out.trans (Keep.of_below (⟨rfl, rfl, rfl, Nat.le_refl _, fun _ _ => rfl⟩ : Below w6.heap.size w6 (w6.drewN nq))))
        clear d0 d1 d2 d3 c0 c1 c2 c3 c4 f1 f2 f3 f4
        generalize w6.drewN nq = w7 at *
        go_wp2_with fail
        go_roundw
        case rel => exact ⟨k + 1, by omega, by go_num, by rw [HNX.out]; exact HL7, HK7⟩
        case measure => first | (simp [intOf]; done) | (simp [intOf]; omega)
    · obtain rfl : k = 2 := by omega
      go_wp2_with fail
      go_ret
      exact ⟨rfl, HL.out, HK.out⟩
end
end Go.Proofs.YtcbbklbjfknnlaaDoor
