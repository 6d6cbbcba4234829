import Derived.WalkKit
import Derived.OpenShut
import Derived.Test.YtddnleofflobhaaGreatDoorRows
import Derived.WalkSpells
import Derived.WalkLawsBesides
import Derived.Laws.AppendOwnNone
import Derived.BigQuiet
import Derived.Deep.QuietTactic
import Derived.Deep.MidRow
import Derived.Laws.MakeOwn
import Derived.Deep.CutBlock
import Derived.Deep.CutRange
import Derived.Sort.CutIn
import Derived.RangeFuncNested
import Derived.RangeFuncBound
import Derived.RangeFuncCalls
import Derived.RangeFuncLeaves
import Derived.RangeFuncBox
import Derived.Shelf.Abstract
import Derived.Shelf.RegionOpen
import Derived.OwnWalkIn
import Derived.TacticsInMore
import Derived.LoopNIn
import Derived.LoopIn
import Derived.OrdersIn
import Derived.LaidEql
import Derived.Stop.Asserts
import Derived.RowKitTokens
import Derived.Lib.Bytes
import Derived.Deep.RegionHeld3
import Derived.Deep.WholeRow
import Derived.BigRegion
import Derived.Great.BuildSlice
import Derived.Deep.AppendLies
import Derived.StillTailTactics
import Derived.Deep.RegionLaw
import Derived.Great.FillDense
import Derived.Laws.Tables
import Derived.LoopN
import Derived.Deep.OwnRows
import Derived.OwnWalk
import Derived.Deep.Slices
import Derived.Deep.RegionWith
import Derived.ArgAppend
import Derived.Lib.SliceRun
import Derived.Deep.RegionHeldLaw
import Derived.Deep.LoopGhost
import Derived.Lib.AppendZeros
import Derived.ProofKit
import Derived.Deep.Matrix
import Derived.Deep.Grids
import Derived.Test.YtddnleofflobhaaGreatDoorVG1
import Derived.Test.YtddnleofflobhaaGreatDoorVG2
import Derived.Test.YtddnleofflobhaaGreatDoorVG3
import Derived.Test.YtddnleofflobhaaGreatDoorVG4
import Derived.Test.YtddnleofflobhaaGreatDoorVG5
import Derived.Test.YtddnleofflobhaaGreatDoorVG6
import Derived.Test.YtddnleofflobhaaGreatDoorVG7
import Derived.Test.YtddnleofflobhaaGreatDoorVG8
import Derived.Test.YtddnleofflobhaaGreatDoorVG9
import Derived.Test.YtddnleofflobhaaGreatDoorVG10
import Derived.Test.YtddnleofflobhaaGreatDoorVG11
import Derived.Test.YtddnleofflobhaaGreatDoorVG12
import Derived.Test.YtddnleofflobhaaGreatDoorVG13
import Derived.Test.YtddnleofflobhaaGreatDoorVG14
import Derived.Test.YtddnleofflobhaaGreatDoorVG15
import Derived.Test.YtddnleofflobhaaGreatDoorVG16
import Derived.Test.YtddnleofflobhaaGreatDoorVG17
import Derived.Test.YtddnleofflobhaaGreatDoorVG18
import Derived.Test.YtddnleofflobhaaGreatDoorVG19
import Derived.Test.YtddnleofflobhaaGreatDoorVG20
import Derived.Test.YtddnleofflobhaaGreatDoorVG21
set_option linter.unusedVariables false
set_option linter.unusedSimpArgs false
set_option linter.unusedVariables false
set_option linter.unusedSimpArgs false
set_option maxRecDepth 100000
namespace Go.Proofs.YtddnleofflobhaaGreatDoor
open Go.RowKit Go.Deep

theorem vwrap_nil (s : ByteArray) (w : World) : Calls Tryz.prog 33 #[.nilIface, .string s] w (fun e w' => e = .returned .nilIface ∧ w' = w) := by
  go_enter Tryz.func33, Tryz.ntmps33
  go_wp2_with fail
  go_ret
  exact ⟨rfl, rfl⟩
theorem as_nil (v : Value) (w : World) : Calls Tryz.prog 39 #[.nilIface, v] w (fun e w' => e = .returned (.bool false) ∧ w' = w) := by
  go_enter Tryz.func39, Tryz.ntmps39
  go_wp2_with fail
  go_ret
  exact ⟨rfl, rfl⟩
theorem vtold_nil (vb : Nat) (w : World) : Calls Tryz.prog 42 #[.pointer (some ⟨vb, 0, none⟩), .nilIface] w (fun e w' => e = .returned .nilIface ∧ Below w.heap.size w w') := by
  go_enter Tryz.func42, Tryz.ntmps42
  go_wp2_with (first
    | (go_at_call 39; refine (as_nil _ _).mono ?_; rintro e w2 ⟨rfl, rfl⟩)
    | (go_at_call 33; refine (vwrap_nil _ _).mono ?_; rintro e w3 ⟨rfl, rfl⟩))
  go_ret
  exact ⟨rfl, (Below.refl w.heap.size w).alloc (Nat.le_refl _) _⟩
end Go.Proofs.YtddnleofflobhaaGreatDoor

set_option linter.unusedVariables false
set_option linter.unusedSimpArgs false
set_option maxRecDepth 100000
namespace Go.Proofs.YtddnleofflobhaaGreatDoor
open Go.RowKit Go.Deep

section
variable {base : Nat} {w w' : World} {vb lb db sb n t q T m third used : Nat} {vw rv vw' rv' : Value} {R : List Rc} {l0 l : Lo}
theorem VPut.from {x : List UInt8} {w1 : World} {p : PL} (hb : Below w.heap.size w w1) (h : VPut base vb lb db sb n vw rv R t T third used p x w1 w') : VPut base vb lb db sb n vw rv R t T third used p x w w' := by
  obtain ⟨vw', rv', r, l', q1, q2, q3, q4, q5⟩ := h
  exact ⟨vw', rv', r, l', q1, q2, q3, (Keep.of_below hb).trans q4, fun k hk => (q5 k hk).imp id (fun e => Nat.le_trans hb.size e)⟩
set_option maxHeartbeats 8000000 in
theorem vPut1_any (hrec : RecsOk) (h : Vt base w vb lb db sb n vw rv R t q T m third used l0) (hl : LoAt w l) (hloff : LoOff l (GL db sb vw lb rv)) (hlov : LoOff l (fun k => k = vb)) (hne : l0.pl ≠ l.pl) (hr : rightP l.pl = true) (hlong : longP l.pl ≤ 1000000000000) (hroom : cntsN (longP l.pl) ≤ third)
    (hd1 : 1 ≤ (diffB l0.pl l.pl).length ∧ (diffB l0.pl l.pl).length ≤ 32752) (hu2 : used + cntsN (diffB l0.pl l.pl).length ≤ 2 * third) (hn : 3 ≤ n) (ht : t < 1000000000) (hT : T + secs (recV 1 (diffB l0.pl l.pl)).length < n - 2) (hrl : (recV 1 (diffB l0.pl l.pl)).length ≤ 32768) (hR : R.length + 1 ≤ 1000000) (hu : used ≤ 1000000) (hth : third ≤ 65536) :
    Calls Tryz.prog 23 #[.pointer (some ⟨vb, 0, none⟩), l.v] w (fun e w' => e = .returned .nilIface ∧ VPut base vb lb db sb n vw rv R t T third used l.pl (recV 1 (diffB l0.pl l.pl)) w w') := by
  have hb : Below w.heap.size w (w.alloc (.cells #[.int .u64 (l.ht : Int), .int .i64 l.hv, .int .u64 (l.si : Int), .int .u64 (l.st : Int), .slice l.sd.a l.sd.b.length l.sd.c, .slice l.eo l.es.length l.ec] 30)) := (Below.refl _ _).alloc (Nat.le_refl _) _
  have h0 := heap_alloc_new w (.cells #[.int .u64 (l.ht : Int), .int .i64 l.hv, .int .u64 (l.si : Int), .int .u64 (l.st : Int), .slice l.sd.a l.sd.b.length l.sd.c, .slice l.eo l.es.length l.ec] 30)
  have HV := hid h
  have CN : Hid (∀ W, Below w.heap.size w W → Calls Tryz.prog 41 #[.pointer (some ⟨vb, 0, none⟩)] W (fun e w' => e = .returned (.bool false) ∧ w' = W)) := hid fun W hW => vnone_any (h.old hW)
  have CR : Hid (∀ W, Below w.heap.size w W → Calls Tryz.prog 11 #[.agg #[.int .u64 (l.ht : Int), .int .i64 l.hv, .int .u64 (l.si : Int), .int .u64 (l.st : Int), .slice l.sd.a l.sd.b.length l.sd.c, .slice l.eo l.es.length l.ec]] W (fun en w' => en = .returned (.bool true) ∧ Below W.heap.size W w')) := hid fun W hW => by
    have := right_any l W (hl.old hW)
    rw [hr] at this
    exact this
  have CP : Hid (∀ W, Below w.heap.size w W → Calls Tryz.prog 43 #[.pointer (some ⟨vb, 0, none⟩), .agg #[.int .u64 (l.ht : Int), .int .i64 l.hv, .int .u64 (l.si : Int), .int .u64 (l.st : Int), .slice l.sd.a l.sd.b.length l.sd.c, .slice l.eo l.es.length l.ec]] W (fun e w' => e = .returned .nilIface ∧ VPut base vb lb db sb n vw rv R t T third used l.pl (recV 1 (diffB l0.pl l.pl)) W w')) := hid fun W hW => vput1_any hrec (h.old hW) (hl.old hW) hloff hlov hne hr hlong hroom hd1 hu2 hn ht hT hrl hR hu hth
  obtain ⟨x9, hx9⟩ : ∃ x9, x9 = recV 1 (diffB l0.pl l.pl) := ⟨_, rfl⟩
  rw [← hx9] at CP ⊢
  simp only [Lo.v]
  clear h hl hloff hlov hne hr hlong hroom hd1 hu2 hT hrl hx9
  go_enter Tryz.func23, Tryz.ntmps23
  go_upto_region 1 with fail
  generalize w.alloc (.cells #[.int .u64 (l.ht : Int), .int .i64 l.hv, .int .u64 (l.si : Int), .int .u64 (l.st : Int), .slice l.sd.a l.sd.b.length l.sd.c, .slice l.eo l.es.length l.ec] 30) = w1 at *
  have HB := hid hb
  have H0 := hid h0
  obtain ⟨z0, z1, z2, z3, z4, z5⟩ := six_cells h0
  have CN1 := hid (CN.out _ hb)
  have CR1 := hid (CR.out _ hb)
  clear hb h0
  go_wp2_with (first
    | (go_at_call 41; refine CN1.out.mono ?_; rintro en w2 ⟨rfl, hw2⟩; subst hw2)
    | (go_at_call 11; refine CR1.out.mono ?_; rintro en w3 ⟨rfl, hb3⟩; have HB3 := hid (HB.out.trans (hb3.mono HB.out.size)); have CP3 := hid (CP.out _ HB3.out); obtain ⟨y0, y1, y2, y3, y4, y5⟩ := six_cells ((hb3.block _ (lt_of_block H0.out)).trans H0.out); have c11 : w3.cell? ⟨vb, 11, none⟩ = some (.bool false) := (by have h9 := (HV.out.old HB3.out).v; simp [World.cell?, h9]); clear hb3)
    | (go_at_call 43; refine CP3.out.mono ?_; rintro en w4 ⟨rfl, hP4⟩; have HP4 := hid (hP4.from HB3.out); clear hP4)
    | (go_at_call 42; refine (vtold_nil _ _).mono ?_; rintro en w5 ⟨rfl, hb5⟩; have HB5 := hid hb5; clear hb5))
  go_ret
  obtain ⟨vw', rv', r, l', q1, q2, q3, q4, q5⟩ := HP4.out
  exact ⟨rfl, vw', rv', r, l', q1, q2, q3.old HB5.out, q4.trans (Keep.of_below HB5.out), q5⟩
end
end Go.Proofs.YtddnleofflobhaaGreatDoor

set_option linter.unusedVariables false
set_option linter.unusedSimpArgs false
set_option maxRecDepth 100000
namespace Go.Proofs.YtddnleofflobhaaGreatDoor
open Go.RowKit Go.Deep

theorem hentry_any (e f : En) (w : World) (he : Rd w (.slice e.r.a e.r.b.length e.r.c) e.r.b) (hf : Rd w (.slice f.r.a f.r.b.length f.r.c) f.r.b) : Calls Tryz.prog 31 #[e.v, f.v] w (fun en w' => en = .returned (.bool (decide (e.pe = f.pe))) ∧ Below w.heap.size w w') := by
  have hS := En.same e f
  have hd : decide (e.pe = f.pe) = decide (e.t = f.t ∧ e.i = f.i ∧ e.r.b = f.r.b) := by simp only [hS]
  rw [hd]
  clear hS hd
  obtain ⟨et, ei, ⟨ea, ec, eb⟩⟩ := e
  obtain ⟨ft, fi, ⟨fa, fc, fb⟩⟩ := f
  simp only [En.v] at he hf ⊢
  have hb : Below w.heap.size w ((w.alloc (.cells #[.int .u64 (et : Int), .int .u64 (ei : Int), .slice ea eb.length ec] 63)).alloc (.cells #[.int .u64 (ft : Int), .int .u64 (fi : Int), .slice fa fb.length fc] 63)) := ((Below.refl _ _).alloc (Nat.le_refl _) _).alloc (by simp) _
  have h0 := (Below.heap_alloc (w.alloc (.cells #[.int .u64 (et : Int), .int .u64 (ei : Int), .slice ea eb.length ec] 63)) (.cells #[.int .u64 (ft : Int), .int .u64 (fi : Int), .slice fa fb.length fc] 63) w.heap.size (by simp)).trans (heap_alloc_new w (.cells #[.int .u64 (et : Int), .int .u64 (ei : Int), .slice ea eb.length ec] 63))
  have h1 := heap_alloc2_new w (.cells #[.int .u64 (et : Int), .int .u64 (ei : Int), .slice ea eb.length ec] 63) (.cells #[.int .u64 (ft : Int), .int .u64 (fi : Int), .slice fa fb.length fc] 63)
  go_enter Tryz.func31, Tryz.ntmps31
  go_upto_region 1 with fail
  generalize (w.alloc (.cells #[.int .u64 (et : Int), .int .u64 (ei : Int), .slice ea eb.length ec] 63)).alloc (.cells #[.int .u64 (ft : Int), .int .u64 (fi : Int), .slice fa fb.length fc] 63) = w1 at *
  obtain ⟨a0, a1, a2⟩ := three_cells h0
  obtain ⟨b0, b1, b2⟩ := three_cells h1
  have CE := hid (bytes_any _ _ eb fb w1 (he.old hb) (hf.old hb))
  have HB := hid hb
  clear hb h0 h1 he hf
  by_cases g1 : et = ft
  · by_cases g2 : ei = fi
    · subst g1 g2
      go_wp2_with (first | (go_at_call 29; refine CE.out.mono ?_; rintro e w2 ⟨rfl, rfl⟩))
      go_ret
      refine ⟨congrArg (fun q => Ending.returned (Value.bool q)) ?_, HB.out⟩
      rw [Bool.eq_iff_iff]
      simp
    · have g2' : ¬ ((ei : Int) = (fi : Int)) := by omega
      have g2b : ((ei : Int) == (fi : Int)) = false := by simp; omega
      subst g1
      go_wp2_with fail
      go_ret
      refine ⟨congrArg (fun q => Ending.returned (Value.bool q)) ?_, HB.out⟩
      simp [g2]
  · have g1' : ¬ ((et : Int) = (ft : Int)) := by omega
    have g1b : ((et : Int) == (ft : Int)) = false := by simp; omega
    go_wp2_with fail
    go_ret
    refine ⟨congrArg (fun q => Ending.returned (Value.bool q)) ?_, HB.out⟩
    simp [g1]

set_option maxHeartbeats 4000000 in
theorem hsameE_any (A B : List En) (x y : Value) (w : World) (hA : Ents w x A) (hB : Ents w y B) (hl : A.length ≤ 140737488355328) (hl2 : B.length ≤ 140737488355328) :
    Calls Tryz.prog 30 #[x, y, .func (.func 31) #[] #[]] w (fun en w' => en = .returned (.bool (decide (A.map En.pe = B.map En.pe))) ∧ Below w.heap.size w w') := by
  obtain ⟨ao, ac, e1, q1, q2⟩ := hA.1.form
  obtain ⟨bo, bc, e2, q3, q4⟩ := hB.1.form
  rw [List.length_map] at e1 q1 e2 q3
  subst e1 e2
  have hla := fun W => run_len_slice (P := Tryz.prog) W 28 3 ao A.length ac Tryz.underlying28
  have hlb := fun W => run_len_slice (P := Tryz.prog) W 28 3 bo B.length bc Tryz.underlying28
  by_cases hne : A.length = B.length
  · obtain ⟨n, hn⟩ : ∃ n, n = A.length := ⟨_, rfl⟩
    have HA := hid hA
    have HB := hid hB
    have HN := hid (And.intro hn (hn.trans hne))
    rw [← hne, ← hn] at hlb HB
    rw [← hn] at hla HA
    rw [← hne, ← hn]
    rw [← hn] at hl q1
    have hq3 : n ≤ bc := by omega
    clear hA hB hn hne q2 q4 q3 hl2
    go_enter Tryz.func30, Tryz.ntmps30
    go_wp2_with fail
    go_loopw [7] (fun i wr => ∃ k : Nat, k ≤ n ∧ i = .int .i64 (k : Int) ∧ Hid ((A.map En.pe).take k = (B.map En.pe).take k) ∧ Hid (Below w.heap.size w wr)) (fun i _ => n - (intOf i).toNat)
    case atStart => exact ⟨0, by omega, rfl, by rw [List.take_zero, List.take_zero]; exact rfl, Below.refl _ _⟩
    case round =>
      obtain ⟨k, hk, rfl, HT, HBw⟩ := hrel
      by_cases hlt : k < n
      · have hA9 := List.getElem?_eq_getElem (l := A) (i := k) (by have := HN.out; omega)
        have hB9 := List.getElem?_eq_getElem (l := B) (i := k) (by have := HN.out; omega)
        generalize A[k]'_ = e at hA9
        generalize B[k]'_ = f at hB9
        obtain ⟨b1, o1, ea1, c10, c11, c12, r1⟩ := (HA.out.old HBw.out).get hA9
        obtain ⟨b2, o2, eb2, c20, c21, c22, r2⟩ := (HB.out.old HBw.out).get hB9
        subst ea1 eb2
        have hki : (k : Int) < (n : Int) := by omega
        have CE : Hid (∀ W, Below wr.heap.size wr W → Calls Tryz.prog 31 #[.agg #[.int .u64 (e.t : Int), .int .u64 (e.i : Int), .slice e.r.a e.r.b.length e.r.c], .agg #[.int .u64 (f.t : Int), .int .u64 (f.i : Int), .slice f.r.a f.r.b.length f.r.c]] W (fun en w' => en = .returned (.bool (decide (e.pe = f.pe))) ∧ Hid (Below wr.heap.size wr w'))) := hid fun W hW => (hentry_any e f W (r1.old hW) (r2.old hW)).mono fun en w' h => ⟨h.1, hid (hW.trans (h.2.mono hW.size))⟩
        have HBr := hid (And.intro hA9 hB9)
        obtain ⟨S9, hS9⟩ : ∃ S9 : World → Prop, S9 = fun V => Below wr.heap.size wr V := ⟨_, rfl⟩
        have hC : ∀ V, S9 V → ∀ a v, wr.cell? a = some v → V.cell? a = some v := fun V h a v hv => by rw [hS9] at h; exact (World.cell?_of_block (w := wr) (a := a) (h.block _ (World.block_lt_of_cell? wr _ hv))).trans hv
        have hY : ∀ V, S9 V → V.cell? ⟨b1, o1 + k * 3, none⟩ = some (.int .u64 (e.t : Int)) ∧ V.cell? ⟨b1, o1 + k * 3 + 1, none⟩ = some (.int .u64 (e.i : Int)) ∧ V.cell? ⟨b1, o1 + k * 3 + 2, none⟩ = some (.slice e.r.a e.r.b.length e.r.c) ∧ V.cell? ⟨b2, o2 + k * 3, none⟩ = some (.int .u64 (f.t : Int)) ∧ V.cell? ⟨b2, o2 + k * 3 + 1, none⟩ = some (.int .u64 (f.i : Int)) ∧ V.cell? ⟨b2, o2 + k * 3 + 2, none⟩ = some (.slice f.r.a f.r.b.length f.r.c) := fun V h => ⟨hC V h _ _ c10, hC V h _ _ c11, hC V h _ _ c12, hC V h _ _ c20, hC V h _ _ c21, hC V h _ _ c22⟩
        have HS : Hid (∀ V, Below wr.heap.size wr V → S9 V) := fun V h => by rw [hS9]; exact h
        have hWd : Below wr.heap.size wr wr.drew := ⟨rfl, rfl, rfl, Nat.le_refl _, fun _ _ => rfl⟩
        clear hS9 hC c10 c11 c12 c20 c21 c22 r1 r2 hA9 hB9
        go_upto_region 6 with fail
        go_cut [29] from 19 to 29 (fun b wx => b = .bool (!decide (e.pe = f.pe)) ∧ Hid (Below wr.heap.size wr wx))
        case first =>
          refine wp_region_noPanic ?_
          refine wp_region_held_drew (S := S9) (by kernel_rfl) (HS.out _ hWd) (fun hHeld => ?_)
          have HWd := hid hWd
          clear hWd
          have CEd := hid (CE.out _ HWd.out)
          generalize wr.drew = Wd at *
          refine wpAnyH_take (i := 0) (v := (.func (.func 31) #[] #[])) rfl (by kernel_rfl) (by kernel_rfl) (by kernel_rfl) (fun _ _ _ h => (show False from h).elim) ?xyVH1 ?xhVH1 ?xrVH1
          case xhVH1 => exact hHeld
          case xyVH1 => exact Or.inl ⟨by rfl, fun W9 hW => by clear hHeld; simp only [List.getElem_toArray, List.getElem_cons_succ, List.getElem_cons_zero]; go_simp⟩
          simp only [Act.put, List.getElem_toArray, List.getElem_cons_succ, List.getElem_cons_zero, List.setIfInBounds_toArray, List.set_cons_succ, List.set_cons_zero]
          refine wpAnyH_take (i := 1) (v := (.slice (some ⟨b1, o1, none⟩) n ac)) rfl (by kernel_rfl) (by kernel_rfl) (by kernel_rfl) (fun _ _ _ h => (show False from h).elim) ?xyVH2 ?xhVH2 ?xrVH2
          case xhVH2 => exact hHeld
          case xyVH2 => exact Or.inl ⟨by rfl, fun W9 hW => by clear hHeld; simp only [List.getElem_toArray, List.getElem_cons_succ, List.getElem_cons_zero]; go_simp⟩
          simp only [Act.put, List.getElem_toArray, List.getElem_cons_succ, List.getElem_cons_zero, List.setIfInBounds_toArray, List.set_cons_succ, List.set_cons_zero]
          refine wpAnyH_take (i := 2) (v := (.int .i64 (k : Int))) rfl (by kernel_rfl) (by kernel_rfl) (by kernel_rfl) (fun _ _ _ h => (show False from h).elim) ?xyVH3 ?xhVH3 ?xrVH3
          case xhVH3 => exact hHeld
          case xyVH3 => exact Or.inl ⟨by rfl, fun W9 hW => by clear hHeld; simp only [List.getElem_toArray, List.getElem_cons_succ, List.getElem_cons_zero]; go_simp⟩
          simp only [Act.put, List.getElem_toArray, List.getElem_cons_succ, List.getElem_cons_zero, List.setIfInBounds_toArray, List.set_cons_succ, List.set_cons_zero]
          refine wpAnyH_take (i := 3) (v := (.pointer (some ⟨b1, o1 + k * 3, none⟩))) rfl (by kernel_rfl) (by kernel_rfl) (by kernel_rfl) (fun _ _ _ h => (show False from h).elim) ?xyVH4 ?xhVH4 ?xrVH4
          case xhVH4 => exact hHeld
          case xyVH4 => exact Or.inl ⟨by rfl, fun W9 hW => by clear hHeld; simp only [List.getElem_toArray, List.getElem_cons_succ, List.getElem_cons_zero]; go_simp⟩
          simp only [Act.put, List.getElem_toArray, List.getElem_cons_succ, List.getElem_cons_zero, List.setIfInBounds_toArray, List.set_cons_succ, List.set_cons_zero]
          refine wpAnyH_take (i := 4) (v := (.agg #[.int .u64 (e.t : Int), .int .u64 (e.i : Int), .slice e.r.a e.r.b.length e.r.c])) rfl (by kernel_rfl) (by kernel_rfl) (by kernel_rfl) (fun _ _ _ h => (show False from h).elim) ?xyVH5 ?xhVH5 ?xrVH5
          case xhVH5 => exact hHeld
          case xyVH5 => exact Or.inl ⟨by rfl, fun W9 hW => by obtain ⟨z0, z1, z2, z3, z4, z5⟩ := hY _ hW; clear hHeld; simp only [List.getElem_toArray, List.getElem_cons_succ, List.getElem_cons_zero]; go_simp⟩
          simp only [Act.put, List.getElem_toArray, List.getElem_cons_succ, List.getElem_cons_zero, List.setIfInBounds_toArray, List.set_cons_succ, List.set_cons_zero]
          refine wpAnyH_take (i := 5) (v := (.slice (some ⟨b2, o2, none⟩) n bc)) rfl (by kernel_rfl) (by kernel_rfl) (by kernel_rfl) (fun _ _ _ h => (show False from h).elim) ?xyVH6 ?xhVH6 ?xrVH6
          case xhVH6 => exact hHeld
          case xyVH6 => exact Or.inl ⟨by rfl, fun W9 hW => by clear hHeld; simp only [List.getElem_toArray, List.getElem_cons_succ, List.getElem_cons_zero]; go_simp⟩
          simp only [Act.put, List.getElem_toArray, List.getElem_cons_succ, List.getElem_cons_zero, List.setIfInBounds_toArray, List.set_cons_succ, List.set_cons_zero]
          refine wpAnyH_take (i := 6) (v := (.int .i64 (k : Int))) rfl (by kernel_rfl) (by kernel_rfl) (by kernel_rfl) (fun _ _ _ h => (show False from h).elim) ?xyVH7 ?xhVH7 ?xrVH7
          case xhVH7 => exact hHeld
          case xyVH7 => exact Or.inl ⟨by rfl, fun W9 hW => by clear hHeld; simp only [List.getElem_toArray, List.getElem_cons_succ, List.getElem_cons_zero]; go_simp⟩
          simp only [Act.put, List.getElem_toArray, List.getElem_cons_succ, List.getElem_cons_zero, List.setIfInBounds_toArray, List.set_cons_succ, List.set_cons_zero]
          refine wpAnyH_take (i := 7) (v := (.pointer (some ⟨b2, o2 + k * 3, none⟩))) rfl (by kernel_rfl) (by kernel_rfl) (by kernel_rfl) (fun _ _ _ h => (show False from h).elim) ?xyVH8 ?xhVH8 ?xrVH8
          case xhVH8 => exact hHeld
          case xyVH8 => exact Or.inl ⟨by rfl, fun W9 hW => by clear hHeld; simp only [List.getElem_toArray, List.getElem_cons_succ, List.getElem_cons_zero]; go_simp⟩
          simp only [Act.put, List.getElem_toArray, List.getElem_cons_succ, List.getElem_cons_zero, List.setIfInBounds_toArray, List.set_cons_succ, List.set_cons_zero]
          refine wpAnyH_take (i := 8) (v := (.agg #[.int .u64 (f.t : Int), .int .u64 (f.i : Int), .slice f.r.a f.r.b.length f.r.c])) rfl (by kernel_rfl) (by kernel_rfl) (by kernel_rfl) (fun _ _ _ h => (show False from h).elim) ?xyVH9 ?xhVH9 ?xrVH9
          case xhVH9 => exact hHeld
          case xyVH9 => exact Or.inl ⟨by rfl, fun W9 hW => by obtain ⟨z0, z1, z2, z3, z4, z5⟩ := hY _ hW; clear hHeld; simp only [List.getElem_toArray, List.getElem_cons_succ, List.getElem_cons_zero]; go_simp⟩
          simp only [Act.put, List.getElem_toArray, List.getElem_cons_succ, List.getElem_cons_zero, List.setIfInBounds_toArray, List.set_cons_succ, List.set_cons_zero]
          refine wpAnyH_ready (rs := [9]) (by kernel_rfl) (by simp) ?_
          refine AllReadyH.cons rfl (fun K hK => ?_) AllReadyH.nil
          go_simp
          go_wp2_with (first | (go_at_call 31; refine CEd.out.mono ?_; rintro en w3 ⟨rfl, hb3⟩))
          refine hK.out _ _ (HS.out _ hb3.out) (fun hHeld => ?_)
          clear hK K
          refine wpAnyH_take (i := 10) (v := (.bool (!decide (e.pe = f.pe)))) rfl (by kernel_rfl) (by kernel_rfl) (by kernel_rfl) (fun _ _ _ h => (show False from h).elim) ?xyVH10 ?xhVH10 ?xrVH10
          case xhVH10 => exact hHeld
          case xyVH10 => exact Or.inl ⟨by rfl, fun W9 hW => by clear hHeld; simp only [List.getElem_toArray, List.getElem_cons_succ, List.getElem_cons_zero]; go_simp⟩
          simp only [Act.put, List.getElem_toArray, List.getElem_cons_succ, List.getElem_cons_zero, List.setIfInBounds_toArray, List.set_cons_succ, List.set_cons_zero]
          refine wpAnyH_done (by kernel_rfl) ?_ _
          refine NoPanic.normal ?_
          go_wp2_with fail
          go_meet
          exact ⟨rfl, hb3⟩
        case rest =>
          obtain ⟨rfl, HBC⟩ := hcut
          have hz : IntKind.i64.wrap ((k : Int) + 1) = (k : Int) + 1 := by rw [IntKind.wrap_i64]; omega
          by_cases hef : e.pe = f.pe
          · have hdt : decide (e.pe = f.pe) = true := by simp [hef]
            rw [hdt]
            have HEF := hid hef
            clear hdt hef
            go_wp2_with fail
            go_roundw
            case rel => exact ⟨k + 1, by omega, by go_num, hid (by rw [List.take_add_one, List.take_add_one, HT.out, List.getElem?_map, List.getElem?_map, HBr.out.1, HBr.out.2]; simp [HEF.out]), HBw.out.trans (HBC.out.mono HBw.out.size)⟩
            case measure => first | (simp [intOf]; done) | (simp [intOf]; omega)
          · have hdt : decide (e.pe = f.pe) = false := by simp [hef]
            rw [hdt]
            have HEF := hid hef
            clear hdt hef
            go_wp2_with fail
            go_ret
            refine ⟨congrArg (fun q => Ending.returned (Value.bool q)) ?_, HBw.out.trans (HBC.out.mono HBw.out.size)⟩
            symm
            rw [decide_eq_false_iff_not]
            intro e9
            have e8 := congrArg (fun l : List Pe => l[k]?) e9
            simp only [List.getElem?_map, HBr.out.1, HBr.out.2, Option.map_some, Option.some.injEq] at e8
            exact HEF.out e8
      · obtain rfl : k = n := by omega
        have hki : ¬ ((k : Int) < (k : Int)) := by omega
        go_wp2_with fail
        go_ret
        refine ⟨congrArg (fun q => Ending.returned (Value.bool q)) ?_, HBw.out⟩
        have h9 := HT.out
        have hn := HN.out
        rw [List.take_of_length_le (by rw [List.length_map]; omega), List.take_of_length_le (by rw [List.length_map]; omega)] at h9
        simp [h9]
  · have hI : ¬ ((A.length : Int) = (B.length : Int)) := by omega
    have hIb : ((A.length : Int) == (B.length : Int)) = false := by simp; omega
    have HD : Hid (decide (A.map En.pe = B.map En.pe) = false) := by
      show _ = _
      rw [decide_eq_false_iff_not]
      intro e
      have := congrArg List.length e
      simp at this
      exact hne this
    clear hA hB
    go_enter Tryz.func30, Tryz.ntmps30
    go_wp2_with fail
    go_ret
    exact ⟨by rw [HD.out]; rfl, Below.refl _ _⟩

set_option maxHeartbeats 8000000 in
theorem hlog_any (l m : Lo) (w : World) (hl : LoAt w l) (hm : LoAt w m) : Calls Tryz.prog 13 #[l.v, m.v] w (fun en w' => en = .returned (.bool (decide (l.pl = m.pl))) ∧ Below w.heap.size w w') := by
  have hS := Lo.split l m
  obtain ⟨d, hd⟩ : ∃ d, d = decide (l.pl = m.pl) := ⟨_, rfl⟩
  rw [← hd]
  have CS0 := fun W (hW : Below w.heap.size w W) => bytes_any _ _ l.sd.b m.sd.b W (hl.sd.old hW) (hm.sd.old hW)
  have CE0 := fun W (hW : Below w.heap.size w W) => hsameE_any l.es m.es _ _ W (hl.es.old hW) (hm.es.old hW) hl.el hm.el
  obtain ⟨lht, lhv, lsi, lst, ⟨la, lc, lb⟩, leo, lec, les⟩ := l
  obtain ⟨mht, mhv, msi, mst, ⟨ma, mc, mb⟩, meo, mec, mes⟩ := m
  simp only [Lo.v] at CS0 CE0 ⊢
  obtain ⟨b1, hb1⟩ : ∃ b1, b1 = (lb == mb) := ⟨_, rfl⟩
  obtain ⟨b2, hb2⟩ : ∃ b2, b2 = decide (les.map En.pe = mes.map En.pe) := ⟨_, rfl⟩
  rw [← hb1] at CS0
  rw [← hb2] at CE0
  have HR : Hid (((lht = mht ∧ lhv = mhv ∧ lsi = msi ∧ lst = mst) → (b1 && b2) = d) ∧ (¬ (lht = mht ∧ lhv = mhv ∧ lsi = msi ∧ lst = mst) → false = d)) := by
    show _ ∧ _
    refine ⟨fun hg => ?_, fun hg => ?_⟩
    · obtain ⟨rfl, rfl, rfl, rfl⟩ := hg
      rw [hd, hb1, hb2, Bool.eq_iff_iff]
      simp only [decide_eq_true_eq, Bool.and_eq_true, beq_iff_eq, hS, true_and]
    · rw [hd]
      symm
      rw [decide_eq_false_iff_not, hS]
      exact fun e => hg ⟨e.1, e.2.1, e.2.2.1.1, e.2.2.1.2.1⟩
  have CS := hid CS0
  have CE := hid CE0
  have hb : Below w.heap.size w ((w.alloc (.cells #[.int .u64 (lht : Int), .int .i64 lhv, .int .u64 (lsi : Int), .int .u64 (lst : Int), .slice la lb.length lc, .slice leo les.length lec] 30)).alloc (.cells #[.int .u64 (mht : Int), .int .i64 mhv, .int .u64 (msi : Int), .int .u64 (mst : Int), .slice ma mb.length mc, .slice meo mes.length mec] 30)) := ((Below.refl _ _).alloc (Nat.le_refl _) _).alloc (by simp) _
  have h0 := (Below.heap_alloc (w.alloc (.cells #[.int .u64 (lht : Int), .int .i64 lhv, .int .u64 (lsi : Int), .int .u64 (lst : Int), .slice la lb.length lc, .slice leo les.length lec] 30)) (.cells #[.int .u64 (mht : Int), .int .i64 mhv, .int .u64 (msi : Int), .int .u64 (mst : Int), .slice ma mb.length mc, .slice meo mes.length mec] 30) w.heap.size (by simp)).trans (heap_alloc_new w (.cells #[.int .u64 (lht : Int), .int .i64 lhv, .int .u64 (lsi : Int), .int .u64 (lst : Int), .slice la lb.length lc, .slice leo les.length lec] 30))
  have h1 := heap_alloc2_new w (.cells #[.int .u64 (lht : Int), .int .i64 lhv, .int .u64 (lsi : Int), .int .u64 (lst : Int), .slice la lb.length lc, .slice leo les.length lec] 30) (.cells #[.int .u64 (mht : Int), .int .i64 mhv, .int .u64 (msi : Int), .int .u64 (mst : Int), .slice ma mb.length mc, .slice meo mes.length mec] 30)
  clear hl hm CS0 CE0 hb1 hb2 hd hS
  go_enter Tryz.func13, Tryz.ntmps13
  go_upto_region 1 with fail
  generalize (w.alloc (.cells #[.int .u64 (lht : Int), .int .i64 lhv, .int .u64 (lsi : Int), .int .u64 (lst : Int), .slice la lb.length lc, .slice leo les.length lec] 30)).alloc (.cells #[.int .u64 (mht : Int), .int .i64 mhv, .int .u64 (msi : Int), .int .u64 (mst : Int), .slice ma mb.length mc, .slice meo mes.length mec] 30) = w1 at *
  obtain ⟨a0, a1, a2, a3, a4, a5⟩ := six_cells h0
  obtain ⟨c0, c1, c2, c3, c4, c5⟩ := six_cells h1
  have HB := hid hb
  clear hb h0 h1
  have CS2 := hid (CS.out _ HB.out)
  have CE2 := hid (CE.out _ HB.out)
  clear CS CE
  by_cases g : lht = mht ∧ lhv = mhv ∧ lsi = msi ∧ lst = mst
  · have HG := hid (HR.out.1 g)
    clear HR
    obtain ⟨rfl, rfl, rfl, rfl⟩ := g
    cases b1 with
    | false =>
      go_wp2_with (first | (go_at_call 29; refine CS2.out.mono ?_; rintro en w2 ⟨rfl, rfl⟩))
      go_ret
      exact ⟨congrArg (fun q => Ending.returned (Value.bool q)) HG.out, HB.out⟩
    | true =>
      go_wp2_with (first | (go_at_call 29; refine CS2.out.mono ?_; rintro en w2 ⟨rfl, rfl⟩))
      go_wp2_with (first | (go_at_call 30; refine CE2.out.mono ?_; rintro en w3 ⟨rfl, hb3⟩))
      go_ret
      exact ⟨congrArg (fun q => Ending.returned (Value.bool q)) HG.out, HB.out.trans (hb3.mono HB.out.size)⟩
  · have HG := hid (HR.out.2 g)
    clear HR
    by_cases g1 : lht = mht
    · subst g1
      by_cases g2 : lhv = mhv
      · subst g2
        by_cases g3 : lsi = msi
        · subst g3
          have g4 : ¬ ((lst : Int) = (mst : Int)) := fun e => g ⟨rfl, rfl, rfl, by omega⟩
          have g4b : ((lst : Int) == (mst : Int)) = false := by simp; omega
          clear g
          go_wp2_with fail
          go_ret
          exact ⟨congrArg (fun q => Ending.returned (Value.bool q)) HG.out, HB.out⟩
        · have g3' : ¬ ((lsi : Int) = (msi : Int)) := by omega
          have g3b : ((lsi : Int) == (msi : Int)) = false := by simp; omega
          clear g
          go_wp2_with fail
          go_ret
          exact ⟨congrArg (fun q => Ending.returned (Value.bool q)) HG.out, HB.out⟩
      · clear g
        go_wp2_with fail
        go_ret
        exact ⟨congrArg (fun q => Ending.returned (Value.bool q)) HG.out, HB.out⟩
    · have g1' : ¬ ((lht : Int) = (mht : Int)) := by omega
      clear g
      go_wp2_with fail
      go_ret
      exact ⟨congrArg (fun q => Ending.returned (Value.bool q)) HG.out, HB.out⟩
end Go.Proofs.YtddnleofflobhaaGreatDoor

set_option linter.unusedVariables false
set_option linter.unusedSimpArgs false
set_option maxRecDepth 100000
namespace Go.Proofs.YtddnleofflobhaaGreatDoor
open Go.RowKit Go.Deep

/-- What the entries hold. -/
def sumB (E : List En) : Nat := (E.map fun e => e.r.b.length).sum
theorem sumB_next {E : List En} {k : Nat} {e : En} (h : E[k]? = some e) : sumB (E.take (k + 1)) = sumB (E.take k) + e.r.b.length := by
  have hk := (List.getElem?_eq_some_iff.1 h).1
  have he := (List.getElem?_eq_some_iff.1 h).2
  unfold sumB
  rw [List.take_succ_eq_append_getElem hk, he, List.map_append, List.sum_append]
  simp
theorem sumB_le {E : List En} {B : Nat} (h : ∀ e ∈ E, e.r.b.length ≤ B) : sumB E ≤ E.length * B := by
  induction E with
  | nil => simp [sumB]
  | cons e E ih =>
    have h1 := ih (fun x hx => h x (List.mem_cons_of_mem _ hx))
    have h2 := h e List.mem_cons_self
    have h3 : sumB (e :: E) = e.r.b.length + sumB E := by simp [sumB]
    rw [h3, List.length_cons, Nat.add_mul]
    omega
/-- Small: fewer than 400 entries, and less than 1<<17 bytes. -/
def smallL (l : Lo) : Bool := decide (l.es.length < 400) && decide (l.sd.b.length + sumB l.es < 131072)

set_option maxHeartbeats 16000000 in
theorem small_any (l : Lo) (w : World) (hl : LoAt w l) : Calls Tryz.prog 8 #[l.v] w (fun en w' => en = .returned (.bool (smallL l)) ∧ Below w.heap.size w w') := by
  have hE := hl.es
  have hec : l.es.length ≤ l.ec := by
    obtain ⟨_, _, e1, q1, q2⟩ := hE.1.form
    simp only [Value.slice.injEq, List.length_map] at e1 q1
    omega
  have hB0 : ∀ e ∈ l.es, e.r.b.length ≤ 140737488355328 := fun e he => (hE.2 e he).2.2.2
  have hBk : ∀ k, k ≤ 400 → sumB (l.es.take k) ≤ 400 * 140737488355328 := fun k hk => by
    have := sumB_le (E := l.es.take k) (B := 140737488355328) (fun e he => hB0 e (List.mem_of_mem_take he))
    have h2 : (l.es.take k).length ≤ 400 := by rw [List.length_take]; omega
    exact Nat.le_trans this (Nat.mul_le_mul_right _ h2)
  have hsl := hl.sl
  have hlen := fun W => run_len_slice (P := Tryz.prog) W 28 3 l.eo l.es.length l.ec Tryz.underlying28
  have hlb := fun W a n c => run_len_slice (P := Tryz.prog) W 25 3 a n c Tryz.underlying25
  have hb : Below w.heap.size w (w.alloc (.cells #[.int .u64 (l.ht : Int), .int .i64 l.hv, .int .u64 (l.si : Int), .int .u64 (l.st : Int), .slice l.sd.a l.sd.b.length l.sd.c, .slice l.eo l.es.length l.ec] 30)) := (Below.refl _ _).alloc (Nat.le_refl _) _
  have h0 := heap_alloc_new w (.cells #[.int .u64 (l.ht : Int), .int .i64 l.hv, .int .u64 (l.si : Int), .int .u64 (l.st : Int), .slice l.sd.a l.sd.b.length l.sd.c, .slice l.eo l.es.length l.ec] 30)
  have HE := hid hE
  have HBK := hid hBk
  obtain ⟨n, hn⟩ : ∃ n, n = l.es.length := ⟨_, rfl⟩
  obtain ⟨D, hD⟩ : ∃ D, D = smallL l := ⟨_, rfl⟩
  rw [← hD]
  have HD := hid hD
  have HN := hid hn
  simp only [Lo.v]
  rw [← hn] at hlen HE hec h0 hb ⊢
  clear hl hE hn hD hB0 hBk
  generalize l.eo = eo at *
  obtain ⟨sl, hslD⟩ : ∃ sl, sl = l.sd.b.length := ⟨_, rfl⟩
  have HSL := hid hslD
  rw [← hslD] at hsl h0 hb ⊢
  clear hslD
  go_enter Tryz.func8, Tryz.ntmps8
  go_upto_region 1 with fail
  generalize w.alloc (.cells #[.int .u64 (l.ht : Int), .int .i64 l.hv, .int .u64 (l.si : Int), .int .u64 (l.st : Int), .slice l.sd.a sl l.sd.c, .slice eo n l.ec] 30) = w1 at *
  obtain ⟨z0, z1, z2, z3, z4, z5⟩ := six_cells h0
  have HB := hid hb
  clear hb h0 z0 z1 z2 z3
  go_wp2_with fail
  go_loopw [3, 4] (fun x i wr => ∃ k : Nat, k ≤ n ∧ k ≤ 400 ∧ i = .int .i64 (k : Int) ∧ x = .int .i64 ((sl + sumB (l.es.take k) : Nat) : Int) ∧ wr = w1) (fun _ i _ => 400 - (intOf i).toNat)
  case atStart => exact ⟨0, by omega, by omega, rfl, rfl, rfl⟩
  case round =>
    obtain ⟨k, hk, hk4, rfl, rfl, rfl⟩ := hrel
    have hbk := HBK.out k hk4
    by_cases hlt : k < n
    · have hki : (k : Int) < (n : Int) := by omega
      by_cases hlt4 : k < 400
      · have hki4 : (k : Int) < 400 := by omega
        have hA9 := List.getElem?_eq_getElem (l := l.es) (i := k) (by have := HN.out; omega)
        generalize l.es[k]'_ = e at hA9
        obtain ⟨b1, o1, ea1, c10, c11, c12, r1⟩ := (HE.out.old HB.out).get hA9
        subst ea1
        have hnx := sumB_next hA9
        have hbk2 := HBK.out (k + 1) (by omega)
        rw [hnx] at hbk2
        have hz : IntKind.i64.wrap ((k : Int) + 1) = (k : Int) + 1 := by rw [IntKind.wrap_i64]; omega
        have hzs : IntKind.i64.wrap ((sl : Int) + (sumB (l.es.take k) : Int) + (e.r.b.length : Int)) = (sl : Int) + (sumB (l.es.take (k + 1)) : Int) := by rw [hnx, IntKind.wrap_i64]; omega
        have HNX := hid hnx
        clear hnx r1 hA9 c10 c11 hbk hbk2
        go_wp2_with fail
        refine ⟨⟨k + 1, by omega, by omega, by simp, ?_, trivial⟩, ?_⟩
        · first | rfl | (congr 1; omega) | simp
        · simp only [intOf]; omega
      · obtain rfl : k = 400 := by omega
        have hki4 : ¬ ((400 : Nat) : Int) < 400 := by omega
        go_wp2_with fail
        all_goals (go_ret; refine ⟨congrArg (fun q => Ending.returned (Value.bool q)) ?_, HB.out⟩; rw [HD.out]; have h1 := HN.out; unfold smallL; first | (symm; simp; omega) | omega)
    · obtain rfl : k = n := by omega
      have hki : ¬ (k : Int) < (k : Int) := by omega
      have hT : l.es.take k = l.es := List.take_of_length_le (by have := HN.out; omega)
      rw [hT] at *
      go_wp2_with fail
      all_goals (go_ret; refine ⟨congrArg (fun q => Ending.returned (Value.bool q)) ?_, HB.out⟩; rw [HD.out]; have h1 := HN.out; have h2 := HSL.out; unfold smallL; rw [Bool.eq_iff_iff]; simp only [decide_eq_true_eq, Bool.and_eq_true, Bool.false_eq_true, ← h2, false_iff, eq_self_iff_true, true_iff]; omega)
end Go.Proofs.YtddnleofflobhaaGreatDoor

set_option linter.unusedVariables false
set_option linter.unusedSimpArgs false
set_option maxRecDepth 100000
namespace Go.Proofs.YtddnleofflobhaaGreatDoor
open Go.RowKit Go.Deep

theorem rightP_iff (l : Lo) : rightP l.pl = true ↔ (0 ≤ l.hv ∧ l.hv ≤ 5 ∧ l.si ≤ 4611686018427387904 ∧ l.st ≤ l.ht ∧ (l.si = 0 ↔ l.st = 0) ∧ l.sd.b.length ≤ 32668) ∧ rightE l.si (max l.st 1) l.ht (l.es.map En.pe) = true := by
  unfold rightP rightS Lo.pl
  simp only [Bool.and_eq_true, decide_eq_true_eq]
  constructor
  · rintro ⟨⟨h1, h2⟩, h3⟩; exact ⟨⟨h1.1, h1.2, h2.1, h2.2.1, h2.2.2.1, h2.2.2.2⟩, h3⟩
  · rintro ⟨⟨a, b, c, d, e, f⟩, h3⟩; exact ⟨⟨⟨a, b⟩, c, d, e, f⟩, h3⟩

set_option maxHeartbeats 16000000 in
theorem refRight_any (l : Lo) (w : World) (hl : LoAt w l) : Calls Tryz.prog 12 #[l.v] w (fun en w' => en = .returned (.bool (rightP l.pl)) ∧ Below w.heap.size w w') := by
  have hE := hl.es
  have hec : l.es.length ≤ l.ec := by
    obtain ⟨_, _, e1, q1, q2⟩ := hE.1.form
    simp only [Value.slice.injEq, List.length_map] at e1 q1
    omega
  have hsl := hl.sl
  have hel := hl.el
  have hst := hl.st
  have hht := hl.ht
  have hsi := hl.si
  have hhv := hl.hv
  have hRP := rightP_iff l
  have hlen := fun W => run_len_slice (P := Tryz.prog) W 28 3 l.eo l.es.length l.ec Tryz.underlying28
  have hlb := fun W a n c => run_len_slice (P := Tryz.prog) W 25 3 a n c Tryz.underlying25
  have hb : Below w.heap.size w (w.alloc (.cells #[.int .u64 (l.ht : Int), .int .i64 l.hv, .int .u64 (l.si : Int), .int .u64 (l.st : Int), .slice l.sd.a l.sd.b.length l.sd.c, .slice l.eo l.es.length l.ec] 30)) := (Below.refl _ _).alloc (Nat.le_refl _) _
  have h0 := heap_alloc_new w (.cells #[.int .u64 (l.ht : Int), .int .i64 l.hv, .int .u64 (l.si : Int), .int .u64 (l.st : Int), .slice l.sd.a l.sd.b.length l.sd.c, .slice l.eo l.es.length l.ec] 30)
  have HE := hid hE
  obtain ⟨PE, hPE⟩ : ∃ PE, PE = l.es.map En.pe := ⟨_, rfl⟩
  rw [← hPE] at hRP
  have HPE := hid hPE
  obtain ⟨n, hn⟩ : ∃ n, n = l.es.length := ⟨_, rfl⟩
  obtain ⟨D, hD⟩ : ∃ D, D = rightP l.pl := ⟨_, rfl⟩
  rw [← hD] at hRP ⊢
  have HN := hid hn
  have HRP := hid hRP
  simp only [Lo.v]
  rw [← hn] at hlen HE hec h0 hb hel ⊢
  clear hl hE hn hD hPE hRP
  generalize l.eo = eo at *
  obtain ⟨sl, hslD⟩ : ∃ sl, sl = l.sd.b.length := ⟨_, rfl⟩
  rw [← hslD] at hsl h0 hb HRP ⊢
  clear hslD
  go_enter Tryz.func12, Tryz.ntmps12
  go_upto_region 1 with fail
  generalize w.alloc (.cells #[.int .u64 (l.ht : Int), .int .i64 l.hv, .int .u64 (l.si : Int), .int .u64 (l.st : Int), .slice l.sd.a sl l.sd.c, .slice eo n l.ec] 30) = w1 at *
  obtain ⟨z0, z1, z2, z3, z4, z5⟩ := six_cells h0
  have HB := hid hb
  clear hb h0
  generalize l.hv = hv at *
  generalize l.ht = ht at *
  generalize l.si = si at *
  generalize l.st = st at *
  by_cases hg : 0 ≤ hv ∧ hv ≤ 5 ∧ si ≤ 4611686018427387904 ∧ st ≤ ht ∧ (si = 0 ↔ st = 0) ∧ sl ≤ 32668
  · have HG := hid hg
    obtain ⟨g1, g2, g3, g4, g5, g6⟩ := hg
    have k1 : ¬ hv < 0 := by omega
    have k2 : ¬ 5 < hv := by omega
    have k3 : ¬ (4611686018427387904 : Int) < (si : Int) := by omega
    have k4 : ¬ (ht : Int) < (st : Int) := by omega
    have k6 : ¬ (32668 : Int) < (sl : Int) := by omega
    have k5 : ((si : Int) == 0) = ((st : Int) == 0) := by rw [Bool.eq_iff_iff]; simp only [beq_iff_eq]; omega
    have k5' : ((si : Int) = 0) = ((st : Int) = 0) := by apply propext; omega
    have HC : Hid (∀ V, Below w1.heap.size w1 V → (V.cell? ⟨w.heap.size, 0, none⟩ = some (.int .u64 (ht : Int)) ∧ V.cell? ⟨w.heap.size, 2, none⟩ = some (.int .u64 (si : Int)) ∧ V.cell? ⟨w.heap.size, 5, none⟩ = some (.slice eo n l.ec))) := hid fun V h => by
      have hC : ∀ a v, w1.cell? a = some v → V.cell? a = some v := fun a v hv => (World.cell?_of_block (w := w1) (a := a) (h.block _ (World.block_lt_of_cell? w1 _ hv))).trans hv
      exact ⟨hC _ _ z0, hC _ _ z2, hC _ _ z5⟩
    clear g1 g2 g4 g5 g6
    go_wp2_with fail
    clear z0 z1 z2 z3 z4 z5 k1 k2 k3 k4 k5 k5' k6
    go_loopw [3, 4] (fun t i wr => ∃ k tm : Nat, k ≤ n ∧ i = .int .i64 (k : Int) ∧ t = .int .u64 (tm : Int) ∧ max tm 1 = tmK (max st 1) PE k ∧ tm < 18446744073709551616 ∧ Hid (rightE si (max st 1) ht (PE.take k) = true) ∧ Hid (Below w1.heap.size w1 wr)) (fun _ i _ => n - (intOf i).toNat)
    case atStart => exact ⟨0, st, by omega, rfl, rfl, by cases PE <;> rfl, by omega, by rw [List.take_zero]; exact rfl, Below.refl _ _⟩
    case round =>
      obtain ⟨k, tm, hk, rfl, rfl, HTM, htm, HR, HBr⟩ := hrel
      obtain ⟨z0, z2, z5⟩ := HC.out _ HBr.out
      by_cases hlt : k < n
      · have hki : (k : Int) < (n : Int) := by omega
        have hA9 := List.getElem?_eq_getElem (l := l.es) (i := k) (by have := HN.out; omega)
        generalize l.es[k]'_ = e at hA9
        obtain ⟨b1, o1, ea1, c10, c11, c12, r1⟩ := (HE.out.old (HB.out.trans (HBr.out.mono HB.out.size))).get hA9
        subst ea1
        have hpe : PE[k]? = some e.pe := by rw [HPE.out, List.getElem?_map, hA9]; rfl
        have hei := (HE.out.2 e (List.mem_of_getElem? hA9)).2
        have HPEk := hid hpe
        have hz : IntKind.i64.wrap ((k : Int) + 1) = (k : Int) + 1 := by rw [IntKind.wrap_i64]; omega
        have hzk : IntKind.u64.wrap (k : Int) = (k : Int) := by rw [IntKind.wrap_u64]; omega
        have hz1 : IntKind.u64.wrap ((si : Int) + (k : Int)) = (si : Int) + (k : Int) := by rw [IntKind.wrap_u64]; omega
        have hz2 : IntKind.u64.wrap ((si : Int) + (k : Int) + 1) = (si : Int) + (k : Int) + 1 := by rw [IntKind.wrap_u64]; omega
        obtain ⟨et, ei, ⟨ea, ec, eb⟩⟩ := e
        simp only at c10 c11 c12 hei
        simp only [En.pe] at hpe HPEk
        have d0 := fun o => cell_alloc z0 o
        have d2 := fun o => cell_alloc z2 o
        have d5 := fun o => cell_alloc z5 o
        have HNX := hid (rightE_more PE si (max st 1) ht k _ hpe HR.out)
        have HBAD := hid (rightE_bad PE si (max st 1) ht k _ hpe HR.out)
        have HTK := hid (tmK_next PE (max st 1) k _ hpe)
        have HBA : Hid (∀ o, Below w1.heap.size w1 (wr.alloc o)) := hid fun o => HBr.out.alloc HBr.out.size _
        simp only at HNX HBAD HTK
        clear hpe r1 hA9
        obtain ⟨el, hel9⟩ : ∃ el, el = eb.length := ⟨_, rfl⟩
        rw [← hel9] at c12 HNX HBAD hei
        clear hel9
        by_cases g : ei = si + k + 1 ∧ tm ≤ et ∧ et ≠ 0 ∧ et ≤ ht ∧ el ≤ 32668
        · have hg2 : ei = si + k + 1 ∧ tmK (max st 1) PE k ≤ et ∧ et ≤ ht ∧ el ≤ 32668 := by rw [← HTM]; omega
          have HN2 := hid (HNX.out hg2)
          obtain ⟨g1, g2, g3, g4, g5⟩ := g
          subst g1
          have k2 : ¬ (et : Int) < (tm : Int) := by omega
          have k3 : ((et : Int) == 0) = false := by rw [beq_eq_false_iff_ne]; omega
          have k3b : ¬ ((et : Int) = 0) := by omega
          have HET : Hid (et < 18446744073709551616) := by show _ < _; omega
          have k4 : ¬ (ht : Int) < (et : Int) := by omega
          have k5 : ¬ (32668 : Int) < (el : Int) := by omega
          have HT9 : Hid (max et 1 = tmK (max st 1) PE (k + 1)) := by show _ = _; rw [HTK.out]; omega
          clear g2 g4 hg2 hei HNX HBAD
          go_wp2_with fail
          exact ⟨⟨k + 1, et, by omega, by simp, rfl, HT9.out, HET.out, HN2.out, HBA.out _⟩, by simp only [intOf]; omega⟩
        · have hg2 : ¬ (ei = si + k + 1 ∧ tmK (max st 1) PE k ≤ et ∧ et ≤ ht ∧ el ≤ 32668) := by rw [← HTM]; omega
          have hF : D = false := by
            rcases Bool.eq_false_or_eq_true D with h | h
            · have := (HRP.out.1 h).2; rw [HBAD.out hg2] at this; cases this
            · exact h
          subst hF
          clear HNX HBAD
          go_wp2_with fail
          all_goals (go_ret; exact ⟨rfl, HB.out.trans ((HBA.out _).mono HB.out.size)⟩)
      · obtain rfl : k = n := by omega
        have hki : ¬ (k : Int) < (k : Int) := by omega
        have hF : D = true := HRP.out.2 ⟨HG.out, by have h1 := HR.out; rwa [List.take_of_length_le (by rw [HPE.out, List.length_map]; have := HN.out; omega)] at h1⟩
        subst hF
        go_wp2_with fail
        go_ret
        exact ⟨rfl, HB.out.trans (HBr.out.mono HB.out.size)⟩
  · have hF : D = false := by
      rcases Bool.eq_false_or_eq_true D with h | h
      · exact (hg (HRP.out.1 h).1).elim
      · exact h
    subst hF
    go_wp2_with fail
    all_goals first
      | (go_ret; exact ⟨rfl, HB.out⟩)
      | (exfalso; have e := ‹((si : Int) == 0) = ((st : Int) == 0)›; rw [Bool.eq_iff_iff] at e; simp only [beq_iff_eq] at e; apply hg; omega)
end Go.Proofs.YtddnleofflobhaaGreatDoor

