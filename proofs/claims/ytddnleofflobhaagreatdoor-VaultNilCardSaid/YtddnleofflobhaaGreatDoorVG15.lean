import Derived.Deep.RegionHeld3
import Derived.BigRegion
import Derived.Deep.RegionWith
import Derived.Deep.RegionLaw
import Derived.Deep.RegionHeldLaw
import Derived.Test.YtddnleofflobhaaGreatDoorRows
import Derived.WalkKit
import Derived.WalkSpells
import Derived.WalkLawsBesides
import Derived.Laws.AppendOwnNone
import Derived.BigQuiet
import Derived.Deep.QuietTactic
import Derived.Deep.MidRow
import Derived.Laws.MakeOwn
import Derived.Deep.CutBlock
import Derived.Deep.CutRange
import Derived.Sort.CutIn
import Derived.RangeFuncNested
import Derived.RangeFuncBound
import Derived.RangeFuncCalls
import Derived.RangeFuncLeaves
import Derived.RangeFuncBox
import Derived.Shelf.Abstract
import Derived.Shelf.RegionOpen
import Derived.OwnWalkIn
import Derived.TacticsInMore
import Derived.LoopNIn
import Derived.LoopIn
import Derived.OrdersIn
import Derived.LaidEql
import Derived.Stop.Asserts
import Derived.RowKitTokens
import Derived.Lib.Bytes
import Derived.Deep.WholeRow
import Derived.Great.BuildSlice
import Derived.Deep.AppendLies
import Derived.StillTailTactics
import Derived.Great.FillDense
import Derived.Laws.Tables
import Derived.LoopN
import Derived.Deep.OwnRows
import Derived.OwnWalk
import Derived.Deep.Slices
import Derived.OpenShut
import Derived.ArgAppend
import Derived.Lib.SliceRun
import Derived.Test.YtddnleofflobhaaGreatDoorVG1
import Derived.Test.YtddnleofflobhaaGreatDoorVG2
import Derived.Test.YtddnleofflobhaaGreatDoorVG3
import Derived.Test.YtddnleofflobhaaGreatDoorVG4
import Derived.Test.YtddnleofflobhaaGreatDoorVG5
import Derived.Test.YtddnleofflobhaaGreatDoorVG6
import Derived.Test.YtddnleofflobhaaGreatDoorVG7
import Derived.Test.YtddnleofflobhaaGreatDoorVG8
import Derived.Test.YtddnleofflobhaaGreatDoorVG9
import Derived.Test.YtddnleofflobhaaGreatDoorVG14
set_option linter.unusedVariables false
set_option linter.unusedSimpArgs false
set_option linter.unusedVariables false
set_option linter.unusedSimpArgs false
set_option maxRecDepth 100000
namespace Go.Proofs.YtddnleofflobhaaGreatDoor
open Go.RowKit Go.Shelf
attribute [local go_sem] Oper.semAt_some

/-- An append whose run is known, as one step of a region that draws. -/
theorem step_known {P : Program} {ops : Array Oper} {o : Oper} {a : Act} {w w' : World} {K : Act → World → Prop} {Q : Exit → Act → World → Prop} {E : Prop}
    (s x : Operand) (t : TypeId) (hop : o.op = Op.call { callee := Callee.builtin Builtin.append, args := #[s, x], argTypes := #[t, t] }) (hty : o.type = t)
    (u y v : Value) (hs : a.eval s = u) (hx : a.eval x = y) (hrun : (Builtin.append_ #[t, t] t #[u, y]).run P w = .ok v w')
    (hw : Region.wanted o (yielded ops a.tmps) = true) (hK : K (a.put o.dst v) w') :
    if Region.wanted o (yielded ops a.tmps) = true then Oper.wp P o a w K Q else E := by
  rw [if_pos hw]
  unfold Oper.wp
  simp [execOp, hop, hty, resolve, invoke, builtin, hs, hx, hrun, Result.andThen]
  exact hK

theorem cell_set_other (w : World) (a b : Addr) (v : Value) (h : b.block ≠ a.block) : (w.setCell a v).cell? b = w.cell? b := World.cell?_of_block (Below.heap_setCell w a v b.block h)

/-- The last stores of 'add'. -/
theorem add_end {base : Nat} {V w5 : World} {lb db sb n : Nat} {vw rv v5 : Value} {S : List (List UInt8)} {Q : List Wr} {L : Ls} {R : List Rc} {r : Rc} (z : Nat) (h : Lg base V lb db sb n vw rv S Q L R) (hr : Rof w5 v5 (R ++ [r])) (hk : Keep (fun k => blk rv = some k) V w5) (hv : ∀ k, blk v5 = some k → blk rv = some k ∨ V.heap.size ≤ k) (hbr : r.b ≠ [] → ∀ a, r.a = some a → ¬ GL db sb vw lb rv a.block ∧ a.block < V.heap.size) :
    Lg base ((w5.setCell ⟨lb, 5, none⟩ v5).setCell ⟨lb, 6, none⟩ (.int .i64 (z : Int))) lb db sb n vw v5 S Q { h := L.h, used := z, ours := L.ours, waits := L.waits, down := L.down } (R ++ [r]) ∧ Gfr db sb lb vw vw rv v5 V ((w5.setCell ⟨lb, 5, none⟩ v5).setCell ⟨lb, 6, none⟩ (.int .i64 (z : Int))) := by
  have hl5 : Lk w5 lb db rv L := h.l.kept hk (fun e => h.roff lb e (.inl rfl))
  have hl6 : Lk ((w5.setCell ⟨lb, 5, none⟩ v5).setCell ⟨lb, 6, none⟩ (.int .i64 (z : Int))) lb db v5 { h := L.h, used := z, ours := L.ours, waits := L.waits, down := L.down } := by
    unfold Lk at hl5
    have h1 := set_at (k := 5) v5 hl5
    simp only [List.setIfInBounds_toArray, List.set_cons_succ, List.set_cons_zero] at h1
    have h2 := set_at (k := 6) (.int .i64 (z : Int)) h1
    simp only [List.setIfInBounds_toArray, List.set_cons_succ, List.set_cons_zero] at h2
    exact h2
  have hkL : Keep (fun k => k = lb) w5 ((w5.setCell ⟨lb, 5, none⟩ v5).setCell ⟨lb, 6, none⟩ (.int .i64 (z : Int))) := (Keep.set (X := fun k => k = lb) w5 ⟨lb, 5, none⟩ _ rfl).trans (Keep.set (X := fun k => k = lb) _ ⟨lb, 6, none⟩ _ rfl)
  have hkX : Keep (fun k => k = lb ∨ blk rv = some k) V ((w5.setCell ⟨lb, 5, none⟩ v5).setCell ⟨lb, 6, none⟩ (.int .i64 (z : Int))) := (hk.mono (fun _ _ e => .inr e)).trans (hkL.mono (fun _ _ e => .inl e))
  have hfar : ∀ k, V.heap.size ≤ k → ¬ DL db sb vw lb k := fun k hk9 e => by
    have := (h.lt k (.inl e)).2
    omega
  have hoff : ∀ q ∈ R ++ [r], q.b ≠ [] → ∀ a, q.a = some a → ¬ GL db sb vw lb rv a.block ∧ a.block < V.heap.size := fun q hq hne a ha => by
    rcases List.mem_append.1 hq with hq | hq
    · exact ⟨h.boff q hq hne a ha, rd_block (h.r.each q hq) hne a ha⟩
    · obtain rfl := List.mem_singleton.1 hq
      exact hbr hne a ha
  refine ⟨⟨h.d.kept hkX (fun k hk9 e => ?_), hl6, h.nlb, hr.kept hkL (fun k hk9 e => ?_) (fun q hq hne a ha e => (hoff q hq hne a ha).1 (.inl (.inl e))), fun k hk9 e => ?_, fun q hq hne a ha e => ?_, ⟨h.lo.1, fun k hk9 => ?_⟩⟩, hkX.mono (fun k _ e => ?_), fun k hk9 => ?_⟩
  · rcases e with e | e
    · exact h.nlb (by rw [← e]; exact hk9)
    · exact h.roff k e (.inr hk9)
  · rcases hv k hk9 with e9 | e9
    · exact h.roff k e9 (.inl e)
    · exact hfar k e9 (.inl e)
  · rcases hv k hk9 with e9 | e9
    · exact h.roff k e9 e
    · exact hfar k e9 e
  · have h9 := hoff q hq hne a ha
    rcases e with e | e
    · exact h9.1 (.inl e)
    · rcases hv _ e with e | e
      · exact h9.1 (.inr e)
      · omega
  · rcases hv k hk9 with e9 | e9
    · exact h.lo.2 k e9
    · have h1 := h.lo.1
      have h2 := h.l.lt
      omega
  · rcases e with e | e
    · exact .inl (.inl e)
    · exact .inr e
  · rcases hk9 with e | e
    · exact .inl (.inl e)
    · rcases hv k e with e | e
      · exact .inl (.inr e)
      · exact .inr e

section
variable {base : Nat} {w w' : World} {lb db sb n : Nat} {vw rv vw' rv' : Value} {S S' : List (List UInt8)} {Q Q' : List Wr} {L L' : Ls} {R R' : List Rc}

set_option maxHeartbeats 16000000 in
theorem add_any {x : Value} {l : List UInt8} (h : Lg base w lb db sb n vw rv S Q L R) (hc : AddC base w lb db sb n vw rv S Q L R x l) (hx : Rd w x l) (PP : World → Prop) (hP : ∀ w', AddP base lb db sb n vw rv S Q L R l w w' → PP w') :
    Calls Tryz.prog 118 #[.pointer (some ⟨lb, 0, none⟩), x] w (fun e w' => e = .returned .nilIface ∧ PP w') := by
  obtain ⟨ao, c, rfl, -⟩ := id hx
  have hb1 : Below w.heap.size w ((w.alloc (.cells #[.pointer (some ⟨lb, 0, none⟩)] 73)).alloc (.cells #[.nilIface] 43)) := ((Below.refl _ _).alloc (Nat.le_refl _) _).alloc (by simp) _
  have hx1 : ((w.alloc (.cells #[.pointer (some ⟨lb, 0, none⟩)] 73)).alloc (.cells #[.nilIface] 43)).heap[w.heap.size]? = some (.cells #[.pointer (some ⟨lb, 0, none⟩)] 73 (0, 0)) := (Below.heap_alloc _ _ _ (by simp)).trans (heap_alloc_new _ _)
  have hy1 : ((w.alloc (.cells #[.pointer (some ⟨lb, 0, none⟩)] 73)).alloc (.cells #[.nilIface] 43)).heap[w.heap.size + 1]? = some (.cells #[.nilIface] 43 (0, 0)) := heap_alloc2_new _ _ _
  have hd1 := h.old hb1
  have HX1 := hid hx1
  have HY1 := hid hy1
  have hl := hc.hl
  have hn := hc.hn
  have hR := hc.hR
  have AD : Hid (∀ (V : World) (vw1 rv1 : Value) (Q1 : List Wr), Lg base V lb db sb n vw1 rv1 (sA n L R S) Q1 { h := hdA n L R, used := L.used, ours := true, waits := Q1.length, down := L.down } R → Q1 = qB L Q → Gfr db sb lb vw vw1 rv rv1 ((w.alloc (.cells #[.pointer (some ⟨lb, 0, none⟩)] 73)).alloc (.cells #[.nilIface] 43)) V → AddH base lb db sb n R (.slice ao l.length c) l PP w.heap.size V) :=
    hid fun V vw1 rv1 Q1 q1 q2 q3 => addH_of h hc hx hb1 hP hx1 hy1 q1 q2 q3
  have hg0 : ∀ j, j = 0 → gones R j = 0 := fun j hj => by
    subst hj
    unfold gones
    simp
  have CL : Hid (L.ours = false → Calls Tryz.prog 130 #[.pointer (some ⟨lb, 0, none⟩), .int .i64 0] ((w.alloc (.cells #[.pointer (some ⟨lb, 0, none⟩)] 73)).alloc (.cells #[.nilIface] 43)) (fun e w' => e = .returned .nilIface ∧ ∃ vw' rv', Lg base w' lb db sb n vw' rv' (S.set ((L.h.tn + 1) % 2) (hSec (nextH n L R 0))) [] { h := nextH n L R 0, used := L.used - gones R 0, ours := true, waits := 0, down := L.down } (R.drop 0) ∧ Gfr db sb lb vw vw' rv rv' ((w.alloc (.cells #[.pointer (some ⟨lb, 0, none⟩)] 73)).alloc (.cells #[.nilIface] 43)) w')) :=
    hid fun ho => lay_ok hd1 0 (Nat.zero_le _) (by omega) hn (by rw [hg0 0 rfl]; omega) (by have := hc.hfit; omega) hc.hk (hc.ht ho) (by have := hc.hk.fi; omega) hc.hrl (fun j hj => by rw [hg0 j (by omega)]; omega)
  have H := hid h
  have HC := hid hc
  clear h hx hP hb1 hx1 hy1 hg0 hc
  refine calls_marks Tryz.func118 rfl ?_
  simp only [Tryz.ntmps118, List.size_toArray, List.length_cons, List.length_nil, Nat.reduceAdd, Nat.reduceSub, Array.replicate_succ, Array.replicate_zero, List.push_toArray, List.append_toArray, List.nil_append, List.cons_append]
  go_upto_region 1 with fail
  generalize (w.alloc (.cells #[.pointer (some ⟨lb, 0, none⟩)] 73)).alloc (.cells #[.nilIface] 43) = w1 at *
  obtain ⟨c0, c1, c2, c3, c4, c5, c6, c7, -⟩ := hd1.l.cells
  have d0 : w1.cell? ⟨w.heap.size, 0, none⟩ = some (.pointer (some ⟨lb, 0, none⟩)) := by simp [World.cell?, HX1.out]
  go_upto_if 13 with (fail)
  go_cut [] from 5 to 18 (fun wx => AddH base lb db sb n R (.slice ao l.length c) l PP w.heap.size wx)
  case first =>
    cases ho : L.ours with
    | true =>
      rw [ho] at c7
      have AH := hid (AD.out w1 vw rv Q (by
        have e1 : sA n L R S = S := by simp [sA, ho]
        have e2 : hdA n L R = L.h := by simp [hdA, ho]
        rw [e1, e2, ← HC.out.hw, ← ho]
        exact hd1) (by simp [qB, ho]) (Gfr.refl _ _ _ _ _ _))
      clear hd1 ho
      go_wp2_with fail
      go_meet
      exact AH.out
    | false =>
      rw [ho] at c7
      have CL2 := hid (CL.out ho)
      have AH : Hid (∀ V vw1 rv1, Lg base V lb db sb n vw1 rv1 (S.set ((L.h.tn + 1) % 2) (hSec (nextH n L R 0))) [] { h := nextH n L R 0, used := L.used - gones R 0, ours := true, waits := 0, down := L.down } (R.drop 0) → Gfr db sb lb vw vw1 rv rv1 w1 V → AddH base lb db sb n R (.slice ao l.length c) l PP w.heap.size V) := hid fun V vw1 rv1 q1 q2 => AD.out V vw1 rv1 [] (by
        have e1 : sA n L R S = S.set ((L.h.tn + 1) % 2) (hSec (nextH n L R 0)) := by simp [sA, ho]
        have e2 : hdA n L R = nextH n L R 0 := by simp [hdA, ho]
        have e3 : gones R 0 = 0 := by unfold gones; simp
        rw [e1, e2]
        rw [e3] at q1
        exact q1) (by simp [qB, ho]) q2
      clear hd1 ho CL
      go_wp2_with (first | (go_at_call 130; refine CL2.out.mono ?_; rintro e w4 ⟨rfl, vw1, rv1, hL4, hG4⟩))
      go_meet
      exact AH.out _ _ _ hL4 hG4
  case rest =>
  generalize wc = w1 at *
  clear c0 c1 c2 c3 c4 c5 c6 c7 d0 hd1 HX1 AD CL H HC HY1
  obtain ⟨vw, rv, S, Q, L, h, ho, hw, hk, hfit, hQ, hsu, hnm, hlo, hxl, hx, hx1, hy1, HFN⟩ := hcut
  have H := hid h
  have HX := hid hx
  have HS1 : Hid (w.heap.size ≤ w1.heap.size) := hid (by have := lt_of_block hx1; omega)
  have hxo : l ≠ [] → ∀ k, blk (.slice ao l.length c) = some k → ¬ GL db sb vw lb rv k := fun hne k hk => (hxl hne k hk).1
  have hxo2 : l ≠ [] → ∀ k, blk (.slice ao l.length c) = some k → k < w.heap.size := fun hne k hk => (hxl hne k hk).2
  obtain ⟨c0, c1, c2, c3, c4, c5, c6, c7, -⟩ := h.l.cells
  have d0 : w1.cell? ⟨w.heap.size, 0, none⟩ = some (.pointer (some ⟨lb, 0, none⟩)) := by simp [World.cell?, hx1]
  have HNM := hid hnm
  have HLO := hid hlo
  have HXL := hid hxl
  have HXO := hid hxo
  have HXO2 := hid hxo2
  clear hnm hlo hxl hxo hxo2 h hx
  go_upto_region 6 with fail
  have hb2 : Below w1.heap.size w1 (w1.alloc (.cells #[.int .i64 (L.used : Int)] 3)) := (Below.refl _ _).alloc (Nat.le_refl _) _
  have hx2 : (w1.alloc (.cells #[.int .i64 (L.used : Int)] 3)).heap[w1.heap.size]? = some (.cells #[.int .i64 (L.used : Int)] 3 (0, 0)) := heap_alloc_new _ _
  generalize w1.alloc (.cells #[.int .i64 (L.used : Int)] 3) = w2 at *
  have hX2 := HX.out.old hb2
  have hnm := HNM.out
  have hxo := HXO.out
  have hxo2 := HXO2.out
  have CP := hid (pieces_any w2 _ l hX2 hl)
  have HD2 := hid (H.out.old hb2)
  have HA2 := hid ((hb2.block _ (lt_of_block hx1)).trans hx1)
  have HA4 := hid ((hb2.block _ (lt_of_block hy1)).trans hy1)
  have HA6 := hid hx2
  have HX2 := hid hX2
  have HS12 : Hid (w.heap.size + 1 < w1.heap.size) := lt_of_block hy1
  have HB2 := hid hb2
  clear c0 c1 c2 c3 c4 c5 c6 c7 d0 hx1 hy1 hb2 hx2 hX2
  go_wp2_with (first | (go_at_call 132; refine CP.out.mono ?_; unfold PiecesA; rintro e w4 ⟨Bs, Bn, y, rfl, hBs, hBn, hs4, hn4, hy4, hb4⟩))
  obtain ⟨yo, yc, rfl⟩ := own_form hy4
  obtain ⟨B, hB⟩ : ∃ B, B = recB l := ⟨_, rfl⟩
  rw [← hB] at hy4 hs4
  have hBl : B.length = 8 + l.length := by rw [hB]; unfold recB; rw [List.length_append, le8_len]
  have HBB := hid hB
  clear hB
  have HD4 := hid (HD2.out.old hb4)
  have hA2l : w.heap.size < w2.heap.size := lt_of_block HA2.out
  have hA6l : w1.heap.size < w2.heap.size := lt_of_block HA6.out
  have hGL : ∀ k, GL db sb vw lb rv k → k < w1.heap.size ∧ k ≠ w.heap.size ∧ k ≠ w.heap.size + 1 := HLO.out
  have hnx : ∀ k, w2.heap.size ≤ k → ¬ (GL db sb vw lb rv k ∨ k = w1.heap.size) := fun k hk e => by
    rcases e with e | e
    · have := hGL k e; omega
    · omega
  have hs24 := hb4.size
  refine wpIn_wide.1 (range_outer (n := 9) rfl (by omega) (gf := 119) (lb := #[.pointer (some ⟨Bs, 0, none⟩), .pointer (some ⟨Bn, 0, none⟩)]) ?hg trivial (enters_of Tryz.func119 (by kernel_rfl) rfl)
    (encs := fun k : Nat => #[pcv yo B k]) (Kp := KpP (fun k => GL db sb vw lb rv k ∨ k = w1.heap.size) w4.heap.size) (Rx := RxC yo B) (S := fun xs => xs = List.range ((B.length + 55) / 56)) (Sp := fun _ => True) (w0 := w4)
    ?hseq (fun h k => h.trans k) (fun W W' l hl ht => KpP.turn ht hl) (Below.refl _ _) (fun _ => rfl)
    (fun pre W => AddI base w4 lb db sb n vw rv S Q L R B w1.heap.size pre.length W) (fun _ _ _ => False)
    ?hI (fun c pre W W' row hs _ _ => hs) ?h0 ?round ?done (fun D c pre W _ _ h _ => h.elim))
  case hg => rfl
  case hseq =>
    intro l J Jx W hW hJo hJxo hY h0
    refine (chunk_in (9 - 1) (by omega) l Bs Bn yo yc B (KpP (fun k => GL db sb vw lb rv k ∨ k = w1.heap.size) w4.heap.size) J Jx W (by omega) (KpP.refl _ _ _) (fun h k => h.trans k) (fun A C hA hb => KpP.of hb (Nat.le_trans hW.size hA.size)) (fun A C h => h.size) (fun p A C hp hb => own_below hJo hp hb) hY (fun W' hk => ?_) h0).mono ?_
    · have hk2 : KpP (fun k => GL db sb vw lb rv k ∨ k = w1.heap.size) w4.heap.size w4 W' := (KpP.of hW (Nat.le_refl _)).trans hk
      have e1 := (hk2.block Bs (lt_of_block hs4) (hnx _ hBs)).trans hs4
      have e2 := (hk2.block Bn (lt_of_block hn4) (hnx _ hBn)).trans hn4
      refine ⟨by simp [World.cell?, e1], by simp [World.cell?, e2], (Rd.own hy4).keep hk2.toKeep (fun _ k hb e => ?_)⟩
      obtain ⟨a, ha, hak⟩ := blk_of hb
      have h9 := hy4.lt k (by rw [← hak]; rw [ha]; rfl)
      rcases e with e | e
      · omega
      · exact hnx k h9.1 e
    · rintro e W' ⟨h1, h2 | ⟨pre, h2⟩⟩
      · exact ⟨h1, .inl h2⟩
      · exact ⟨h1, .inr ⟨pre, trivial, h2⟩⟩
  case hI =>
    intro pre W W' row hs hg hr
    exact hs.grown hg hr
  case h0 =>
    refine ⟨⟨vw, Q, by rw [← hw]; exact HD4.out, by simp [addQ], fun _ h => .inl h⟩, (hb4.block _ hA6l).trans HA6.out, KpP.refl _ _ _⟩
  case round =>
    rintro l9 pre k W hl9 hr hI ⟨hkj, hkB, hrd⟩
    obtain ⟨j, hj⟩ : ∃ j, j = pre.length := ⟨_, rfl⟩
    rw [← hj] at hI hkj
    subst hkj
    have HJJ := hid hj
    clear hj
    gi_wp2
    refine ⟨KeepsFrom.refl _ _, KpP.refl _ _ _, fun Wb hT => ?_⟩
    have hIb := hI.grown hT.grown (fun r e => by cases e; exact ⟨hl9, hT.old⟩)
    have hrdb : Rd Wb (pcv yo B k) (pc B k) := hrd.keep (Keep.of_grown (X := fun i => some l9 = some i) hT.grown (fun _ e => e)) (fun _ i hb e => by
      cases e
      obtain ⟨a, ha, hak⟩ := blk_of hb
      cases yo with
      | none => cases ha
      | some a0 =>
        have h9 := hy4.lt a0.block rfl
        simp at ha
        rw [← ha, add_block] at hak
        omega)
    obtain ⟨vwk, Qk, hLk, hQk0, hFk⟩ := hIb.log
    have hQk : Qk.length = Q.length + k := by rw [hQk0, List.length_append, addQ_len]
    have HQk0 := hid hQk0
    clear hQk0
    have f2 := (hIb.keep.block w.heap.size (by omega) (by
      rintro (e | e)
      · have := hGL _ e; omega
      · have := HS12.out; omega)).trans ((hb4.block _ hA2l).trans HA2.out)
    obtain ⟨z, hz⟩ : ∃ z, z = L.used + k := ⟨_, rfl⟩
    have f6 := hIb.at'
    rw [← hz] at f6
    have e1 : Wb.cell? ⟨w.heap.size, 0, none⟩ = some (.pointer (some ⟨lb, 0, none⟩)) := by simp [World.cell?, f2]
    have e6 : Wb.cell? ⟨w1.heap.size, 0, none⟩ = some (.int .i64 (z : Int)) := by simp [World.cell?, f6]
    have n2 : ¬ GL db sb vwk lb rv w.heap.size := fun e => by
      rcases hFk _ e with e | e
      · have := hGL _ e; omega
      · omega
    have n6 : ¬ GL db sb vwk lb rv w1.heap.size := fun e => by
      have := HS12.out
      rcases hFk _ e with e | e
      · have := hGL _ e; omega
      · omega
    have N2 := hid n2
    have N6 := hid n6
    have HFk := hid hFk
    have HHT := hid hT
    have HQk := hid hQk
    have HHl := hid hl9
    have HF6 := hid f6
    clear n2 n6
    have HIb := hid hIb
    have HRD := hid hrdb
    have HLk := hid hLk
    have HZ := hid hz
    clear hI hr hrd hIb hrdb hLk hFk hz f2 f6 hnx hGL
    gi_upto_region 8 with fail
    obtain ⟨S9, hS9⟩ : ∃ S9 : World → Prop, S9 = fun V => V.cell? ⟨w.heap.size, 0, none⟩ = some (.pointer (some ⟨lb, 0, none⟩)) ∧ V.cell? ⟨w1.heap.size, 0, none⟩ = some (.int .i64 (z : Int)) := ⟨_, rfl⟩
    have hY : ∀ V, S9 V → V.cell? ⟨w.heap.size, 0, none⟩ = some (.pointer (some ⟨lb, 0, none⟩)) ∧ V.cell? ⟨w1.heap.size, 0, none⟩ = some (.int .i64 (z : Int)) := fun V h => by rw [hS9] at h; exact h
    have hY2 : ∀ V, V.cell? ⟨w.heap.size, 0, none⟩ = some (.pointer (some ⟨lb, 0, none⟩)) → V.cell? ⟨w1.heap.size, 0, none⟩ = some (.int .i64 (z : Int)) → S9 V := fun V h1 h2 => by rw [hS9]; exact ⟨h1, h2⟩
    clear hS9
    refine region_held_in (S := S9) (by kernel_rfl) ?hlo (calls_all [123, 124, 134, 133] ?hfs ?hops) (hY2 _ e1 e6) (fun hX9 => ?_)
    case hlo =>
      rintro ⟨a9, w9, h9⟩
      exact h9
    case hfs =>
      intro f hf
      simp only [List.mem_cons, List.not_mem_nil, or_false] at hf
      rcases hf with rfl | rfl | rfl | rfl
      · exact enters_of Tryz.func123 (by kernel_rfl) rfl
      · exact enters_of Tryz.func124 (by kernel_rfl) rfl
      · exact enters_of Tryz.func134 (by kernel_rfl) rfl
      · exact enters_of Tryz.func133 (by kernel_rfl) rfl
    case hops =>
      intro o ho9
      simp only [List.mem_cons, List.not_mem_nil, or_false] at ho9
      rcases ho9 with rfl | rfl | rfl | rfl | rfl | rfl | rfl | rfl | rfl | rfl | rfl
      all_goals first | exact .inl rfl | exact .inr (.inl ⟨_, rfl⟩) | exact .inr (.inr ⟨_, _, _, by simp, rfl⟩)
    refine wpAnyH_take (i := 0) (v := (.pointer (some ⟨lb, 0, none⟩))) rfl (by kernel_rfl) (by kernel_rfl) (by kernel_rfl) (fun _ _ _ h => (show False from h).elim) ?xyR0 ?xhR0 ?xrR0
    case xhR0 => exact hX9
    case xyR0 => exact Or.inl ⟨by rfl, fun W9 hW => by obtain ⟨hc1, hc2⟩ := hY W9 hW; clear hY hY2 hX9; simp only [List.getElem_toArray, List.getElem_cons_succ, List.getElem_cons_zero]; go_simp⟩
    simp only [Act.put, List.getElem_toArray, List.getElem_cons_succ, List.getElem_cons_zero, List.setIfInBounds_toArray, List.set_cons_succ, List.set_cons_zero]
    refine wpAnyH_take (i := 1) (v := (.pointer (some ⟨lb, 0, none⟩))) rfl (by kernel_rfl) (by kernel_rfl) (by kernel_rfl) (fun _ _ _ h => (show False from h).elim) ?xyR1 ?xhR1 ?xrR1
    case xhR1 => exact hX9
    case xyR1 => exact Or.inl ⟨by rfl, fun W9 hW => by obtain ⟨hc1, hc2⟩ := hY W9 hW; clear hY hY2 hX9; simp only [List.getElem_toArray, List.getElem_cons_succ, List.getElem_cons_zero]; go_simp⟩
    simp only [Act.put, List.getElem_toArray, List.getElem_cons_succ, List.getElem_cons_zero, List.setIfInBounds_toArray, List.set_cons_succ, List.set_cons_zero]
    refine wpAnyH_take (i := 2) (v := (.int .i64 (z : Int))) rfl (by kernel_rfl) (by kernel_rfl) (by kernel_rfl) (fun _ _ _ h => (show False from h).elim) ?xyR2 ?xhR2 ?xrR2
    case xhR2 => exact hX9
    case xyR2 => exact Or.inl ⟨by rfl, fun W9 hW => by obtain ⟨hc1, hc2⟩ := hY W9 hW; clear hY hY2 hX9; simp only [List.getElem_toArray, List.getElem_cons_succ, List.getElem_cons_zero]; go_simp⟩
    simp only [Act.put, List.getElem_toArray, List.getElem_cons_succ, List.getElem_cons_zero, List.setIfInBounds_toArray, List.set_cons_succ, List.set_cons_zero]
    refine wpAnyH_take (i := 4) (v := (pcv yo B k)) rfl (by kernel_rfl) (by kernel_rfl) (by kernel_rfl) (fun _ _ _ h => (show False from h).elim) ?xyR4 ?xhR4 ?xrR4
    case xhR4 => exact hX9
    case xyR4 => exact Or.inl ⟨by rfl, fun W9 hW => by obtain ⟨hc1, hc2⟩ := hY W9 hW; clear hY hY2 hX9; simp only [List.getElem_toArray, List.getElem_cons_succ, List.getElem_cons_zero]; go_simp⟩
    simp only [Act.put, List.getElem_toArray, List.getElem_cons_succ, List.getElem_cons_zero, List.setIfInBounds_toArray, List.set_cons_succ, List.set_cons_zero]
    refine wpAnyH_take (i := 5) (v := (.pointer (some ⟨lb, 0, none⟩))) rfl (by kernel_rfl) (by kernel_rfl) (by kernel_rfl) (fun _ _ _ h => (show False from h).elim) ?xyR5 ?xhR5 ?xrR5
    case xhR5 => exact hX9
    case xyR5 => exact Or.inl ⟨by rfl, fun W9 hW => by obtain ⟨hc1, hc2⟩ := hY W9 hW; clear hY hY2 hX9; simp only [List.getElem_toArray, List.getElem_cons_succ, List.getElem_cons_zero]; go_simp⟩
    simp only [Act.put, List.getElem_toArray, List.getElem_cons_succ, List.getElem_cons_zero, List.setIfInBounds_toArray, List.set_cons_succ, List.set_cons_zero]
    refine wpAnyH_take (i := 6) (v := (.int .i64 (z : Int))) rfl (by kernel_rfl) (by kernel_rfl) (by kernel_rfl) (fun _ _ _ h => (show False from h).elim) ?xyR6 ?xhR6 ?xrR6
    case xhR6 => exact hX9
    case xyR6 => exact Or.inl ⟨by rfl, fun W9 hW => by obtain ⟨hc1, hc2⟩ := hY W9 hW; clear hY hY2 hX9; simp only [List.getElem_toArray, List.getElem_cons_succ, List.getElem_cons_zero]; go_simp⟩
    simp only [Act.put, List.getElem_toArray, List.getElem_cons_succ, List.getElem_cons_zero, List.setIfInBounds_toArray, List.set_cons_succ, List.set_cons_zero]
    refine wpAnyH_all (rs := [3]) (by kernel_rfl) (by simp) (fun i hi => ?_)
    obtain rfl : i = 3 := by simpa using hi
    unfold wpOp
    simp only [List.getElem?_toArray, List.getElem?_cons_succ, List.getElem?_cons_zero]
    rw [if_pos (by rfl)]
    refine .inl ?_
    have hpl := (HLk.out.old (Below.refl _ _).drew)
    have hz9 : z ≤ 131072 := by have := HZ.out; have := HLk.out.d.few.2.1; unfold secs at hfit; omega
    refine wp_callop 123 _ _ rfl (enters_of Tryz.func123 (by kernel_rfl) rfl) (args := #[.pointer (some ⟨lb, 0, none⟩), .int .i64 (z : Int)]) (by go_simp) (place_any hpl.l hpl.d z hn hk.fr hz9) (fun e V9 hP9 => ?_)
    obtain ⟨rfl, m9, rfl⟩ := hP9
    refine ⟨_, rfl, hY2 _ (by go_simp) (by go_simp), ?_⟩
    simp only [Act.put, List.getElem_toArray, List.getElem_cons_succ, List.getElem_cons_zero, List.setIfInBounds_toArray, List.set_cons_succ, List.set_cons_zero]
    refine wpAnyH_all (rs := [7]) (by kernel_rfl) (by simp) (fun i hi => ?_)
    obtain rfl : i = 7 := by simpa using hi
    unfold wpOp
    simp only [List.getElem?_toArray, List.getElem?_cons_succ, List.getElem?_cons_zero]
    rw [if_pos (by rfl)]
    refine .inl ?_
    have hb7 : Below Wb.heap.size Wb (Wb.drew.drewN m9) := ⟨rfl, rfl, rfl, Nat.le_refl _, fun _ _ => rfl⟩
    have hp7 := HLk.out.old hb7
    refine wp_callop 124 _ _ rfl (enters_of Tryz.func124 (by kernel_rfl) rfl) (args := #[.pointer (some ⟨lb, 0, none⟩), .int .i64 (z : Int)]) (by go_simp) (number_any hp7.l hp7.d z (by have := HZ.out; show L.h.su ≤ z; omega) hz9 (hnm z hz9)) (fun e V9 hP9 => ?_)
    obtain ⟨rfl, m7, rfl⟩ := hP9
    refine ⟨_, rfl, hY2 _ (by go_simp) (by go_simp), ?_⟩
    simp only [Act.put, List.getElem_toArray, List.getElem_cons_succ, List.getElem_cons_zero, List.setIfInBounds_toArray, List.set_cons_succ, List.set_cons_zero]
    refine wpAnyH_all (rs := [8]) (by kernel_rfl) (by simp) (fun i hi => ?_)
    obtain rfl : i = 8 := by simpa using hi
    unfold wpOp
    simp only [List.getElem?_toArray, List.getElem?_cons_succ, List.getElem?_cons_zero]
    rw [if_pos (by rfl)]
    refine .inl ?_
    have hb8 : Below Wb.heap.size Wb ((Wb.drew.drewN m9).drewN m7) := ⟨rfl, rfl, rfl, Nat.le_refl _, fun _ _ => rfl⟩
    have hpl9 := pc_len B k
    refine wp_callop 134 _ _ rfl (enters_of Tryz.func134 (by kernel_rfl) rfl) (args := #[pcv yo B k, .int .u64 (nmb n L.h z : Int)]) (by go_simp) (sealed_any _ (pcv yo B k) (pc B k) (nmb n L.h z) (HRD.out.old hb8) (by omega) (by omega) (hnm z hz9)) (fun e V3 hP9 => ?_)
    obtain ⟨xv, rfl, hxv, hb3⟩ := hP9
    obtain ⟨xo, xc, rfl⟩ := own_form hxv
    have hb3' : Below Wb.heap.size Wb V3 := hb8.trans hb3
    have g1 : V3.cell? ⟨w.heap.size, 0, none⟩ = some (.pointer (some ⟨lb, 0, none⟩)) := (World.cell?_of_block (w := Wb) (a := ⟨w.heap.size, 0, none⟩) (hb3'.block _ (World.block_lt_of_cell? Wb _ e1))).trans e1
    have g6 : V3.cell? ⟨w1.heap.size, 0, none⟩ = some (.int .i64 (z : Int)) := (World.cell?_of_block (w := Wb) (a := ⟨w1.heap.size, 0, none⟩) (hb3'.block _ (World.block_lt_of_cell? Wb _ e6))).trans e6
    refine ⟨_, rfl, hY2 _ g1 g6, ?_⟩
    simp only [Act.put, List.getElem_toArray, List.getElem_cons_succ, List.getElem_cons_zero, List.setIfInBounds_toArray, List.set_cons_succ, List.set_cons_zero]
    refine wpAnyH_all (rs := [9]) (by kernel_rfl) (by simp) (fun i hi => ?_)
    obtain rfl : i = 9 := by simpa using hi
    unfold wpOp
    simp only [List.getElem?_toArray, List.getElem?_cons_succ, List.getElem?_cons_zero]
    rw [if_pos (by rfl)]
    refine .inl ?_
    have hp3 := HLk.out.old hb3'
    have hplc : plc n L.h z < n := by
      unfold plc
      have := Nat.mod_lt (L.h.fr + z) (show 0 < n - 2 by omega)
      omega
    have hlen3 := addS_len n L.h L.used B S k
    have hs3 : (addS n L.h L.used B S k)[plc n L.h z]? = some ((addS n L.h L.used B S k)[plc n L.h z]'(by have := hp3.d.few.1; omega)) := List.getElem?_eq_getElem _
    generalize (addS n L.h L.used B S k)[plc n L.h z]'_ = s0 at hs3
    have HS0 : Hid ((addS n L.h L.used B S k).getD (plc n L.h z) [] = s0) := hid (by rw [List.getD_eq_getElem?_getD, hs3]; rfl)
    refine wp_callop 133 _ _ rfl (enters_of Tryz.func133 (by kernel_rfl) rfl) (args := #[.pointer (some ⟨lb, 0, none⟩), .int .i64 (plc n L.h z : Int), .slice xo (secB (pc B k) (nmb n L.h z)).length xc]) (by go_simp) (lwrite_ok hp3.l hp3.d hp3.nlb _ (secB (pc B k) (nmb n L.h z)) (plc n L.h z) s0 hs3 hplc (Rd.own hxv) (secB_len (by omega)) (by omega)) (fun e W5 hP9 => ?_)
    obtain ⟨rfl, vw5, q1, q2, q3, q4⟩ := hP9
    obtain ⟨hL5, hF5⟩ := hp3.lfr q1 q2 q3 q4
    have hK5 : Keep (GL db sb vwk lb rv) Wb W5 := (Keep.of_below hb3').trans hF5.keep
    have k2 : W5.cell? ⟨w.heap.size, 0, none⟩ = some (.pointer (some ⟨lb, 0, none⟩)) := (World.cell?_of_block (w := Wb) (a := ⟨w.heap.size, 0, none⟩) (hK5.block _ (World.block_lt_of_cell? Wb _ e1) N2.out)).trans e1
    have b6 : W5.heap[w1.heap.size]? = some (.cells #[.int .i64 (z : Int)] 3 (0, 0)) := (hK5.block _ (lt_of_block HF6.out) N6.out).trans HF6.out
    have k6 : W5.cell? ⟨w1.heap.size, 0, none⟩ = some (.int .i64 (z : Int)) := by simp [World.cell?, b6]
    have s6 : W5.frozen? ⟨w1.heap.size, 0, none⟩ = false := by simp [World.frozen?, b6]
    have hX9 := hY2 _ k2 k6
    refine ⟨_, rfl, hX9, ?_⟩
    simp only [Act.put, List.getElem_toArray, List.getElem_cons_succ, List.getElem_cons_zero, List.setIfInBounds_toArray, List.set_cons_succ, List.set_cons_zero]
    refine wpAnyH_take (i := 10) (v := .nilIface) rfl (by kernel_rfl) (by kernel_rfl) (by kernel_rfl) (fun _ _ _ h => (show False from h).elim) ?xyRa ?xhRa ?xrRa
    case xhRa => exact hX9
    case xyRa => exact Or.inl ⟨by rfl, fun W9 hW => by clear hY hY2 hX9; simp only [List.getElem_toArray, List.getElem_cons_succ, List.getElem_cons_zero]; go_simp⟩
    simp only [Act.put, List.getElem_toArray, List.getElem_cons_succ, List.getElem_cons_zero, List.setIfInBounds_toArray, List.set_cons_succ, List.set_cons_zero]
    refine wpAnyH_done (by kernel_rfl) ?_ _
    have HL5 := hid hL5
    have HF5 := hid hF5
    have HK5 := hid hK5
    have HB6 := hid b6
    have HB3 := hid hb3'
    have hwz : IntKind.i64.wrap ((z : Int) + 1) = ((z + 1 : Nat) : Int) := by rw [IntKind.wrap_i64]; omega
    clear hpl hb7 hp7 hb8 hxv hb3 hb3' g1 g6 hp3 hlen3 hs3 q1 q2 q3 q4 hL5 hF5 hK5 hX9 hY hY2 e1 e6 b6 hQk hT hl9 hplc hpl9
    gi_wp2
    have hw4 := HIb.out.keep.size
    have hkS : Keep (fun i => GL db sb vwk lb rv i ∨ i = w1.heap.size) Wb (W5.setCell ⟨w1.heap.size, 0, none⟩ (.int .i64 ((z : Int) + 1))) := (HK5.out.mono (fun _ _ e => .inl e)).trans (Keep.set (X := fun i => GL db sb vwk lb rv i ∨ i = w1.heap.size) W5 ⟨w1.heap.size, 0, none⟩ _ (.inr rfl))
    refine ⟨(HLk.out.keepsFrom HK5.out _).trans ⟨by simp, fun i o h1 h2 h3 => (Below.heap_setCell _ _ _ i (by show i ≠ w1.heap.size; omega)).trans h2⟩, KpP.of_keep hkS hw4 (fun i e h9 => ?_), ?_⟩
    · rcases e with e | e
      · rcases HFk.out _ e with e | e
        · exact .inl e
        · omega
      · exact .inr e
    · have hlp : (pre ++ [k]).length = k + 1 := by rw [List.length_append, ← HJJ.out]; rfl
      show AddI base w4 lb db sb n vw rv S Q L R B w1.heap.size (pre ++ [k]).length _
      rw [hlp]
      have n9 : ¬ GL db sb vw5 lb rv w1.heap.size := fun e => by
        rcases HF5.out.new _ e with e | e
        · exact N6.out e
        · have := HB3.out.size; omega
      have h9 := HL5.out.kept (X := fun i => i = w1.heap.size) (Keep.set W5 ⟨w1.heap.size, 0, none⟩ (.int .i64 ((z : Int) + 1)) rfl) (fun i hi e => n9 (by rw [← e]; exact hi)) (fun r hr hne a ha e => by
        have := rd_block (H.out.r.each r hr) hne a ha
        have := HS12.out
        omega)
      refine ⟨⟨vw5, Qk ++ [⟨plc n L.h z, s0, secB (pc B k) (nmb n L.h z)⟩], ?_, ?_, fun i hi => ?_⟩, ?_, HIb.out.keep.trans (KpP.of_keep hkS hw4 (fun i e h9 => ?_))⟩
      · have el : (Qk ++ [(⟨plc n L.h z, s0, secB (pc B k) (nmb n L.h z)⟩ : Wr)]).length = Qk.length + 1 := by simp
        rw [el]
        have ez : addS n L.h L.used B S (k + 1) = (addS n L.h L.used B S k).set (plc n L.h z) (secB (pc B k) (nmb n L.h z)) := by rw [addS, HZ.out]
        rw [ez]
        exact h9
      · rw [HQk0.out, List.append_assoc]
        have := HS0.out
        rw [addQ, ← HZ.out, this]
      · rcases HF5.out.new _ hi with e | e
        · exact HFk.out _ e
        · have := HB3.out.size
          exact .inr (by omega)
      · have h8 := set_at (k := 0) (.int .i64 ((z : Int) + 1)) HB6.out
        have ez : ((L.used + (k + 1) : Nat) : Int) = (z : Int) + 1 := by have := HZ.out; omega
        rw [ez]
        exact h8
      · rcases e with e | e
        · rcases HFk.out _ e with e | e
          · exact .inl e
          · omega
        · exact .inr e
  case done =>
    rintro D xs W hD hxs hI hKD
    obtain ⟨m, hm⟩ : ∃ m, m = xs.length := ⟨_, rfl⟩
    rw [← hm] at hI
    obtain ⟨vw5, Q5, hL5, hQ5, hN5⟩ := hI.log
    have hS12 := HS12.out
    have na2 : ¬ (GL db sb vw lb rv w.heap.size ∨ w.heap.size = w1.heap.size) := by
      rintro (e | e)
      · have := hGL _ e; omega
      · omega
    have na4 : ¬ (GL db sb vw lb rv (w.heap.size + 1) ∨ w.heap.size + 1 = w1.heap.size) := by
      rintro (e | e)
      · have := hGL _ e; omega
      · omega
    have f2 := (hI.keep.block w.heap.size (by omega) na2).trans ((hb4.block _ hA2l).trans HA2.out)
    have f4 := (hI.keep.block (w.heap.size + 1) (by omega) na4).trans ((hb4.block _ (by omega)).trans HA4.out)
    have f6 := hI.at'
    obtain ⟨z, hz⟩ : ∃ z, z = L.used + m := ⟨_, rfl⟩
    rw [← hz] at f6
    have hXW : Rd W (.slice ao l.length c) l := (HX2.out.old hb4).keep hI.keep.toKeep (fun hne k hb e => by
      obtain ⟨a, ha, hak⟩ := blk_of hb
      have h9 := rd_block HX.out hne a ha
      rcases e with e | e | e
      · omega
      · exact hxo hne k hb e
      · omega)
    have m2 : ¬ GL db sb vw5 lb rv w.heap.size := fun e => (hN5 _ e).elim (fun e => na2 (.inl e)) (fun e => by omega)
    have m4 : ¬ GL db sb vw5 lb rv (w.heap.size + 1) := fun e => (hN5 _ e).elim (fun e => na4 (.inl e)) (fun e => by omega)
    have m6 : ¬ GL db sb vw5 lb rv w1.heap.size := fun e => (hN5 _ e).elim (fun e => by have := hGL _ e; omega) (fun e => by omega)
    have l2 : w.heap.size ≠ lb := fun e => m2 (by rw [e]; exact .inl (.inl rfl))
    have l6 : w1.heap.size ≠ lb := fun e => m6 (by rw [e]; exact .inl (.inl rfl))
    obtain ⟨ro, rc, hrv, -⟩ := hL5.r.form
    have HIK := hid hI.keep
    have HN5 := hid hN5
    have HQ5 := hid hQ5
    have HB4 := hid hb4
    have HXW := hid hXW
    have HL5 := hid hL5
    have HD := hid hD
    have HKD := hid hKD
    have HF2 := hid f2
    have HF4 := hid f4
    have HF6 := hid f6
    have HM2 := hid m2
    have HM4 := hid m4
    have HM6 := hid m6
    have hQ9 := HL5.out.d.few
    -- Clone, and what stands behind it
    have CCL : Hid (Calls Tryz.prog 61 #[.slice ao l.length c] W.drew (fun e w3 => ∃ yo yc, e = .returned (.slice yo l.length yc) ∧ Hid (Below W.heap.size W w3) ∧ Hid (w3.ownsRow W.heap.size 5 1 (.slice yo l.length yc) l.length (l.map bv)))) :=
      (clone_any W.drew _ l (hXW.old ((Below.refl _ _).drew)) (by omega)).mono (by
        rintro e w3 ⟨y, rfl, hy, hb⟩
        obtain ⟨yo, yc, rfl⟩ := own_form hy
        exact ⟨yo, yc, rfl, ((Below.refl _ _).drew).trans hb, hy⟩)
    clear hXW hD hKD f2 f4 f6 m2 m4 m6 hL5 hnx hGL hI na2 na4
    subst hrv
    have p2 : W.cell? ⟨w.heap.size, 0, none⟩ = some (.pointer (some ⟨lb, 0, none⟩)) := by simp [World.cell?, HF2.out]
    have p6 : W.cell? ⟨w1.heap.size, 0, none⟩ = some (.int .i64 (z : Int)) := by simp [World.cell?, HF6.out]
    obtain ⟨c0, c1, c2, c3, c4, c5, c6, -⟩ := HL5.out.l.cells
    have CAP : Hid (∀ W3 yo yc, Below W.heap.size W W3 → W3.ownsRow W.heap.size 5 1 (.slice yo l.length yc) l.length (l.map bv) → ∃ po pn pc w5, (Builtin.append_ #[60, 60] 60 #[.slice ro R.length rc, .slice (some ⟨W3.heap.size, 0, none⟩) 1 1]).run Tryz.prog (W3.alloc (.cells #[.slice yo l.length yc] 25)) = .ok (.slice po pn pc) w5 ∧
        (W3.cell? ⟨w.heap.size, 0, none⟩ = some (.pointer (some ⟨lb, 0, none⟩)) ∧ W3.cell? ⟨w1.heap.size, 0, none⟩ = some (.int .i64 (z : Int)) ∧ W3.cell? ⟨lb, 5, none⟩ = some (.slice ro R.length rc)) ∧ (∀ o, (W3.alloc o).cell? ⟨w.heap.size, 0, none⟩ = some (.pointer (some ⟨lb, 0, none⟩)) ∧ (W3.alloc o).cell? ⟨w1.heap.size, 0, none⟩ = some (.int .i64 (z : Int)) ∧ (W3.alloc o).cell? ⟨lb, 5, none⟩ = some (.slice ro R.length rc)) ∧ (w5.cell? ⟨w.heap.size, 0, none⟩ = some (.pointer (some ⟨lb, 0, none⟩)) ∧ w5.cell? ⟨w1.heap.size, 0, none⟩ = some (.int .i64 (z : Int))) ∧ (w5.cell? ⟨lb, 5, none⟩ = some (.slice ro R.length rc) ∧ w5.cell? ⟨lb, 6, none⟩ = some (.int .i64 (L.used : Int)) ∧ w5.frozen? ⟨lb, 5, none⟩ = false ∧ w5.frozen? ⟨lb, 6, none⟩ = false) ∧
        Hid (∃ r : Rc, r.b = l ∧ (∀ a, r.a = some a → W.heap.size ≤ a.block) ∧ Lg base ((w5.setCell ⟨lb, 5, none⟩ (.slice po pn pc)).setCell ⟨lb, 6, none⟩ (.int .i64 (z : Int))) lb db sb n vw5 (.slice po pn pc) (addS n L.h L.used B S m) Q5 { h := L.h, used := z, ours := L.ours, waits := Q5.length, down := L.down } (R ++ [r]) ∧ Gfr db sb lb vw5 vw5 (.slice ro R.length rc) (.slice po pn pc) W ((w5.setCell ⟨lb, 5, none⟩ (.slice po pn pc)).setCell ⟨lb, 6, none⟩ (.int .i64 (z : Int))))) := by
      intro W3 yo yc hb3 ho3
      have hba : ∀ o, Below W3.heap.size W3 (W3.alloc o) := fun o => (Below.refl _ _).alloc (Nat.le_refl _) _
      have hb4' : Below W.heap.size W (W3.alloc (.cells #[.slice yo l.length yc] 25)) := hb3.trans ((hba _).mono hb3.size)
      have hL4 := HL5.out.old hb4'
      have hrd := Rd.own (own_old ho3 (hba (.cells #[.slice yo l.length yc] 25)))
      have hq : (W3.alloc (.cells #[.slice yo l.length yc] 25)).cell? ⟨W3.heap.size, 0, none⟩ = some (.slice yo l.length yc) := by
        unfold World.cell?
        rw [heap_alloc_new]
        rfl
      have hyo : ∀ a, yo = some a → W.heap.size ≤ a.block ∧ a.block < W3.heap.size := fun a ha => ho3.lt a.block (by rw [ha]; rfl)
      obtain ⟨v', w5, hrun, hR5, hk, hv⟩ := hL4.r.app ⟨yo, yc, l⟩ hrd W3.heap.size hq hR (fun q hq hne a ha e => by
        rcases List.mem_append.1 hq with hq | hq
        · exact HL5.out.boff q hq hne a ha (.inr e)
        · obtain rfl := List.mem_singleton.1 hq
          have := (HL5.out.lt _ (.inr e)).2
          have := (hyo a ha).1
          omega) 60
      obtain ⟨po, pc, rfl, -⟩ := hR5.form
      have hl5 : Lk w5 lb db (.slice ro R.length rc) { h := L.h, used := L.used, ours := L.ours, waits := Q5.length, down := L.down } := hL4.l.kept hk (fun e => hL4.roff lb e (.inl rfl))
      obtain ⟨e1, e2⟩ := add_end z hL4 hR5 hk hv (fun hne a ha => ⟨fun e => by have := (HL5.out.lt _ e).2; have := (hyo a ha).1; omega, by have := (hyo a ha).2; simp; omega⟩)
      have hlW := HL5.out.l.lt
      have t2 : W3.cell? ⟨w.heap.size, 0, none⟩ = some (.pointer (some ⟨lb, 0, none⟩)) := (World.cell?_of_block (w := W) (a := ⟨w.heap.size, 0, none⟩) (hb3.block _ (lt_of_block HF2.out))).trans p2
      have t6 : W3.cell? ⟨w1.heap.size, 0, none⟩ = some (.int .i64 (z : Int)) := (World.cell?_of_block (w := W) (a := ⟨w1.heap.size, 0, none⟩) (hb3.block _ (lt_of_block HF6.out))).trans p6
      have t5 : W3.cell? ⟨lb, 5, none⟩ = some (.slice ro R.length rc) := (World.cell?_of_block (w := W) (a := ⟨lb, 5, none⟩) (hb3.block _ hlW)).trans c5
      have a2 : ∀ o, (W3.alloc o).cell? ⟨w.heap.size, 0, none⟩ = some (.pointer (some ⟨lb, 0, none⟩)) := fun o => (World.cell?_of_block (w := W3) (a := ⟨w.heap.size, 0, none⟩) ((hba o).block _ (World.block_lt_of_cell? W3 _ t2))).trans t2
      have a6 : ∀ o, (W3.alloc o).cell? ⟨w1.heap.size, 0, none⟩ = some (.int .i64 (z : Int)) := fun o => (World.cell?_of_block (w := W3) (a := ⟨w1.heap.size, 0, none⟩) ((hba o).block _ (World.block_lt_of_cell? W3 _ t6))).trans t6
      have a5 : ∀ o, (W3.alloc o).cell? ⟨lb, 5, none⟩ = some (.slice ro R.length rc) := fun o => (World.cell?_of_block (w := W3) (a := ⟨lb, 5, none⟩) ((hba o).block _ (World.block_lt_of_cell? W3 _ t5))).trans t5
      have u2 : w5.cell? ⟨w.heap.size, 0, none⟩ = some (.pointer (some ⟨lb, 0, none⟩)) := (World.cell?_of_block (a := ⟨w.heap.size, 0, none⟩) (hk.block _ (World.block_lt_of_cell? _ _ (a2 _)) (fun e => HM2.out (.inr e)))).trans (a2 _)
      have u6 : w5.cell? ⟨w1.heap.size, 0, none⟩ = some (.int .i64 (z : Int)) := (World.cell?_of_block (a := ⟨w1.heap.size, 0, none⟩) (hk.block _ (World.block_lt_of_cell? _ _ (a6 _)) (fun e => HM6.out (.inr e)))).trans (a6 _)
      exact ⟨po, _, pc, w5, hrun, ⟨t2, t6, t5⟩, fun o => ⟨a2 o, a6 o, a5 o⟩, ⟨u2, u6⟩, ⟨hl5.cells.2.2.2.2.2.1, hl5.cells.2.2.2.2.2.2.1, hl5.soft 5, hl5.soft 6⟩, ⟨⟨yo, yc, l⟩, rfl, fun a ha => (hyo a ha).1, e1, (Gfr.of_below hb4').trans e2⟩⟩
    have HZZ := hid hz
    have HMM := hid hm
    have HXS := hid hxs
    clear hz hm hxs
    go_upto_region 12 with fail
    refine wp_region_noPanic ?_
    refine wp_region_held_drew (S := fun V => Hid True ∧ V.cell? ⟨w.heap.size, 0, none⟩ = some (.pointer (some ⟨lb, 0, none⟩)) ∧ V.cell? ⟨w1.heap.size, 0, none⟩ = some (.int .i64 (z : Int))) (by kernel_rfl) ⟨trivial, p2, p6⟩ (fun hHeld => ?_)
    refine wpAnyH_take (i := 0) (v := (.pointer (some ⟨lb, 0, none⟩))) rfl (by kernel_rfl) (by kernel_rfl) (by kernel_rfl) (fun _ _ _ h => (show False from h).elim) ?xyT0 ?xhT0 ?xrT0
    case xhT0 => exact hHeld
    case xyT0 => exact Or.inl ⟨by rfl, fun W9 hW => by obtain ⟨-, hc1, hc2⟩ := hW; clear hHeld; simp only [List.getElem_toArray, List.getElem_cons_succ, List.getElem_cons_zero]; go_simp⟩
    simp only [Act.put, List.getElem_toArray, List.getElem_cons_succ, List.getElem_cons_zero, List.setIfInBounds_toArray, List.set_cons_succ, List.set_cons_zero]
    refine wpAnyH_take (i := 1) (v := (.pointer (some ⟨lb, 0, none⟩))) rfl (by kernel_rfl) (by kernel_rfl) (by kernel_rfl) (fun _ _ _ h => (show False from h).elim) ?xyT1 ?xhT1 ?xrT1
    case xhT1 => exact hHeld
    case xyT1 => exact Or.inl ⟨by rfl, fun W9 hW => by obtain ⟨-, hc1, hc2⟩ := hW; clear hHeld; simp only [List.getElem_toArray, List.getElem_cons_succ, List.getElem_cons_zero]; go_simp⟩
    simp only [Act.put, List.getElem_toArray, List.getElem_cons_succ, List.getElem_cons_zero, List.setIfInBounds_toArray, List.set_cons_succ, List.set_cons_zero]
    refine wpAnyH_take (i := 2) (v := (.pointer (some ⟨lb, 0, none⟩))) rfl (by kernel_rfl) (by kernel_rfl) (by kernel_rfl) (fun _ _ _ h => (show False from h).elim) ?xyT2 ?xhT2 ?xrT2
    case xhT2 => exact hHeld
    case xyT2 => exact Or.inl ⟨by rfl, fun W9 hW => by obtain ⟨-, hc1, hc2⟩ := hW; clear hHeld; simp only [List.getElem_toArray, List.getElem_cons_succ, List.getElem_cons_zero]; go_simp⟩
    simp only [Act.put, List.getElem_toArray, List.getElem_cons_succ, List.getElem_cons_zero, List.setIfInBounds_toArray, List.set_cons_succ, List.set_cons_zero]
    refine wpAnyH_take (i := 3) (v := (.pointer (some ⟨lb, 0, none⟩))) rfl (by kernel_rfl) (by kernel_rfl) (by kernel_rfl) (fun _ _ _ h => (show False from h).elim) ?xyT3 ?xhT3 ?xrT3
    case xhT3 => exact hHeld
    case xyT3 => exact Or.inl ⟨by rfl, fun W9 hW => by obtain ⟨-, hc1, hc2⟩ := hW; clear hHeld; simp only [List.getElem_toArray, List.getElem_cons_succ, List.getElem_cons_zero]; go_simp⟩
    simp only [Act.put, List.getElem_toArray, List.getElem_cons_succ, List.getElem_cons_zero, List.setIfInBounds_toArray, List.set_cons_succ, List.set_cons_zero]
    refine wpAnyH_take (i := 4) (v := (.pointer (some ⟨lb, 5, none⟩))) rfl (by kernel_rfl) (by kernel_rfl) (by kernel_rfl) (fun _ _ _ h => (show False from h).elim) ?xyT4 ?xhT4 ?xrT4
    case xhT4 => exact hHeld
    case xyT4 => exact Or.inl ⟨by rfl, fun W9 hW => by obtain ⟨-, hc1, hc2⟩ := hW; clear hHeld; simp only [List.getElem_toArray, List.getElem_cons_succ, List.getElem_cons_zero]; go_simp⟩
    simp only [Act.put, List.getElem_toArray, List.getElem_cons_succ, List.getElem_cons_zero, List.setIfInBounds_toArray, List.set_cons_succ, List.set_cons_zero]
    refine wpAnyH_take (i := 6) (v := (.slice ao l.length c)) rfl (by kernel_rfl) (by kernel_rfl) (by kernel_rfl) (fun _ _ _ h => (show False from h).elim) ?xyT6 ?xhT6 ?xrT6
    case xhT6 => exact hHeld
    case xyT6 => exact Or.inl ⟨by rfl, fun W9 hW => by obtain ⟨-, hc1, hc2⟩ := hW; clear hHeld; simp only [List.getElem_toArray, List.getElem_cons_succ, List.getElem_cons_zero]; go_simp⟩
    simp only [Act.put, List.getElem_toArray, List.getElem_cons_succ, List.getElem_cons_zero, List.setIfInBounds_toArray, List.set_cons_succ, List.set_cons_zero]
    refine wpAnyH_take (i := 10) (v := (.int .i64 (z : Int))) rfl (by kernel_rfl) (by kernel_rfl) (by kernel_rfl) (fun _ _ _ h => (show False from h).elim) ?xyT10 ?xhT10 ?xrT10
    case xhT10 => exact hHeld
    case xyT10 => exact Or.inl ⟨by rfl, fun W9 hW => by obtain ⟨-, hc1, hc2⟩ := hW; clear hHeld; simp only [List.getElem_toArray, List.getElem_cons_succ, List.getElem_cons_zero]; go_simp⟩
    simp only [Act.put, List.getElem_toArray, List.getElem_cons_succ, List.getElem_cons_zero, List.setIfInBounds_toArray, List.set_cons_succ, List.set_cons_zero]
    refine wpAnyH_ready (rs := [5, 7]) (by kernel_rfl) (by simp) ?_
    refine AllReadyH.cons rfl (fun K hK => ?_) (AllReadyH.cons rfl (fun K hK => ?_) AllReadyH.nil)
    · go_simp
      refine hK.out _ _ ⟨trivial, p2, p6⟩ (fun hHeld => ?_)
      clear hK K
      refine wpAnyH_ready (rs := [7]) (by kernel_rfl) (by simp) ?_
      refine AllReadyH.cons rfl (fun K hK => ?_) AllReadyH.nil
      go_simp
      go_wp2_with (first | (go_at_call 61; refine CCL.out.mono ?_; rintro e w3 ⟨yo, yc, rfl, hb3, ho3⟩; obtain ⟨po, pn, pc, w5, hrun, ⟨t2, t6, t5⟩, al9, ⟨u2, u6⟩, ⟨u5, u7, g5, g6⟩, HFIN⟩ := CAP.out w3 yo yc hb3.out ho3.out))
      refine hK.out _ _ ⟨trivial, t2, t6⟩ (fun hHeld => ?_)
      clear hK K
      refine wpAnyH_ready (rs := [8]) (by kernel_rfl) (by simp) ?_
      refine AllReadyH.cons rfl (fun K hK => ?_) AllReadyH.nil
      go_simp
      refine hK.out _ _ ⟨trivial, (al9 _).1, (al9 _).2.1⟩ (fun hHeld => ?_)
      clear hK K
      refine wpAnyH_ready (rs := [9]) (by kernel_rfl) (by simp) ?_
      refine AllReadyH.cons rfl (fun K hK => ?_) AllReadyH.nil
      refine step_known (.tmp 46) (.tmp 49) 60 (by rfl) (by rfl) _ _ _ (by rfl) (by rfl) hrun (by first | rfl | (simp [Region.wanted, yielded]; done)) ?_
      refine hK.out _ _ ⟨trivial, u2, u6⟩ (fun hHeld => ?_)
      clear hK K
      simp only [Act.put, List.getElem_toArray, List.getElem_cons_succ, List.getElem_cons_zero, List.setIfInBounds_toArray, List.set_cons_succ, List.set_cons_zero]
      refine wpAnyH_take (i := 11) (v := (.pointer (some ⟨lb, 0, none⟩))) rfl (by kernel_rfl) (by kernel_rfl) (by kernel_rfl) (fun _ _ _ h => (show False from h).elim) ?xyU111452 ?xhU111452 ?xrU111452
      case xhU111452 => exact hHeld
      case xyU111452 => exact Or.inl ⟨by rfl, fun W9 hW => by obtain ⟨-, hc1, hc2⟩ := hW; clear hHeld; simp only [List.getElem_toArray, List.getElem_cons_succ, List.getElem_cons_zero]; go_simp⟩
      simp only [Act.put, List.getElem_toArray, List.getElem_cons_succ, List.getElem_cons_zero, List.setIfInBounds_toArray, List.set_cons_succ, List.set_cons_zero]
      refine wpAnyH_take (i := 12) (v := (.pointer (some ⟨lb, 5, none⟩))) rfl (by kernel_rfl) (by kernel_rfl) (by kernel_rfl) (fun _ _ _ h => (show False from h).elim) ?xyU1256 ?xhU1256 ?xrU1256
      case xhU1256 => exact hHeld
      case xyU1256 => exact Or.inl ⟨by rfl, fun W9 hW => by obtain ⟨-, hc1, hc2⟩ := hW; clear hHeld; simp only [List.getElem_toArray, List.getElem_cons_succ, List.getElem_cons_zero]; go_simp⟩
      simp only [Act.put, List.getElem_toArray, List.getElem_cons_succ, List.getElem_cons_zero, List.setIfInBounds_toArray, List.set_cons_succ, List.set_cons_zero]
      refine wpAnyH_ready (rs := [13]) (by kernel_rfl) (by simp) ?_
      refine AllReadyH.cons rfl (fun K hK => ?_) AllReadyH.nil
      go_simp
      refine hK.out _ _ ⟨trivial, (by rw [cell_set_other _ _ _ _ l2]; exact u2), (by rw [cell_set_other _ _ _ _ l6]; exact u6)⟩ (fun hHeld => ?_)
      clear hK K
      refine wpAnyH_take (i := 14) (v := (.pointer (some ⟨lb, 0, none⟩))) rfl (by kernel_rfl) (by kernel_rfl) (by kernel_rfl) (fun _ _ _ h => (show False from h).elim) ?xyU1465 ?xhU1465 ?xrU1465
      case xhU1465 => exact hHeld
      case xyU1465 => exact Or.inl ⟨by rfl, fun W9 hW => by obtain ⟨-, hc1, hc2⟩ := hW; clear hHeld; simp only [List.getElem_toArray, List.getElem_cons_succ, List.getElem_cons_zero]; go_simp⟩
      simp only [Act.put, List.getElem_toArray, List.getElem_cons_succ, List.getElem_cons_zero, List.setIfInBounds_toArray, List.set_cons_succ, List.set_cons_zero]
      refine wpAnyH_take (i := 15) (v := (.pointer (some ⟨lb, 6, none⟩))) rfl (by kernel_rfl) (by kernel_rfl) (by kernel_rfl) (fun _ _ _ h => (show False from h).elim) ?xyU1569 ?xhU1569 ?xrU1569
      case xhU1569 => exact hHeld
      case xyU1569 => exact Or.inl ⟨by rfl, fun W9 hW => by obtain ⟨-, hc1, hc2⟩ := hW; clear hHeld; simp only [List.getElem_toArray, List.getElem_cons_succ, List.getElem_cons_zero]; go_simp⟩
      simp only [Act.put, List.getElem_toArray, List.getElem_cons_succ, List.getElem_cons_zero, List.setIfInBounds_toArray, List.set_cons_succ, List.set_cons_zero]
      refine wpAnyH_ready (rs := [16]) (by kernel_rfl) (by simp) ?_
      refine AllReadyH.cons rfl (fun K hK => ?_) AllReadyH.nil
      go_simp
      refine hK.out _ _ ⟨trivial, (by rw [cell_set_other _ _ _ _ l2, cell_set_other _ _ _ _ l2]; exact u2), (by rw [cell_set_other _ _ _ _ l6, cell_set_other _ _ _ _ l6]; exact u6)⟩ (fun hHeld => ?_)
      clear hK K
      refine wpAnyH_done (by kernel_rfl) ?_ _
      refine NoPanic.normal ?_
      have hA4 : ((w5.setCell ⟨lb, 5, none⟩ (.slice po pn pc)).setCell ⟨lb, 6, none⟩ (.int .i64 (z : Int))).heap[w.heap.size + 1]? = some (.cells #[.nilIface] 43 (0, 0)) := by
        obtain ⟨r, -, -, -, hg⟩ := HFIN.out
        exact (hg.keep.block _ (lt_of_block HF4.out) HM4.out).trans HF4.out
      have hA4c : ((w5.setCell ⟨lb, 5, none⟩ (.slice po pn pc)).setCell ⟨lb, 6, none⟩ (.int .i64 (z : Int))).cell? ⟨w.heap.size + 1, 0, none⟩ = some .nilIface := by simp [World.cell?, hA4]
      have hA4f : ((w5.setCell ⟨lb, 5, none⟩ (.slice po pn pc)).setCell ⟨lb, 6, none⟩ (.int .i64 (z : Int))).frozen? ⟨w.heap.size + 1, 0, none⟩ = false := by simp [World.frozen?, hA4]
      have HA49 := hid hA4
      clear hA4 u5 u7 g5 g6 u2 u6 t2 t6 t5 al9 hrun c0 c1 c2 c3 c4 c5 c6 p2 p6
      generalize (w5.setCell ⟨lb, 5, none⟩ (.slice po pn pc)).setCell ⟨lb, 6, none⟩ (.int .i64 (z : Int)) = wZ at *
      go_wp2_with fail
      obtain ⟨r, hr1, hr2, hLZ, hGZ⟩ := HFIN.out
      have hDA : D ≠ w.heap.size + 1 := by have := HD.out; omega
      obtain ⟨hDs, hLE, hAE, hKE⟩ := addE HL5.out hLZ hGZ (lt_of_block HF4.out) HM4.out HA49.out HKD.out hDA
      refine ⟨by simp, .inl ⟨_, _, rfl, run_takeDeferred hDs, ?_⟩⟩
      have hms : m = secs l.length := by
        rw [HMM.out, HXS.out, List.length_range]
        unfold secs
        omega
      refine ⟨_, add_results _ _ _ (by rfl) hAE, rfl, ?_⟩
      have hs12 := HB2.out.size
      have hs24' := HB4.out.size
      have hs4W := HIK.out.size
      refine HFN.out vw5 (.slice po pn pc) Q5 r _ hr1 (fun a ha => Nat.le_trans (by omega) (hr2 a ha)) ?_ (by rw [HQ5.out, hms, HBB.out]) ⟨?_, ?_, ?_, ?_, fun k hk hx9 => ?_⟩ (fun k hk => ?_)
      · rw [← HBB.out, ← hms, ← HZZ.out, ← ho]
        exact hLE
      · exact hKE.os.trans (HIK.out.os.trans (HB4.out.os.trans HB2.out.os))
      · exact hKE.tape.trans (HIK.out.tape.trans (HB4.out.tape.trans HB2.out.tape))
      · exact hKE.output.trans (HIK.out.output.trans (HB4.out.output.trans HB2.out.output))
      · exact Nat.le_trans hs12 (Nat.le_trans hs24' (Nat.le_trans hs4W hKE.size))
      · refine (hKE.block k (by omega) ?_).trans ((HIK.out.block k (by omega) ?_).trans ((HB4.out.block k (by omega)).trans (HB2.out.block k hk)))
        · rintro (e | e | e)
          · rcases HN5.out k e with e | e
            · exact hx9 (.inl e)
            · omega
          · exact hx9 (.inr e)
          · have := HD.out
            omega
        · rintro (e | e)
          · exact hx9 (.inl e)
          · omega
      · rcases hGZ.new k hk with e | e
        · rcases HN5.out k e with e | e
          · exact .inl e
          · exact .inr (by omega)
        · exact .inr (by omega)
    · go_simp
      go_wp2_with (first | (go_at_call 61; refine CCL.out.mono ?_; rintro e w3 ⟨yo, yc, rfl, hb3, ho3⟩; obtain ⟨po, pn, pc, w5, hrun, ⟨t2, t6, t5⟩, al9, ⟨u2, u6⟩, ⟨u5, u7, g5, g6⟩, HFIN⟩ := CAP.out w3 yo yc hb3.out ho3.out))
      refine hK.out _ _ ⟨trivial, t2, t6⟩ (fun hHeld => ?_)
      clear hK K
      refine wpAnyH_ready (rs := [5, 8]) (by kernel_rfl) (by simp) ?_
      refine AllReadyH.cons rfl (fun K hK => ?_) (AllReadyH.cons rfl (fun K hK => ?_) AllReadyH.nil)
      · go_simp
        refine hK.out _ _ ⟨trivial, t2, t6⟩ (fun hHeld => ?_)
        clear hK K
        refine wpAnyH_ready (rs := [8]) (by kernel_rfl) (by simp) ?_
        refine AllReadyH.cons rfl (fun K hK => ?_) AllReadyH.nil
        go_simp
        refine hK.out _ _ ⟨trivial, (al9 _).1, (al9 _).2.1⟩ (fun hHeld => ?_)
        clear hK K
        refine wpAnyH_ready (rs := [9]) (by kernel_rfl) (by simp) ?_
        refine AllReadyH.cons rfl (fun K hK => ?_) AllReadyH.nil
        refine step_known (.tmp 46) (.tmp 49) 60 (by rfl) (by rfl) _ _ _ (by rfl) (by rfl) hrun (by first | rfl | (simp [Region.wanted, yielded]; done)) ?_
        refine hK.out _ _ ⟨trivial, u2, u6⟩ (fun hHeld => ?_)
        clear hK K
        simp only [Act.put, List.getElem_toArray, List.getElem_cons_succ, List.getElem_cons_zero, List.setIfInBounds_toArray, List.set_cons_succ, List.set_cons_zero]
        refine wpAnyH_take (i := 11) (v := (.pointer (some ⟨lb, 0, none⟩))) rfl (by kernel_rfl) (by kernel_rfl) (by kernel_rfl) (fun _ _ _ h => (show False from h).elim) ?xyU1116144 ?xhU1116144 ?xrU1116144
        case xhU1116144 => exact hHeld
        case xyU1116144 => exact Or.inl ⟨by rfl, fun W9 hW => by obtain ⟨-, hc1, hc2⟩ := hW; clear hHeld; simp only [List.getElem_toArray, List.getElem_cons_succ, List.getElem_cons_zero]; go_simp⟩
        simp only [Act.put, List.getElem_toArray, List.getElem_cons_succ, List.getElem_cons_zero, List.setIfInBounds_toArray, List.set_cons_succ, List.set_cons_zero]
        refine wpAnyH_take (i := 12) (v := (.pointer (some ⟨lb, 5, none⟩))) rfl (by kernel_rfl) (by kernel_rfl) (by kernel_rfl) (fun _ _ _ h => (show False from h).elim) ?xyU12148 ?xhU12148 ?xrU12148
        case xhU12148 => exact hHeld
        case xyU12148 => exact Or.inl ⟨by rfl, fun W9 hW => by obtain ⟨-, hc1, hc2⟩ := hW; clear hHeld; simp only [List.getElem_toArray, List.getElem_cons_succ, List.getElem_cons_zero]; go_simp⟩
        simp only [Act.put, List.getElem_toArray, List.getElem_cons_succ, List.getElem_cons_zero, List.setIfInBounds_toArray, List.set_cons_succ, List.set_cons_zero]
        refine wpAnyH_ready (rs := [13]) (by kernel_rfl) (by simp) ?_
        refine AllReadyH.cons rfl (fun K hK => ?_) AllReadyH.nil
        go_simp
        refine hK.out _ _ ⟨trivial, (by rw [cell_set_other _ _ _ _ l2]; exact u2), (by rw [cell_set_other _ _ _ _ l6]; exact u6)⟩ (fun hHeld => ?_)
        clear hK K
        refine wpAnyH_take (i := 14) (v := (.pointer (some ⟨lb, 0, none⟩))) rfl (by kernel_rfl) (by kernel_rfl) (by kernel_rfl) (fun _ _ _ h => (show False from h).elim) ?xyU14157 ?xhU14157 ?xrU14157
        case xhU14157 => exact hHeld
        case xyU14157 => exact Or.inl ⟨by rfl, fun W9 hW => by obtain ⟨-, hc1, hc2⟩ := hW; clear hHeld; simp only [List.getElem_toArray, List.getElem_cons_succ, List.getElem_cons_zero]; go_simp⟩
        simp only [Act.put, List.getElem_toArray, List.getElem_cons_succ, List.getElem_cons_zero, List.setIfInBounds_toArray, List.set_cons_succ, List.set_cons_zero]
        refine wpAnyH_take (i := 15) (v := (.pointer (some ⟨lb, 6, none⟩))) rfl (by kernel_rfl) (by kernel_rfl) (by kernel_rfl) (fun _ _ _ h => (show False from h).elim) ?xyU15161 ?xhU15161 ?xrU15161
        case xhU15161 => exact hHeld
        case xyU15161 => exact Or.inl ⟨by rfl, fun W9 hW => by obtain ⟨-, hc1, hc2⟩ := hW; clear hHeld; simp only [List.getElem_toArray, List.getElem_cons_succ, List.getElem_cons_zero]; go_simp⟩
        simp only [Act.put, List.getElem_toArray, List.getElem_cons_succ, List.getElem_cons_zero, List.setIfInBounds_toArray, List.set_cons_succ, List.set_cons_zero]
        refine wpAnyH_ready (rs := [16]) (by kernel_rfl) (by simp) ?_
        refine AllReadyH.cons rfl (fun K hK => ?_) AllReadyH.nil
        go_simp
        refine hK.out _ _ ⟨trivial, (by rw [cell_set_other _ _ _ _ l2, cell_set_other _ _ _ _ l2]; exact u2), (by rw [cell_set_other _ _ _ _ l6, cell_set_other _ _ _ _ l6]; exact u6)⟩ (fun hHeld => ?_)
        clear hK K
        refine wpAnyH_done (by kernel_rfl) ?_ _
        refine NoPanic.normal ?_
        have hA4 : ((w5.setCell ⟨lb, 5, none⟩ (.slice po pn pc)).setCell ⟨lb, 6, none⟩ (.int .i64 (z : Int))).heap[w.heap.size + 1]? = some (.cells #[.nilIface] 43 (0, 0)) := by
          obtain ⟨r, -, -, -, hg⟩ := HFIN.out
          exact (hg.keep.block _ (lt_of_block HF4.out) HM4.out).trans HF4.out
        have hA4c : ((w5.setCell ⟨lb, 5, none⟩ (.slice po pn pc)).setCell ⟨lb, 6, none⟩ (.int .i64 (z : Int))).cell? ⟨w.heap.size + 1, 0, none⟩ = some .nilIface := by simp [World.cell?, hA4]
        have hA4f : ((w5.setCell ⟨lb, 5, none⟩ (.slice po pn pc)).setCell ⟨lb, 6, none⟩ (.int .i64 (z : Int))).frozen? ⟨w.heap.size + 1, 0, none⟩ = false := by simp [World.frozen?, hA4]
        have HA49 := hid hA4
        clear hA4 u5 u7 g5 g6 u2 u6 t2 t6 t5 al9 hrun c0 c1 c2 c3 c4 c5 c6 p2 p6
        generalize (w5.setCell ⟨lb, 5, none⟩ (.slice po pn pc)).setCell ⟨lb, 6, none⟩ (.int .i64 (z : Int)) = wZ at *
        go_wp2_with fail
        obtain ⟨r, hr1, hr2, hLZ, hGZ⟩ := HFIN.out
        have hDA : D ≠ w.heap.size + 1 := by have := HD.out; omega
        obtain ⟨hDs, hLE, hAE, hKE⟩ := addE HL5.out hLZ hGZ (lt_of_block HF4.out) HM4.out HA49.out HKD.out hDA
        refine ⟨by simp, .inl ⟨_, _, rfl, run_takeDeferred hDs, ?_⟩⟩
        have hms : m = secs l.length := by
          rw [HMM.out, HXS.out, List.length_range]
          unfold secs
          omega
        refine ⟨_, add_results _ _ _ (by rfl) hAE, rfl, ?_⟩
        have hs12 := HB2.out.size
        have hs24' := HB4.out.size
        have hs4W := HIK.out.size
        refine HFN.out vw5 (.slice po pn pc) Q5 r _ hr1 (fun a ha => Nat.le_trans (by omega) (hr2 a ha)) ?_ (by rw [HQ5.out, hms, HBB.out]) ⟨?_, ?_, ?_, ?_, fun k hk hx9 => ?_⟩ (fun k hk => ?_)
        · rw [← HBB.out, ← hms, ← HZZ.out, ← ho]
          exact hLE
        · exact hKE.os.trans (HIK.out.os.trans (HB4.out.os.trans HB2.out.os))
        · exact hKE.tape.trans (HIK.out.tape.trans (HB4.out.tape.trans HB2.out.tape))
        · exact hKE.output.trans (HIK.out.output.trans (HB4.out.output.trans HB2.out.output))
        · exact Nat.le_trans hs12 (Nat.le_trans hs24' (Nat.le_trans hs4W hKE.size))
        · refine (hKE.block k (by omega) ?_).trans ((HIK.out.block k (by omega) ?_).trans ((HB4.out.block k (by omega)).trans (HB2.out.block k hk)))
          · rintro (e | e | e)
            · rcases HN5.out k e with e | e
              · exact hx9 (.inl e)
              · omega
            · exact hx9 (.inr e)
            · have := HD.out
              omega
          · rintro (e | e)
            · exact hx9 (.inl e)
            · omega
        · rcases hGZ.new k hk with e | e
          · rcases HN5.out k e with e | e
            · exact .inl e
            · exact .inr (by omega)
          · exact .inr (by omega)
      · go_simp
        refine hK.out _ _ ⟨trivial, (al9 _).1, (al9 _).2.1⟩ (fun hHeld => ?_)
        clear hK K
        refine wpAnyH_ready (rs := [5]) (by kernel_rfl) (by simp) ?_
        refine AllReadyH.cons rfl (fun K hK => ?_) AllReadyH.nil
        have al5 := (al9 (.cells #[.slice yo l.length yc] 25)).2.2
        have al1 := (al9 (.cells #[.slice yo l.length yc] 25)).1
        have al6 := (al9 (.cells #[.slice yo l.length yc] 25)).2.1
        go_simp
        refine hK.out _ _ ⟨trivial, al1, al6⟩ (fun hHeld => ?_)
        clear hK K
        refine wpAnyH_ready (rs := [9]) (by kernel_rfl) (by simp) ?_
        refine AllReadyH.cons rfl (fun K hK => ?_) AllReadyH.nil
        refine step_known (.tmp 46) (.tmp 49) 60 (by rfl) (by rfl) _ _ _ (by rfl) (by rfl) hrun (by first | rfl | (simp [Region.wanted, yielded]; done)) ?_
        refine hK.out _ _ ⟨trivial, u2, u6⟩ (fun hHeld => ?_)
        clear hK K
        simp only [Act.put, List.getElem_toArray, List.getElem_cons_succ, List.getElem_cons_zero, List.setIfInBounds_toArray, List.set_cons_succ, List.set_cons_zero]
        refine wpAnyH_take (i := 11) (v := (.pointer (some ⟨lb, 0, none⟩))) rfl (by kernel_rfl) (by kernel_rfl) (by kernel_rfl) (fun _ _ _ h => (show False from h).elim) ?xyU1116233 ?xhU1116233 ?xrU1116233
        case xhU1116233 => exact hHeld
        case xyU1116233 => exact Or.inl ⟨by rfl, fun W9 hW => by obtain ⟨-, hc1, hc2⟩ := hW; clear hHeld; simp only [List.getElem_toArray, List.getElem_cons_succ, List.getElem_cons_zero]; go_simp⟩
        simp only [Act.put, List.getElem_toArray, List.getElem_cons_succ, List.getElem_cons_zero, List.setIfInBounds_toArray, List.set_cons_succ, List.set_cons_zero]
        refine wpAnyH_take (i := 12) (v := (.pointer (some ⟨lb, 5, none⟩))) rfl (by kernel_rfl) (by kernel_rfl) (by kernel_rfl) (fun _ _ _ h => (show False from h).elim) ?xyU12237 ?xhU12237 ?xrU12237
        case xhU12237 => exact hHeld
        case xyU12237 => exact Or.inl ⟨by rfl, fun W9 hW => by obtain ⟨-, hc1, hc2⟩ := hW; clear hHeld; simp only [List.getElem_toArray, List.getElem_cons_succ, List.getElem_cons_zero]; go_simp⟩
        simp only [Act.put, List.getElem_toArray, List.getElem_cons_succ, List.getElem_cons_zero, List.setIfInBounds_toArray, List.set_cons_succ, List.set_cons_zero]
        refine wpAnyH_ready (rs := [13]) (by kernel_rfl) (by simp) ?_
        refine AllReadyH.cons rfl (fun K hK => ?_) AllReadyH.nil
        go_simp
        refine hK.out _ _ ⟨trivial, (by rw [cell_set_other _ _ _ _ l2]; exact u2), (by rw [cell_set_other _ _ _ _ l6]; exact u6)⟩ (fun hHeld => ?_)
        clear hK K
        refine wpAnyH_take (i := 14) (v := (.pointer (some ⟨lb, 0, none⟩))) rfl (by kernel_rfl) (by kernel_rfl) (by kernel_rfl) (fun _ _ _ h => (show False from h).elim) ?xyU14246 ?xhU14246 ?xrU14246
        case xhU14246 => exact hHeld
        case xyU14246 => exact Or.inl ⟨by rfl, fun W9 hW => by obtain ⟨-, hc1, hc2⟩ := hW; clear hHeld; simp only [List.getElem_toArray, List.getElem_cons_succ, List.getElem_cons_zero]; go_simp⟩
        simp only [Act.put, List.getElem_toArray, List.getElem_cons_succ, List.getElem_cons_zero, List.setIfInBounds_toArray, List.set_cons_succ, List.set_cons_zero]
        refine wpAnyH_take (i := 15) (v := (.pointer (some ⟨lb, 6, none⟩))) rfl (by kernel_rfl) (by kernel_rfl) (by kernel_rfl) (fun _ _ _ h => (show False from h).elim) ?xyU15250 ?xhU15250 ?xrU15250
        case xhU15250 => exact hHeld
        case xyU15250 => exact Or.inl ⟨by rfl, fun W9 hW => by obtain ⟨-, hc1, hc2⟩ := hW; clear hHeld; simp only [List.getElem_toArray, List.getElem_cons_succ, List.getElem_cons_zero]; go_simp⟩
        simp only [Act.put, List.getElem_toArray, List.getElem_cons_succ, List.getElem_cons_zero, List.setIfInBounds_toArray, List.set_cons_succ, List.set_cons_zero]
        refine wpAnyH_ready (rs := [16]) (by kernel_rfl) (by simp) ?_
        refine AllReadyH.cons rfl (fun K hK => ?_) AllReadyH.nil
        go_simp
        refine hK.out _ _ ⟨trivial, (by rw [cell_set_other _ _ _ _ l2, cell_set_other _ _ _ _ l2]; exact u2), (by rw [cell_set_other _ _ _ _ l6, cell_set_other _ _ _ _ l6]; exact u6)⟩ (fun hHeld => ?_)
        clear hK K
        refine wpAnyH_done (by kernel_rfl) ?_ _
        refine NoPanic.normal ?_
        have hA4 : ((w5.setCell ⟨lb, 5, none⟩ (.slice po pn pc)).setCell ⟨lb, 6, none⟩ (.int .i64 (z : Int))).heap[w.heap.size + 1]? = some (.cells #[.nilIface] 43 (0, 0)) := by
          obtain ⟨r, -, -, -, hg⟩ := HFIN.out
          exact (hg.keep.block _ (lt_of_block HF4.out) HM4.out).trans HF4.out
        have hA4c : ((w5.setCell ⟨lb, 5, none⟩ (.slice po pn pc)).setCell ⟨lb, 6, none⟩ (.int .i64 (z : Int))).cell? ⟨w.heap.size + 1, 0, none⟩ = some .nilIface := by simp [World.cell?, hA4]
        have hA4f : ((w5.setCell ⟨lb, 5, none⟩ (.slice po pn pc)).setCell ⟨lb, 6, none⟩ (.int .i64 (z : Int))).frozen? ⟨w.heap.size + 1, 0, none⟩ = false := by simp [World.frozen?, hA4]
        have HA49 := hid hA4
        clear hA4 u5 u7 g5 g6 u2 u6 t2 t6 t5 al9 hrun c0 c1 c2 c3 c4 c5 c6 p2 p6
        generalize (w5.setCell ⟨lb, 5, none⟩ (.slice po pn pc)).setCell ⟨lb, 6, none⟩ (.int .i64 (z : Int)) = wZ at *
        go_wp2_with fail
        obtain ⟨r, hr1, hr2, hLZ, hGZ⟩ := HFIN.out
        have hDA : D ≠ w.heap.size + 1 := by have := HD.out; omega
        obtain ⟨hDs, hLE, hAE, hKE⟩ := addE HL5.out hLZ hGZ (lt_of_block HF4.out) HM4.out HA49.out HKD.out hDA
        refine ⟨by simp, .inl ⟨_, _, rfl, run_takeDeferred hDs, ?_⟩⟩
        have hms : m = secs l.length := by
          rw [HMM.out, HXS.out, List.length_range]
          unfold secs
          omega
        refine ⟨_, add_results _ _ _ (by rfl) hAE, rfl, ?_⟩
        have hs12 := HB2.out.size
        have hs24' := HB4.out.size
        have hs4W := HIK.out.size
        refine HFN.out vw5 (.slice po pn pc) Q5 r _ hr1 (fun a ha => Nat.le_trans (by omega) (hr2 a ha)) ?_ (by rw [HQ5.out, hms, HBB.out]) ⟨?_, ?_, ?_, ?_, fun k hk hx9 => ?_⟩ (fun k hk => ?_)
        · rw [← HBB.out, ← hms, ← HZZ.out, ← ho]
          exact hLE
        · exact hKE.os.trans (HIK.out.os.trans (HB4.out.os.trans HB2.out.os))
        · exact hKE.tape.trans (HIK.out.tape.trans (HB4.out.tape.trans HB2.out.tape))
        · exact hKE.output.trans (HIK.out.output.trans (HB4.out.output.trans HB2.out.output))
        · exact Nat.le_trans hs12 (Nat.le_trans hs24' (Nat.le_trans hs4W hKE.size))
        · refine (hKE.block k (by omega) ?_).trans ((HIK.out.block k (by omega) ?_).trans ((HB4.out.block k (by omega)).trans (HB2.out.block k hk)))
          · rintro (e | e | e)
            · rcases HN5.out k e with e | e
              · exact hx9 (.inl e)
              · omega
            · exact hx9 (.inr e)
            · have := HD.out
              omega
          · rintro (e | e)
            · exact hx9 (.inl e)
            · omega
        · rcases hGZ.new k hk with e | e
          · rcases HN5.out k e with e | e
            · exact .inl e
            · exact .inr (by omega)
          · exact .inr (by omega)
end
end Go.Proofs.YtddnleofflobhaaGreatDoor

