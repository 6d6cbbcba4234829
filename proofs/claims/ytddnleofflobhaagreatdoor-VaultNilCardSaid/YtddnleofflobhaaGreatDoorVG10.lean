import Derived.BigQuiet
import Derived.WalkKit
import Derived.OpenShut
import Derived.Test.YtddnleofflobhaaGreatDoorRows
import Derived.WalkSpells
import Derived.WalkLawsBesides
import Derived.Laws.AppendOwnNone
import Derived.Deep.QuietTactic
import Derived.Deep.MidRow
import Derived.Laws.MakeOwn
import Derived.Deep.CutBlock
import Derived.Deep.CutRange
import Derived.Sort.CutIn
import Derived.RangeFuncNested
import Derived.RangeFuncBound
import Derived.RangeFuncCalls
import Derived.RangeFuncLeaves
import Derived.RangeFuncBox
import Derived.Shelf.Abstract
import Derived.Shelf.RegionOpen
import Derived.OwnWalkIn
import Derived.TacticsInMore
import Derived.LoopNIn
import Derived.LoopIn
import Derived.OrdersIn
import Derived.LaidEql
import Derived.Stop.Asserts
import Derived.RowKitTokens
import Derived.Lib.Bytes
import Derived.Deep.RegionHeld3
import Derived.Deep.WholeRow
import Derived.BigRegion
import Derived.Great.BuildSlice
import Derived.Deep.AppendLies
import Derived.StillTailTactics
import Derived.Deep.RegionLaw
import Derived.Great.FillDense
import Derived.Laws.Tables
import Derived.LoopN
import Derived.Deep.OwnRows
import Derived.OwnWalk
import Derived.Deep.Slices
import Derived.Deep.RegionWith
import Derived.Lib.SliceRun
import Derived.ProofKit
import Derived.Deep.Matrix
import Derived.Deep.Grids
import Derived.Lib.AppendZeros
import Derived.Test.YtddnleofflobhaaGreatDoorVG1
import Derived.Test.YtddnleofflobhaaGreatDoorVG2
import Derived.Test.YtddnleofflobhaaGreatDoorVG3
import Derived.Test.YtddnleofflobhaaGreatDoorVG4
import Derived.Test.YtddnleofflobhaaGreatDoorVG5
import Derived.Test.YtddnleofflobhaaGreatDoorVG6
import Derived.Test.YtddnleofflobhaaGreatDoorVG7
import Derived.Test.YtddnleofflobhaaGreatDoorVG8
import Derived.Test.YtddnleofflobhaaGreatDoorVG9
set_option linter.unusedVariables false
set_option linter.unusedSimpArgs false
set_option linter.unusedVariables false
set_option linter.unusedSimpArgs false
set_option maxRecDepth 100000
namespace Go.Proofs.YtddnleofflobhaaGreatDoor
open Go.RowKit

theorem Lo.split (l m : Lo) : l.pl = m.pl ↔ l.ht = m.ht ∧ l.hv = m.hv ∧ (l.si = m.si ∧ l.st = m.st ∧ l.sd.b = m.sd.b) ∧ l.es.map En.pe = m.es.map En.pe := by
  unfold Lo.pl
  simp only [PL.mk.injEq, and_assoc]

set_option maxHeartbeats 4000000 in
theorem same_any (l m : Lo) (w : World) (hl : LoAt w l) (hm : LoAt w m) : Calls Tryz.prog 64 #[l.v, m.v] w (fun en w' => en = .returned (.bool (decide (l.pl = m.pl))) ∧ Below w.heap.size w w') := by
  have hS := Lo.split l m
  have hd : decide (l.pl = m.pl) = decide (l.ht = m.ht ∧ l.hv = m.hv ∧ (l.si = m.si ∧ l.st = m.st ∧ l.sd.b = m.sd.b) ∧ l.es.map En.pe = m.es.map En.pe) := by simp only [hS]
  rw [hd]
  clear hS hd
  have CS0 := fun W (hW : Below w.heap.size w W) => sameSnap_any l.si l.st l.sd m.si m.st m.sd W (hl.sd.old hW) (hm.sd.old hW)
  have CE0 := fun W (hW : Below w.heap.size w W) => equalE_any l.es m.es _ _ W (hl.es.old hW) (hm.es.old hW) hl.el hm.el
  obtain ⟨lht, lhv, lsi, lst, ⟨la, lc, lb⟩, leo, lec, les⟩ := l
  obtain ⟨mht, mhv, msi, mst, ⟨ma, mc, mb⟩, meo, mec, mes⟩ := m
  simp only [Lo.v] at CS0 CE0 ⊢
  obtain ⟨b1, hb1⟩ : ∃ b1, b1 = decide (lsi = msi ∧ lst = mst ∧ lb = mb) := ⟨_, rfl⟩
  obtain ⟨b2, hb2⟩ : ∃ b2, b2 = decide (les.map En.pe = mes.map En.pe) := ⟨_, rfl⟩
  rw [← hb1] at CS0
  rw [← hb2] at CE0
  obtain ⟨d, hd⟩ : ∃ d, d = decide (lht = mht ∧ lhv = mhv ∧ (lsi = msi ∧ lst = mst ∧ lb = mb) ∧ les.map En.pe = mes.map En.pe) := ⟨_, rfl⟩
  have HR : Hid (((lht = mht ∧ lhv = mhv) → (b1 && b2) = d) ∧ (¬ (lht = mht ∧ lhv = mhv) → false = d)) := by
    show _ ∧ _
    refine ⟨fun hg => ?_, fun hg => ?_⟩
    rotate_left
    · rw [hd]
      symm
      rw [decide_eq_false_iff_not]
      exact fun e => hg ⟨e.1, e.2.1⟩
    rw [hd, hb1, hb2]
    rw [Bool.eq_iff_iff]
    obtain ⟨rfl, rfl⟩ := hg
    simp only [decide_eq_true_eq, Bool.and_eq_true, true_and]
  rw [← hd]
  clear hd
  have CS := hid CS0
  have CE := hid CE0
  have hb : Below w.heap.size w ((w.alloc (.cells #[.int .u64 (lht : Int), .int .i64 lhv, .int .u64 (lsi : Int), .int .u64 (lst : Int), .slice la lb.length lc, .slice leo les.length lec] 30)).alloc (.cells #[.int .u64 (mht : Int), .int .i64 mhv, .int .u64 (msi : Int), .int .u64 (mst : Int), .slice ma mb.length mc, .slice meo mes.length mec] 30)) := ((Below.refl _ _).alloc (Nat.le_refl _) _).alloc (by simp) _
  have h0 := (Below.heap_alloc (w.alloc (.cells #[.int .u64 (lht : Int), .int .i64 lhv, .int .u64 (lsi : Int), .int .u64 (lst : Int), .slice la lb.length lc, .slice leo les.length lec] 30)) (.cells #[.int .u64 (mht : Int), .int .i64 mhv, .int .u64 (msi : Int), .int .u64 (mst : Int), .slice ma mb.length mc, .slice meo mes.length mec] 30) w.heap.size (by simp)).trans (heap_alloc_new w (.cells #[.int .u64 (lht : Int), .int .i64 lhv, .int .u64 (lsi : Int), .int .u64 (lst : Int), .slice la lb.length lc, .slice leo les.length lec] 30))
  have h1 := heap_alloc2_new w (.cells #[.int .u64 (lht : Int), .int .i64 lhv, .int .u64 (lsi : Int), .int .u64 (lst : Int), .slice la lb.length lc, .slice leo les.length lec] 30) (.cells #[.int .u64 (mht : Int), .int .i64 mhv, .int .u64 (msi : Int), .int .u64 (mst : Int), .slice ma mb.length mc, .slice meo mes.length mec] 30)
  clear hl hm CS0 CE0 hb1 hb2
  go_enter Tryz.func64, Tryz.ntmps64
  go_upto_region 1 with fail
  generalize (w.alloc (.cells #[.int .u64 (lht : Int), .int .i64 lhv, .int .u64 (lsi : Int), .int .u64 (lst : Int), .slice la lb.length lc, .slice leo les.length lec] 30)).alloc (.cells #[.int .u64 (mht : Int), .int .i64 mhv, .int .u64 (msi : Int), .int .u64 (mst : Int), .slice ma mb.length mc, .slice meo mes.length mec] 30) = w1 at *
  obtain ⟨a0, a1, a2, a3, a4, a5⟩ := six_cells h0
  obtain ⟨c0, c1, c2, c3, c4, c5⟩ := six_cells h1
  have HB := hid hb
  have HX0 := hid h0
  have HX1 := hid h1
  clear hb h0 h1
  by_cases g : lht = mht ∧ lhv = mhv
  · have HG := hid (HR.out.1 g)
    clear HR
    obtain ⟨rfl, rfl⟩ := g
    cases b1 with
    | false =>
      go_wp2_with (first | (go_at_call 91; refine (CS.out _ HB.out).mono ?_; rintro en w2 ⟨rfl, hb2⟩))
      go_ret
      exact ⟨congrArg (fun q => Ending.returned (Value.bool q)) HG.out, HB.out.trans (hb2.mono HB.out.size)⟩
    | true =>
      go_wp2_with (first | (go_at_call 91; refine (CS.out _ HB.out).mono ?_; rintro en w2 ⟨rfl, hb2⟩; have hbb := HB.out.trans (hb2.mono HB.out.size); have CE2 := hid (CE.out _ hbb); obtain ⟨x0, x1, x2, x3, x4, x5⟩ := six_cells ((hb2.block _ (lt_of_block HX0.out)).trans HX0.out); obtain ⟨y0, y1, y2, y3, y4, y5⟩ := six_cells ((hb2.block _ (lt_of_block HX1.out)).trans HX1.out); have HBB := hid hbb; clear hbb hb2))
      go_wp2_with (first | (go_at_call 92; refine CE2.out.mono ?_; rintro en w3 ⟨rfl, hb3⟩))
      go_ret
      exact ⟨congrArg (fun q => Ending.returned (Value.bool q)) HG.out, HBB.out.trans (hb3.mono HBB.out.size)⟩
  · have HG := hid (HR.out.2 g)
    clear HR
    by_cases g1 : lht = mht
    · have g2 : ¬ (lhv = mhv) := fun e => g ⟨g1, e⟩
      subst g1
      clear g
      go_wp2_with fail
      go_ret
      exact ⟨congrArg (fun q => Ending.returned (Value.bool q)) HG.out, HB.out⟩
    · have g2 : ¬ ((lht : Int) = (mht : Int)) := by omega
      clear g
      go_wp2_with fail
      go_ret
      exact ⟨congrArg (fun q => Ending.returned (Value.bool q)) HG.out, HB.out⟩

set_option maxHeartbeats 4000000 in
theorem longest_any (l : Lo) (w : World) (hl : LoAt w l) (hs : longP l.pl ≤ 140737488355328) : Calls Tryz.prog 66 #[l.v] w (fun en w' => en = .returned (.int .i64 (longP l.pl : Int)) ∧ Below w.heap.size w w') := by
  obtain ⟨lht, lhv, lsi, lst, ⟨la, lc, lb⟩, leo, lec, les⟩ := l
  have hE := hl.es
  have hel := hl.el
  have hec : les.length ≤ lec := by
    obtain ⟨_, _, e1, q1, q2⟩ := hE.1.form
    simp only [Value.slice.injEq, List.length_map] at e1 q1
    omega
  simp only [Lo.v] at hE hel ⊢
  have hlen := fun W => run_len_slice (P := Tryz.prog) W 25 3 la lb.length lc Tryz.underlying25
  have hle := fun W => run_len_slice (P := Tryz.prog) W 28 3 leo les.length lec Tryz.underlying28
  obtain ⟨G, hG⟩ : ∃ G : Nat → Nat, G = fun k => 40 + lb.length + (((les.take k).map fun e => 13 + e.r.b.length).sum) := ⟨_, rfl⟩
  have HG0 : G 0 = 40 + lb.length := by rw [hG]; simp
  have HGn : Hid (∀ k e, les[k]? = some e → G (k + 1) = G k + (13 + e.r.b.length)) := fun k e he => by
    rw [hG]
    simp only [List.take_add_one, he]
    simp
    omega
  have HGl : Hid (G les.length = longP (Lo.pl ⟨lht, lhv, lsi, lst, ⟨la, lc, lb⟩, leo, lec, les⟩)) := by
    show _ = _
    rw [hG]
    unfold longP Lo.pl
    simp only [List.take_length, List.map_map]
    rfl
  have HGm : Hid (∀ k, k ≤ les.length → G k ≤ 140737488355328) := fun k hk => by
    refine Nat.le_trans ?_ (by rw [← HGl.out] at hs; exact hs)
    rw [hG]
    simp only
    conv => rhs; rw [List.take_length, ← List.take_append_drop k les, List.map_append, List.sum_append]
    omega
  rw [← HGl.out]
  have h0 := heap_alloc_new w (.cells #[.int .u64 (lht : Int), .int .i64 lhv, .int .u64 (lsi : Int), .int .u64 (lst : Int), .slice la lb.length lc, .slice leo les.length lec] 30)
  have hb : Below w.heap.size w (w.alloc (.cells #[.int .u64 (lht : Int), .int .i64 lhv, .int .u64 (lsi : Int), .int .u64 (lst : Int), .slice la lb.length lc, .slice leo les.length lec] 30)) := (Below.refl _ _).alloc (Nat.le_refl _) _
  have hsb : lb.length ≤ 140737488355328 := hl.sl
  have h40 : IntKind.i64.wrap (40 + (lb.length : Int)) = (G 0 : Int) := by rw [HG0, IntKind.wrap_i64]; omega
  have HE := hid hE
  have HS0 : Hid (G 0 = 40 + lb.length) := HG0
  clear hl hE hs hG HG0
  obtain ⟨n, hn⟩ : ∃ n, n = les.length := ⟨_, rfl⟩
  rw [← hn] at hle HE hec hel HGm
  rw [← hn] at h0 hb ⊢
  have HN := hid hn
  clear hn
  go_enter Tryz.func66, Tryz.ntmps66
  go_upto_region 1 with fail
  generalize w.alloc (.cells #[.int .u64 (lht : Int), .int .i64 lhv, .int .u64 (lsi : Int), .int .u64 (lst : Int), .slice la lb.length lc, .slice leo n lec] 30) = w1 at *
  obtain ⟨a0, a1, a2, a3, a4, a5⟩ := six_cells h0
  have HB := hid hb
  clear h0 hb a0 a1 a2 a3
  go_wp2_with fail
  go_loopw [3, 14] (fun s i wr => ∃ k : Nat, k ≤ n ∧ i = .int .i64 (k : Int) ∧ s = .int .i64 (G k : Int) ∧ Hid (Below w.heap.size w wr)) (fun _ i _ => n - (intOf i).toNat)
  case atStart => exact ⟨0, by omega, rfl, by rfl, HB⟩
  case round =>
    obtain ⟨k, hk, rfl, rfl, HBw⟩ := hrel
    by_cases hlt : k < n
    · have hA9 := List.getElem?_eq_getElem (l := les) (i := k) (by have := HN.out; omega)
      generalize les[k]'_ = e at hA9
      obtain ⟨b1, o1, ea1, c10, c11, c12, r1⟩ := (HE.out.old HBw.out).get hA9
      subst ea1
      have hki : (k : Int) < (n : Int) := by omega
      have hz : IntKind.i64.wrap ((k : Int) + 1) = (k : Int) + 1 := by rw [IntKind.wrap_i64]; omega
      have hlr := fun W => run_len_slice (P := Tryz.prog) W 25 3 e.r.a e.r.b.length e.r.c Tryz.underlying25
      have hgn := HGn.out k e hA9
      have hgm := HGm.out (k + 1) (by omega)
      have hz2 : IntKind.i64.wrap (13 + (e.r.b.length : Int)) = 13 + (e.r.b.length : Int) := by rw [IntKind.wrap_i64]; omega
      obtain ⟨gk, hgk⟩ : ∃ gk, gk = G k := ⟨_, rfl⟩
      obtain ⟨gk1, hgk1⟩ : ∃ gk1, gk1 = G (k + 1) := ⟨_, rfl⟩
      rw [← hgk, ← hgk1] at hgn
      rw [← hgk1] at hgm
      rw [← hgk]
      have hz3 : IntKind.i64.wrap ((gk : Int) + (13 + (e.r.b.length : Int))) = (gk1 : Int) := by rw [IntKind.wrap_i64]; omega
      have HGK := hid hgk1
      have HBx : Hid (∀ o, Below wr.heap.size wr (wr.alloc o)) := hid fun o => (Below.refl _ _).alloc (Nat.le_refl _) _
      have HSUM : Hid ((gk : Int) + (13 + (e.r.b.length : Int)) = (gk1 : Int)) := by show _ = _; omega
      have hrl : e.r.b.length ≤ 140737488355328 := by omega
      have hgl : gk ≤ 140737488355328 := by omega
      clear r1 hgn hgk hgk1 hgm
      go_wp2_with fail
      go_roundw
      case rel => exact ⟨k + 1, by omega, by go_num, (by rw [← HGK.out, ← HSUM.out]), HBw.out.trans ((HBx.out _).mono HBw.out.size)⟩
      case measure => first | (simp [intOf]; done) | (simp [intOf]; omega)
    · obtain rfl : k = n := by omega
      have hki : ¬ ((k : Int) < (k : Int)) := by omega
      go_wp2_with fail
      go_ret
      exact ⟨rfl, HBw.out⟩

/-- What behind gives. -/
def BehA (l : Lo) (idx : Nat) (w : World) (en : Ending) (w' : World) : Prop := ∃ d ao n ac, d ≤ l.es.length ∧ (l.es.drop d).map En.pe = behindP l.pl idx ∧ n = (l.es.drop d).length ∧ en = .returned (.slice ao n ac) ∧ Hid (Ents w (.slice ao n ac) (l.es.drop d)) ∧ Below w.heap.size w w'
theorem slice_kind {P : Program} {t e : TypeId} (ht : P.underlying t = some (.slice e)) (k : IntKind) (W : World) (ao : Option Addr) (len cap n : Nat) (h1 : n ≤ len) (h2 : len ≤ cap) :
    (Instr.slice t (.slice ao len cap) (some (.int k (n : Int))) none none).run P W = (Instr.slice t (.slice ao len cap) (some (.int .i64 (n : Int))) none none).run P W := by
  have ht' : P.underlying t = some (.slice (P.elem t)) := by simp [Program.elem, ht]
  rw [run_slice_l W t _ _ _ ht' k _ (by omega) (by omega), run_slice_l W t _ _ _ ht' .i64 _ (by omega) (by omega)]

set_option maxHeartbeats 4000000 in
theorem behind_any (l : Lo) (idx : Nat) (w : World) (hl : LoAt w l) (hi : idx < 18446744073709551616) : Calls Tryz.prog 83 #[l.v, .int .u64 (idx : Int)] w (BehA l idx w) := by
  obtain ⟨lht, lhv, lsi, lst, ⟨la, lc, lb⟩, leo, lec, les⟩ := l
  have hE := hl.es
  have hel := hl.el
  have hsi := hl.si
  simp only [Lo.v] at hE hel hsi ⊢
  have hle := fun W => run_len_slice (P := Tryz.prog) W 28 3 leo les.length lec Tryz.underlying28
  have h0 := heap_alloc_new w (.cells #[.int .u64 (lht : Int), .int .i64 lhv, .int .u64 (lsi : Int), .int .u64 (lst : Int), .slice la lb.length lc, .slice leo les.length lec] 30)
  have hb : Below w.heap.size w (w.alloc (.cells #[.int .u64 (lht : Int), .int .i64 lhv, .int .u64 (lsi : Int), .int .u64 (lst : Int), .slice la lb.length lc, .slice leo les.length lec] 30)) := (Below.refl _ _).alloc (Nat.le_refl _) _
  have hec : les.length ≤ lec := by
    obtain ⟨_, _, e1, q1, q2⟩ := hE.1.form
    simp only [Value.slice.injEq, List.length_map] at e1 q1
    omega
  by_cases hlt : idx ≤ lsi
  · have hI : (idx : Int) ≤ (lsi : Int) := by omega
    have HR : Hid (behindP (Lo.pl ⟨lht, lhv, lsi, lst, ⟨la, lc, lb⟩, leo, lec, les⟩) idx = les.map En.pe) := hid (if_pos hlt)
    have HE := hid hE
    clear hl hE
    go_enter Tryz.func83, Tryz.ntmps83
    go_upto_region 1 with fail
    generalize w.alloc (.cells #[.int .u64 (lht : Int), .int .i64 lhv, .int .u64 (lsi : Int), .int .u64 (lst : Int), .slice la lb.length lc, .slice leo les.length lec] 30) = w1 at *
    obtain ⟨a0, a1, a2, a3, a4, a5⟩ := six_cells h0
    have HB := hid hb
    clear h0 hb
    go_wp2_with fail
    go_ret
    exact ⟨0, leo, _, lec, Nat.zero_le _, HR.out.symm, rfl, rfl, HE, HB.out⟩
  · obtain ⟨d, hd⟩ : ∃ d, d = min (idx - lsi) les.length := ⟨_, rfl⟩
    have HR : Hid (behindP (Lo.pl ⟨lht, lhv, lsi, lst, ⟨la, lc, lb⟩, leo, lec, les⟩) idx = (les.drop d).map En.pe) := by
      show _ = _
      unfold behindP Lo.pl
      simp only
      rw [if_neg hlt, List.length_map, ← hd, List.map_drop]
    have hI : ¬ ((idx : Int) ≤ (lsi : Int)) := by omega
    obtain ⟨zo, zc, hzs, hzb, -⟩ := hE.1.cut (P := Tryz.prog) (by decide) 28 63 Tryz.underlying28 (by kernel_rfl) d (by rw [List.length_map]; omega)
    rw [List.length_map] at hzs hzb
    have hdl : les.length - d = (les.drop d).length := by rw [List.length_drop]
    rw [hdl] at hzs hzb
    have HZ : Hid (Ents w (.slice zo (les.drop d).length zc) (les.drop d)) := ⟨by rw [List.map_drop]; exact hzb, fun e he => hE.2 e (List.mem_of_mem_drop he)⟩
    have hsub : IntKind.u64.wrap ((idx : Int) - (lsi : Int)) = ((idx - lsi : Nat) : Int) := by rw [wrap_u64]; omega
    have hsub2 : IntKind.u64.wrap (les.length : Int) = (les.length : Int) := by rw [wrap_u64]; omega
    have hdle : d ≤ les.length := by omega
    obtain ⟨y, hy⟩ : ∃ y, y = idx - lsi := ⟨_, rfl⟩
    rw [← hy] at hsub hd
    have hzs2 : ∀ W, (Instr.slice 28 (.slice leo les.length lec) (some (.int .u64 (d : Int))) none none).run Tryz.prog W = .ok (.slice zo (les.drop d).length zc) W := fun W => by
      rw [slice_kind Tryz.underlying28 .u64 W leo les.length lec d (by omega) hec]
      exact hzs W
    have HDL := hid hdle
    obtain ⟨zl, hzl⟩ : ∃ zl, zl = (les.drop d).length := ⟨_, rfl⟩
    have HZL := hid hzl
    rw [← hzl] at hzs2
    clear hl hE hzs hzb hy hdl hzl
    go_enter Tryz.func83, Tryz.ntmps83
    go_upto_region 1 with fail
    generalize w.alloc (.cells #[.int .u64 (lht : Int), .int .i64 lhv, .int .u64 (lsi : Int), .int .u64 (lst : Int), .slice la lb.length lc, .slice leo les.length lec] 30) = w1 at *
    obtain ⟨a0, a1, a2, a3, a4, a5⟩ := six_cells h0
    have HB := hid hb
    clear h0 hb
    rcases Nat.lt_or_ge les.length y with g | g
    · obtain rfl : d = les.length := by omega
      have g3 : (les.length : Int) < (y : Int) := by omega
      clear hd
      go_wp2_with fail
      go_ret
      exact ⟨les.length, zo, zl, zc, HDL.out, HR.out.symm, HZL.out, rfl, by rw [HZL.out]; exact HZ, HB.out⟩
    · obtain rfl : d = y := by omega
      have g3 : ¬ ((les.length : Int) < (d : Int)) := by omega
      have g4 : ¬ (les.length < d) := by omega
      clear hd
      go_wp2_with fail
      go_ret
      exact ⟨d, zo, zl, zc, HDL.out, HR.out.symm, HZL.out, rfl, by rw [HZL.out]; exact HZ, HB.out⟩

set_option maxHeartbeats 8000000 in
theorem alike_any (A B : List En) (ao bo : Option Addr) (n m ac bc : Nat) (w : World) (hn : n = A.length) (hm : m = B.length) (hA : Ents w (.slice ao n ac) A) (hB : Ents w (.slice bo m bc) B) (hl : n ≤ 140737488355328) (hl2 : m ≤ 140737488355328) :
    Calls Tryz.prog 97 #[.slice ao n ac, .slice bo m bc] w (fun en w' => en = .returned (.int .i64 (alikeP (A.map En.pe) (B.map En.pe) : Int)) ∧ Below w.heap.size w w') := by
  have hla := fun W => run_len_slice (P := Tryz.prog) W 28 3 ao n ac Tryz.underlying28
  have hlb := fun W => run_len_slice (P := Tryz.prog) W 28 3 bo m bc Tryz.underlying28
  have hnc : n ≤ ac ∧ m ≤ bc := by
    obtain ⟨_, _, e1, q1, q2⟩ := hA.1.form
    obtain ⟨_, _, e2, q3, q4⟩ := hB.1.form
    simp only [Value.slice.injEq, List.length_map] at e1 q1 e2 q3
    omega
  obtain ⟨K, hK⟩ : ∃ K, K = alikeP (A.map En.pe) (B.map En.pe) := ⟨_, rfl⟩
  have hKl := alike_le (A.map En.pe) (B.map En.pe)
  rw [← hK, List.length_map, List.length_map, ← hn, ← hm] at hKl
  obtain ⟨q, hq⟩ : ∃ q, q = min n m := ⟨_, rfl⟩
  have hq2 : q ≤ n ∧ q ≤ m ∧ K ≤ q := by omega
  have HMN : Hid ((if m < n then (m : Int) else (n : Int)) = (q : Int)) := by show _ = _; split <;> omega
  rw [← hK]
  have HA := hid hA
  have HB := hid hB
  have HN := hid (And.intro hn hm)
  have HK := hid hK
  have hmin : (n : Int) < (m : Int) ∨ ¬ ((n : Int) < (m : Int)) := by omega
  have hnc1 := hnc.1
  have hnc2 := hnc.2
  clear hA hB hn hm hK hKl hnc hq
  go_enter Tryz.func97, Tryz.ntmps97
  go_wp2_with fail
  go_loopw [5] (fun i wr => ∃ k : Nat, k ≤ K ∧ i = .int .i64 (k : Int) ∧ Hid (Below w.heap.size w wr)) (fun i _ => q - (intOf i).toNat)
  case atStart => exact ⟨0, by omega, rfl, Below.refl _ _⟩
  case round =>
    obtain ⟨k, hk, rfl, HBw⟩ := hrel
    have hz : IntKind.i64.wrap ((k : Int) + 1) = (k : Int) + 1 := by rw [IntKind.wrap_i64]; omega
    have hm9 := HMN.out
    by_cases hlt : k < q
    · have hki : (k : Int) < (q : Int) := by omega
      have hkn : (k : Int) < (n : Int) := by omega
      have hkm : (k : Int) < (m : Int) := by omega
      have hA9 := List.getElem?_eq_getElem (l := A) (i := k) (by have := HN.out; omega)
      have hB9 := List.getElem?_eq_getElem (l := B) (i := k) (by have := HN.out; omega)
      generalize A[k]'_ = e at hA9
      generalize B[k]'_ = f at hB9
      obtain ⟨b1, o1, ea1, c10, c11, c12, r1⟩ := (HA.out.old HBw.out).get hA9
      obtain ⟨b2, o2, eb2, c20, c21, c22, r2⟩ := (HB.out.old HBw.out).get hB9
      subst ea1 eb2
      have hx := alike_next (A.map En.pe) (B.map En.pe) k e.pe f.pe (by have := HK.out; omega) (by rw [List.getElem?_map, hA9]; rfl) (by rw [List.getElem?_map, hB9]; rfl)
      rw [← HK.out] at hx
      have CE : Hid (∀ W, Below wr.heap.size wr W → Calls Tryz.prog 93 #[.agg #[.int .u64 (e.t : Int), .int .u64 (e.i : Int), .slice e.r.a e.r.b.length e.r.c], .agg #[.int .u64 (f.t : Int), .int .u64 (f.i : Int), .slice f.r.a f.r.b.length f.r.c]] W (fun en w' => en = .returned (.bool (decide (e.pe = f.pe))) ∧ Hid (Below wr.heap.size wr w'))) := hid fun W hW => (sameEntry_any e f W (r1.old hW) (r2.old hW)).mono fun en w' h => ⟨h.1, hid (hW.trans (h.2.mono hW.size))⟩
      clear r1 r2 hA9 hB9
      obtain ⟨S9, hS9⟩ : ∃ S9 : World → Prop, S9 = fun V => Below wr.heap.size wr V := ⟨_, rfl⟩
      have hC : ∀ V, S9 V → ∀ a v, wr.cell? a = some v → V.cell? a = some v := fun V h a v hv => by rw [hS9] at h; exact (World.cell?_of_block (w := wr) (a := a) (h.block _ (World.block_lt_of_cell? wr _ hv))).trans hv
      have hY : ∀ V, S9 V → V.cell? ⟨b1, o1 + k * 3, none⟩ = some (.int .u64 (e.t : Int)) ∧ V.cell? ⟨b1, o1 + k * 3 + 1, none⟩ = some (.int .u64 (e.i : Int)) ∧ V.cell? ⟨b1, o1 + k * 3 + 2, none⟩ = some (.slice e.r.a e.r.b.length e.r.c) ∧ V.cell? ⟨b2, o2 + k * 3, none⟩ = some (.int .u64 (f.t : Int)) ∧ V.cell? ⟨b2, o2 + k * 3 + 1, none⟩ = some (.int .u64 (f.i : Int)) ∧ V.cell? ⟨b2, o2 + k * 3 + 2, none⟩ = some (.slice f.r.a f.r.b.length f.r.c) := fun V h => ⟨hC V h _ _ c10, hC V h _ _ c11, hC V h _ _ c12, hC V h _ _ c20, hC V h _ _ c21, hC V h _ _ c22⟩
      have HS : Hid (∀ V, Below wr.heap.size wr V → S9 V) := fun V h => by rw [hS9]; exact h
      have hWd : Below wr.heap.size wr wr.drew := ⟨rfl, rfl, rfl, Nat.le_refl _, fun _ _ => rfl⟩
      clear hS9 hC c10 c11 c12 c20 c21 c22
      go_upto_region 2 with fail
      go_cut [23] from 6 to 23 (fun b wx => b = .bool (decide (e.pe = f.pe)) ∧ Hid (Below wr.heap.size wr wx))
      case first =>
        refine wp_region_noPanic ?_
        refine wp_region_held_drew (S := S9) (by kernel_rfl) (HS.out _ hWd) (fun hHeld => ?_)
        have HWd := hid hWd
        clear hWd
        have CEd := hid (CE.out _ HWd.out)
        generalize wr.drew = Wd at *
        refine wpAnyH_take (i := 0) (v := (.int .i64 (k : Int))) rfl (by kernel_rfl) (by kernel_rfl) (by kernel_rfl) (fun _ _ _ h => (show False from h).elim) ?xyAL1 ?xhAL1 ?xrAL1
        case xhAL1 => exact hHeld
        case xyAL1 => exact Or.inl ⟨by rfl, fun W9 hW => by clear hHeld; simp only [List.getElem_toArray, List.getElem_cons_succ, List.getElem_cons_zero]; go_simp⟩
        simp only [Act.put, List.getElem_toArray, List.getElem_cons_succ, List.getElem_cons_zero, List.setIfInBounds_toArray, List.set_cons_succ, List.set_cons_zero]
        refine wpAnyH_take (i := 1) (v := (.slice (some ⟨b1, o1, none⟩) n ac)) rfl (by kernel_rfl) (by kernel_rfl) (by kernel_rfl) (fun _ _ _ h => (show False from h).elim) ?xyAL2 ?xhAL2 ?xrAL2
        case xhAL2 => exact hHeld
        case xyAL2 => exact Or.inl ⟨by rfl, fun W9 hW => by clear hHeld; simp only [List.getElem_toArray, List.getElem_cons_succ, List.getElem_cons_zero]; go_simp⟩
        simp only [Act.put, List.getElem_toArray, List.getElem_cons_succ, List.getElem_cons_zero, List.setIfInBounds_toArray, List.set_cons_succ, List.set_cons_zero]
        refine wpAnyH_take (i := 2) (v := (.int .i64 (n : Int))) rfl (by kernel_rfl) (by kernel_rfl) (by kernel_rfl) (fun _ _ _ h => (show False from h).elim) ?xyAL3 ?xhAL3 ?xrAL3
        case xhAL3 => exact hHeld
        case xyAL3 => exact Or.inl ⟨by rfl, fun W9 hW => by clear hHeld; simp only [List.getElem_toArray, List.getElem_cons_succ, List.getElem_cons_zero]; go_simp⟩
        simp only [Act.put, List.getElem_toArray, List.getElem_cons_succ, List.getElem_cons_zero, List.setIfInBounds_toArray, List.set_cons_succ, List.set_cons_zero]
        refine wpAnyH_take (i := 3) (v := (.slice (some ⟨b2, o2, none⟩) m bc)) rfl (by kernel_rfl) (by kernel_rfl) (by kernel_rfl) (fun _ _ _ h => (show False from h).elim) ?xyAL4 ?xhAL4 ?xrAL4
        case xhAL4 => exact hHeld
        case xyAL4 => exact Or.inl ⟨by rfl, fun W9 hW => by clear hHeld; simp only [List.getElem_toArray, List.getElem_cons_succ, List.getElem_cons_zero]; go_simp⟩
        simp only [Act.put, List.getElem_toArray, List.getElem_cons_succ, List.getElem_cons_zero, List.setIfInBounds_toArray, List.set_cons_succ, List.set_cons_zero]
        refine wpAnyH_take (i := 4) (v := (.int .i64 (m : Int))) rfl (by kernel_rfl) (by kernel_rfl) (by kernel_rfl) (fun _ _ _ h => (show False from h).elim) ?xyAL5 ?xhAL5 ?xrAL5
        case xhAL5 => exact hHeld
        case xyAL5 => exact Or.inl ⟨by rfl, fun W9 hW => by clear hHeld; simp only [List.getElem_toArray, List.getElem_cons_succ, List.getElem_cons_zero]; go_simp⟩
        simp only [Act.put, List.getElem_toArray, List.getElem_cons_succ, List.getElem_cons_zero, List.setIfInBounds_toArray, List.set_cons_succ, List.set_cons_zero]
        refine wpAnyH_take (i := 5) (v := (.int .i64 (q : Int))) rfl (by kernel_rfl) (by kernel_rfl) (by kernel_rfl) (fun _ _ _ h => (show False from h).elim) ?xyAL6 ?xhAL6 ?xrAL6
        case xhAL6 => exact hHeld
        case xyAL6 => exact Or.inl ⟨by rfl, fun W9 hW => by clear hHeld; simp only [List.getElem_toArray, List.getElem_cons_succ, List.getElem_cons_zero]; go_simp⟩
        simp only [Act.put, List.getElem_toArray, List.getElem_cons_succ, List.getElem_cons_zero, List.setIfInBounds_toArray, List.set_cons_succ, List.set_cons_zero]
        refine wpAnyH_take (i := 6) (v := (.bool true)) rfl (by kernel_rfl) (by kernel_rfl) (by kernel_rfl) (fun _ _ _ h => (show False from h).elim) ?xyAL7 ?xhAL7 ?xrAL7
        case xhAL7 => exact hHeld
        case xyAL7 => exact Or.inl ⟨by rfl, fun W9 hW => by clear hHeld; simp only [List.getElem_toArray, List.getElem_cons_succ, List.getElem_cons_zero]; go_simp⟩
        simp only [Act.put, List.getElem_toArray, List.getElem_cons_succ, List.getElem_cons_zero, List.setIfInBounds_toArray, List.set_cons_succ, List.set_cons_zero]
        refine wpAnyH_take (i := 7) (v := (.bool true)) rfl (by kernel_rfl) (by kernel_rfl) (by kernel_rfl) (fun _ _ _ h => (show False from h).elim) ?xyAL8 ?xhAL8 ?xrAL8
        case xhAL8 => exact hHeld
        case xyAL8 => exact Or.inl ⟨by rfl, fun W9 hW => by clear hHeld; simp only [List.getElem_toArray, List.getElem_cons_succ, List.getElem_cons_zero]; go_simp⟩
        simp only [Act.put, List.getElem_toArray, List.getElem_cons_succ, List.getElem_cons_zero, List.setIfInBounds_toArray, List.set_cons_succ, List.set_cons_zero]
        refine wpAnyH_take (i := 8) (v := (.slice (some ⟨b1, o1, none⟩) n ac)) rfl (by kernel_rfl) (by kernel_rfl) (by kernel_rfl) (fun _ _ _ h => (show False from h).elim) ?xyAL9 ?xhAL9 ?xrAL9
        case xhAL9 => exact hHeld
        case xyAL9 => exact Or.inl ⟨by rfl, fun W9 hW => by clear hHeld; simp only [List.getElem_toArray, List.getElem_cons_succ, List.getElem_cons_zero]; go_simp⟩
        simp only [Act.put, List.getElem_toArray, List.getElem_cons_succ, List.getElem_cons_zero, List.setIfInBounds_toArray, List.set_cons_succ, List.set_cons_zero]
        refine wpAnyH_take (i := 9) (v := (.int .i64 (k : Int))) rfl (by kernel_rfl) (by kernel_rfl) (by kernel_rfl) (fun _ _ _ h => (show False from h).elim) ?xyAL10 ?xhAL10 ?xrAL10
        case xhAL10 => exact hHeld
        case xyAL10 => exact Or.inl ⟨by rfl, fun W9 hW => by clear hHeld; simp only [List.getElem_toArray, List.getElem_cons_succ, List.getElem_cons_zero]; go_simp⟩
        simp only [Act.put, List.getElem_toArray, List.getElem_cons_succ, List.getElem_cons_zero, List.setIfInBounds_toArray, List.set_cons_succ, List.set_cons_zero]
        refine wpAnyH_take (i := 10) (v := (.pointer (some ⟨b1, o1 + k * 3, none⟩))) rfl (by kernel_rfl) (by kernel_rfl) (by kernel_rfl) (fun _ _ _ h => (show False from h).elim) ?xyAL11 ?xhAL11 ?xrAL11
        case xhAL11 => exact hHeld
        case xyAL11 => exact Or.inl ⟨by rfl, fun W9 hW => by clear hHeld; simp only [List.getElem_toArray, List.getElem_cons_succ, List.getElem_cons_zero]; go_simp⟩
        simp only [Act.put, List.getElem_toArray, List.getElem_cons_succ, List.getElem_cons_zero, List.setIfInBounds_toArray, List.set_cons_succ, List.set_cons_zero]
        refine wpAnyH_take (i := 11) (v := (.agg #[.int .u64 (e.t : Int), .int .u64 (e.i : Int), .slice e.r.a e.r.b.length e.r.c])) rfl (by kernel_rfl) (by kernel_rfl) (by kernel_rfl) (fun _ _ _ h => (show False from h).elim) ?xyAL12 ?xhAL12 ?xrAL12
        case xhAL12 => exact hHeld
        case xyAL12 => exact Or.inl ⟨by rfl, fun W9 hW => by obtain ⟨z0, z1, z2, z3, z4, z5⟩ := hY _ hW; clear hHeld; simp only [List.getElem_toArray, List.getElem_cons_succ, List.getElem_cons_zero]; go_simp⟩
        simp only [Act.put, List.getElem_toArray, List.getElem_cons_succ, List.getElem_cons_zero, List.setIfInBounds_toArray, List.set_cons_succ, List.set_cons_zero]
        refine wpAnyH_take (i := 12) (v := (.slice (some ⟨b2, o2, none⟩) m bc)) rfl (by kernel_rfl) (by kernel_rfl) (by kernel_rfl) (fun _ _ _ h => (show False from h).elim) ?xyAL13 ?xhAL13 ?xrAL13
        case xhAL13 => exact hHeld
        case xyAL13 => exact Or.inl ⟨by rfl, fun W9 hW => by clear hHeld; simp only [List.getElem_toArray, List.getElem_cons_succ, List.getElem_cons_zero]; go_simp⟩
        simp only [Act.put, List.getElem_toArray, List.getElem_cons_succ, List.getElem_cons_zero, List.setIfInBounds_toArray, List.set_cons_succ, List.set_cons_zero]
        refine wpAnyH_take (i := 13) (v := (.int .i64 (k : Int))) rfl (by kernel_rfl) (by kernel_rfl) (by kernel_rfl) (fun _ _ _ h => (show False from h).elim) ?xyAL14 ?xhAL14 ?xrAL14
        case xhAL14 => exact hHeld
        case xyAL14 => exact Or.inl ⟨by rfl, fun W9 hW => by clear hHeld; simp only [List.getElem_toArray, List.getElem_cons_succ, List.getElem_cons_zero]; go_simp⟩
        simp only [Act.put, List.getElem_toArray, List.getElem_cons_succ, List.getElem_cons_zero, List.setIfInBounds_toArray, List.set_cons_succ, List.set_cons_zero]
        refine wpAnyH_take (i := 14) (v := (.pointer (some ⟨b2, o2 + k * 3, none⟩))) rfl (by kernel_rfl) (by kernel_rfl) (by kernel_rfl) (fun _ _ _ h => (show False from h).elim) ?xyAL15 ?xhAL15 ?xrAL15
        case xhAL15 => exact hHeld
        case xyAL15 => exact Or.inl ⟨by rfl, fun W9 hW => by clear hHeld; simp only [List.getElem_toArray, List.getElem_cons_succ, List.getElem_cons_zero]; go_simp⟩
        simp only [Act.put, List.getElem_toArray, List.getElem_cons_succ, List.getElem_cons_zero, List.setIfInBounds_toArray, List.set_cons_succ, List.set_cons_zero]
        refine wpAnyH_take (i := 15) (v := (.agg #[.int .u64 (f.t : Int), .int .u64 (f.i : Int), .slice f.r.a f.r.b.length f.r.c])) rfl (by kernel_rfl) (by kernel_rfl) (by kernel_rfl) (fun _ _ _ h => (show False from h).elim) ?xyAL16 ?xhAL16 ?xrAL16
        case xhAL16 => exact hHeld
        case xyAL16 => exact Or.inl ⟨by rfl, fun W9 hW => by obtain ⟨z0, z1, z2, z3, z4, z5⟩ := hY _ hW; clear hHeld; simp only [List.getElem_toArray, List.getElem_cons_succ, List.getElem_cons_zero]; go_simp⟩
        simp only [Act.put, List.getElem_toArray, List.getElem_cons_succ, List.getElem_cons_zero, List.setIfInBounds_toArray, List.set_cons_succ, List.set_cons_zero]
        refine wpAnyH_ready (rs := [16]) (by kernel_rfl) (by simp) ?_
        refine AllReadyH.cons rfl (fun K hK => ?_) AllReadyH.nil
        go_simp
        go_wp2_with (first | (go_at_call 93; refine CEd.out.mono ?_; rintro en w3 ⟨rfl, hb3⟩))
        refine hK.out _ _ (HS.out _ hb3.out) (fun hHeld => ?_)
        clear hK K
        refine wpAnyH_take (i := 17) (v := (.bool (decide (e.pe = f.pe)))) rfl (by kernel_rfl) (by kernel_rfl) (by kernel_rfl) (fun _ _ _ h => (show False from h).elim) ?xyAL17 ?xhAL17 ?xrAL17
        case xhAL17 => exact hHeld
        case xyAL17 => exact Or.inl ⟨by rfl, fun W9 hW => by clear hHeld; simp only [List.getElem_toArray, List.getElem_cons_succ, List.getElem_cons_zero]; go_simp⟩
        simp only [Act.put, List.getElem_toArray, List.getElem_cons_succ, List.getElem_cons_zero, List.setIfInBounds_toArray, List.set_cons_succ, List.set_cons_zero]
        refine wpAnyH_done (by kernel_rfl) ?_ _
        refine NoPanic.normal ?_
        go_wp2_with fail
        go_meet
        exact ⟨rfl, hb3⟩
      case rest =>
        obtain ⟨rfl, HBC⟩ := hcut
        by_cases hef : e.pe = f.pe
        · have hdt : decide (e.pe = f.pe) = true := by simp [hef]
          rw [hdt]
          have HX := hid (hx.1 hef)
          clear hdt hef hx
          go_wp2_with fail
          go_roundw
          case rel => exact ⟨k + 1, HX.out, by go_num, HBw.out.trans (HBC.out.mono HBw.out.size)⟩
          case measure => first | (simp [intOf]; done) | (simp [intOf]; omega)
        · have hdt : decide (e.pe = f.pe) = false := by simp [hef]
          rw [hdt]
          have HX := hid (hx.2 hef)
          clear hdt hef hx
          go_wp2_with fail
          go_ret
          exact ⟨by rw [HX.out]; rfl, HBw.out.trans (HBC.out.mono HBw.out.size)⟩
    · obtain rfl : k = q := by omega
      have hki : ¬ ((k : Int) < (k : Int)) := by omega
      obtain rfl : k = K := by omega
      go_upto_region 2 with fail
      go_quiet (fail)
      go_wp2_with fail
      go_ret
      exact ⟨rfl, HBw.out.trans ((below_drawn wr _).mono HBw.out.size)⟩
end Go.Proofs.YtddnleofflobhaaGreatDoor

set_option linter.unusedVariables false
set_option linter.unusedSimpArgs false
set_option maxRecDepth 100000
namespace Go.Proofs.YtddnleofflobhaaGreatDoor
open Go.RowKit Go.ChangeShapes Go.WideShapes Go.ChangeAt Go.Deep

/-- The slice x reads as a list of bytes. -/
def Bss (w : World) (x : Value) (R : List Rc) : Prop := Rws 1 w x (R.map fun r => [rcv r]) ∧ ∀ r ∈ R, Rd w (rcv r) r.b
theorem Bss.old {w w' : World} {x : Value} {R : List Rc} (h : Bss w x R) (hb : Below w.heap.size w w') : Bss w' x R := ⟨h.1.old hb, fun r hr => (h.2 r hr).old hb⟩
theorem Bss.form {w : World} {x : Value} {R : List Rc} (h : Bss w x R) : ∃ ao c, x = .slice ao R.length c ∧ R.length ≤ c ∧ c ≤ maxLen := by
  obtain ⟨ao, c, e, h1, h2⟩ := h.1.form
  rw [List.length_map] at e h1
  exact ⟨ao, c, e, h1, h2⟩
theorem Bss.get {w : World} {ao : Option Addr} {n c : Nat} {R : List Rc} (h : Bss w (.slice ao n c) R) {k : Nat} {r : Rc} (hk : R[k]? = some r) : ∃ b off, ao = some ⟨b, off, none⟩ ∧ w.cell? ⟨b, off + k, none⟩ = some (rcv r) ∧ Rd w (rcv r) r.b := by
  obtain ⟨b, off, e, hc⟩ := h.1.get (by decide) (k := k) (r := [rcv r]) (by rw [List.getElem?_map, hk]; rfl)
  have := hc 0 (rcv r) rfl
  rw [Nat.mul_one, Nat.add_zero] at this
  exact ⟨b, off, e, this, h.2 r (List.mem_of_getElem? hk)⟩
theorem Bss.cut {w : World} {x : Value} {R : List Rc} (h : Bss w x R) (n : Nat) (hn : n ≤ R.length) :
    ∃ (ao : Option Addr) (c : Nat), (∀ W, (Instr.slice 60 x (some (.int .i64 (n : Int))) none none).run Tryz.prog W = .ok (.slice ao (R.length - n) c) W) ∧ Bss w (.slice ao (R.length - n) c) (R.drop n) := by
  obtain ⟨ao, c, h1, h2, -⟩ := h.1.cut (P := Tryz.prog) (by decide) 60 25 Tryz.underlying60 (by kernel_rfl) n (by rw [List.length_map]; exact hn)
  rw [List.length_map] at h1 h2
  refine ⟨ao, c, h1, ⟨by rw [List.map_drop]; exact h2, fun r hr => h.2 r (List.mem_of_mem_drop hr)⟩⟩
theorem flat_one (R : List Rc) : (R.map fun r => [rcv r]).flatten = R.map rcv := by
  induction R with
  | nil => rfl
  | cons r R ih => simp only [List.map_cons, List.flatten_cons, ih]; rfl
end Go.Proofs.YtddnleofflobhaaGreatDoor

set_option linter.unusedVariables false
set_option linter.unusedSimpArgs false
namespace Go.Proofs.YtddnleofflobhaaGreatDoor
open Go.RowKit Go.Shelf

theorem info3 {P : Program} {e : TypeId} {z : Value} {size bytes : Nat} (hinfo : (P.info? e).map (fun i => (i.zero, i.size, i.bytes)) = some (some z, size, bytes)) : ∃ i, P.info? e = some i ∧ i.zero = some z ∧ i.size = size ∧ i.bytes = bytes := by
  cases hq : P.info? e with
  | none => rw [hq] at hinfo; cases hinfo
  | some i => rw [hq] at hinfo; simp at hinfo; exact ⟨i, rfl, hinfo⟩

/-- 'x[:k]', k within the room. -/
theorem slice_to {P : Program} (t e : TypeId) (ht : P.underlying t = some (.slice e)) {i : TypeInfo} (hi : P.info? e = some i) (ao : Option Addr) (n c k : Nat) (hk : k ≤ c) (kd : IntKind) :
    ∀ W, (Instr.slice t (.slice ao n c) none (some (.int kd (k : Int))) none).run P W = .ok (.slice ao k c) W := fun W => by
  have ht' : P.underlying t = some (.slice (P.elem t)) := by simp [Program.elem, ht]
  have he : P.elem t = e := by simp [Program.elem, ht]
  have hs : ∀ W, (sizeOf e).run P W = .ok i.size W := fun W => by simp [sizeOf, typeInfo, hi]
  have hsame : (if c = 0 then ao else ao.map (·.add (0 * i.size))) = ao := by
    split
    · rfl
    · cases ao <;> simp [Addr.add]
  rw [run_slice_h W t _ _ _ ht' kd _ (by omega) (by omega), he, hs]
  simp only [Result.andThen, sliced]
  rw [hsame]
  simp

theorem zero_len (z : Array Value) (n : Nat) : (Builtin.zeroCells z n).size = n * z.size := by simp [Builtin.zeroCells]

/-- A row that append of a made one lays: nothing of it is used. -/
theorem own_zeros {w : World} {e : TypeId} {size : Nat} {cs : Array Value} {cap : Nat} (hs : cs.size = cap * size) (hc : cap ≤ maxLen) : (w.drew.alloc (.cells cs e)).ownsRow w.heap.size e size (.slice (some ⟨w.heap.size, 0, none⟩) 0 cap) 0 [] := by
  refine ⟨by simp, .inr ⟨w.heap.size, cap, cs, rfl, Nat.le_refl _, ?_, Nat.zero_le _, hc, hs, by simp⟩⟩
  exact heap_alloc_new w.drew _

/-- What Grow of nil gives: room. -/
def Room (e : TypeId) (size : Nat) (w : World) (x : Ending) (w' : World) : Prop := ∃ v, x = .returned v ∧ w'.ownsRow w.heap.size e size v 0 [] ∧ Below w.heap.size w w'

set_option maxHeartbeats 4000000 in
set_option maxRecDepth 100000 in
theorem growB_any (n : Nat) (w : World) (hn : n ≤ 140737488355328) : Calls Tryz.prog 115 #[.slice none 0 0, .int .i64 (n : Int)] w (Room 5 1 w) := by
  obtain ⟨i0, hi, hz0, hz1, hz2⟩ := info3 (P := Tryz.prog) Tryz.info_u8
  by_cases h0 : n = 0
  · subst h0
    go_enter Tryz.func115, Tryz.ntmps115
    go_wp2_with fail
    go_ret
    exact ⟨_, rfl, World.ownsRow_nil _ _ _ _, Below.refl _ _⟩
  · have hs1 := slice_to (P := Tryz.prog) 25 5 Tryz.underlying25 hi none 0 0 0 (Nat.le_refl _) .i64
    have happ := Lib.run_append_nil_zeros (P := Tryz.prog) w 25 3 25 5 i0 _ .i64 .i64 Tryz.underlying25 Tryz.underlying3 hi hz0 n (by omega) (by rw [hz1]; decide) (by omega) (by rw [hz2]; omega)
    have hcap : grownCap w n 0 5 ≤ maxLen := grownCap_le_maxLen w n 0 _ (by unfold maxLen; omega)
    have hcg := grownCap_ge w n 0 5
    have hs2 := slice_to (P := Tryz.prog) 25 5 Tryz.underlying25 hi (some ⟨w.heap.size, 0, none⟩) n (grownCap w n 0 5) 0 (Nat.zero_le _) .i64
    have hsz : (Builtin.zeroCells (Value.int .u8 0).cells n ++ Builtin.zeroCells (Value.int .u8 0).cells (grownCap w n 0 5 - n)).size = grownCap w n 0 5 * 1 := by
      rw [Array.size_append, zero_len, zero_len]
      show n * 1 + (grownCap w n 0 5 - n) * 1 = _
      omega
    have HOWN := hid (own_zeros (w := w) (e := 5) hsz hcap)
    have HB : Hid (Below w.heap.size w (w.drew.alloc (.cells (Builtin.zeroCells (Value.int .u8 0).cells n ++ Builtin.zeroCells (Value.int .u8 0).cells (grownCap w n 0 5 - n)) 5))) := (Below.drew (Below.refl _ w)).alloc (Nat.le_refl _) _
    generalize Builtin.zeroCells (Value.int .u8 0).cells n ++ Builtin.zeroCells (Value.int .u8 0).cells (grownCap w n 0 5 - n) = cs at *
    clear hsz hi hz0 hz1 hz2
    have hpos : (0 : Int) < (n : Int) := by omega
    go_enter Tryz.func115, Tryz.ntmps115
    go_wp2_with (at_builtin; refine Lib.wpList_append_run _ rfl _ _ _ _ rfl _ _ rfl rfl _ _ happ ?_)
    go_ret
    exact ⟨_, rfl, HOWN.out, HB.out⟩

/-- What stands in the first k lists, one behind the other. -/
def catB (R : List Rc) (k : Nat) : List UInt8 := (R.take k).flatMap (·.b)
theorem catB_succ {R : List Rc} {k : Nat} {r : Rc} (h : R[k]? = some r) : catB R (k + 1) = catB R k ++ r.b := by
  unfold catB
  rw [List.take_add_one, h]
  simp
theorem catB_all (R : List Rc) : catB R R.length = R.flatMap (·.b) := by unfold catB; rw [List.take_length]
theorem catB_le (R : List Rc) (k : Nat) : (catB R k).length ≤ (catB R R.length).length := by
  have : catB R R.length = catB R k ++ (R.drop k).flatMap (·.b) := by
    unfold catB
    rw [List.take_length, ← List.flatMap_append, List.take_append_drop]
  rw [this, List.length_append]; omega

set_option maxHeartbeats 8000000 in
set_option maxRecDepth 100000 in
theorem concat_any (ao : Option Addr) (n c : Nat) (R : List Rc) (w : World) (hn : n = R.length) (hc : Bss w (.slice ao n c) R) (hl : (catB R n).length ≤ 140737488355328) (hn2 : n ≤ 100000) :
    Calls Tryz.prog 94 #[.slice ao n c] w (Gives 5 w (R.flatMap (·.b))) := by
  have hnc : n ≤ c := by
    obtain ⟨_, _, e, q1, q2⟩ := hc.form
    cases e
    exact q1
  have hlx := fun W => run_len_slice (P := Tryz.prog) W 60 3 ao n c Tryz.underlying60
  have HC := hid hc
  have HN := hid hn
  have HALL : Hid (R.flatMap (·.b) = catB R n) := by show _ = _; rw [hn, catB_all]
  have HLE : Hid (∀ k, (catB R k).length ≤ (catB R n).length) := fun k => by rw [hn]; exact catB_le R k
  rw [HALL.out]
  clear hc hn
  go_enter Tryz.func94, Tryz.ntmps94
  go_wp2_with fail
  go_loopw [3, 11] (fun s i wr => ∃ k : Nat, k ≤ n ∧ i = .int .i64 k ∧ s = .int .i64 ((catB R k).length : Int) ∧ Hid (Below w.heap.size w wr)) (fun _ i _ => n - (intOf i).toNat)
  case atStart => exact ⟨0, by omega, rfl, rfl, Below.refl _ _⟩
  case round =>
    obtain ⟨k, hk, rfl, rfl, HW⟩ := hrel
    by_cases hlt : k < n
    · have hki : (k : Int) < (n : Int) := by omega
      have hz : IntKind.i64.wrap ((k : Int) + 1) = (k : Int) + 1 := by rw [IntKind.wrap_i64]; omega
      have hv := List.getElem?_eq_getElem (l := R) (i := k) (by have := HN.out; omega)
      generalize R[k]'_ = r at hv
      obtain ⟨b, off, rfl, d1, d2⟩ := (HC.out.old HW.out).get hv
      unfold rcv at d1
      have hlr := fun W => run_len_slice (P := Tryz.prog) W 25 3 r.a r.b.length r.c Tryz.underlying25
      have hcs := catB_succ hv
      have hle := HLE.out (k + 1)
      obtain ⟨s0, hs0⟩ : ∃ s0, s0 = (catB R k).length := ⟨_, rfl⟩
      obtain ⟨s1, hs1⟩ : ∃ s1, s1 = (catB R (k + 1)).length := ⟨_, rfl⟩
      have hsum : s1 = s0 + r.b.length := by rw [hs1, hs0, hcs, List.length_append]
      rw [← hs1] at hle
      rw [← hs0]
      have hw : IntKind.i64.wrap ((s0 : Int) + (r.b.length : Int)) = (s1 : Int) := by rw [IntKind.wrap_i64]; omega
      have hneg : ¬ ((s1 : Int) < 0) := by omega
      have HS1 := hid hs1
      have HSUM : Hid ((s0 : Int) + (r.b.length : Int) = (s1 : Int)) := by show _ = _; omega
      have hb1 : s0 ≤ 140737488355328 := by omega
      have hb2 : r.b.length ≤ 140737488355328 := by omega
      have hneg2 : ¬ ((s0 : Int) + (r.b.length : Int) < 0) := by omega
      clear d2 hv hcs hs0 hs1 hsum
      go_wp2_with fail
      go_roundw
      case rel => exact ⟨k + 1, by omega, by go_num, by rw [← HS1.out, ← HSUM.out], HW⟩
      case measure => first | (simp [intOf]; done) | (simp [intOf]; omega)
    · obtain rfl : k = n := by omega
      have hki : ¬ ((k : Int) < (k : Int)) := by omega
      have CG := hid (growB_any (catB R k).length wr hl)
      go_wp2_with (first | (go_at_call 115; refine CG.out.mono ?_))
      rintro e w1 ⟨v, rfl, ho, hb⟩
      have HO1 := hid (ownsRow_base ho HW.out.size)
      have HB1 := hid (HW.out.trans (hb.mono HW.out.size))
      clear ho hb CG HW
      go_wp2_with fail
      go_loopw [6, 27] (fun z i wx => ∃ q : Nat, q ≤ k ∧ i = .int .i64 q ∧ Hid (wx.ownsRow w.heap.size 5 1 z (catB R q).length ((catB R q).map bv)) ∧ Hid (Below w.heap.size w wx)) (fun _ i _ => k - (intOf i).toNat)
      case atStart => exact ⟨0, by omega, rfl, HO1, HB1⟩
      case round =>
        obtain ⟨q, hq, rfl, HO, HB⟩ := hrel
        by_cases hlq : q < k
        · have hqi : (q : Int) < (k : Int) := by omega
          have hz : IntKind.i64.wrap ((q : Int) + 1) = (q : Int) + 1 := by rw [IntKind.wrap_i64]; omega
          have hv := List.getElem?_eq_getElem (l := R) (i := q) (by have := HN.out; omega)
          generalize R[q]'_ = r at hv
          obtain ⟨b, off, rfl, d1, d2⟩ := (HC.out.old HB.out).get hv
          unfold rcv at d1
          have HCS := hid (catB_succ hv)
          have hle := HLE.out (q + 1)
          rw [HCS.out, List.length_append] at hle
          have HY : Hid (Rd wr (.slice r.a r.b.length r.c) r.b) := d2
          clear d2 hv
          go_wp2_with (first
            | (at_builtin; refine wp_app rfl _ _ 25 rfl w.heap.size 5 Tryz.underlying25 (by kernel_rfl) _ _ _ rfl HO.out _ r.b rfl HY.out ?c1 ?c2 ?_))
          case c1 => omega
          case c2 => exact HB.out.size
          intro x4 w4 o4 g4
          have HO4 : Hid (w4.ownsRow w.heap.size 5 1 x4 (catB R (q + 1)).length ((catB R (q + 1)).map bv)) := by
            show World.ownsRow _ _ _ _ _ _ _
            rw [HCS.out, List.length_append, List.map_append]
            exact o4
          have HB4 : Hid (Below w.heap.size w w4) := HB.out.grown g4 HB.out.size (fun j hj => (HO.out.lt j hj).1)
          clear o4 g4
          go_wp2_with fail
          go_roundw
          case rel => exact ⟨q + 1, by omega, by go_num, HO4, HB4⟩
          case measure => first | (simp [intOf]; done) | (simp [intOf]; omega)
        · obtain rfl : q = k := by omega
          have hqi : ¬ ((q : Int) < (q : Int)) := by omega
          go_wp2_with fail
          go_ret
          exact ⟨_, rfl, HO.out, HB.out⟩
end Go.Proofs.YtddnleofflobhaaGreatDoor

