import Derived.Deep.CutRange
import Derived.WalkKit
import Derived.OpenShut
import Derived.Test.YtddnleofflobhaaGreatDoorRows
import Derived.WalkSpells
import Derived.WalkLawsBesides
import Derived.Laws.AppendOwnNone
import Derived.BigQuiet
import Derived.Deep.QuietTactic
import Derived.Deep.MidRow
import Derived.Laws.MakeOwn
import Derived.Deep.CutBlock
import Derived.Sort.CutIn
import Derived.RangeFuncNested
import Derived.RangeFuncBound
import Derived.RangeFuncCalls
import Derived.RangeFuncLeaves
import Derived.RangeFuncBox
import Derived.Shelf.Abstract
import Derived.Shelf.RegionOpen
import Derived.OwnWalkIn
import Derived.TacticsInMore
import Derived.LoopNIn
import Derived.LoopIn
import Derived.OrdersIn
import Derived.LaidEql
import Derived.Stop.Asserts
import Derived.RowKitTokens
import Derived.Lib.Bytes
import Derived.Deep.RegionHeld3
import Derived.Deep.WholeRow
import Derived.BigRegion
import Derived.Great.BuildSlice
import Derived.Deep.AppendLies
import Derived.StillTailTactics
import Derived.Deep.RegionLaw
import Derived.Great.FillDense
import Derived.Laws.Tables
import Derived.LoopN
import Derived.Deep.OwnRows
import Derived.OwnWalk
import Derived.Deep.Slices
import Derived.Deep.RegionWith
import Derived.Lib.SliceRun
import Derived.Test.YtddnleofflobhaaGreatDoorVG1
import Derived.Test.YtddnleofflobhaaGreatDoorVG2
import Derived.Test.YtddnleofflobhaaGreatDoorVG3
import Derived.Test.YtddnleofflobhaaGreatDoorVG4
import Derived.Test.YtddnleofflobhaaGreatDoorVG5
import Derived.Test.YtddnleofflobhaaGreatDoorVG6
import Derived.Test.YtddnleofflobhaaGreatDoorVG7
import Derived.Test.YtddnleofflobhaaGreatDoorVG8
import Derived.Test.YtddnleofflobhaaGreatDoorVG9
import Derived.Test.YtddnleofflobhaaGreatDoorVG10
set_option linter.unusedVariables false
set_option linter.unusedSimpArgs false
set_option linter.unusedVariables false
set_option linter.unusedSimpArgs false
set_option maxRecDepth 100000
namespace Go.Proofs.YtddnleofflobhaaGreatDoor
open Go.RowKit Go.Deep

/-- What is known behind k entries. -/
def tmK : Nat → List Pe → Nat → Nat
  | tm, _, 0 => tm
  | tm, [], _ + 1 => tm
  | _, e :: es, k + 1 => tmK e.t es k
theorem tmK_next : ∀ (es : List Pe) (tm k : Nat) (e : Pe), es[k]? = some e → tmK tm es (k + 1) = e.t
  | [], _, k, e, h => by cases h
  | x :: es, tm, 0, e, h => by
    simp only [List.getElem?_cons_zero, Option.some.injEq] at h
    subst h
    cases es <;> rfl
  | x :: es, tm, k + 1, e, h => by
    simp only [List.getElem?_cons_succ] at h
    exact tmK_next es x.t k e h
theorem rightE_cut : ∀ (es : List Pe) (idx tm ht k : Nat), k ≤ es.length → (rightE idx tm ht (es.take k) = true → (rightE idx tm ht es = rightE (idx + k) (tmK tm es k) ht (es.drop k))) 
  | es, idx, tm, ht, 0, _, _ => by
    cases es <;> rfl
  | [], idx, tm, ht, k + 1, h, _ => by simp at h
  | x :: es, idx, tm, ht, k + 1, h, hr => by
    simp only [List.take_succ_cons, rightE, Bool.and_eq_true] at hr
    have := rightE_cut es (idx + 1) x.t ht k (by simpa using h) hr.2
    show (decide _ && rightE (idx + 1) x.t ht es) = rightE (idx + (k + 1)) (tmK x.t es k) ht (es.drop k)
    rw [hr.1, this, Bool.true_and, show idx + 1 + k = idx + (k + 1) from by omega]
theorem rightE_more : ∀ (es : List Pe) (idx tm ht k : Nat) (e : Pe), es[k]? = some e → rightE idx tm ht (es.take k) = true → (e.i = idx + k + 1 ∧ tmK tm es k ≤ e.t ∧ e.t ≤ ht ∧ e.b.length ≤ 32668) → rightE idx tm ht (es.take (k + 1)) = true
  | [], _, _, _, k, e, h, _, _ => by cases h
  | x :: es, idx, tm, ht, 0, e, h, _, hc => by
    simp only [List.getElem?_cons_zero, Option.some.injEq] at h
    subst h
    have hc' : x.i = idx + 1 ∧ tm ≤ x.t ∧ x.t ≤ ht ∧ x.b.length ≤ 32668 := ⟨by omega, hc.2⟩
    simp [rightE, hc']
  | x :: es, idx, tm, ht, k + 1, e, h, hr, hc => by
    simp only [List.getElem?_cons_succ] at h
    simp only [List.take_succ_cons, rightE, Bool.and_eq_true] at hr ⊢
    exact ⟨hr.1, rightE_more es (idx + 1) x.t ht k e h hr.2 ⟨by omega, hc.2⟩⟩
theorem rightE_bad (es : List Pe) (idx tm ht k : Nat) (e : Pe) (h : es[k]? = some e) (hr : rightE idx tm ht (es.take k) = true) (hc : ¬ (e.i = idx + k + 1 ∧ tmK tm es k ≤ e.t ∧ e.t ≤ ht ∧ e.b.length ≤ 32668)) : rightE idx tm ht es = false := by
  have hk := (List.getElem?_eq_some_iff.1 h).1
  rw [rightE_cut es idx tm ht k (by omega) hr, List.drop_eq_getElem_cons hk, (List.getElem?_eq_some_iff.1 h).2]
  simp only [rightE, Bool.and_eq_false_iff, decide_eq_false_iff_not]
  exact .inl hc

set_option maxHeartbeats 16000000 in
theorem rightEn_any (l : Lo) (w : World) (hl : LoAt w l) (hsi : l.si ≤ 4611686018427387904) : Calls Tryz.prog 28 #[l.v] w (fun en w' => en = .returned (.bool (rightE l.si (max l.st 1) l.ht (l.es.map En.pe))) ∧ Below w.heap.size w w') := by
  have hE := hl.es
  have hel := hl.el
  have hst := hl.st
  have hht := hl.ht
  have hec : l.es.length ≤ l.ec := by
    obtain ⟨_, _, e1, q1, q2⟩ := hE.1.form
    simp only [Value.slice.injEq, List.length_map] at e1 q1
    omega
  obtain ⟨M, hM⟩ : ∃ M, M = max l.st 1 := ⟨_, rfl⟩
  rw [← hM]
  obtain ⟨PE, hPE⟩ : ∃ PE, PE = l.es.map En.pe := ⟨_, rfl⟩
  rw [← hPE]
  have HMX : Hid ((if l.st < 1 then (1 : Int) else (l.st : Int)) = (M : Int) ∧ (if 1 < l.st then (l.st : Int) else 1) = (M : Int) ∧ max (l.st : Int) 1 = (M : Int) ∧ (if (l.st : Int) < 1 then (1 : Int) else (l.st : Int)) = (M : Int)) := by show _ ∧ _ ∧ _ ∧ _; refine ⟨?_, ?_, by omega, ?_⟩ <;> split <;> omega
  have hlen := fun W => run_len_slice (P := Tryz.prog) W 28 3 l.eo l.es.length l.ec Tryz.underlying28
  have hb : Below w.heap.size w (w.alloc (.cells #[.int .u64 (l.ht : Int), .int .i64 l.hv, .int .u64 (l.si : Int), .int .u64 (l.st : Int), .slice l.sd.a l.sd.b.length l.sd.c, .slice l.eo l.es.length l.ec] 30)) := (Below.refl _ _).alloc (Nat.le_refl _) _
  have h0 := heap_alloc_new w (.cells #[.int .u64 (l.ht : Int), .int .i64 l.hv, .int .u64 (l.si : Int), .int .u64 (l.st : Int), .slice l.sd.a l.sd.b.length l.sd.c, .slice l.eo l.es.length l.ec] 30)
  have HE := hid hE
  have HPE := hid hPE
  have HM2 : Hid (M < 18446744073709551616) := by show _ < _; omega
  obtain ⟨n, hn⟩ : ∃ n, n = l.es.length := ⟨_, rfl⟩
  obtain ⟨D, hD⟩ : ∃ D, D = rightE l.si M l.ht PE := ⟨_, rfl⟩
  rw [← hD]
  have HD := hid hD
  have HN := hid hn
  simp only [Lo.v]
  rw [← hn] at hlen HE hel hec h0 hb ⊢
  clear hl hE hM hPE hst hn hD
  generalize l.eo = eo at *
  go_enter Tryz.func28, Tryz.ntmps28
  go_upto_region 1 with fail
  generalize w.alloc (.cells #[.int .u64 (l.ht : Int), .int .i64 l.hv, .int .u64 (l.si : Int), .int .u64 (l.st : Int), .slice l.sd.a l.sd.b.length l.sd.c, .slice eo n l.ec] 30) = w1 at *
  have HC : Hid (∀ V, Below w1.heap.size w1 V → (V.cell? ⟨w.heap.size, 0, none⟩ = some (.int .u64 (l.ht : Int)) ∧ V.cell? ⟨w.heap.size, 1, none⟩ = some (.int .i64 l.hv) ∧ V.cell? ⟨w.heap.size, 2, none⟩ = some (.int .u64 (l.si : Int)) ∧ V.cell? ⟨w.heap.size, 3, none⟩ = some (.int .u64 (l.st : Int)) ∧ V.cell? ⟨w.heap.size, 4, none⟩ = some (.slice l.sd.a l.sd.b.length l.sd.c) ∧ V.cell? ⟨w.heap.size, 5, none⟩ = some (.slice eo n l.ec))) := fun V h => six_cells ((h.block _ (lt_of_block h0)).trans h0)
  have HB := hid hb
  clear h0 hb
  have HWd : Hid (Below w1.heap.size w1 w1.drew) := (⟨rfl, rfl, rfl, Nat.le_refl _, fun _ _ => rfl⟩ : Below w1.heap.size w1 w1.drew)
  obtain ⟨S9, hS9⟩ : ∃ S9 : World → Prop, S9 = fun V => Below w1.heap.size w1 V := ⟨_, rfl⟩
  have HS : Hid (∀ V, Below w1.heap.size w1 V → S9 V) := fun V h => by rw [hS9]; exact h
  have HY := hid (fun V (h : S9 V) => HC.out V (by rw [hS9] at h; exact h))
  clear hS9
  refine wp_region_noPanic ?_
  refine wp_region_held_drew (S := S9) (by kernel_rfl) (HS.out _ HWd.out) (fun hHeld => ?_)
  generalize w1.drew = Wd at *
  refine wpAnyH_take (i := 0) (v := (.pointer (some ⟨w.heap.size, 2, none⟩))) rfl (by kernel_rfl) (by kernel_rfl) (by kernel_rfl) (fun _ _ _ h => (show False from h).elim) ?xyVF1 ?xhVF1 ?xrVF1
  case xhVF1 => exact hHeld
  case xyVF1 => exact Or.inl ⟨by rfl, fun W9 hW => by clear hHeld; simp only [List.getElem_toArray, List.getElem_cons_succ, List.getElem_cons_zero]; go_simp⟩
  simp only [Act.put, List.getElem_toArray, List.getElem_cons_succ, List.getElem_cons_zero, List.setIfInBounds_toArray, List.set_cons_succ, List.set_cons_zero]
  refine wpAnyH_take (i := 1) (v := (.pointer (some ⟨w.heap.size, 2, none⟩))) rfl (by kernel_rfl) (by kernel_rfl) (by kernel_rfl) (fun _ _ _ h => (show False from h).elim) ?xyVF2 ?xhVF2 ?xrVF2
  case xhVF2 => exact hHeld
  case xyVF2 => exact Or.inl ⟨by rfl, fun W9 hW => by clear hHeld; simp only [List.getElem_toArray, List.getElem_cons_succ, List.getElem_cons_zero]; go_simp⟩
  simp only [Act.put, List.getElem_toArray, List.getElem_cons_succ, List.getElem_cons_zero, List.setIfInBounds_toArray, List.set_cons_succ, List.set_cons_zero]
  refine wpAnyH_take (i := 2) (v := (.int .u64 (l.si : Int))) rfl (by kernel_rfl) (by kernel_rfl) (by kernel_rfl) (fun _ _ _ h => (show False from h).elim) ?xyVF3 ?xhVF3 ?xrVF3
  case xhVF3 => exact hHeld
  case xyVF3 => exact Or.inl ⟨by rfl, fun W9 hW => by obtain ⟨z0, z1, z2, z3, z4, z5⟩ := HY.out _ hW; clear hHeld; simp only [List.getElem_toArray, List.getElem_cons_succ, List.getElem_cons_zero]; go_simp⟩
  simp only [Act.put, List.getElem_toArray, List.getElem_cons_succ, List.getElem_cons_zero, List.setIfInBounds_toArray, List.set_cons_succ, List.set_cons_zero]
  refine wpAnyH_take (i := 3) (v := (.pointer (some ⟨w.heap.size, 2, none⟩))) rfl (by kernel_rfl) (by kernel_rfl) (by kernel_rfl) (fun _ _ _ h => (show False from h).elim) ?xyVF4 ?xhVF4 ?xrVF4
  case xhVF4 => exact hHeld
  case xyVF4 => exact Or.inl ⟨by rfl, fun W9 hW => by clear hHeld; simp only [List.getElem_toArray, List.getElem_cons_succ, List.getElem_cons_zero]; go_simp⟩
  simp only [Act.put, List.getElem_toArray, List.getElem_cons_succ, List.getElem_cons_zero, List.setIfInBounds_toArray, List.set_cons_succ, List.set_cons_zero]
  refine wpAnyH_take (i := 4) (v := (.pointer (some ⟨w.heap.size, 3, none⟩))) rfl (by kernel_rfl) (by kernel_rfl) (by kernel_rfl) (fun _ _ _ h => (show False from h).elim) ?xyVF5 ?xhVF5 ?xrVF5
  case xhVF5 => exact hHeld
  case xyVF5 => exact Or.inl ⟨by rfl, fun W9 hW => by clear hHeld; simp only [List.getElem_toArray, List.getElem_cons_succ, List.getElem_cons_zero]; go_simp⟩
  simp only [Act.put, List.getElem_toArray, List.getElem_cons_succ, List.getElem_cons_zero, List.setIfInBounds_toArray, List.set_cons_succ, List.set_cons_zero]
  refine wpAnyH_take (i := 5) (v := (.int .u64 (l.st : Int))) rfl (by kernel_rfl) (by kernel_rfl) (by kernel_rfl) (fun _ _ _ h => (show False from h).elim) ?xyVF6 ?xhVF6 ?xrVF6
  case xhVF6 => exact hHeld
  case xyVF6 => exact Or.inl ⟨by rfl, fun W9 hW => by obtain ⟨z0, z1, z2, z3, z4, z5⟩ := HY.out _ hW; clear hHeld; simp only [List.getElem_toArray, List.getElem_cons_succ, List.getElem_cons_zero]; go_simp⟩
  simp only [Act.put, List.getElem_toArray, List.getElem_cons_succ, List.getElem_cons_zero, List.setIfInBounds_toArray, List.set_cons_succ, List.set_cons_zero]
  refine wpAnyH_take (i := 6) (v := (.int .u64 (M : Int))) rfl (by kernel_rfl) (by kernel_rfl) (by kernel_rfl) (fun _ _ _ h => (show False from h).elim) ?xyVF7 ?xhVF7 ?xrVF7
  case xhVF7 => exact hHeld
  case xyVF7 => exact Or.inl ⟨by rfl, fun W9 hW => by obtain ⟨m1, m2, m3, m4⟩ := HMX.out; clear hHeld; simp only [List.getElem_toArray, List.getElem_cons_succ, List.getElem_cons_zero]; go_simp⟩
  simp only [Act.put, List.getElem_toArray, List.getElem_cons_succ, List.getElem_cons_zero, List.setIfInBounds_toArray, List.set_cons_succ, List.set_cons_zero]
  refine wpAnyH_take (i := 7) (v := (.int .u64 (l.si : Int))) rfl (by kernel_rfl) (by kernel_rfl) (by kernel_rfl) (fun _ _ _ h => (show False from h).elim) ?xyVF8 ?xhVF8 ?xrVF8
  case xhVF8 => exact hHeld
  case xyVF8 => exact Or.inl ⟨by rfl, fun W9 hW => by clear hHeld; simp only [List.getElem_toArray, List.getElem_cons_succ, List.getElem_cons_zero]; go_simp⟩
  simp only [Act.put, List.getElem_toArray, List.getElem_cons_succ, List.getElem_cons_zero, List.setIfInBounds_toArray, List.set_cons_succ, List.set_cons_zero]
  refine wpAnyH_take (i := 8) (v := (.int .u64 (M : Int))) rfl (by kernel_rfl) (by kernel_rfl) (by kernel_rfl) (fun _ _ _ h => (show False from h).elim) ?xyVF9 ?xhVF9 ?xrVF9
  case xhVF9 => exact hHeld
  case xyVF9 => exact Or.inl ⟨by rfl, fun W9 hW => by clear hHeld; simp only [List.getElem_toArray, List.getElem_cons_succ, List.getElem_cons_zero]; go_simp⟩
  simp only [Act.put, List.getElem_toArray, List.getElem_cons_succ, List.getElem_cons_zero, List.setIfInBounds_toArray, List.set_cons_succ, List.set_cons_zero]
  refine wpAnyH_done (by kernel_rfl) ?_ _
  refine NoPanic.normal ?_
  obtain ⟨z0, z1, z2, z3, z4, z5⟩ := HC.out _ HWd.out
  clear z0 z1 z2 z3 z4
  go_wp2_with fail
  go_loopw [3, 4, 17] (fun x t i wr => ∃ k : Nat, k ≤ n ∧ i = .int .i64 (k : Int) ∧ x = .int .u64 ((l.si + k : Nat) : Int) ∧ t = .int .u64 (tmK M PE k : Int) ∧ Hid (tmK M PE k < 18446744073709551616) ∧ Hid (rightE l.si M l.ht (PE.take k) = true) ∧ Hid (Below w1.heap.size w1 wr)) (fun _ _ i _ => n - (intOf i).toNat)
  case atStart => exact ⟨0, by omega, rfl, rfl, by cases PE <;> rfl, by cases PE <;> exact HM2, by rw [List.take_zero]; exact rfl, HWd⟩
  case round =>
    obtain ⟨k, hk, rfl, rfl, rfl, HTM, HR, HBr⟩ := hrel
    by_cases hlt : k < n
    · have hA9 := List.getElem?_eq_getElem (l := l.es) (i := k) (by have := HN.out; omega)
      generalize l.es[k]'_ = e at hA9
      obtain ⟨b1, o1, ea1, c10, c11, c12, r1⟩ := (HE.out.old (HB.out.trans (HBr.out.mono HB.out.size))).get hA9
      subst ea1
      have hpe : PE[k]? = some e.pe := by rw [HPE.out, List.getElem?_map, hA9]; rfl
      have hei := (HE.out.2 e (List.mem_of_getElem? hA9)).2
      have HPEk := hid hpe
      have hki : (k : Int) < (n : Int) := by omega
      have hz : IntKind.i64.wrap ((k : Int) + 1) = (k : Int) + 1 := by rw [IntKind.wrap_i64]; omega
      have hix : l.si + k + 1 < 18446744073709551616 := by omega
      have hi1 : IntKind.u64.wrap (((l.si + k : Nat) : Int) + 1) = ((l.si + (k + 1) : Nat) : Int) := by rw [wrap_u64]; omega
      have CK := hid (rightE_more PE l.si M l.ht k e.pe HPEk.out HR.out)
      have CB := hid (rightE_bad PE l.si M l.ht k e.pe HPEk.out HR.out)
      have HNX := hid (tmK_next PE M k e.pe HPEk.out)
      have hlr := fun W => run_len_slice (P := Tryz.prog) W 25 3 e.r.a e.r.b.length e.r.c Tryz.underlying25
      have het := hei.1
      have hex := hei.2.1
      have hel9 := hei.2.2
      obtain ⟨x, hx⟩ : ∃ x, x = l.si + k := ⟨_, rfl⟩
      obtain ⟨x1, hx1⟩ : ∃ x1, x1 = l.si + (k + 1) := ⟨_, rfl⟩
      rw [← hx, ← hx1] at hi1
      rw [← hx]
      have hx2 : x1 = x + 1 := by omega
      have HX := hid (And.intro hx hx1)
      obtain ⟨tm, htm⟩ : ∃ tm, tm = tmK M PE k := ⟨_, rfl⟩
      rw [← htm] at CK CB HTM ⊢
      have htl := HTM.out
      obtain ⟨z0, z1, z2, z3, z4, z5⟩ := HC.out _ HBr.out
      have q0 := fun o => cell_alloc z0 o
      have hq : ∀ o, (wr.alloc o).heap[wr.heap.size]? = some o := fun o => heap_alloc_new wr o
      have HBq : Hid (∀ o, Below w1.heap.size w1 (wr.alloc o)) := fun o => HBr.out.trans ((Below.refl w1.heap.size wr).alloc HBr.out.size o)
      clear hpe hei hA9 r1 hx hx1 htm z1 z2 z3 z4 z5 HR HTM
      by_cases g1 : (e.i : Int) = (x1 : Int)
      · by_cases g2 : (tm : Int) ≤ (e.t : Int)
        · by_cases g3 : (e.t : Int) ≤ (l.ht : Int)
          · by_cases g4 : (e.r.b.length : Int) ≤ 32668
            · have HK := hid (CK.out ⟨by show e.i = _; have := HX.out; omega, by show tm ≤ e.t; omega, by show e.t ≤ _; omega, by show e.r.b.length ≤ _; omega⟩)
              clear CK CB
              have g1' : (e.i : Int) = (x : Int) + 1 := by omega
              go_wp2_with fail
              go_roundw
              case rel => exact ⟨k + 1, by omega, by go_num, (by have := HX.out; congr 1; omega), (by rw [HNX.out]; rfl), (by rw [HNX.out]; exact hid het), HK, HBq.out _⟩
              case measure => first | (simp [intOf]; done) | (simp [intOf]; omega)
            · have HK := hid (CB.out (fun hc => by have h1 : e.i = _ := hc.1; have h2 : tm ≤ e.t := hc.2.1; have h3 : e.t ≤ l.ht := hc.2.2.1; have h4 : e.r.b.length ≤ 32668 := hc.2.2.2; have := HX.out; omega))
              clear CK CB
              go_wp2_with fail
              go_ret
              exact ⟨congrArg (fun q => Ending.returned (Value.bool q)) (by rw [HD.out, HK.out]), HB.out.trans ((HBq.out _).mono HB.out.size)⟩
          · have HK := hid (CB.out (fun hc => by have h1 : e.i = _ := hc.1; have h2 : tm ≤ e.t := hc.2.1; have h3 : e.t ≤ l.ht := hc.2.2.1; have h4 : e.r.b.length ≤ 32668 := hc.2.2.2; have := HX.out; omega))
            clear CK CB
            go_wp2_with fail
            go_ret
            exact ⟨congrArg (fun q => Ending.returned (Value.bool q)) (by rw [HD.out, HK.out]), HB.out.trans ((HBq.out _).mono HB.out.size)⟩
        · have HK := hid (CB.out (fun hc => by have h1 : e.i = _ := hc.1; have h2 : tm ≤ e.t := hc.2.1; have h3 : e.t ≤ l.ht := hc.2.2.1; have h4 : e.r.b.length ≤ 32668 := hc.2.2.2; have := HX.out; omega))
          clear CK CB
          go_wp2_with fail
          go_ret
          exact ⟨congrArg (fun q => Ending.returned (Value.bool q)) (by rw [HD.out, HK.out]), HB.out.trans ((HBq.out _).mono HB.out.size)⟩
      · have HK := hid (CB.out (fun hc => by have h1 : e.i = _ := hc.1; have h2 : tm ≤ e.t := hc.2.1; have h3 : e.t ≤ l.ht := hc.2.2.1; have h4 : e.r.b.length ≤ 32668 := hc.2.2.2; have := HX.out; omega))
        clear CK CB
        have g1b : ((e.i : Int) == (x1 : Int)) = false := by simp; omega
        go_wp2_with fail
        go_ret
        exact ⟨congrArg (fun q => Ending.returned (Value.bool q)) (by rw [HD.out, HK.out]), HB.out.trans ((HBq.out _).mono HB.out.size)⟩
    · obtain rfl : k = n := by omega
      have hki : ¬ ((k : Int) < (k : Int)) := by omega
      go_wp2_with fail
      go_ret
      refine ⟨congrArg (fun q => Ending.returned (Value.bool q)) ?_, HB.out.trans (HBr.out.mono HB.out.size)⟩
      have h9 := HR.out
      rw [List.take_of_length_le (by rw [HPE.out, List.length_map]; have := HN.out; omega)] at h9
      rw [HD.out, h9]

set_option maxHeartbeats 8000000 in
theorem right_any (l : Lo) (w : World) (hl : LoAt w l) : Calls Tryz.prog 11 #[l.v] w (fun en w' => en = .returned (.bool (rightP l.pl)) ∧ Below w.heap.size w w') := by
  have hb : Below w.heap.size w (w.alloc (.cells #[.int .u64 (l.ht : Int), .int .i64 l.hv, .int .u64 (l.si : Int), .int .u64 (l.st : Int), .slice l.sd.a l.sd.b.length l.sd.c, .slice l.eo l.es.length l.ec] 30)) := (Below.refl _ _).alloc (Nat.le_refl _) _
  have h0 := heap_alloc_new w (.cells #[.int .u64 (l.ht : Int), .int .i64 l.hv, .int .u64 (l.si : Int), .int .u64 (l.st : Int), .slice l.sd.a l.sd.b.length l.sd.c, .slice l.eo l.es.length l.ec] 30)
  obtain ⟨s, hs⟩ : ∃ s, s = rightS l.pl := ⟨_, rfl⟩
  obtain ⟨E, hE⟩ : ∃ E, E = rightE l.si (max l.st 1) l.ht (l.es.map En.pe) := ⟨_, rfl⟩
  have CS0 := fun W (hW : Below w.heap.size w W) => rightS_any l hl.sl W
  rw [← hs] at CS0
  have CS := hid CS0
  have CE : Hid (s = true → ∀ W, Below w.heap.size w W → Calls Tryz.prog 28 #[l.v] W (fun en w' => en = .returned (.bool E) ∧ Below W.heap.size W w')) := hid fun h W hW => by
    have hsi : l.si ≤ 4611686018427387904 := by
      rw [hs] at h
      unfold rightS at h
      simp only [decide_eq_true_eq] at h
      exact h.1
    have := rightEn_any l W (hl.old hW) hsi
    rw [← hE] at this
    exact this
  obtain ⟨D, hD⟩ : ∃ D, D = rightP l.pl := ⟨_, rfl⟩
  have HR : Hid (D = (decide (0 ≤ l.hv ∧ l.hv ≤ 5) && s && E)) := by show _ = _; rw [hD, hs, hE]; rfl
  rw [← hD]
  clear hs hE hD CS0 hl
  simp only [Lo.v] at CS CE ⊢
  go_enter Tryz.func11, Tryz.ntmps11
  go_upto_region 1 with fail
  generalize w.alloc (.cells #[.int .u64 (l.ht : Int), .int .i64 l.hv, .int .u64 (l.si : Int), .int .u64 (l.st : Int), .slice l.sd.a l.sd.b.length l.sd.c, .slice l.eo l.es.length l.ec] 30) = w1 at *
  have HB := hid hb
  have H0 := hid h0
  obtain ⟨z0, z1, z2, z3, z4, z5⟩ := six_cells h0
  clear hb h0
  by_cases g1 : 0 ≤ l.hv
  · by_cases g2 : l.hv ≤ 5
    · have HG : Hid (D = (s && E)) := by show _ = _; rw [HR.out]; simp [g1, g2]
      clear HR
      cases s with
      | false =>
        have CS2 := hid (CS.out _ HB.out)
        go_wp2_with (first | (go_at_call 27; refine CS2.out.mono ?_; rintro en w2 ⟨rfl, hb2⟩))
        go_ret
        exact ⟨congrArg (fun q => Ending.returned (Value.bool q)) (by rw [HG.out]; rfl), HB.out.trans (hb2.mono HB.out.size)⟩
      | true =>
        have CS2 := hid (CS.out _ HB.out)
        go_wp2_with (first | (go_at_call 27; refine CS2.out.mono ?_; rintro en w2 ⟨rfl, hb2⟩; have hbb := HB.out.trans (hb2.mono HB.out.size); have CE2 := hid (CE.out rfl _ hbb); obtain ⟨x0, x1, x2, x3, x4, x5⟩ := six_cells ((hb2.block _ (lt_of_block H0.out)).trans H0.out); have HBB := hid hbb; clear hbb hb2))
        go_wp2_with (first | (go_at_call 28; refine CE2.out.mono ?_; rintro en w3 ⟨rfl, hb3⟩))
        go_ret
        exact ⟨congrArg (fun q => Ending.returned (Value.bool q)) (by rw [HG.out]; rfl), HBB.out.trans (hb3.mono HBB.out.size)⟩
    · have HG : Hid (false = D) := by show _ = _; rw [HR.out]; simp [g2]
      clear HR
      go_wp2_with fail
      go_ret
      exact ⟨congrArg (fun q => Ending.returned (Value.bool q)) HG.out, HB.out⟩
  · have HG : Hid (false = D) := by show _ = _; rw [HR.out]; simp [g1]
    clear HR
    go_wp2_with fail
    go_ret
    exact ⟨congrArg (fun q => Ending.returned (Value.bool q)) HG.out, HB.out⟩

end Go.Proofs.YtddnleofflobhaaGreatDoor

