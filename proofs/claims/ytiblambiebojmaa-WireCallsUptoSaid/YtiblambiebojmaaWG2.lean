import Derived.Deep.RegionHeld3
import Derived.Deep.AppendLies
import Derived.WalkKit
import Derived.OpenShut
import Derived.Test.YtiblambiebojmaaRows
import Derived.WalkSpells
import Derived.WalkLawsBesides
import Derived.Laws.AppendOwnNone
import Derived.ProofKit
import Derived.ShutString
import Derived.ChangeOld
import Derived.Below
import Derived.SizedLaws
import Derived.Deep.Slices
import Derived.Deep.Strs
import Derived.Test.YtiblambiebojmaaWG1
set_option linter.unusedVariables false
set_option linter.unusedSimpArgs false
set_option linter.unusedVariables false
set_option linter.unusedSimpArgs false
set_option maxRecDepth 100000
namespace Go.Proofs.Ytiblambiebojmaa
open Go.RowKit Go.Deep

/-- 'append(v, y...)' at a step of a region that draws: bytes, of which there are some. -/
theorem step_bapp {w : World} {ops : Array Oper} {o : Oper} {a : Act} {K : Act → World → Prop} {Q : Exit → Act → World → Prop} {E : Prop} (hgd : o.guard = none) (s x : Operand)
    (ho : o.op = .call { callee := .builtin .append, args := #[s, x], argTypes := #[23, 23] })
    (base : Nat) (v : Value) (n : Nat) (xs : List Value) (hs : a.eval s = v) (hown : w.ownsRow base 5 1 v n xs)
    (y : Value) (l : List UInt8) (hx : a.eval x = y) (hr : Rd w y l) (hl : 0 < l.length) (hn : n + l.length ≤ 140737488355328) (hbase : base ≤ w.heap.size)
    (h : ∀ g cap w', w'.ownsRow base 5 1 (.slice (some ⟨g, 0, none⟩) (n + l.length) cap) (n + l.length) (xs ++ l.map bv) → w.grownBy w' v.ownBlock → (v.ownBlock = some g ∨ g = w.heap.size) → K (a.put o.dst (.slice (some ⟨g, 0, none⟩) (n + l.length) cap)) w') :
    if Region.wanted o (yielded ops a.tmps) = true then Oper.wp Try.prog o a w K Q else E := by
  obtain ⟨i0, hi, hz0, hz1, hz2⟩ := info_parts Try.info_u8
  obtain ⟨ao, c, rfl, h1, h2, h3, h4⟩ := hr
  cases ao with
  | none => have := h3 rfl; omega
  | some ad =>
    exact step_append_lies w hgd s x 23 ho base 5 i0 (.int .u8 0) 1 1 Try.underlying23 hi hz0 hz1 hz2 rfl (by decide) v n xs hs hown ad l.length c (l.map bv) hx (by simp) (h4 ad rfl) (bv_one l) hl
      (by unfold maxLen; omega) (by omega) hbase _ rfl (fun g cap w' a1 a2 a3 _ => h g cap w' a1 a2 a3)

/-- The writer in block a (of the type T) has written l; W0: the world ahead of it; K: blocks besides, and what lies there. -/
def St (T : TypeId) (W0 : World) (K : List (Nat × Obj)) (a : Nat) (w : World) (l : List UInt8) : Prop :=
  ∃ (ao : Option Addr) (c : Nat), w.heap[a]? = some (.cells #[.slice ao l.length c] T (0, 0)) ∧ w.ownsRow W0.heap.size 5 1 (.slice ao l.length c) l.length (l.map bv) ∧ W0.heap.size ≤ a ∧ (Value.slice ao l.length c).ownBlock ≠ some a ∧ Below W0.heap.size W0 w ∧
    ∀ p ∈ K, w.heap[p.1]? = some p.2 ∧ p.1 ≠ a ∧ (Value.slice ao l.length c).ownBlock ≠ some p.1

/-- What stands behind a call that writes bs. -/
def Wrote (T : TypeId) (W0 : World) (K : List (Nat × Obj)) (a : Nat) (l bs : List UInt8) (e : Ending) (w' : World) : Prop := e = .returned (.tuple #[]) ∧ St T W0 K a w' (l ++ bs)

theorem one_cell {w : World} {b : Nat} {u : Value} {t : TypeId} (h : w.heap[b]? = some (.cells #[u] t (0, 0))) : w.cell? ⟨b, 0, none⟩ = some u ∧ w.frozen? ⟨b, 0, none⟩ = false := by
  exact ⟨by simp [World.cell?, h], by simp [World.frozen?, h]⟩

theorem one_set {w : World} {b : Nat} {u x : Value} {t : TypeId} (h : w.heap[b]? = some (.cells #[u] t (0, 0))) : (w.setCell ⟨b, 0, none⟩ x).heap[b]? = some (.cells #[x] t (0, 0)) := by
  have hlt := lt_of_block h
  have h' : w.heap[b] = .cells #[u] t (0, 0) := by simpa [Array.getElem?_eq_getElem hlt] using h
  show (w.heap.modify b _)[b]? = _
  rw [Array.getElem?_eq_getElem (by simpa using hlt), Array.getElem_modify_self, h']
  rfl

theorem gives_rd {w' : World} {v : Value} {B : Nat} {l : List UInt8} (h : w'.ownsRow B 5 1 v l.length (l.map bv)) : ∃ a c, v = .slice a l.length c ∧ Rd w' (.slice a l.length c) l := by
  obtain ⟨ao, c, rfl, _⟩ := Rd.own h
  exact ⟨ao, c, rfl, Rd.own h⟩

theorem St.below {T : TypeId} {W0 w : World} {K : List (Nat × Obj)} {a : Nat} {l : List UInt8} (h : St T W0 K a w l) : Below W0.heap.size W0 w := by
  obtain ⟨_, _, _, _, _, _, h5, _⟩ := h
  exact h5
theorem St.lt {T : TypeId} {W0 w : World} {K : List (Nat × Obj)} {a : Nat} {l : List UInt8} (h : St T W0 K a w l) : a < w.heap.size := by
  obtain ⟨_, _, h1, _⟩ := h
  exact lt_of_block h1

/-- A call that keeps what was there keeps the writer. -/
theorem St.old {T : TypeId} {W0 w w' : World} {K : List (Nat × Obj)} {a : Nat} {l : List UInt8} (h : St T W0 K a w l) (hb : Below w.heap.size w w') : St T W0 K a w' l := by
  obtain ⟨ao, c, h1, h2, h3, h4, h5, h6⟩ := h
  exact ⟨ao, c, (hb.block _ (lt_of_block h1)).trans h1, own_old h2 hb, h3, h4, h5.trans (hb.mono h5.size), fun p hp => ⟨(hb.block _ (lt_of_block (h6 p hp).1)).trans (h6 p hp).1, (h6 p hp).2⟩⟩

/-- A new block is one more that stays. -/
theorem St.box {T : TypeId} {W0 w : World} {K : List (Nat × Obj)} {a : Nat} {l : List UInt8} (h : St T W0 K a w l) (cs : Array Value) (t : TypeId) : St T W0 ((w.heap.size, .cells cs t (0, 0)) :: K) a (w.alloc (.cells cs t)) l := by
  have hlt := h.lt
  obtain ⟨ao, c, h1, h2, h3, h4, h5, h6⟩ := h.old ((Below.refl _ _).alloc (Nat.le_refl _) (.cells cs t))
  obtain ⟨ao', c', h1', h2', -⟩ := h
  have hq := (((Below.refl w.heap.size w).alloc (Nat.le_refl _) (.cells cs t)).block _ (lt_of_block h1')).trans h1'
  rw [h1] at hq
  simp only [Option.some.injEq, Obj.cells.injEq, Array.mk.injEq, List.cons.injEq, and_true, Value.slice.injEq, true_and] at hq
  refine ⟨ao, c, h1, h2, h3, h4, h5, fun p hp => ?_⟩
  rcases List.mem_cons.1 hp with rfl | hp
  · refine ⟨heap_alloc_new w _, by show w.heap.size ≠ a; omega, fun e => ?_⟩
    rw [hq.1, hq.2] at e
    have := (h2'.lt _ e).2
    simp only at this
    omega
  · exact h6 p hp
theorem St.drop {T : TypeId} {W0 w : World} {x : Nat × Obj} {K : List (Nat × Obj)} {a : Nat} {l : List UInt8} (h : St T W0 (x :: K) a w l) : St T W0 K a w l := by
  obtain ⟨ao, c, h1, h2, h3, h4, h5, h6⟩ := h
  exact ⟨ao, c, h1, h2, h3, h4, h5, fun p hp => h6 p (List.mem_cons_of_mem _ hp)⟩
theorem St.at {T : TypeId} {W0 w : World} {b : Nat} {o : Obj} {K : List (Nat × Obj)} {a : Nat} {l : List UInt8} (h : St T W0 ((b, o) :: K) a w l) : w.heap[b]? = some o := by
  obtain ⟨ao, c, h1, h2, h3, h4, h5, h6⟩ := h
  exact (h6 (b, o) List.mem_cons_self).1

/-- What is appended is stored. -/
theorem St.put {T : TypeId} {W0 w w1 : World} {K : List (Nat × Obj)} {a : Nat} {l bs : List UInt8} {ao : Option Addr} {c g cap : Nat} (h1 : w.heap[a]? = some (.cells #[.slice ao l.length c] T (0, 0))) (h2 : w.ownsRow W0.heap.size 5 1 (.slice ao l.length c) l.length (l.map bv))
    (h3 : W0.heap.size ≤ a) (h4 : (Value.slice ao l.length c).ownBlock ≠ some a) (h5 : Below W0.heap.size W0 w) (h6 : ∀ p ∈ K, w.heap[p.1]? = some p.2 ∧ p.1 ≠ a ∧ (Value.slice ao l.length c).ownBlock ≠ some p.1)
    (o : w1.ownsRow W0.heap.size 5 1 (.slice (some ⟨g, 0, none⟩) (l.length + bs.length) cap) (l.length + bs.length) (l.map bv ++ bs.map bv)) (hg : w.grownBy w1 (Value.slice ao l.length c).ownBlock) (hgg : (Value.slice ao l.length c).ownBlock = some g ∨ g = w.heap.size) :
    St T W0 K a (w1.setCell ⟨a, 0, none⟩ (.slice (some ⟨g, 0, none⟩) (l.length + bs.length) cap)) (l ++ bs) := by
  have hk := heap_kept hg h1 (fun e => h4 e.symm)
  have hne : ∀ k, k < w.heap.size → (Value.slice ao l.length c).ownBlock ≠ some k → g ≠ k := by
    rintro k hk hn rfl
    rcases hgg with e | e
    · exact hn e
    · omega
  have hga : g ≠ a := hne a (lt_of_block h1) h4
  have hb1 : Below W0.heap.size W0 w1 := h5.grown hg h5.size (fun k hk => (h2.lt k hk).1)
  refine ⟨some ⟨g, 0, none⟩, cap, ?_, ?_, h3, by simpa [Value.ownBlock] using hga, hb1.setCell (p := ⟨a, 0, none⟩) h3 _, fun p hp => ?_⟩
  · rw [List.length_append]
    exact one_set hk
  · rw [List.length_append, List.map_append]
    exact o.kept (grown_set w1 ⟨a, 0, none⟩ _) (.inr (by simpa [Value.ownBlock] using hga))
  · obtain ⟨q1, q2, q3⟩ := h6 p hp
    have k1 := heap_kept hg q1 (fun e => q3 e.symm)
    refine ⟨heap_kept (grown_set w1 ⟨a, 0, none⟩ _) k1 (by simpa using q2), q2, ?_⟩
    have := hne p.1 (lt_of_block q1) q3
    simpa [Value.ownBlock] using this

set_option maxHeartbeats 4000000 in
theorem wnum_any {W0 w : World} {KK : List (Nat × Obj)} {a : Nat} {l : List UInt8} (h : St 69 W0 KK a w l) (n : Nat) (hn : n < 18446744073709551616) (hl : l.length + (numL n).length ≤ 1000000000000) :
    Calls Try.prog 48 #[.pointer (some ⟨a, 0, none⟩), .int .u64 (n : Int)] w (Wrote 69 W0 KK a l (numL n)) := by
  obtain ⟨ao, c, h1, h2, h3, h4, h5, h6⟩ := h
  obtain ⟨bs, hbs⟩ : ∃ bs, bs = numL n := ⟨_, rfl⟩
  have CN : Hid (∀ V, Below w.heap.size w V → Calls Try.prog 86 #[.int .u64 (n : Int)] V (Gives 5 V bs)) := hid fun V hV => by rw [hbs]; exact num_any n V (numL_len10 (by omega))
  have HLB : Hid (0 < bs.length ∧ l.length + bs.length ≤ 1000000000000) := hid ⟨by rw [hbs]; exact numL_pos _, by rw [hbs]; exact hl⟩
  rw [← hbs]; clear hbs hl
  obtain ⟨c0, f0⟩ := one_cell h1
  have H1 := hid h1
  have H2 := hid h2
  have H3 := hid h3
  have H4 := hid h4
  have H5 := hid h5
  have HWd : Hid (Below w.heap.size w w.drew) := hid ⟨rfl, rfl, rfl, Nat.le_refl _, fun _ _ => rfl⟩
  have H6 := hid h6
  clear h1 h2 h3 h4 h5 h6
  go_enter Try.func48, Try.ntmps48
  refine wp_region_noPanic ?_
  refine wp_region_held_drew (S := fun _ => Hid True) (by kernel_rfl) (hid trivial) (fun hHeld => ?_)
  have CNd := hid (CN.out _ HWd.out)
  have d0 : w.drew.cell? ⟨a, 0, none⟩ = some (.slice ao l.length c) := c0
  generalize w.drew = Wd at *
  have HD0 := hid d0
  clear d0 c0 f0
  refine wpAnyH_take (i := 0) (v := (.pointer (some ⟨a, 0, none⟩))) rfl (by kernel_rfl) (by kernel_rfl) (by kernel_rfl) (fun _ _ _ h => (show False from h).elim) ?xyYBwnumany1 ?xhYBwnumany1 ?xrYBwnumany1
  case xhYBwnumany1 => exact hHeld
  case xyYBwnumany1 => exact Or.inl ⟨by rfl, fun W9 hW => by clear hHeld; simp only [List.getElem_toArray, List.getElem_cons_succ, List.getElem_cons_zero]; go_simp⟩
  simp only [Act.put, List.getElem_toArray, List.getElem_cons_succ, List.getElem_cons_zero, List.setIfInBounds_toArray, List.set_cons_succ, List.set_cons_zero]
  refine wpAnyH_take (i := 1) (v := (.pointer (some ⟨a, 0, none⟩))) rfl (by kernel_rfl) (by kernel_rfl) (by kernel_rfl) (fun _ _ _ h => (show False from h).elim) ?xyYBwnumany2 ?xhYBwnumany2 ?xrYBwnumany2
  case xhYBwnumany2 => exact hHeld
  case xyYBwnumany2 => exact Or.inl ⟨by rfl, fun W9 hW => by clear hHeld; simp only [List.getElem_toArray, List.getElem_cons_succ, List.getElem_cons_zero]; go_simp⟩
  simp only [Act.put, List.getElem_toArray, List.getElem_cons_succ, List.getElem_cons_zero, List.setIfInBounds_toArray, List.set_cons_succ, List.set_cons_zero]
  refine wpAnyH_take (i := 2) (v := (.pointer (some ⟨a, 0, none⟩))) rfl (by kernel_rfl) (by kernel_rfl) (by kernel_rfl) (fun _ _ _ h => (show False from h).elim) ?xyYBwnumany3 ?xhYBwnumany3 ?xrYBwnumany3
  case xhYBwnumany3 => exact hHeld
  case xyYBwnumany3 => exact Or.inl ⟨by rfl, fun W9 hW => by clear hHeld; simp only [List.getElem_toArray, List.getElem_cons_succ, List.getElem_cons_zero]; go_simp⟩
  simp only [Act.put, List.getElem_toArray, List.getElem_cons_succ, List.getElem_cons_zero, List.setIfInBounds_toArray, List.set_cons_succ, List.set_cons_zero]
  refine wpAnyH_take (i := 3) (v := (.pointer (some ⟨a, 0, none⟩))) rfl (by kernel_rfl) (by kernel_rfl) (by kernel_rfl) (fun _ _ _ h => (show False from h).elim) ?xyYBwnumany4 ?xhYBwnumany4 ?xrYBwnumany4
  case xhYBwnumany4 => exact hHeld
  case xyYBwnumany4 => exact Or.inl ⟨by rfl, fun W9 hW => by clear hHeld; simp only [List.getElem_toArray, List.getElem_cons_succ, List.getElem_cons_zero]; go_simp⟩
  simp only [Act.put, List.getElem_toArray, List.getElem_cons_succ, List.getElem_cons_zero, List.setIfInBounds_toArray, List.set_cons_succ, List.set_cons_zero]
  refine wpAnyH_take (i := 5) (v := (.int .u64 (n : Int))) rfl (by kernel_rfl) (by kernel_rfl) (by kernel_rfl) (fun _ _ _ h => (show False from h).elim) ?xyYBwnumany5 ?xhYBwnumany5 ?xrYBwnumany5
  case xhYBwnumany5 => exact hHeld
  case xyYBwnumany5 => exact Or.inl ⟨by rfl, fun W9 hW => by clear hHeld; simp only [List.getElem_toArray, List.getElem_cons_succ, List.getElem_cons_zero]; go_simp⟩
  simp only [Act.put, List.getElem_toArray, List.getElem_cons_succ, List.getElem_cons_zero, List.setIfInBounds_toArray, List.set_cons_succ, List.set_cons_zero]
  refine wpAnyH_ready (rs := [4, 6]) (by kernel_rfl) (by simp) ?_
  refine AllReadyH.cons rfl (fun K hK => ?_) (AllReadyH.cons rfl (fun K hK => ?_) AllReadyH.nil)
  · have d0 := HD0.out
    go_simp
    refine hK.out _ _ (hid trivial) (fun hHeld => ?_)
    clear hK K d0
    refine wpAnyH_ready (rs := [6]) (by kernel_rfl) (by simp) ?_
    refine AllReadyH.cons rfl (fun K hK => ?_) AllReadyH.nil
    go_simp
    go_wp2_with (first | (go_at_call 86; refine CNd.out.mono ?_; rintro en wT ⟨vT, rfl, hoT, hbT⟩; obtain ⟨ta, tc, rfl, hrT⟩ := gives_rd hoT; have HRT := hid hrT; have HBT := hid (HWd.out.trans (hbT.mono HWd.out.size)); have hdT := (World.cell?_of_block (w := Wd) (w' := wT) (a := ⟨a, 0, none⟩) (hbT.block _ (World.block_lt_of_cell? _ _ HD0.out))).trans HD0.out; have HDT := hid hdT; clear hbT hrT hoT hdT))
    refine hK.out _ _ (hid trivial) (fun hHeld => ?_)
    clear hK K
    have H1T : Hid (wT.heap[a]? = some (.cells #[.slice ao l.length c] 69 (0, 0))) := hid ((HBT.out.block _ (lt_of_block H1.out)).trans H1.out)
    have H2T := hid (own_old H2.out HBT.out)
    have H5T : Hid (Below W0.heap.size W0 wT) := hid (H5.out.trans (HBT.out.mono H5.out.size))
    have H6T : Hid (∀ p ∈ KK, wT.heap[p.1]? = some p.2 ∧ p.1 ≠ a ∧ (Value.slice ao l.length c).ownBlock ≠ some p.1) := hid fun p hp => ⟨(HBT.out.block _ (lt_of_block (H6.out p hp).1)).trans (H6.out p hp).1, (H6.out p hp).2⟩
    refine wpAnyH_ready (rs := [7]) (by kernel_rfl) (by simp) ?_
    refine AllReadyH.cons rfl (fun K hK => ?_) AllReadyH.nil
    refine step_bapp (by rfl) (.tmp 8) (.tmp 10) (by rfl) W0.heap.size _ _ _ (by rfl) H2T.out _ _ (by rfl) HRT.out HLB.out.1 (by have := HLB.out.2; omega) H5T.out.size (fun g cap w' o5 g5 gg5 => ?_)
    have HK := hid (heap_kept g5 H1T.out (fun e => H4.out e.symm))
    have HP := hid (St.put H1T.out H2T.out H3.out H4.out H5T.out H6T.out o5 g5 gg5)
    clear o5 g5 gg5
    refine hK.out _ _ (hid trivial) (fun hHeld => ?_)
    clear hK K
    simp only [Act.put, List.getElem_toArray, List.getElem_cons_succ, List.getElem_cons_zero, List.setIfInBounds_toArray, List.set_cons_succ, List.set_cons_zero]
    refine wpAnyH_take (i := 8) (v := (.pointer (some ⟨a, 0, none⟩))) rfl (by kernel_rfl) (by kernel_rfl) (by kernel_rfl) (fun _ _ _ h => (show False from h).elim) ?xyYBwnumany6 ?xhYBwnumany6 ?xrYBwnumany6
    case xhYBwnumany6 => exact hHeld
    case xyYBwnumany6 => exact Or.inl ⟨by rfl, fun W9 hW => by clear hHeld; simp only [List.getElem_toArray, List.getElem_cons_succ, List.getElem_cons_zero]; go_simp⟩
    simp only [Act.put, List.getElem_toArray, List.getElem_cons_succ, List.getElem_cons_zero, List.setIfInBounds_toArray, List.set_cons_succ, List.set_cons_zero]
    refine wpAnyH_take (i := 9) (v := (.pointer (some ⟨a, 0, none⟩))) rfl (by kernel_rfl) (by kernel_rfl) (by kernel_rfl) (fun _ _ _ h => (show False from h).elim) ?xyYBwnumany7 ?xhYBwnumany7 ?xrYBwnumany7
    case xhYBwnumany7 => exact hHeld
    case xyYBwnumany7 => exact Or.inl ⟨by rfl, fun W9 hW => by clear hHeld; simp only [List.getElem_toArray, List.getElem_cons_succ, List.getElem_cons_zero]; go_simp⟩
    simp only [Act.put, List.getElem_toArray, List.getElem_cons_succ, List.getElem_cons_zero, List.setIfInBounds_toArray, List.set_cons_succ, List.set_cons_zero]
    obtain ⟨k0, k1⟩ := one_cell HK.out
    refine wpAnyH_ready (rs := [10]) (by kernel_rfl) (by simp) ?_
    refine AllReadyH.cons rfl (fun K hK => ?_) AllReadyH.nil
    go_simp
    refine hK.out _ _ (hid trivial) (fun hHeld => ?_)
    clear hK K
    refine wpAnyH_done (by kernel_rfl) ?_ _
    refine NoPanic.normal ?_
    go_wp2_with fail
    go_end0
    exact ⟨rfl, HP.out⟩
  · go_simp
    go_wp2_with (first | (go_at_call 86; refine CNd.out.mono ?_; rintro en wT ⟨vT, rfl, hoT, hbT⟩; obtain ⟨ta, tc, rfl, hrT⟩ := gives_rd hoT; have HRT := hid hrT; have HBT := hid (HWd.out.trans (hbT.mono HWd.out.size)); have hdT := (World.cell?_of_block (w := Wd) (w' := wT) (a := ⟨a, 0, none⟩) (hbT.block _ (World.block_lt_of_cell? _ _ HD0.out))).trans HD0.out; have HDT := hid hdT; clear hbT hrT hoT hdT))
    refine hK.out _ _ (hid trivial) (fun hHeld => ?_)
    clear hK K
    have d1 := HDT.out
    refine wpAnyH_ready (rs := [4]) (by kernel_rfl) (by simp) ?_
    refine AllReadyH.cons rfl (fun K hK => ?_) AllReadyH.nil
    go_simp
    refine hK.out _ _ (hid trivial) (fun hHeld => ?_)
    clear hK K
    clear d1
    have H1T : Hid (wT.heap[a]? = some (.cells #[.slice ao l.length c] 69 (0, 0))) := hid ((HBT.out.block _ (lt_of_block H1.out)).trans H1.out)
    have H2T := hid (own_old H2.out HBT.out)
    have H5T : Hid (Below W0.heap.size W0 wT) := hid (H5.out.trans (HBT.out.mono H5.out.size))
    have H6T : Hid (∀ p ∈ KK, wT.heap[p.1]? = some p.2 ∧ p.1 ≠ a ∧ (Value.slice ao l.length c).ownBlock ≠ some p.1) := hid fun p hp => ⟨(HBT.out.block _ (lt_of_block (H6.out p hp).1)).trans (H6.out p hp).1, (H6.out p hp).2⟩
    refine wpAnyH_ready (rs := [7]) (by kernel_rfl) (by simp) ?_
    refine AllReadyH.cons rfl (fun K hK => ?_) AllReadyH.nil
    refine step_bapp (by rfl) (.tmp 8) (.tmp 10) (by rfl) W0.heap.size _ _ _ (by rfl) H2T.out _ _ (by rfl) HRT.out HLB.out.1 (by have := HLB.out.2; omega) H5T.out.size (fun g cap w' o5 g5 gg5 => ?_)
    have HK := hid (heap_kept g5 H1T.out (fun e => H4.out e.symm))
    have HP := hid (St.put H1T.out H2T.out H3.out H4.out H5T.out H6T.out o5 g5 gg5)
    clear o5 g5 gg5
    refine hK.out _ _ (hid trivial) (fun hHeld => ?_)
    clear hK K
    simp only [Act.put, List.getElem_toArray, List.getElem_cons_succ, List.getElem_cons_zero, List.setIfInBounds_toArray, List.set_cons_succ, List.set_cons_zero]
    refine wpAnyH_take (i := 8) (v := (.pointer (some ⟨a, 0, none⟩))) rfl (by kernel_rfl) (by kernel_rfl) (by kernel_rfl) (fun _ _ _ h => (show False from h).elim) ?xyYBwnumany8 ?xhYBwnumany8 ?xrYBwnumany8
    case xhYBwnumany8 => exact hHeld
    case xyYBwnumany8 => exact Or.inl ⟨by rfl, fun W9 hW => by clear hHeld; simp only [List.getElem_toArray, List.getElem_cons_succ, List.getElem_cons_zero]; go_simp⟩
    simp only [Act.put, List.getElem_toArray, List.getElem_cons_succ, List.getElem_cons_zero, List.setIfInBounds_toArray, List.set_cons_succ, List.set_cons_zero]
    refine wpAnyH_take (i := 9) (v := (.pointer (some ⟨a, 0, none⟩))) rfl (by kernel_rfl) (by kernel_rfl) (by kernel_rfl) (fun _ _ _ h => (show False from h).elim) ?xyYBwnumany9 ?xhYBwnumany9 ?xrYBwnumany9
    case xhYBwnumany9 => exact hHeld
    case xyYBwnumany9 => exact Or.inl ⟨by rfl, fun W9 hW => by clear hHeld; simp only [List.getElem_toArray, List.getElem_cons_succ, List.getElem_cons_zero]; go_simp⟩
    simp only [Act.put, List.getElem_toArray, List.getElem_cons_succ, List.getElem_cons_zero, List.setIfInBounds_toArray, List.set_cons_succ, List.set_cons_zero]
    obtain ⟨k0, k1⟩ := one_cell HK.out
    refine wpAnyH_ready (rs := [10]) (by kernel_rfl) (by simp) ?_
    refine AllReadyH.cons rfl (fun K hK => ?_) AllReadyH.nil
    go_simp
    refine hK.out _ _ (hid trivial) (fun hHeld => ?_)
    clear hK K
    refine wpAnyH_done (by kernel_rfl) ?_ _
    refine NoPanic.normal ?_
    go_wp2_with fail
    go_end0
    exact ⟨rfl, HP.out⟩

set_option maxHeartbeats 4000000 in
theorem wsigned_any {W0 w : World} {KK : List (Nat × Obj)} {a : Nat} {l : List UInt8} (h : St 69 W0 KK a w l) (z : Int) (hz : (Lit.int .i64 z).wf = true) (hl : l.length + (numL (zig z)).length ≤ 1000000000000) :
    Calls Try.prog 88 #[.pointer (some ⟨a, 0, none⟩), .int .i64 z] w (Wrote 69 W0 KK a l (numL (zig z))) := by
  obtain ⟨ao, c, h1, h2, h3, h4, h5, h6⟩ := h
  obtain ⟨bs, hbs⟩ : ∃ bs, bs = numL (zig z) := ⟨_, rfl⟩
  have CN : Hid (∀ V, Below w.heap.size w V → Calls Try.prog 115 #[.int .i64 z] V (Gives 5 V bs)) := hid fun V hV => by rw [hbs]; exact int_any z V hz
  have HLB : Hid (0 < bs.length ∧ l.length + bs.length ≤ 1000000000000) := hid ⟨by rw [hbs]; exact numL_pos _, by rw [hbs]; exact hl⟩
  rw [← hbs]; clear hbs hl
  obtain ⟨c0, f0⟩ := one_cell h1
  have H1 := hid h1
  have H2 := hid h2
  have H3 := hid h3
  have H4 := hid h4
  have H5 := hid h5
  have HWd : Hid (Below w.heap.size w w.drew) := hid ⟨rfl, rfl, rfl, Nat.le_refl _, fun _ _ => rfl⟩
  have H6 := hid h6
  clear h1 h2 h3 h4 h5 h6
  go_enter Try.func88, Try.ntmps88
  refine wp_region_noPanic ?_
  refine wp_region_held_drew (S := fun _ => Hid True) (by kernel_rfl) (hid trivial) (fun hHeld => ?_)
  have CNd := hid (CN.out _ HWd.out)
  have d0 : w.drew.cell? ⟨a, 0, none⟩ = some (.slice ao l.length c) := c0
  generalize w.drew = Wd at *
  have HD0 := hid d0
  clear d0 c0 f0
  refine wpAnyH_take (i := 0) (v := (.pointer (some ⟨a, 0, none⟩))) rfl (by kernel_rfl) (by kernel_rfl) (by kernel_rfl) (fun _ _ _ h => (show False from h).elim) ?xyYBwsignedany1 ?xhYBwsignedany1 ?xrYBwsignedany1
  case xhYBwsignedany1 => exact hHeld
  case xyYBwsignedany1 => exact Or.inl ⟨by rfl, fun W9 hW => by clear hHeld; simp only [List.getElem_toArray, List.getElem_cons_succ, List.getElem_cons_zero]; go_simp⟩
  simp only [Act.put, List.getElem_toArray, List.getElem_cons_succ, List.getElem_cons_zero, List.setIfInBounds_toArray, List.set_cons_succ, List.set_cons_zero]
  refine wpAnyH_take (i := 1) (v := (.pointer (some ⟨a, 0, none⟩))) rfl (by kernel_rfl) (by kernel_rfl) (by kernel_rfl) (fun _ _ _ h => (show False from h).elim) ?xyYBwsignedany2 ?xhYBwsignedany2 ?xrYBwsignedany2
  case xhYBwsignedany2 => exact hHeld
  case xyYBwsignedany2 => exact Or.inl ⟨by rfl, fun W9 hW => by clear hHeld; simp only [List.getElem_toArray, List.getElem_cons_succ, List.getElem_cons_zero]; go_simp⟩
  simp only [Act.put, List.getElem_toArray, List.getElem_cons_succ, List.getElem_cons_zero, List.setIfInBounds_toArray, List.set_cons_succ, List.set_cons_zero]
  refine wpAnyH_take (i := 2) (v := (.pointer (some ⟨a, 0, none⟩))) rfl (by kernel_rfl) (by kernel_rfl) (by kernel_rfl) (fun _ _ _ h => (show False from h).elim) ?xyYBwsignedany3 ?xhYBwsignedany3 ?xrYBwsignedany3
  case xhYBwsignedany3 => exact hHeld
  case xyYBwsignedany3 => exact Or.inl ⟨by rfl, fun W9 hW => by clear hHeld; simp only [List.getElem_toArray, List.getElem_cons_succ, List.getElem_cons_zero]; go_simp⟩
  simp only [Act.put, List.getElem_toArray, List.getElem_cons_succ, List.getElem_cons_zero, List.setIfInBounds_toArray, List.set_cons_succ, List.set_cons_zero]
  refine wpAnyH_take (i := 3) (v := (.pointer (some ⟨a, 0, none⟩))) rfl (by kernel_rfl) (by kernel_rfl) (by kernel_rfl) (fun _ _ _ h => (show False from h).elim) ?xyYBwsignedany4 ?xhYBwsignedany4 ?xrYBwsignedany4
  case xhYBwsignedany4 => exact hHeld
  case xyYBwsignedany4 => exact Or.inl ⟨by rfl, fun W9 hW => by clear hHeld; simp only [List.getElem_toArray, List.getElem_cons_succ, List.getElem_cons_zero]; go_simp⟩
  simp only [Act.put, List.getElem_toArray, List.getElem_cons_succ, List.getElem_cons_zero, List.setIfInBounds_toArray, List.set_cons_succ, List.set_cons_zero]
  refine wpAnyH_take (i := 5) (v := (.int .i64 z)) rfl (by kernel_rfl) (by kernel_rfl) (by kernel_rfl) (fun _ _ _ h => (show False from h).elim) ?xyYBwsignedany5 ?xhYBwsignedany5 ?xrYBwsignedany5
  case xhYBwsignedany5 => exact hHeld
  case xyYBwsignedany5 => exact Or.inl ⟨by rfl, fun W9 hW => by clear hHeld; simp only [List.getElem_toArray, List.getElem_cons_succ, List.getElem_cons_zero]; go_simp⟩
  simp only [Act.put, List.getElem_toArray, List.getElem_cons_succ, List.getElem_cons_zero, List.setIfInBounds_toArray, List.set_cons_succ, List.set_cons_zero]
  refine wpAnyH_ready (rs := [4, 6]) (by kernel_rfl) (by simp) ?_
  refine AllReadyH.cons rfl (fun K hK => ?_) (AllReadyH.cons rfl (fun K hK => ?_) AllReadyH.nil)
  · have d0 := HD0.out
    go_simp
    refine hK.out _ _ (hid trivial) (fun hHeld => ?_)
    clear hK K d0
    refine wpAnyH_ready (rs := [6]) (by kernel_rfl) (by simp) ?_
    refine AllReadyH.cons rfl (fun K hK => ?_) AllReadyH.nil
    go_simp
    go_wp2_with (first | (go_at_call 115; refine CNd.out.mono ?_; rintro en wT ⟨vT, rfl, hoT, hbT⟩; obtain ⟨ta, tc, rfl, hrT⟩ := gives_rd hoT; have HRT := hid hrT; have HBT := hid (HWd.out.trans (hbT.mono HWd.out.size)); have hdT := (World.cell?_of_block (w := Wd) (w' := wT) (a := ⟨a, 0, none⟩) (hbT.block _ (World.block_lt_of_cell? _ _ HD0.out))).trans HD0.out; have HDT := hid hdT; clear hbT hrT hoT hdT))
    refine hK.out _ _ (hid trivial) (fun hHeld => ?_)
    clear hK K
    have H1T : Hid (wT.heap[a]? = some (.cells #[.slice ao l.length c] 69 (0, 0))) := hid ((HBT.out.block _ (lt_of_block H1.out)).trans H1.out)
    have H2T := hid (own_old H2.out HBT.out)
    have H5T : Hid (Below W0.heap.size W0 wT) := hid (H5.out.trans (HBT.out.mono H5.out.size))
    have H6T : Hid (∀ p ∈ KK, wT.heap[p.1]? = some p.2 ∧ p.1 ≠ a ∧ (Value.slice ao l.length c).ownBlock ≠ some p.1) := hid fun p hp => ⟨(HBT.out.block _ (lt_of_block (H6.out p hp).1)).trans (H6.out p hp).1, (H6.out p hp).2⟩
    refine wpAnyH_ready (rs := [7]) (by kernel_rfl) (by simp) ?_
    refine AllReadyH.cons rfl (fun K hK => ?_) AllReadyH.nil
    refine step_bapp (by rfl) (.tmp 8) (.tmp 10) (by rfl) W0.heap.size _ _ _ (by rfl) H2T.out _ _ (by rfl) HRT.out HLB.out.1 (by have := HLB.out.2; omega) H5T.out.size (fun g cap w' o5 g5 gg5 => ?_)
    have HK := hid (heap_kept g5 H1T.out (fun e => H4.out e.symm))
    have HP := hid (St.put H1T.out H2T.out H3.out H4.out H5T.out H6T.out o5 g5 gg5)
    clear o5 g5 gg5
    refine hK.out _ _ (hid trivial) (fun hHeld => ?_)
    clear hK K
    simp only [Act.put, List.getElem_toArray, List.getElem_cons_succ, List.getElem_cons_zero, List.setIfInBounds_toArray, List.set_cons_succ, List.set_cons_zero]
    refine wpAnyH_take (i := 8) (v := (.pointer (some ⟨a, 0, none⟩))) rfl (by kernel_rfl) (by kernel_rfl) (by kernel_rfl) (fun _ _ _ h => (show False from h).elim) ?xyYBwsignedany6 ?xhYBwsignedany6 ?xrYBwsignedany6
    case xhYBwsignedany6 => exact hHeld
    case xyYBwsignedany6 => exact Or.inl ⟨by rfl, fun W9 hW => by clear hHeld; simp only [List.getElem_toArray, List.getElem_cons_succ, List.getElem_cons_zero]; go_simp⟩
    simp only [Act.put, List.getElem_toArray, List.getElem_cons_succ, List.getElem_cons_zero, List.setIfInBounds_toArray, List.set_cons_succ, List.set_cons_zero]
    refine wpAnyH_take (i := 9) (v := (.pointer (some ⟨a, 0, none⟩))) rfl (by kernel_rfl) (by kernel_rfl) (by kernel_rfl) (fun _ _ _ h => (show False from h).elim) ?xyYBwsignedany7 ?xhYBwsignedany7 ?xrYBwsignedany7
    case xhYBwsignedany7 => exact hHeld
    case xyYBwsignedany7 => exact Or.inl ⟨by rfl, fun W9 hW => by clear hHeld; simp only [List.getElem_toArray, List.getElem_cons_succ, List.getElem_cons_zero]; go_simp⟩
    simp only [Act.put, List.getElem_toArray, List.getElem_cons_succ, List.getElem_cons_zero, List.setIfInBounds_toArray, List.set_cons_succ, List.set_cons_zero]
    obtain ⟨k0, k1⟩ := one_cell HK.out
    refine wpAnyH_ready (rs := [10]) (by kernel_rfl) (by simp) ?_
    refine AllReadyH.cons rfl (fun K hK => ?_) AllReadyH.nil
    go_simp
    refine hK.out _ _ (hid trivial) (fun hHeld => ?_)
    clear hK K
    refine wpAnyH_done (by kernel_rfl) ?_ _
    refine NoPanic.normal ?_
    go_wp2_with fail
    go_end0
    exact ⟨rfl, HP.out⟩
  · go_simp
    go_wp2_with (first | (go_at_call 115; refine CNd.out.mono ?_; rintro en wT ⟨vT, rfl, hoT, hbT⟩; obtain ⟨ta, tc, rfl, hrT⟩ := gives_rd hoT; have HRT := hid hrT; have HBT := hid (HWd.out.trans (hbT.mono HWd.out.size)); have hdT := (World.cell?_of_block (w := Wd) (w' := wT) (a := ⟨a, 0, none⟩) (hbT.block _ (World.block_lt_of_cell? _ _ HD0.out))).trans HD0.out; have HDT := hid hdT; clear hbT hrT hoT hdT))
    refine hK.out _ _ (hid trivial) (fun hHeld => ?_)
    clear hK K
    have d1 := HDT.out
    refine wpAnyH_ready (rs := [4]) (by kernel_rfl) (by simp) ?_
    refine AllReadyH.cons rfl (fun K hK => ?_) AllReadyH.nil
    go_simp
    refine hK.out _ _ (hid trivial) (fun hHeld => ?_)
    clear hK K
    clear d1
    have H1T : Hid (wT.heap[a]? = some (.cells #[.slice ao l.length c] 69 (0, 0))) := hid ((HBT.out.block _ (lt_of_block H1.out)).trans H1.out)
    have H2T := hid (own_old H2.out HBT.out)
    have H5T : Hid (Below W0.heap.size W0 wT) := hid (H5.out.trans (HBT.out.mono H5.out.size))
    have H6T : Hid (∀ p ∈ KK, wT.heap[p.1]? = some p.2 ∧ p.1 ≠ a ∧ (Value.slice ao l.length c).ownBlock ≠ some p.1) := hid fun p hp => ⟨(HBT.out.block _ (lt_of_block (H6.out p hp).1)).trans (H6.out p hp).1, (H6.out p hp).2⟩
    refine wpAnyH_ready (rs := [7]) (by kernel_rfl) (by simp) ?_
    refine AllReadyH.cons rfl (fun K hK => ?_) AllReadyH.nil
    refine step_bapp (by rfl) (.tmp 8) (.tmp 10) (by rfl) W0.heap.size _ _ _ (by rfl) H2T.out _ _ (by rfl) HRT.out HLB.out.1 (by have := HLB.out.2; omega) H5T.out.size (fun g cap w' o5 g5 gg5 => ?_)
    have HK := hid (heap_kept g5 H1T.out (fun e => H4.out e.symm))
    have HP := hid (St.put H1T.out H2T.out H3.out H4.out H5T.out H6T.out o5 g5 gg5)
    clear o5 g5 gg5
    refine hK.out _ _ (hid trivial) (fun hHeld => ?_)
    clear hK K
    simp only [Act.put, List.getElem_toArray, List.getElem_cons_succ, List.getElem_cons_zero, List.setIfInBounds_toArray, List.set_cons_succ, List.set_cons_zero]
    refine wpAnyH_take (i := 8) (v := (.pointer (some ⟨a, 0, none⟩))) rfl (by kernel_rfl) (by kernel_rfl) (by kernel_rfl) (fun _ _ _ h => (show False from h).elim) ?xyYBwsignedany8 ?xhYBwsignedany8 ?xrYBwsignedany8
    case xhYBwsignedany8 => exact hHeld
    case xyYBwsignedany8 => exact Or.inl ⟨by rfl, fun W9 hW => by clear hHeld; simp only [List.getElem_toArray, List.getElem_cons_succ, List.getElem_cons_zero]; go_simp⟩
    simp only [Act.put, List.getElem_toArray, List.getElem_cons_succ, List.getElem_cons_zero, List.setIfInBounds_toArray, List.set_cons_succ, List.set_cons_zero]
    refine wpAnyH_take (i := 9) (v := (.pointer (some ⟨a, 0, none⟩))) rfl (by kernel_rfl) (by kernel_rfl) (by kernel_rfl) (fun _ _ _ h => (show False from h).elim) ?xyYBwsignedany9 ?xhYBwsignedany9 ?xrYBwsignedany9
    case xhYBwsignedany9 => exact hHeld
    case xyYBwsignedany9 => exact Or.inl ⟨by rfl, fun W9 hW => by clear hHeld; simp only [List.getElem_toArray, List.getElem_cons_succ, List.getElem_cons_zero]; go_simp⟩
    simp only [Act.put, List.getElem_toArray, List.getElem_cons_succ, List.getElem_cons_zero, List.setIfInBounds_toArray, List.set_cons_succ, List.set_cons_zero]
    obtain ⟨k0, k1⟩ := one_cell HK.out
    refine wpAnyH_ready (rs := [10]) (by kernel_rfl) (by simp) ?_
    refine AllReadyH.cons rfl (fun K hK => ?_) AllReadyH.nil
    go_simp
    refine hK.out _ _ (hid trivial) (fun hHeld => ?_)
    clear hK K
    refine wpAnyH_done (by kernel_rfl) ?_ _
    refine NoPanic.normal ?_
    go_wp2_with fail
    go_end0
    exact ⟨rfl, HP.out⟩

set_option maxHeartbeats 4000000 in
theorem wdata_any {W0 w : World} {KK : List (Nat × Obj)} {a : Nat} {l : List UInt8} (h : St 69 W0 KK a w l) (x : Value) (m : List UInt8) (hx : Rd w x m) (hm : m.length ≤ 140737488355300) (hl : l.length + (textL m).length ≤ 1000000000000) :
    Calls Try.prog 49 #[.pointer (some ⟨a, 0, none⟩), x] w (Wrote 69 W0 KK a l (textL m)) := by
  obtain ⟨ao, c, h1, h2, h3, h4, h5, h6⟩ := h
  obtain ⟨bs, hbs⟩ : ∃ bs, bs = textL m := ⟨_, rfl⟩
  have CN : Hid (∀ V, Below w.heap.size w V → Calls Try.prog 87 #[x] V (Gives 5 V bs)) := hid fun V hV => by rw [hbs]; exact text_any x m V (hx.old hV) hm
  have HLB : Hid (0 < bs.length ∧ l.length + bs.length ≤ 1000000000000) := hid ⟨by rw [hbs]; unfold textL; rw [List.length_append]; have := numL_pos m.length; omega, by rw [hbs]; exact hl⟩
  rw [← hbs]; clear hbs hl
  obtain ⟨c0, f0⟩ := one_cell h1
  have H1 := hid h1
  have H2 := hid h2
  have H3 := hid h3
  have H4 := hid h4
  have H5 := hid h5
  have HWd : Hid (Below w.heap.size w w.drew) := hid ⟨rfl, rfl, rfl, Nat.le_refl _, fun _ _ => rfl⟩
  have H6 := hid h6
  clear h1 h2 h3 h4 h5 h6
  go_enter Try.func49, Try.ntmps49
  refine wp_region_noPanic ?_
  refine wp_region_held_drew (S := fun _ => Hid True) (by kernel_rfl) (hid trivial) (fun hHeld => ?_)
  have CNd := hid (CN.out _ HWd.out)
  have d0 : w.drew.cell? ⟨a, 0, none⟩ = some (.slice ao l.length c) := c0
  generalize w.drew = Wd at *
  have HD0 := hid d0
  clear d0 c0 f0
  refine wpAnyH_take (i := 0) (v := (.pointer (some ⟨a, 0, none⟩))) rfl (by kernel_rfl) (by kernel_rfl) (by kernel_rfl) (fun _ _ _ h => (show False from h).elim) ?xyYBwdataany1 ?xhYBwdataany1 ?xrYBwdataany1
  case xhYBwdataany1 => exact hHeld
  case xyYBwdataany1 => exact Or.inl ⟨by rfl, fun W9 hW => by clear hHeld; simp only [List.getElem_toArray, List.getElem_cons_succ, List.getElem_cons_zero]; go_simp⟩
  simp only [Act.put, List.getElem_toArray, List.getElem_cons_succ, List.getElem_cons_zero, List.setIfInBounds_toArray, List.set_cons_succ, List.set_cons_zero]
  refine wpAnyH_take (i := 1) (v := (.pointer (some ⟨a, 0, none⟩))) rfl (by kernel_rfl) (by kernel_rfl) (by kernel_rfl) (fun _ _ _ h => (show False from h).elim) ?xyYBwdataany2 ?xhYBwdataany2 ?xrYBwdataany2
  case xhYBwdataany2 => exact hHeld
  case xyYBwdataany2 => exact Or.inl ⟨by rfl, fun W9 hW => by clear hHeld; simp only [List.getElem_toArray, List.getElem_cons_succ, List.getElem_cons_zero]; go_simp⟩
  simp only [Act.put, List.getElem_toArray, List.getElem_cons_succ, List.getElem_cons_zero, List.setIfInBounds_toArray, List.set_cons_succ, List.set_cons_zero]
  refine wpAnyH_take (i := 2) (v := (.pointer (some ⟨a, 0, none⟩))) rfl (by kernel_rfl) (by kernel_rfl) (by kernel_rfl) (fun _ _ _ h => (show False from h).elim) ?xyYBwdataany3 ?xhYBwdataany3 ?xrYBwdataany3
  case xhYBwdataany3 => exact hHeld
  case xyYBwdataany3 => exact Or.inl ⟨by rfl, fun W9 hW => by clear hHeld; simp only [List.getElem_toArray, List.getElem_cons_succ, List.getElem_cons_zero]; go_simp⟩
  simp only [Act.put, List.getElem_toArray, List.getElem_cons_succ, List.getElem_cons_zero, List.setIfInBounds_toArray, List.set_cons_succ, List.set_cons_zero]
  refine wpAnyH_take (i := 3) (v := (.pointer (some ⟨a, 0, none⟩))) rfl (by kernel_rfl) (by kernel_rfl) (by kernel_rfl) (fun _ _ _ h => (show False from h).elim) ?xyYBwdataany4 ?xhYBwdataany4 ?xrYBwdataany4
  case xhYBwdataany4 => exact hHeld
  case xyYBwdataany4 => exact Or.inl ⟨by rfl, fun W9 hW => by clear hHeld; simp only [List.getElem_toArray, List.getElem_cons_succ, List.getElem_cons_zero]; go_simp⟩
  simp only [Act.put, List.getElem_toArray, List.getElem_cons_succ, List.getElem_cons_zero, List.setIfInBounds_toArray, List.set_cons_succ, List.set_cons_zero]
  refine wpAnyH_take (i := 5) (v := (x)) rfl (by kernel_rfl) (by kernel_rfl) (by kernel_rfl) (fun _ _ _ h => (show False from h).elim) ?xyYBwdataany5 ?xhYBwdataany5 ?xrYBwdataany5
  case xhYBwdataany5 => exact hHeld
  case xyYBwdataany5 => exact Or.inl ⟨by rfl, fun W9 hW => by clear hHeld; simp only [List.getElem_toArray, List.getElem_cons_succ, List.getElem_cons_zero]; go_simp⟩
  simp only [Act.put, List.getElem_toArray, List.getElem_cons_succ, List.getElem_cons_zero, List.setIfInBounds_toArray, List.set_cons_succ, List.set_cons_zero]
  refine wpAnyH_ready (rs := [4, 6]) (by kernel_rfl) (by simp) ?_
  refine AllReadyH.cons rfl (fun K hK => ?_) (AllReadyH.cons rfl (fun K hK => ?_) AllReadyH.nil)
  · have d0 := HD0.out
    go_simp
    refine hK.out _ _ (hid trivial) (fun hHeld => ?_)
    clear hK K d0
    refine wpAnyH_ready (rs := [6]) (by kernel_rfl) (by simp) ?_
    refine AllReadyH.cons rfl (fun K hK => ?_) AllReadyH.nil
    go_simp
    go_wp2_with (first | (go_at_call 87; refine CNd.out.mono ?_; rintro en wT ⟨vT, rfl, hoT, hbT⟩; obtain ⟨ta, tc, rfl, hrT⟩ := gives_rd hoT; have HRT := hid hrT; have HBT := hid (HWd.out.trans (hbT.mono HWd.out.size)); have hdT := (World.cell?_of_block (w := Wd) (w' := wT) (a := ⟨a, 0, none⟩) (hbT.block _ (World.block_lt_of_cell? _ _ HD0.out))).trans HD0.out; have HDT := hid hdT; clear hbT hrT hoT hdT))
    refine hK.out _ _ (hid trivial) (fun hHeld => ?_)
    clear hK K
    have H1T : Hid (wT.heap[a]? = some (.cells #[.slice ao l.length c] 69 (0, 0))) := hid ((HBT.out.block _ (lt_of_block H1.out)).trans H1.out)
    have H2T := hid (own_old H2.out HBT.out)
    have H5T : Hid (Below W0.heap.size W0 wT) := hid (H5.out.trans (HBT.out.mono H5.out.size))
    have H6T : Hid (∀ p ∈ KK, wT.heap[p.1]? = some p.2 ∧ p.1 ≠ a ∧ (Value.slice ao l.length c).ownBlock ≠ some p.1) := hid fun p hp => ⟨(HBT.out.block _ (lt_of_block (H6.out p hp).1)).trans (H6.out p hp).1, (H6.out p hp).2⟩
    refine wpAnyH_ready (rs := [7]) (by kernel_rfl) (by simp) ?_
    refine AllReadyH.cons rfl (fun K hK => ?_) AllReadyH.nil
    refine step_bapp (by rfl) (.tmp 8) (.tmp 10) (by rfl) W0.heap.size _ _ _ (by rfl) H2T.out _ _ (by rfl) HRT.out HLB.out.1 (by have := HLB.out.2; omega) H5T.out.size (fun g cap w' o5 g5 gg5 => ?_)
    have HK := hid (heap_kept g5 H1T.out (fun e => H4.out e.symm))
    have HP := hid (St.put H1T.out H2T.out H3.out H4.out H5T.out H6T.out o5 g5 gg5)
    clear o5 g5 gg5
    refine hK.out _ _ (hid trivial) (fun hHeld => ?_)
    clear hK K
    simp only [Act.put, List.getElem_toArray, List.getElem_cons_succ, List.getElem_cons_zero, List.setIfInBounds_toArray, List.set_cons_succ, List.set_cons_zero]
    refine wpAnyH_take (i := 8) (v := (.pointer (some ⟨a, 0, none⟩))) rfl (by kernel_rfl) (by kernel_rfl) (by kernel_rfl) (fun _ _ _ h => (show False from h).elim) ?xyYBwdataany6 ?xhYBwdataany6 ?xrYBwdataany6
    case xhYBwdataany6 => exact hHeld
    case xyYBwdataany6 => exact Or.inl ⟨by rfl, fun W9 hW => by clear hHeld; simp only [List.getElem_toArray, List.getElem_cons_succ, List.getElem_cons_zero]; go_simp⟩
    simp only [Act.put, List.getElem_toArray, List.getElem_cons_succ, List.getElem_cons_zero, List.setIfInBounds_toArray, List.set_cons_succ, List.set_cons_zero]
    refine wpAnyH_take (i := 9) (v := (.pointer (some ⟨a, 0, none⟩))) rfl (by kernel_rfl) (by kernel_rfl) (by kernel_rfl) (fun _ _ _ h => (show False from h).elim) ?xyYBwdataany7 ?xhYBwdataany7 ?xrYBwdataany7
    case xhYBwdataany7 => exact hHeld
    case xyYBwdataany7 => exact Or.inl ⟨by rfl, fun W9 hW => by clear hHeld; simp only [List.getElem_toArray, List.getElem_cons_succ, List.getElem_cons_zero]; go_simp⟩
    simp only [Act.put, List.getElem_toArray, List.getElem_cons_succ, List.getElem_cons_zero, List.setIfInBounds_toArray, List.set_cons_succ, List.set_cons_zero]
    obtain ⟨k0, k1⟩ := one_cell HK.out
    refine wpAnyH_ready (rs := [10]) (by kernel_rfl) (by simp) ?_
    refine AllReadyH.cons rfl (fun K hK => ?_) AllReadyH.nil
    go_simp
    refine hK.out _ _ (hid trivial) (fun hHeld => ?_)
    clear hK K
    refine wpAnyH_done (by kernel_rfl) ?_ _
    refine NoPanic.normal ?_
    go_wp2_with fail
    go_end0
    exact ⟨rfl, HP.out⟩
  · go_simp
    go_wp2_with (first | (go_at_call 87; refine CNd.out.mono ?_; rintro en wT ⟨vT, rfl, hoT, hbT⟩; obtain ⟨ta, tc, rfl, hrT⟩ := gives_rd hoT; have HRT := hid hrT; have HBT := hid (HWd.out.trans (hbT.mono HWd.out.size)); have hdT := (World.cell?_of_block (w := Wd) (w' := wT) (a := ⟨a, 0, none⟩) (hbT.block _ (World.block_lt_of_cell? _ _ HD0.out))).trans HD0.out; have HDT := hid hdT; clear hbT hrT hoT hdT))
    refine hK.out _ _ (hid trivial) (fun hHeld => ?_)
    clear hK K
    have d1 := HDT.out
    refine wpAnyH_ready (rs := [4]) (by kernel_rfl) (by simp) ?_
    refine AllReadyH.cons rfl (fun K hK => ?_) AllReadyH.nil
    go_simp
    refine hK.out _ _ (hid trivial) (fun hHeld => ?_)
    clear hK K
    clear d1
    have H1T : Hid (wT.heap[a]? = some (.cells #[.slice ao l.length c] 69 (0, 0))) := hid ((HBT.out.block _ (lt_of_block H1.out)).trans H1.out)
    have H2T := hid (own_old H2.out HBT.out)
    have H5T : Hid (Below W0.heap.size W0 wT) := hid (H5.out.trans (HBT.out.mono H5.out.size))
    have H6T : Hid (∀ p ∈ KK, wT.heap[p.1]? = some p.2 ∧ p.1 ≠ a ∧ (Value.slice ao l.length c).ownBlock ≠ some p.1) := hid fun p hp => ⟨(HBT.out.block _ (lt_of_block (H6.out p hp).1)).trans (H6.out p hp).1, (H6.out p hp).2⟩
    refine wpAnyH_ready (rs := [7]) (by kernel_rfl) (by simp) ?_
    refine AllReadyH.cons rfl (fun K hK => ?_) AllReadyH.nil
    refine step_bapp (by rfl) (.tmp 8) (.tmp 10) (by rfl) W0.heap.size _ _ _ (by rfl) H2T.out _ _ (by rfl) HRT.out HLB.out.1 (by have := HLB.out.2; omega) H5T.out.size (fun g cap w' o5 g5 gg5 => ?_)
    have HK := hid (heap_kept g5 H1T.out (fun e => H4.out e.symm))
    have HP := hid (St.put H1T.out H2T.out H3.out H4.out H5T.out H6T.out o5 g5 gg5)
    clear o5 g5 gg5
    refine hK.out _ _ (hid trivial) (fun hHeld => ?_)
    clear hK K
    simp only [Act.put, List.getElem_toArray, List.getElem_cons_succ, List.getElem_cons_zero, List.setIfInBounds_toArray, List.set_cons_succ, List.set_cons_zero]
    refine wpAnyH_take (i := 8) (v := (.pointer (some ⟨a, 0, none⟩))) rfl (by kernel_rfl) (by kernel_rfl) (by kernel_rfl) (fun _ _ _ h => (show False from h).elim) ?xyYBwdataany8 ?xhYBwdataany8 ?xrYBwdataany8
    case xhYBwdataany8 => exact hHeld
    case xyYBwdataany8 => exact Or.inl ⟨by rfl, fun W9 hW => by clear hHeld; simp only [List.getElem_toArray, List.getElem_cons_succ, List.getElem_cons_zero]; go_simp⟩
    simp only [Act.put, List.getElem_toArray, List.getElem_cons_succ, List.getElem_cons_zero, List.setIfInBounds_toArray, List.set_cons_succ, List.set_cons_zero]
    refine wpAnyH_take (i := 9) (v := (.pointer (some ⟨a, 0, none⟩))) rfl (by kernel_rfl) (by kernel_rfl) (by kernel_rfl) (fun _ _ _ h => (show False from h).elim) ?xyYBwdataany9 ?xhYBwdataany9 ?xrYBwdataany9
    case xhYBwdataany9 => exact hHeld
    case xyYBwdataany9 => exact Or.inl ⟨by rfl, fun W9 hW => by clear hHeld; simp only [List.getElem_toArray, List.getElem_cons_succ, List.getElem_cons_zero]; go_simp⟩
    simp only [Act.put, List.getElem_toArray, List.getElem_cons_succ, List.getElem_cons_zero, List.setIfInBounds_toArray, List.set_cons_succ, List.set_cons_zero]
    obtain ⟨k0, k1⟩ := one_cell HK.out
    refine wpAnyH_ready (rs := [10]) (by kernel_rfl) (by simp) ?_
    refine AllReadyH.cons rfl (fun K hK => ?_) AllReadyH.nil
    go_simp
    refine hK.out _ _ (hid trivial) (fun hHeld => ?_)
    clear hK K
    refine wpAnyH_done (by kernel_rfl) ?_ _
    refine NoPanic.normal ?_
    go_wp2_with fail
    go_end0
    exact ⟨rfl, HP.out⟩

set_option maxHeartbeats 4000000 in
theorem onum_any {W0 w : World} {KK : List (Nat × Obj)} {a : Nat} {l : List UInt8} (h : St 73 W0 KK a w l) (n : Nat) (hn : n < 18446744073709551616) (hl : l.length + (numL n).length ≤ 1000000000000) :
    Calls Try.prog 23 #[.pointer (some ⟨a, 0, none⟩), .int .u64 (n : Int)] w (Wrote 73 W0 KK a l (numL n)) := by
  obtain ⟨ao, c, h1, h2, h3, h4, h5, h6⟩ := h
  obtain ⟨bs, hbs⟩ : ∃ bs, bs = numL n := ⟨_, rfl⟩
  have CN : Hid (∀ V, Below w.heap.size w V → Calls Try.prog 50 #[.int .u64 (n : Int)] V (Gives 5 V bs)) := hid fun V hV => by rw [hbs]; exact rnum_any n V (numL_len10 (by omega)) (by omega)
  have HLB : Hid (0 < bs.length ∧ l.length + bs.length ≤ 1000000000000) := hid ⟨by rw [hbs]; exact numL_pos _, by rw [hbs]; exact hl⟩
  rw [← hbs]; clear hbs hl
  obtain ⟨c0, f0⟩ := one_cell h1
  have H1 := hid h1
  have H2 := hid h2
  have H3 := hid h3
  have H4 := hid h4
  have H5 := hid h5
  have HWd : Hid (Below w.heap.size w w.drew) := hid ⟨rfl, rfl, rfl, Nat.le_refl _, fun _ _ => rfl⟩
  have H6 := hid h6
  clear h1 h2 h3 h4 h5 h6
  go_enter Try.func23, Try.ntmps23
  refine wp_region_noPanic ?_
  refine wp_region_held_drew (S := fun _ => Hid True) (by kernel_rfl) (hid trivial) (fun hHeld => ?_)
  have CNd := hid (CN.out _ HWd.out)
  have d0 : w.drew.cell? ⟨a, 0, none⟩ = some (.slice ao l.length c) := c0
  generalize w.drew = Wd at *
  have HD0 := hid d0
  clear d0 c0 f0
  refine wpAnyH_take (i := 0) (v := (.pointer (some ⟨a, 0, none⟩))) rfl (by kernel_rfl) (by kernel_rfl) (by kernel_rfl) (fun _ _ _ h => (show False from h).elim) ?xyYBonumany1 ?xhYBonumany1 ?xrYBonumany1
  case xhYBonumany1 => exact hHeld
  case xyYBonumany1 => exact Or.inl ⟨by rfl, fun W9 hW => by clear hHeld; simp only [List.getElem_toArray, List.getElem_cons_succ, List.getElem_cons_zero]; go_simp⟩
  simp only [Act.put, List.getElem_toArray, List.getElem_cons_succ, List.getElem_cons_zero, List.setIfInBounds_toArray, List.set_cons_succ, List.set_cons_zero]
  refine wpAnyH_take (i := 1) (v := (.pointer (some ⟨a, 0, none⟩))) rfl (by kernel_rfl) (by kernel_rfl) (by kernel_rfl) (fun _ _ _ h => (show False from h).elim) ?xyYBonumany2 ?xhYBonumany2 ?xrYBonumany2
  case xhYBonumany2 => exact hHeld
  case xyYBonumany2 => exact Or.inl ⟨by rfl, fun W9 hW => by clear hHeld; simp only [List.getElem_toArray, List.getElem_cons_succ, List.getElem_cons_zero]; go_simp⟩
  simp only [Act.put, List.getElem_toArray, List.getElem_cons_succ, List.getElem_cons_zero, List.setIfInBounds_toArray, List.set_cons_succ, List.set_cons_zero]
  refine wpAnyH_take (i := 2) (v := (.pointer (some ⟨a, 0, none⟩))) rfl (by kernel_rfl) (by kernel_rfl) (by kernel_rfl) (fun _ _ _ h => (show False from h).elim) ?xyYBonumany3 ?xhYBonumany3 ?xrYBonumany3
  case xhYBonumany3 => exact hHeld
  case xyYBonumany3 => exact Or.inl ⟨by rfl, fun W9 hW => by clear hHeld; simp only [List.getElem_toArray, List.getElem_cons_succ, List.getElem_cons_zero]; go_simp⟩
  simp only [Act.put, List.getElem_toArray, List.getElem_cons_succ, List.getElem_cons_zero, List.setIfInBounds_toArray, List.set_cons_succ, List.set_cons_zero]
  refine wpAnyH_take (i := 3) (v := (.pointer (some ⟨a, 0, none⟩))) rfl (by kernel_rfl) (by kernel_rfl) (by kernel_rfl) (fun _ _ _ h => (show False from h).elim) ?xyYBonumany4 ?xhYBonumany4 ?xrYBonumany4
  case xhYBonumany4 => exact hHeld
  case xyYBonumany4 => exact Or.inl ⟨by rfl, fun W9 hW => by clear hHeld; simp only [List.getElem_toArray, List.getElem_cons_succ, List.getElem_cons_zero]; go_simp⟩
  simp only [Act.put, List.getElem_toArray, List.getElem_cons_succ, List.getElem_cons_zero, List.setIfInBounds_toArray, List.set_cons_succ, List.set_cons_zero]
  refine wpAnyH_take (i := 5) (v := (.int .u64 (n : Int))) rfl (by kernel_rfl) (by kernel_rfl) (by kernel_rfl) (fun _ _ _ h => (show False from h).elim) ?xyYBonumany5 ?xhYBonumany5 ?xrYBonumany5
  case xhYBonumany5 => exact hHeld
  case xyYBonumany5 => exact Or.inl ⟨by rfl, fun W9 hW => by clear hHeld; simp only [List.getElem_toArray, List.getElem_cons_succ, List.getElem_cons_zero]; go_simp⟩
  simp only [Act.put, List.getElem_toArray, List.getElem_cons_succ, List.getElem_cons_zero, List.setIfInBounds_toArray, List.set_cons_succ, List.set_cons_zero]
  refine wpAnyH_ready (rs := [4, 6]) (by kernel_rfl) (by simp) ?_
  refine AllReadyH.cons rfl (fun K hK => ?_) (AllReadyH.cons rfl (fun K hK => ?_) AllReadyH.nil)
  · have d0 := HD0.out
    go_simp
    refine hK.out _ _ (hid trivial) (fun hHeld => ?_)
    clear hK K d0
    refine wpAnyH_ready (rs := [6]) (by kernel_rfl) (by simp) ?_
    refine AllReadyH.cons rfl (fun K hK => ?_) AllReadyH.nil
    go_simp
    go_wp2_with (first | (go_at_call 50; refine CNd.out.mono ?_; rintro en wT ⟨vT, rfl, hoT, hbT⟩; obtain ⟨ta, tc, rfl, hrT⟩ := gives_rd hoT; have HRT := hid hrT; have HBT := hid (HWd.out.trans (hbT.mono HWd.out.size)); have hdT := (World.cell?_of_block (w := Wd) (w' := wT) (a := ⟨a, 0, none⟩) (hbT.block _ (World.block_lt_of_cell? _ _ HD0.out))).trans HD0.out; have HDT := hid hdT; clear hbT hrT hoT hdT))
    refine hK.out _ _ (hid trivial) (fun hHeld => ?_)
    clear hK K
    have H1T : Hid (wT.heap[a]? = some (.cells #[.slice ao l.length c] 73 (0, 0))) := hid ((HBT.out.block _ (lt_of_block H1.out)).trans H1.out)
    have H2T := hid (own_old H2.out HBT.out)
    have H5T : Hid (Below W0.heap.size W0 wT) := hid (H5.out.trans (HBT.out.mono H5.out.size))
    have H6T : Hid (∀ p ∈ KK, wT.heap[p.1]? = some p.2 ∧ p.1 ≠ a ∧ (Value.slice ao l.length c).ownBlock ≠ some p.1) := hid fun p hp => ⟨(HBT.out.block _ (lt_of_block (H6.out p hp).1)).trans (H6.out p hp).1, (H6.out p hp).2⟩
    refine wpAnyH_ready (rs := [7]) (by kernel_rfl) (by simp) ?_
    refine AllReadyH.cons rfl (fun K hK => ?_) AllReadyH.nil
    refine step_bapp (by rfl) (.tmp 8) (.tmp 10) (by rfl) W0.heap.size _ _ _ (by rfl) H2T.out _ _ (by rfl) HRT.out HLB.out.1 (by have := HLB.out.2; omega) H5T.out.size (fun g cap w' o5 g5 gg5 => ?_)
    have HK := hid (heap_kept g5 H1T.out (fun e => H4.out e.symm))
    have HP := hid (St.put H1T.out H2T.out H3.out H4.out H5T.out H6T.out o5 g5 gg5)
    clear o5 g5 gg5
    refine hK.out _ _ (hid trivial) (fun hHeld => ?_)
    clear hK K
    simp only [Act.put, List.getElem_toArray, List.getElem_cons_succ, List.getElem_cons_zero, List.setIfInBounds_toArray, List.set_cons_succ, List.set_cons_zero]
    refine wpAnyH_take (i := 8) (v := (.pointer (some ⟨a, 0, none⟩))) rfl (by kernel_rfl) (by kernel_rfl) (by kernel_rfl) (fun _ _ _ h => (show False from h).elim) ?xyYBonumany6 ?xhYBonumany6 ?xrYBonumany6
    case xhYBonumany6 => exact hHeld
    case xyYBonumany6 => exact Or.inl ⟨by rfl, fun W9 hW => by clear hHeld; simp only [List.getElem_toArray, List.getElem_cons_succ, List.getElem_cons_zero]; go_simp⟩
    simp only [Act.put, List.getElem_toArray, List.getElem_cons_succ, List.getElem_cons_zero, List.setIfInBounds_toArray, List.set_cons_succ, List.set_cons_zero]
    refine wpAnyH_take (i := 9) (v := (.pointer (some ⟨a, 0, none⟩))) rfl (by kernel_rfl) (by kernel_rfl) (by kernel_rfl) (fun _ _ _ h => (show False from h).elim) ?xyYBonumany7 ?xhYBonumany7 ?xrYBonumany7
    case xhYBonumany7 => exact hHeld
    case xyYBonumany7 => exact Or.inl ⟨by rfl, fun W9 hW => by clear hHeld; simp only [List.getElem_toArray, List.getElem_cons_succ, List.getElem_cons_zero]; go_simp⟩
    simp only [Act.put, List.getElem_toArray, List.getElem_cons_succ, List.getElem_cons_zero, List.setIfInBounds_toArray, List.set_cons_succ, List.set_cons_zero]
    obtain ⟨k0, k1⟩ := one_cell HK.out
    refine wpAnyH_ready (rs := [10]) (by kernel_rfl) (by simp) ?_
    refine AllReadyH.cons rfl (fun K hK => ?_) AllReadyH.nil
    go_simp
    refine hK.out _ _ (hid trivial) (fun hHeld => ?_)
    clear hK K
    refine wpAnyH_done (by kernel_rfl) ?_ _
    refine NoPanic.normal ?_
    go_wp2_with fail
    go_end0
    exact ⟨rfl, HP.out⟩
  · go_simp
    go_wp2_with (first | (go_at_call 50; refine CNd.out.mono ?_; rintro en wT ⟨vT, rfl, hoT, hbT⟩; obtain ⟨ta, tc, rfl, hrT⟩ := gives_rd hoT; have HRT := hid hrT; have HBT := hid (HWd.out.trans (hbT.mono HWd.out.size)); have hdT := (World.cell?_of_block (w := Wd) (w' := wT) (a := ⟨a, 0, none⟩) (hbT.block _ (World.block_lt_of_cell? _ _ HD0.out))).trans HD0.out; have HDT := hid hdT; clear hbT hrT hoT hdT))
    refine hK.out _ _ (hid trivial) (fun hHeld => ?_)
    clear hK K
    have d1 := HDT.out
    refine wpAnyH_ready (rs := [4]) (by kernel_rfl) (by simp) ?_
    refine AllReadyH.cons rfl (fun K hK => ?_) AllReadyH.nil
    go_simp
    refine hK.out _ _ (hid trivial) (fun hHeld => ?_)
    clear hK K
    clear d1
    have H1T : Hid (wT.heap[a]? = some (.cells #[.slice ao l.length c] 73 (0, 0))) := hid ((HBT.out.block _ (lt_of_block H1.out)).trans H1.out)
    have H2T := hid (own_old H2.out HBT.out)
    have H5T : Hid (Below W0.heap.size W0 wT) := hid (H5.out.trans (HBT.out.mono H5.out.size))
    have H6T : Hid (∀ p ∈ KK, wT.heap[p.1]? = some p.2 ∧ p.1 ≠ a ∧ (Value.slice ao l.length c).ownBlock ≠ some p.1) := hid fun p hp => ⟨(HBT.out.block _ (lt_of_block (H6.out p hp).1)).trans (H6.out p hp).1, (H6.out p hp).2⟩
    refine wpAnyH_ready (rs := [7]) (by kernel_rfl) (by simp) ?_
    refine AllReadyH.cons rfl (fun K hK => ?_) AllReadyH.nil
    refine step_bapp (by rfl) (.tmp 8) (.tmp 10) (by rfl) W0.heap.size _ _ _ (by rfl) H2T.out _ _ (by rfl) HRT.out HLB.out.1 (by have := HLB.out.2; omega) H5T.out.size (fun g cap w' o5 g5 gg5 => ?_)
    have HK := hid (heap_kept g5 H1T.out (fun e => H4.out e.symm))
    have HP := hid (St.put H1T.out H2T.out H3.out H4.out H5T.out H6T.out o5 g5 gg5)
    clear o5 g5 gg5
    refine hK.out _ _ (hid trivial) (fun hHeld => ?_)
    clear hK K
    simp only [Act.put, List.getElem_toArray, List.getElem_cons_succ, List.getElem_cons_zero, List.setIfInBounds_toArray, List.set_cons_succ, List.set_cons_zero]
    refine wpAnyH_take (i := 8) (v := (.pointer (some ⟨a, 0, none⟩))) rfl (by kernel_rfl) (by kernel_rfl) (by kernel_rfl) (fun _ _ _ h => (show False from h).elim) ?xyYBonumany8 ?xhYBonumany8 ?xrYBonumany8
    case xhYBonumany8 => exact hHeld
    case xyYBonumany8 => exact Or.inl ⟨by rfl, fun W9 hW => by clear hHeld; simp only [List.getElem_toArray, List.getElem_cons_succ, List.getElem_cons_zero]; go_simp⟩
    simp only [Act.put, List.getElem_toArray, List.getElem_cons_succ, List.getElem_cons_zero, List.setIfInBounds_toArray, List.set_cons_succ, List.set_cons_zero]
    refine wpAnyH_take (i := 9) (v := (.pointer (some ⟨a, 0, none⟩))) rfl (by kernel_rfl) (by kernel_rfl) (by kernel_rfl) (fun _ _ _ h => (show False from h).elim) ?xyYBonumany9 ?xhYBonumany9 ?xrYBonumany9
    case xhYBonumany9 => exact hHeld
    case xyYBonumany9 => exact Or.inl ⟨by rfl, fun W9 hW => by clear hHeld; simp only [List.getElem_toArray, List.getElem_cons_succ, List.getElem_cons_zero]; go_simp⟩
    simp only [Act.put, List.getElem_toArray, List.getElem_cons_succ, List.getElem_cons_zero, List.setIfInBounds_toArray, List.set_cons_succ, List.set_cons_zero]
    obtain ⟨k0, k1⟩ := one_cell HK.out
    refine wpAnyH_ready (rs := [10]) (by kernel_rfl) (by simp) ?_
    refine AllReadyH.cons rfl (fun K hK => ?_) AllReadyH.nil
    go_simp
    refine hK.out _ _ (hid trivial) (fun hHeld => ?_)
    clear hK K
    refine wpAnyH_done (by kernel_rfl) ?_ _
    refine NoPanic.normal ?_
    go_wp2_with fail
    go_end0
    exact ⟨rfl, HP.out⟩

set_option maxHeartbeats 4000000 in
theorem oint_any {W0 w : World} {KK : List (Nat × Obj)} {a : Nat} {l : List UInt8} (h : St 73 W0 KK a w l) (z : Int) (hz : (Lit.int .i64 z).wf = true) (hl : l.length + (numL (zig z)).length ≤ 1000000000000) :
    Calls Try.prog 26 #[.pointer (some ⟨a, 0, none⟩), .int .i64 z] w (Wrote 73 W0 KK a l (numL (zig z))) := by
  obtain ⟨ao, c, h1, h2, h3, h4, h5, h6⟩ := h
  obtain ⟨bs, hbs⟩ : ∃ bs, bs = numL (zig z) := ⟨_, rfl⟩
  have CN : Hid (∀ V, Below w.heap.size w V → Calls Try.prog 64 #[.int .i64 z] V (Gives 5 V bs)) := hid fun V hV => by rw [hbs]; exact rint_any z V hz
  have HLB : Hid (0 < bs.length ∧ l.length + bs.length ≤ 1000000000000) := hid ⟨by rw [hbs]; exact numL_pos _, by rw [hbs]; exact hl⟩
  rw [← hbs]; clear hbs hl
  obtain ⟨c0, f0⟩ := one_cell h1
  have H1 := hid h1
  have H2 := hid h2
  have H3 := hid h3
  have H4 := hid h4
  have H5 := hid h5
  have HWd : Hid (Below w.heap.size w w.drew) := hid ⟨rfl, rfl, rfl, Nat.le_refl _, fun _ _ => rfl⟩
  have H6 := hid h6
  clear h1 h2 h3 h4 h5 h6
  go_enter Try.func26, Try.ntmps26
  refine wp_region_noPanic ?_
  refine wp_region_held_drew (S := fun _ => Hid True) (by kernel_rfl) (hid trivial) (fun hHeld => ?_)
  have CNd := hid (CN.out _ HWd.out)
  have d0 : w.drew.cell? ⟨a, 0, none⟩ = some (.slice ao l.length c) := c0
  generalize w.drew = Wd at *
  have HD0 := hid d0
  clear d0 c0 f0
  refine wpAnyH_take (i := 0) (v := (.pointer (some ⟨a, 0, none⟩))) rfl (by kernel_rfl) (by kernel_rfl) (by kernel_rfl) (fun _ _ _ h => (show False from h).elim) ?xyYBointany1 ?xhYBointany1 ?xrYBointany1
  case xhYBointany1 => exact hHeld
  case xyYBointany1 => exact Or.inl ⟨by rfl, fun W9 hW => by clear hHeld; simp only [List.getElem_toArray, List.getElem_cons_succ, List.getElem_cons_zero]; go_simp⟩
  simp only [Act.put, List.getElem_toArray, List.getElem_cons_succ, List.getElem_cons_zero, List.setIfInBounds_toArray, List.set_cons_succ, List.set_cons_zero]
  refine wpAnyH_take (i := 1) (v := (.pointer (some ⟨a, 0, none⟩))) rfl (by kernel_rfl) (by kernel_rfl) (by kernel_rfl) (fun _ _ _ h => (show False from h).elim) ?xyYBointany2 ?xhYBointany2 ?xrYBointany2
  case xhYBointany2 => exact hHeld
  case xyYBointany2 => exact Or.inl ⟨by rfl, fun W9 hW => by clear hHeld; simp only [List.getElem_toArray, List.getElem_cons_succ, List.getElem_cons_zero]; go_simp⟩
  simp only [Act.put, List.getElem_toArray, List.getElem_cons_succ, List.getElem_cons_zero, List.setIfInBounds_toArray, List.set_cons_succ, List.set_cons_zero]
  refine wpAnyH_take (i := 2) (v := (.pointer (some ⟨a, 0, none⟩))) rfl (by kernel_rfl) (by kernel_rfl) (by kernel_rfl) (fun _ _ _ h => (show False from h).elim) ?xyYBointany3 ?xhYBointany3 ?xrYBointany3
  case xhYBointany3 => exact hHeld
  case xyYBointany3 => exact Or.inl ⟨by rfl, fun W9 hW => by clear hHeld; simp only [List.getElem_toArray, List.getElem_cons_succ, List.getElem_cons_zero]; go_simp⟩
  simp only [Act.put, List.getElem_toArray, List.getElem_cons_succ, List.getElem_cons_zero, List.setIfInBounds_toArray, List.set_cons_succ, List.set_cons_zero]
  refine wpAnyH_take (i := 3) (v := (.pointer (some ⟨a, 0, none⟩))) rfl (by kernel_rfl) (by kernel_rfl) (by kernel_rfl) (fun _ _ _ h => (show False from h).elim) ?xyYBointany4 ?xhYBointany4 ?xrYBointany4
  case xhYBointany4 => exact hHeld
  case xyYBointany4 => exact Or.inl ⟨by rfl, fun W9 hW => by clear hHeld; simp only [List.getElem_toArray, List.getElem_cons_succ, List.getElem_cons_zero]; go_simp⟩
  simp only [Act.put, List.getElem_toArray, List.getElem_cons_succ, List.getElem_cons_zero, List.setIfInBounds_toArray, List.set_cons_succ, List.set_cons_zero]
  refine wpAnyH_take (i := 5) (v := (.int .i64 z)) rfl (by kernel_rfl) (by kernel_rfl) (by kernel_rfl) (fun _ _ _ h => (show False from h).elim) ?xyYBointany5 ?xhYBointany5 ?xrYBointany5
  case xhYBointany5 => exact hHeld
  case xyYBointany5 => exact Or.inl ⟨by rfl, fun W9 hW => by clear hHeld; simp only [List.getElem_toArray, List.getElem_cons_succ, List.getElem_cons_zero]; go_simp⟩
  simp only [Act.put, List.getElem_toArray, List.getElem_cons_succ, List.getElem_cons_zero, List.setIfInBounds_toArray, List.set_cons_succ, List.set_cons_zero]
  refine wpAnyH_ready (rs := [4, 6]) (by kernel_rfl) (by simp) ?_
  refine AllReadyH.cons rfl (fun K hK => ?_) (AllReadyH.cons rfl (fun K hK => ?_) AllReadyH.nil)
  · have d0 := HD0.out
    go_simp
    refine hK.out _ _ (hid trivial) (fun hHeld => ?_)
    clear hK K d0
    refine wpAnyH_ready (rs := [6]) (by kernel_rfl) (by simp) ?_
    refine AllReadyH.cons rfl (fun K hK => ?_) AllReadyH.nil
    go_simp
    go_wp2_with (first | (go_at_call 64; refine CNd.out.mono ?_; rintro en wT ⟨vT, rfl, hoT, hbT⟩; obtain ⟨ta, tc, rfl, hrT⟩ := gives_rd hoT; have HRT := hid hrT; have HBT := hid (HWd.out.trans (hbT.mono HWd.out.size)); have hdT := (World.cell?_of_block (w := Wd) (w' := wT) (a := ⟨a, 0, none⟩) (hbT.block _ (World.block_lt_of_cell? _ _ HD0.out))).trans HD0.out; have HDT := hid hdT; clear hbT hrT hoT hdT))
    refine hK.out _ _ (hid trivial) (fun hHeld => ?_)
    clear hK K
    have H1T : Hid (wT.heap[a]? = some (.cells #[.slice ao l.length c] 73 (0, 0))) := hid ((HBT.out.block _ (lt_of_block H1.out)).trans H1.out)
    have H2T := hid (own_old H2.out HBT.out)
    have H5T : Hid (Below W0.heap.size W0 wT) := hid (H5.out.trans (HBT.out.mono H5.out.size))
    have H6T : Hid (∀ p ∈ KK, wT.heap[p.1]? = some p.2 ∧ p.1 ≠ a ∧ (Value.slice ao l.length c).ownBlock ≠ some p.1) := hid fun p hp => ⟨(HBT.out.block _ (lt_of_block (H6.out p hp).1)).trans (H6.out p hp).1, (H6.out p hp).2⟩
    refine wpAnyH_ready (rs := [7]) (by kernel_rfl) (by simp) ?_
    refine AllReadyH.cons rfl (fun K hK => ?_) AllReadyH.nil
    refine step_bapp (by rfl) (.tmp 8) (.tmp 10) (by rfl) W0.heap.size _ _ _ (by rfl) H2T.out _ _ (by rfl) HRT.out HLB.out.1 (by have := HLB.out.2; omega) H5T.out.size (fun g cap w' o5 g5 gg5 => ?_)
    have HK := hid (heap_kept g5 H1T.out (fun e => H4.out e.symm))
    have HP := hid (St.put H1T.out H2T.out H3.out H4.out H5T.out H6T.out o5 g5 gg5)
    clear o5 g5 gg5
    refine hK.out _ _ (hid trivial) (fun hHeld => ?_)
    clear hK K
    simp only [Act.put, List.getElem_toArray, List.getElem_cons_succ, List.getElem_cons_zero, List.setIfInBounds_toArray, List.set_cons_succ, List.set_cons_zero]
    refine wpAnyH_take (i := 8) (v := (.pointer (some ⟨a, 0, none⟩))) rfl (by kernel_rfl) (by kernel_rfl) (by kernel_rfl) (fun _ _ _ h => (show False from h).elim) ?xyYBointany6 ?xhYBointany6 ?xrYBointany6
    case xhYBointany6 => exact hHeld
    case xyYBointany6 => exact Or.inl ⟨by rfl, fun W9 hW => by clear hHeld; simp only [List.getElem_toArray, List.getElem_cons_succ, List.getElem_cons_zero]; go_simp⟩
    simp only [Act.put, List.getElem_toArray, List.getElem_cons_succ, List.getElem_cons_zero, List.setIfInBounds_toArray, List.set_cons_succ, List.set_cons_zero]
    refine wpAnyH_take (i := 9) (v := (.pointer (some ⟨a, 0, none⟩))) rfl (by kernel_rfl) (by kernel_rfl) (by kernel_rfl) (fun _ _ _ h => (show False from h).elim) ?xyYBointany7 ?xhYBointany7 ?xrYBointany7
    case xhYBointany7 => exact hHeld
    case xyYBointany7 => exact Or.inl ⟨by rfl, fun W9 hW => by clear hHeld; simp only [List.getElem_toArray, List.getElem_cons_succ, List.getElem_cons_zero]; go_simp⟩
    simp only [Act.put, List.getElem_toArray, List.getElem_cons_succ, List.getElem_cons_zero, List.setIfInBounds_toArray, List.set_cons_succ, List.set_cons_zero]
    obtain ⟨k0, k1⟩ := one_cell HK.out
    refine wpAnyH_ready (rs := [10]) (by kernel_rfl) (by simp) ?_
    refine AllReadyH.cons rfl (fun K hK => ?_) AllReadyH.nil
    go_simp
    refine hK.out _ _ (hid trivial) (fun hHeld => ?_)
    clear hK K
    refine wpAnyH_done (by kernel_rfl) ?_ _
    refine NoPanic.normal ?_
    go_wp2_with fail
    go_end0
    exact ⟨rfl, HP.out⟩
  · go_simp
    go_wp2_with (first | (go_at_call 64; refine CNd.out.mono ?_; rintro en wT ⟨vT, rfl, hoT, hbT⟩; obtain ⟨ta, tc, rfl, hrT⟩ := gives_rd hoT; have HRT := hid hrT; have HBT := hid (HWd.out.trans (hbT.mono HWd.out.size)); have hdT := (World.cell?_of_block (w := Wd) (w' := wT) (a := ⟨a, 0, none⟩) (hbT.block _ (World.block_lt_of_cell? _ _ HD0.out))).trans HD0.out; have HDT := hid hdT; clear hbT hrT hoT hdT))
    refine hK.out _ _ (hid trivial) (fun hHeld => ?_)
    clear hK K
    have d1 := HDT.out
    refine wpAnyH_ready (rs := [4]) (by kernel_rfl) (by simp) ?_
    refine AllReadyH.cons rfl (fun K hK => ?_) AllReadyH.nil
    go_simp
    refine hK.out _ _ (hid trivial) (fun hHeld => ?_)
    clear hK K
    clear d1
    have H1T : Hid (wT.heap[a]? = some (.cells #[.slice ao l.length c] 73 (0, 0))) := hid ((HBT.out.block _ (lt_of_block H1.out)).trans H1.out)
    have H2T := hid (own_old H2.out HBT.out)
    have H5T : Hid (Below W0.heap.size W0 wT) := hid (H5.out.trans (HBT.out.mono H5.out.size))
    have H6T : Hid (∀ p ∈ KK, wT.heap[p.1]? = some p.2 ∧ p.1 ≠ a ∧ (Value.slice ao l.length c).ownBlock ≠ some p.1) := hid fun p hp => ⟨(HBT.out.block _ (lt_of_block (H6.out p hp).1)).trans (H6.out p hp).1, (H6.out p hp).2⟩
    refine wpAnyH_ready (rs := [7]) (by kernel_rfl) (by simp) ?_
    refine AllReadyH.cons rfl (fun K hK => ?_) AllReadyH.nil
    refine step_bapp (by rfl) (.tmp 8) (.tmp 10) (by rfl) W0.heap.size _ _ _ (by rfl) H2T.out _ _ (by rfl) HRT.out HLB.out.1 (by have := HLB.out.2; omega) H5T.out.size (fun g cap w' o5 g5 gg5 => ?_)
    have HK := hid (heap_kept g5 H1T.out (fun e => H4.out e.symm))
    have HP := hid (St.put H1T.out H2T.out H3.out H4.out H5T.out H6T.out o5 g5 gg5)
    clear o5 g5 gg5
    refine hK.out _ _ (hid trivial) (fun hHeld => ?_)
    clear hK K
    simp only [Act.put, List.getElem_toArray, List.getElem_cons_succ, List.getElem_cons_zero, List.setIfInBounds_toArray, List.set_cons_succ, List.set_cons_zero]
    refine wpAnyH_take (i := 8) (v := (.pointer (some ⟨a, 0, none⟩))) rfl (by kernel_rfl) (by kernel_rfl) (by kernel_rfl) (fun _ _ _ h => (show False from h).elim) ?xyYBointany8 ?xhYBointany8 ?xrYBointany8
    case xhYBointany8 => exact hHeld
    case xyYBointany8 => exact Or.inl ⟨by rfl, fun W9 hW => by clear hHeld; simp only [List.getElem_toArray, List.getElem_cons_succ, List.getElem_cons_zero]; go_simp⟩
    simp only [Act.put, List.getElem_toArray, List.getElem_cons_succ, List.getElem_cons_zero, List.setIfInBounds_toArray, List.set_cons_succ, List.set_cons_zero]
    refine wpAnyH_take (i := 9) (v := (.pointer (some ⟨a, 0, none⟩))) rfl (by kernel_rfl) (by kernel_rfl) (by kernel_rfl) (fun _ _ _ h => (show False from h).elim) ?xyYBointany9 ?xhYBointany9 ?xrYBointany9
    case xhYBointany9 => exact hHeld
    case xyYBointany9 => exact Or.inl ⟨by rfl, fun W9 hW => by clear hHeld; simp only [List.getElem_toArray, List.getElem_cons_succ, List.getElem_cons_zero]; go_simp⟩
    simp only [Act.put, List.getElem_toArray, List.getElem_cons_succ, List.getElem_cons_zero, List.setIfInBounds_toArray, List.set_cons_succ, List.set_cons_zero]
    obtain ⟨k0, k1⟩ := one_cell HK.out
    refine wpAnyH_ready (rs := [10]) (by kernel_rfl) (by simp) ?_
    refine AllReadyH.cons rfl (fun K hK => ?_) AllReadyH.nil
    go_simp
    refine hK.out _ _ (hid trivial) (fun hHeld => ?_)
    clear hK K
    refine wpAnyH_done (by kernel_rfl) ?_ _
    refine NoPanic.normal ?_
    go_wp2_with fail
    go_end0
    exact ⟨rfl, HP.out⟩

set_option maxHeartbeats 4000000 in
theorem owide_any {W0 w : World} {KK : List (Nat × Obj)} {a : Nat} {l : List UInt8} (h : St 73 W0 KK a w l) (z : Int) (hz : (Lit.int .i64 z).wf = true) (hl : l.length + (numL (zig z)).length ≤ 1000000000000) :
    Calls Try.prog 99 #[.pointer (some ⟨a, 0, none⟩), .int .i64 z] w (Wrote 73 W0 KK a l (numL (zig z))) := by
  obtain ⟨ao, c, h1, h2, h3, h4, h5, h6⟩ := h
  obtain ⟨bs, hbs⟩ : ∃ bs, bs = numL (zig z) := ⟨_, rfl⟩
  have CN : Hid (∀ V, Below w.heap.size w V → Calls Try.prog 64 #[.int .i64 z] V (Gives 5 V bs)) := hid fun V hV => by rw [hbs]; exact rint_any z V hz
  have HLB : Hid (0 < bs.length ∧ l.length + bs.length ≤ 1000000000000) := hid ⟨by rw [hbs]; exact numL_pos _, by rw [hbs]; exact hl⟩
  rw [← hbs]; clear hbs hl
  obtain ⟨c0, f0⟩ := one_cell h1
  have H1 := hid h1
  have H2 := hid h2
  have H3 := hid h3
  have H4 := hid h4
  have H5 := hid h5
  have HWd : Hid (Below w.heap.size w w.drew) := hid ⟨rfl, rfl, rfl, Nat.le_refl _, fun _ _ => rfl⟩
  have H6 := hid h6
  clear h1 h2 h3 h4 h5 h6
  go_enter Try.func99, Try.ntmps99
  refine wp_region_noPanic ?_
  refine wp_region_held_drew (S := fun _ => Hid True) (by kernel_rfl) (hid trivial) (fun hHeld => ?_)
  have CNd := hid (CN.out _ HWd.out)
  have d0 : w.drew.cell? ⟨a, 0, none⟩ = some (.slice ao l.length c) := c0
  generalize w.drew = Wd at *
  have HD0 := hid d0
  clear d0 c0 f0
  refine wpAnyH_take (i := 0) (v := (.pointer (some ⟨a, 0, none⟩))) rfl (by kernel_rfl) (by kernel_rfl) (by kernel_rfl) (fun _ _ _ h => (show False from h).elim) ?xyYBowideany1 ?xhYBowideany1 ?xrYBowideany1
  case xhYBowideany1 => exact hHeld
  case xyYBowideany1 => exact Or.inl ⟨by rfl, fun W9 hW => by clear hHeld; simp only [List.getElem_toArray, List.getElem_cons_succ, List.getElem_cons_zero]; go_simp⟩
  simp only [Act.put, List.getElem_toArray, List.getElem_cons_succ, List.getElem_cons_zero, List.setIfInBounds_toArray, List.set_cons_succ, List.set_cons_zero]
  refine wpAnyH_take (i := 1) (v := (.pointer (some ⟨a, 0, none⟩))) rfl (by kernel_rfl) (by kernel_rfl) (by kernel_rfl) (fun _ _ _ h => (show False from h).elim) ?xyYBowideany2 ?xhYBowideany2 ?xrYBowideany2
  case xhYBowideany2 => exact hHeld
  case xyYBowideany2 => exact Or.inl ⟨by rfl, fun W9 hW => by clear hHeld; simp only [List.getElem_toArray, List.getElem_cons_succ, List.getElem_cons_zero]; go_simp⟩
  simp only [Act.put, List.getElem_toArray, List.getElem_cons_succ, List.getElem_cons_zero, List.setIfInBounds_toArray, List.set_cons_succ, List.set_cons_zero]
  refine wpAnyH_take (i := 2) (v := (.pointer (some ⟨a, 0, none⟩))) rfl (by kernel_rfl) (by kernel_rfl) (by kernel_rfl) (fun _ _ _ h => (show False from h).elim) ?xyYBowideany3 ?xhYBowideany3 ?xrYBowideany3
  case xhYBowideany3 => exact hHeld
  case xyYBowideany3 => exact Or.inl ⟨by rfl, fun W9 hW => by clear hHeld; simp only [List.getElem_toArray, List.getElem_cons_succ, List.getElem_cons_zero]; go_simp⟩
  simp only [Act.put, List.getElem_toArray, List.getElem_cons_succ, List.getElem_cons_zero, List.setIfInBounds_toArray, List.set_cons_succ, List.set_cons_zero]
  refine wpAnyH_take (i := 3) (v := (.pointer (some ⟨a, 0, none⟩))) rfl (by kernel_rfl) (by kernel_rfl) (by kernel_rfl) (fun _ _ _ h => (show False from h).elim) ?xyYBowideany4 ?xhYBowideany4 ?xrYBowideany4
  case xhYBowideany4 => exact hHeld
  case xyYBowideany4 => exact Or.inl ⟨by rfl, fun W9 hW => by clear hHeld; simp only [List.getElem_toArray, List.getElem_cons_succ, List.getElem_cons_zero]; go_simp⟩
  simp only [Act.put, List.getElem_toArray, List.getElem_cons_succ, List.getElem_cons_zero, List.setIfInBounds_toArray, List.set_cons_succ, List.set_cons_zero]
  refine wpAnyH_take (i := 5) (v := (.int .i64 z)) rfl (by kernel_rfl) (by kernel_rfl) (by kernel_rfl) (fun _ _ _ h => (show False from h).elim) ?xyYBowideany5 ?xhYBowideany5 ?xrYBowideany5
  case xhYBowideany5 => exact hHeld
  case xyYBowideany5 => exact Or.inl ⟨by rfl, fun W9 hW => by clear hHeld; simp only [List.getElem_toArray, List.getElem_cons_succ, List.getElem_cons_zero]; go_simp⟩
  simp only [Act.put, List.getElem_toArray, List.getElem_cons_succ, List.getElem_cons_zero, List.setIfInBounds_toArray, List.set_cons_succ, List.set_cons_zero]
  refine wpAnyH_ready (rs := [4, 6]) (by kernel_rfl) (by simp) ?_
  refine AllReadyH.cons rfl (fun K hK => ?_) (AllReadyH.cons rfl (fun K hK => ?_) AllReadyH.nil)
  · have d0 := HD0.out
    go_simp
    refine hK.out _ _ (hid trivial) (fun hHeld => ?_)
    clear hK K d0
    refine wpAnyH_ready (rs := [6]) (by kernel_rfl) (by simp) ?_
    refine AllReadyH.cons rfl (fun K hK => ?_) AllReadyH.nil
    go_simp
    go_wp2_with (first | (go_at_call 64; refine CNd.out.mono ?_; rintro en wT ⟨vT, rfl, hoT, hbT⟩; obtain ⟨ta, tc, rfl, hrT⟩ := gives_rd hoT; have HRT := hid hrT; have HBT := hid (HWd.out.trans (hbT.mono HWd.out.size)); have hdT := (World.cell?_of_block (w := Wd) (w' := wT) (a := ⟨a, 0, none⟩) (hbT.block _ (World.block_lt_of_cell? _ _ HD0.out))).trans HD0.out; have HDT := hid hdT; clear hbT hrT hoT hdT))
    refine hK.out _ _ (hid trivial) (fun hHeld => ?_)
    clear hK K
    have H1T : Hid (wT.heap[a]? = some (.cells #[.slice ao l.length c] 73 (0, 0))) := hid ((HBT.out.block _ (lt_of_block H1.out)).trans H1.out)
    have H2T := hid (own_old H2.out HBT.out)
    have H5T : Hid (Below W0.heap.size W0 wT) := hid (H5.out.trans (HBT.out.mono H5.out.size))
    have H6T : Hid (∀ p ∈ KK, wT.heap[p.1]? = some p.2 ∧ p.1 ≠ a ∧ (Value.slice ao l.length c).ownBlock ≠ some p.1) := hid fun p hp => ⟨(HBT.out.block _ (lt_of_block (H6.out p hp).1)).trans (H6.out p hp).1, (H6.out p hp).2⟩
    refine wpAnyH_ready (rs := [7]) (by kernel_rfl) (by simp) ?_
    refine AllReadyH.cons rfl (fun K hK => ?_) AllReadyH.nil
    refine step_bapp (by rfl) (.tmp 8) (.tmp 10) (by rfl) W0.heap.size _ _ _ (by rfl) H2T.out _ _ (by rfl) HRT.out HLB.out.1 (by have := HLB.out.2; omega) H5T.out.size (fun g cap w' o5 g5 gg5 => ?_)
    have HK := hid (heap_kept g5 H1T.out (fun e => H4.out e.symm))
    have HP := hid (St.put H1T.out H2T.out H3.out H4.out H5T.out H6T.out o5 g5 gg5)
    clear o5 g5 gg5
    refine hK.out _ _ (hid trivial) (fun hHeld => ?_)
    clear hK K
    simp only [Act.put, List.getElem_toArray, List.getElem_cons_succ, List.getElem_cons_zero, List.setIfInBounds_toArray, List.set_cons_succ, List.set_cons_zero]
    refine wpAnyH_take (i := 8) (v := (.pointer (some ⟨a, 0, none⟩))) rfl (by kernel_rfl) (by kernel_rfl) (by kernel_rfl) (fun _ _ _ h => (show False from h).elim) ?xyYBowideany6 ?xhYBowideany6 ?xrYBowideany6
    case xhYBowideany6 => exact hHeld
    case xyYBowideany6 => exact Or.inl ⟨by rfl, fun W9 hW => by clear hHeld; simp only [List.getElem_toArray, List.getElem_cons_succ, List.getElem_cons_zero]; go_simp⟩
    simp only [Act.put, List.getElem_toArray, List.getElem_cons_succ, List.getElem_cons_zero, List.setIfInBounds_toArray, List.set_cons_succ, List.set_cons_zero]
    refine wpAnyH_take (i := 9) (v := (.pointer (some ⟨a, 0, none⟩))) rfl (by kernel_rfl) (by kernel_rfl) (by kernel_rfl) (fun _ _ _ h => (show False from h).elim) ?xyYBowideany7 ?xhYBowideany7 ?xrYBowideany7
    case xhYBowideany7 => exact hHeld
    case xyYBowideany7 => exact Or.inl ⟨by rfl, fun W9 hW => by clear hHeld; simp only [List.getElem_toArray, List.getElem_cons_succ, List.getElem_cons_zero]; go_simp⟩
    simp only [Act.put, List.getElem_toArray, List.getElem_cons_succ, List.getElem_cons_zero, List.setIfInBounds_toArray, List.set_cons_succ, List.set_cons_zero]
    obtain ⟨k0, k1⟩ := one_cell HK.out
    refine wpAnyH_ready (rs := [10]) (by kernel_rfl) (by simp) ?_
    refine AllReadyH.cons rfl (fun K hK => ?_) AllReadyH.nil
    go_simp
    refine hK.out _ _ (hid trivial) (fun hHeld => ?_)
    clear hK K
    refine wpAnyH_done (by kernel_rfl) ?_ _
    refine NoPanic.normal ?_
    go_wp2_with fail
    go_end0
    exact ⟨rfl, HP.out⟩
  · go_simp
    go_wp2_with (first | (go_at_call 64; refine CNd.out.mono ?_; rintro en wT ⟨vT, rfl, hoT, hbT⟩; obtain ⟨ta, tc, rfl, hrT⟩ := gives_rd hoT; have HRT := hid hrT; have HBT := hid (HWd.out.trans (hbT.mono HWd.out.size)); have hdT := (World.cell?_of_block (w := Wd) (w' := wT) (a := ⟨a, 0, none⟩) (hbT.block _ (World.block_lt_of_cell? _ _ HD0.out))).trans HD0.out; have HDT := hid hdT; clear hbT hrT hoT hdT))
    refine hK.out _ _ (hid trivial) (fun hHeld => ?_)
    clear hK K
    have d1 := HDT.out
    refine wpAnyH_ready (rs := [4]) (by kernel_rfl) (by simp) ?_
    refine AllReadyH.cons rfl (fun K hK => ?_) AllReadyH.nil
    go_simp
    refine hK.out _ _ (hid trivial) (fun hHeld => ?_)
    clear hK K
    clear d1
    have H1T : Hid (wT.heap[a]? = some (.cells #[.slice ao l.length c] 73 (0, 0))) := hid ((HBT.out.block _ (lt_of_block H1.out)).trans H1.out)
    have H2T := hid (own_old H2.out HBT.out)
    have H5T : Hid (Below W0.heap.size W0 wT) := hid (H5.out.trans (HBT.out.mono H5.out.size))
    have H6T : Hid (∀ p ∈ KK, wT.heap[p.1]? = some p.2 ∧ p.1 ≠ a ∧ (Value.slice ao l.length c).ownBlock ≠ some p.1) := hid fun p hp => ⟨(HBT.out.block _ (lt_of_block (H6.out p hp).1)).trans (H6.out p hp).1, (H6.out p hp).2⟩
    refine wpAnyH_ready (rs := [7]) (by kernel_rfl) (by simp) ?_
    refine AllReadyH.cons rfl (fun K hK => ?_) AllReadyH.nil
    refine step_bapp (by rfl) (.tmp 8) (.tmp 10) (by rfl) W0.heap.size _ _ _ (by rfl) H2T.out _ _ (by rfl) HRT.out HLB.out.1 (by have := HLB.out.2; omega) H5T.out.size (fun g cap w' o5 g5 gg5 => ?_)
    have HK := hid (heap_kept g5 H1T.out (fun e => H4.out e.symm))
    have HP := hid (St.put H1T.out H2T.out H3.out H4.out H5T.out H6T.out o5 g5 gg5)
    clear o5 g5 gg5
    refine hK.out _ _ (hid trivial) (fun hHeld => ?_)
    clear hK K
    simp only [Act.put, List.getElem_toArray, List.getElem_cons_succ, List.getElem_cons_zero, List.setIfInBounds_toArray, List.set_cons_succ, List.set_cons_zero]
    refine wpAnyH_take (i := 8) (v := (.pointer (some ⟨a, 0, none⟩))) rfl (by kernel_rfl) (by kernel_rfl) (by kernel_rfl) (fun _ _ _ h => (show False from h).elim) ?xyYBowideany8 ?xhYBowideany8 ?xrYBowideany8
    case xhYBowideany8 => exact hHeld
    case xyYBowideany8 => exact Or.inl ⟨by rfl, fun W9 hW => by clear hHeld; simp only [List.getElem_toArray, List.getElem_cons_succ, List.getElem_cons_zero]; go_simp⟩
    simp only [Act.put, List.getElem_toArray, List.getElem_cons_succ, List.getElem_cons_zero, List.setIfInBounds_toArray, List.set_cons_succ, List.set_cons_zero]
    refine wpAnyH_take (i := 9) (v := (.pointer (some ⟨a, 0, none⟩))) rfl (by kernel_rfl) (by kernel_rfl) (by kernel_rfl) (fun _ _ _ h => (show False from h).elim) ?xyYBowideany9 ?xhYBowideany9 ?xrYBowideany9
    case xhYBowideany9 => exact hHeld
    case xyYBowideany9 => exact Or.inl ⟨by rfl, fun W9 hW => by clear hHeld; simp only [List.getElem_toArray, List.getElem_cons_succ, List.getElem_cons_zero]; go_simp⟩
    simp only [Act.put, List.getElem_toArray, List.getElem_cons_succ, List.getElem_cons_zero, List.setIfInBounds_toArray, List.set_cons_succ, List.set_cons_zero]
    obtain ⟨k0, k1⟩ := one_cell HK.out
    refine wpAnyH_ready (rs := [10]) (by kernel_rfl) (by simp) ?_
    refine AllReadyH.cons rfl (fun K hK => ?_) AllReadyH.nil
    go_simp
    refine hK.out _ _ (hid trivial) (fun hHeld => ?_)
    clear hK K
    refine wpAnyH_done (by kernel_rfl) ?_ _
    refine NoPanic.normal ?_
    go_wp2_with fail
    go_end0
    exact ⟨rfl, HP.out⟩

set_option maxHeartbeats 4000000 in
theorem obytes_any {W0 w : World} {KK : List (Nat × Obj)} {a : Nat} {l : List UInt8} (h : St 73 W0 KK a w l) (x : Value) (m : List UInt8) (hx : Rd w x m) (hm : m.length ≤ 140737488355300) (hl : l.length + (textL m).length ≤ 1000000000000) :
    Calls Try.prog 24 #[.pointer (some ⟨a, 0, none⟩), x] w (Wrote 73 W0 KK a l (textL m)) := by
  obtain ⟨ao, c, h1, h2, h3, h4, h5, h6⟩ := h
  obtain ⟨bs, hbs⟩ : ∃ bs, bs = textL m := ⟨_, rfl⟩
  have CN : Hid (∀ V, Below w.heap.size w V → Calls Try.prog 51 #[x] V (Gives 5 V bs)) := hid fun V hV => by rw [hbs]; exact rtext_any x m V (hx.old hV) hm
  have HLB : Hid (0 < bs.length ∧ l.length + bs.length ≤ 1000000000000) := hid ⟨by rw [hbs]; unfold textL; rw [List.length_append]; have := numL_pos m.length; omega, by rw [hbs]; exact hl⟩
  rw [← hbs]; clear hbs hl
  obtain ⟨c0, f0⟩ := one_cell h1
  have H1 := hid h1
  have H2 := hid h2
  have H3 := hid h3
  have H4 := hid h4
  have H5 := hid h5
  have HWd : Hid (Below w.heap.size w w.drew) := hid ⟨rfl, rfl, rfl, Nat.le_refl _, fun _ _ => rfl⟩
  have H6 := hid h6
  clear h1 h2 h3 h4 h5 h6
  go_enter Try.func24, Try.ntmps24
  refine wp_region_noPanic ?_
  refine wp_region_held_drew (S := fun _ => Hid True) (by kernel_rfl) (hid trivial) (fun hHeld => ?_)
  have CNd := hid (CN.out _ HWd.out)
  have d0 : w.drew.cell? ⟨a, 0, none⟩ = some (.slice ao l.length c) := c0
  generalize w.drew = Wd at *
  have HD0 := hid d0
  clear d0 c0 f0
  refine wpAnyH_take (i := 0) (v := (.pointer (some ⟨a, 0, none⟩))) rfl (by kernel_rfl) (by kernel_rfl) (by kernel_rfl) (fun _ _ _ h => (show False from h).elim) ?xyYBobytesany1 ?xhYBobytesany1 ?xrYBobytesany1
  case xhYBobytesany1 => exact hHeld
  case xyYBobytesany1 => exact Or.inl ⟨by rfl, fun W9 hW => by clear hHeld; simp only [List.getElem_toArray, List.getElem_cons_succ, List.getElem_cons_zero]; go_simp⟩
  simp only [Act.put, List.getElem_toArray, List.getElem_cons_succ, List.getElem_cons_zero, List.setIfInBounds_toArray, List.set_cons_succ, List.set_cons_zero]
  refine wpAnyH_take (i := 1) (v := (.pointer (some ⟨a, 0, none⟩))) rfl (by kernel_rfl) (by kernel_rfl) (by kernel_rfl) (fun _ _ _ h => (show False from h).elim) ?xyYBobytesany2 ?xhYBobytesany2 ?xrYBobytesany2
  case xhYBobytesany2 => exact hHeld
  case xyYBobytesany2 => exact Or.inl ⟨by rfl, fun W9 hW => by clear hHeld; simp only [List.getElem_toArray, List.getElem_cons_succ, List.getElem_cons_zero]; go_simp⟩
  simp only [Act.put, List.getElem_toArray, List.getElem_cons_succ, List.getElem_cons_zero, List.setIfInBounds_toArray, List.set_cons_succ, List.set_cons_zero]
  refine wpAnyH_take (i := 2) (v := (.pointer (some ⟨a, 0, none⟩))) rfl (by kernel_rfl) (by kernel_rfl) (by kernel_rfl) (fun _ _ _ h => (show False from h).elim) ?xyYBobytesany3 ?xhYBobytesany3 ?xrYBobytesany3
  case xhYBobytesany3 => exact hHeld
  case xyYBobytesany3 => exact Or.inl ⟨by rfl, fun W9 hW => by clear hHeld; simp only [List.getElem_toArray, List.getElem_cons_succ, List.getElem_cons_zero]; go_simp⟩
  simp only [Act.put, List.getElem_toArray, List.getElem_cons_succ, List.getElem_cons_zero, List.setIfInBounds_toArray, List.set_cons_succ, List.set_cons_zero]
  refine wpAnyH_take (i := 3) (v := (.pointer (some ⟨a, 0, none⟩))) rfl (by kernel_rfl) (by kernel_rfl) (by kernel_rfl) (fun _ _ _ h => (show False from h).elim) ?xyYBobytesany4 ?xhYBobytesany4 ?xrYBobytesany4
  case xhYBobytesany4 => exact hHeld
  case xyYBobytesany4 => exact Or.inl ⟨by rfl, fun W9 hW => by clear hHeld; simp only [List.getElem_toArray, List.getElem_cons_succ, List.getElem_cons_zero]; go_simp⟩
  simp only [Act.put, List.getElem_toArray, List.getElem_cons_succ, List.getElem_cons_zero, List.setIfInBounds_toArray, List.set_cons_succ, List.set_cons_zero]
  refine wpAnyH_take (i := 5) (v := (x)) rfl (by kernel_rfl) (by kernel_rfl) (by kernel_rfl) (fun _ _ _ h => (show False from h).elim) ?xyYBobytesany5 ?xhYBobytesany5 ?xrYBobytesany5
  case xhYBobytesany5 => exact hHeld
  case xyYBobytesany5 => exact Or.inl ⟨by rfl, fun W9 hW => by clear hHeld; simp only [List.getElem_toArray, List.getElem_cons_succ, List.getElem_cons_zero]; go_simp⟩
  simp only [Act.put, List.getElem_toArray, List.getElem_cons_succ, List.getElem_cons_zero, List.setIfInBounds_toArray, List.set_cons_succ, List.set_cons_zero]
  refine wpAnyH_ready (rs := [4, 6]) (by kernel_rfl) (by simp) ?_
  refine AllReadyH.cons rfl (fun K hK => ?_) (AllReadyH.cons rfl (fun K hK => ?_) AllReadyH.nil)
  · have d0 := HD0.out
    go_simp
    refine hK.out _ _ (hid trivial) (fun hHeld => ?_)
    clear hK K d0
    refine wpAnyH_ready (rs := [6]) (by kernel_rfl) (by simp) ?_
    refine AllReadyH.cons rfl (fun K hK => ?_) AllReadyH.nil
    go_simp
    go_wp2_with (first | (go_at_call 51; refine CNd.out.mono ?_; rintro en wT ⟨vT, rfl, hoT, hbT⟩; obtain ⟨ta, tc, rfl, hrT⟩ := gives_rd hoT; have HRT := hid hrT; have HBT := hid (HWd.out.trans (hbT.mono HWd.out.size)); have hdT := (World.cell?_of_block (w := Wd) (w' := wT) (a := ⟨a, 0, none⟩) (hbT.block _ (World.block_lt_of_cell? _ _ HD0.out))).trans HD0.out; have HDT := hid hdT; clear hbT hrT hoT hdT))
    refine hK.out _ _ (hid trivial) (fun hHeld => ?_)
    clear hK K
    have H1T : Hid (wT.heap[a]? = some (.cells #[.slice ao l.length c] 73 (0, 0))) := hid ((HBT.out.block _ (lt_of_block H1.out)).trans H1.out)
    have H2T := hid (own_old H2.out HBT.out)
    have H5T : Hid (Below W0.heap.size W0 wT) := hid (H5.out.trans (HBT.out.mono H5.out.size))
    have H6T : Hid (∀ p ∈ KK, wT.heap[p.1]? = some p.2 ∧ p.1 ≠ a ∧ (Value.slice ao l.length c).ownBlock ≠ some p.1) := hid fun p hp => ⟨(HBT.out.block _ (lt_of_block (H6.out p hp).1)).trans (H6.out p hp).1, (H6.out p hp).2⟩
    refine wpAnyH_ready (rs := [7]) (by kernel_rfl) (by simp) ?_
    refine AllReadyH.cons rfl (fun K hK => ?_) AllReadyH.nil
    refine step_bapp (by rfl) (.tmp 8) (.tmp 10) (by rfl) W0.heap.size _ _ _ (by rfl) H2T.out _ _ (by rfl) HRT.out HLB.out.1 (by have := HLB.out.2; omega) H5T.out.size (fun g cap w' o5 g5 gg5 => ?_)
    have HK := hid (heap_kept g5 H1T.out (fun e => H4.out e.symm))
    have HP := hid (St.put H1T.out H2T.out H3.out H4.out H5T.out H6T.out o5 g5 gg5)
    clear o5 g5 gg5
    refine hK.out _ _ (hid trivial) (fun hHeld => ?_)
    clear hK K
    simp only [Act.put, List.getElem_toArray, List.getElem_cons_succ, List.getElem_cons_zero, List.setIfInBounds_toArray, List.set_cons_succ, List.set_cons_zero]
    refine wpAnyH_take (i := 8) (v := (.pointer (some ⟨a, 0, none⟩))) rfl (by kernel_rfl) (by kernel_rfl) (by kernel_rfl) (fun _ _ _ h => (show False from h).elim) ?xyYBobytesany6 ?xhYBobytesany6 ?xrYBobytesany6
    case xhYBobytesany6 => exact hHeld
    case xyYBobytesany6 => exact Or.inl ⟨by rfl, fun W9 hW => by clear hHeld; simp only [List.getElem_toArray, List.getElem_cons_succ, List.getElem_cons_zero]; go_simp⟩
    simp only [Act.put, List.getElem_toArray, List.getElem_cons_succ, List.getElem_cons_zero, List.setIfInBounds_toArray, List.set_cons_succ, List.set_cons_zero]
    refine wpAnyH_take (i := 9) (v := (.pointer (some ⟨a, 0, none⟩))) rfl (by kernel_rfl) (by kernel_rfl) (by kernel_rfl) (fun _ _ _ h => (show False from h).elim) ?xyYBobytesany7 ?xhYBobytesany7 ?xrYBobytesany7
    case xhYBobytesany7 => exact hHeld
    case xyYBobytesany7 => exact Or.inl ⟨by rfl, fun W9 hW => by clear hHeld; simp only [List.getElem_toArray, List.getElem_cons_succ, List.getElem_cons_zero]; go_simp⟩
    simp only [Act.put, List.getElem_toArray, List.getElem_cons_succ, List.getElem_cons_zero, List.setIfInBounds_toArray, List.set_cons_succ, List.set_cons_zero]
    obtain ⟨k0, k1⟩ := one_cell HK.out
    refine wpAnyH_ready (rs := [10]) (by kernel_rfl) (by simp) ?_
    refine AllReadyH.cons rfl (fun K hK => ?_) AllReadyH.nil
    go_simp
    refine hK.out _ _ (hid trivial) (fun hHeld => ?_)
    clear hK K
    refine wpAnyH_done (by kernel_rfl) ?_ _
    refine NoPanic.normal ?_
    go_wp2_with fail
    go_end0
    exact ⟨rfl, HP.out⟩
  · go_simp
    go_wp2_with (first | (go_at_call 51; refine CNd.out.mono ?_; rintro en wT ⟨vT, rfl, hoT, hbT⟩; obtain ⟨ta, tc, rfl, hrT⟩ := gives_rd hoT; have HRT := hid hrT; have HBT := hid (HWd.out.trans (hbT.mono HWd.out.size)); have hdT := (World.cell?_of_block (w := Wd) (w' := wT) (a := ⟨a, 0, none⟩) (hbT.block _ (World.block_lt_of_cell? _ _ HD0.out))).trans HD0.out; have HDT := hid hdT; clear hbT hrT hoT hdT))
    refine hK.out _ _ (hid trivial) (fun hHeld => ?_)
    clear hK K
    have d1 := HDT.out
    refine wpAnyH_ready (rs := [4]) (by kernel_rfl) (by simp) ?_
    refine AllReadyH.cons rfl (fun K hK => ?_) AllReadyH.nil
    go_simp
    refine hK.out _ _ (hid trivial) (fun hHeld => ?_)
    clear hK K
    clear d1
    have H1T : Hid (wT.heap[a]? = some (.cells #[.slice ao l.length c] 73 (0, 0))) := hid ((HBT.out.block _ (lt_of_block H1.out)).trans H1.out)
    have H2T := hid (own_old H2.out HBT.out)
    have H5T : Hid (Below W0.heap.size W0 wT) := hid (H5.out.trans (HBT.out.mono H5.out.size))
    have H6T : Hid (∀ p ∈ KK, wT.heap[p.1]? = some p.2 ∧ p.1 ≠ a ∧ (Value.slice ao l.length c).ownBlock ≠ some p.1) := hid fun p hp => ⟨(HBT.out.block _ (lt_of_block (H6.out p hp).1)).trans (H6.out p hp).1, (H6.out p hp).2⟩
    refine wpAnyH_ready (rs := [7]) (by kernel_rfl) (by simp) ?_
    refine AllReadyH.cons rfl (fun K hK => ?_) AllReadyH.nil
    refine step_bapp (by rfl) (.tmp 8) (.tmp 10) (by rfl) W0.heap.size _ _ _ (by rfl) H2T.out _ _ (by rfl) HRT.out HLB.out.1 (by have := HLB.out.2; omega) H5T.out.size (fun g cap w' o5 g5 gg5 => ?_)
    have HK := hid (heap_kept g5 H1T.out (fun e => H4.out e.symm))
    have HP := hid (St.put H1T.out H2T.out H3.out H4.out H5T.out H6T.out o5 g5 gg5)
    clear o5 g5 gg5
    refine hK.out _ _ (hid trivial) (fun hHeld => ?_)
    clear hK K
    simp only [Act.put, List.getElem_toArray, List.getElem_cons_succ, List.getElem_cons_zero, List.setIfInBounds_toArray, List.set_cons_succ, List.set_cons_zero]
    refine wpAnyH_take (i := 8) (v := (.pointer (some ⟨a, 0, none⟩))) rfl (by kernel_rfl) (by kernel_rfl) (by kernel_rfl) (fun _ _ _ h => (show False from h).elim) ?xyYBobytesany8 ?xhYBobytesany8 ?xrYBobytesany8
    case xhYBobytesany8 => exact hHeld
    case xyYBobytesany8 => exact Or.inl ⟨by rfl, fun W9 hW => by clear hHeld; simp only [List.getElem_toArray, List.getElem_cons_succ, List.getElem_cons_zero]; go_simp⟩
    simp only [Act.put, List.getElem_toArray, List.getElem_cons_succ, List.getElem_cons_zero, List.setIfInBounds_toArray, List.set_cons_succ, List.set_cons_zero]
    refine wpAnyH_take (i := 9) (v := (.pointer (some ⟨a, 0, none⟩))) rfl (by kernel_rfl) (by kernel_rfl) (by kernel_rfl) (fun _ _ _ h => (show False from h).elim) ?xyYBobytesany9 ?xhYBobytesany9 ?xrYBobytesany9
    case xhYBobytesany9 => exact hHeld
    case xyYBobytesany9 => exact Or.inl ⟨by rfl, fun W9 hW => by clear hHeld; simp only [List.getElem_toArray, List.getElem_cons_succ, List.getElem_cons_zero]; go_simp⟩
    simp only [Act.put, List.getElem_toArray, List.getElem_cons_succ, List.getElem_cons_zero, List.setIfInBounds_toArray, List.set_cons_succ, List.set_cons_zero]
    obtain ⟨k0, k1⟩ := one_cell HK.out
    refine wpAnyH_ready (rs := [10]) (by kernel_rfl) (by simp) ?_
    refine AllReadyH.cons rfl (fun K hK => ?_) AllReadyH.nil
    go_simp
    refine hK.out _ _ (hid trivial) (fun hHeld => ?_)
    clear hK K
    refine wpAnyH_done (by kernel_rfl) ?_ _
    refine NoPanic.normal ?_
    go_wp2_with fail
    go_end0
    exact ⟨rfl, HP.out⟩

end Go.Proofs.Ytiblambiebojmaa

