import Derived.Deep.RegionHeld3
import Derived.Deep.AppendLies
import Derived.WalkKit
import Derived.OpenShut
import Derived.Test.YtiblambiebojmaaRows
import Derived.WalkSpells
import Derived.WalkLawsBesides
import Derived.Laws.AppendOwnNone
import Derived.ProofKit
import Derived.ShutString
import Derived.ChangeOld
import Derived.Below
import Derived.SizedLaws
import Derived.Deep.Slices
import Derived.Deep.Strs
import Derived.Lib.ConvBytes
import Derived.Laws.AppendOwn
import Derived.Deep.CutRange
import Derived.Test.YtiblambiebojmaaWK1
import Derived.Test.YtiblambiebojmaaWK2
set_option linter.unusedVariables false
set_option linter.unusedSimpArgs false
set_option linter.unusedVariables false
set_option linter.unusedSimpArgs false
set_option maxRecDepth 100000
namespace Go.Proofs.Ytiblambiebojmaa
open Go.RowKit Go.Deep

/-- 'append(v, y...)' at a step of a region that draws: bytes, of which there are some. -/
theorem step_bapp {w : World} {ops : Array Oper} {o : Oper} {a : Act} {K : Act → World → Prop} {Q : Exit → Act → World → Prop} {E : Prop} (hgd : o.guard = none) (s x : Operand)
    (ho : o.op = .call { callee := .builtin .append, args := #[s, x], argTypes := #[23, 23] })
    (base : Nat) (v : Value) (n : Nat) (xs : List Value) (hs : a.eval s = v) (hown : w.ownsRow base 5 1 v n xs)
    (y : Value) (l : List UInt8) (hx : a.eval x = y) (hr : Rd w y l) (hl : 0 < l.length) (hn : n + l.length ≤ 140737488355328) (hbase : base ≤ w.heap.size)
    (h : ∀ g cap w', w'.ownsRow base 5 1 (.slice (some ⟨g, 0, none⟩) (n + l.length) cap) (n + l.length) (xs ++ l.map bv) → w.grownBy w' v.ownBlock → (v.ownBlock = some g ∨ g = w.heap.size) → K (a.put o.dst (.slice (some ⟨g, 0, none⟩) (n + l.length) cap)) w') :
    if Region.wanted o (yielded ops a.tmps) = true then Oper.wp Try.prog o a w K Q else E := by
  obtain ⟨i0, hi, hz0, hz1, hz2⟩ := info_parts Try.info_u8
  obtain ⟨ao, c, rfl, h1, h2, h3, h4⟩ := hr
  cases ao with
  | none => have := h3 rfl; omega
  | some ad =>
    exact step_append_lies w hgd s x 23 ho base 5 i0 (.int .u8 0) 1 1 Try.underlying23 hi hz0 hz1 hz2 rfl (by decide) v n xs hs hown ad l.length c (l.map bv) hx (by simp) (h4 ad rfl) (bv_one l) hl
      (by unfold maxLen; omega) (by omega) hbase _ rfl (fun g cap w' a1 a2 a3 _ => h g cap w' a1 a2 a3)

/-- The writer in block a (of the type T) has written l; W0: the world ahead of it; K: blocks besides, and what lies there. -/
def St (T : TypeId) (W0 : World) (K : List (Nat × Obj)) (a : Nat) (w : World) (l : List UInt8) : Prop :=
  ∃ (ao : Option Addr) (c : Nat), w.heap[a]? = some (.cells #[.slice ao l.length c] T (0, 0)) ∧ w.ownsRow W0.heap.size 5 1 (.slice ao l.length c) l.length (l.map bv) ∧ W0.heap.size ≤ a ∧ (Value.slice ao l.length c).ownBlock ≠ some a ∧ Below W0.heap.size W0 w ∧
    ∀ p ∈ K, w.heap[p.1]? = some p.2 ∧ p.1 ≠ a ∧ (Value.slice ao l.length c).ownBlock ≠ some p.1

/-- What stands behind a call that writes bs. -/
def Wrote (T : TypeId) (W0 : World) (K : List (Nat × Obj)) (a : Nat) (l bs : List UInt8) (e : Ending) (w' : World) : Prop := e = .returned (.tuple #[]) ∧ St T W0 K a w' (l ++ bs)

theorem one_cell {w : World} {b : Nat} {u : Value} {t : TypeId} (h : w.heap[b]? = some (.cells #[u] t (0, 0))) : w.cell? ⟨b, 0, none⟩ = some u ∧ w.frozen? ⟨b, 0, none⟩ = false := by
  exact ⟨by simp [World.cell?, h], by simp [World.frozen?, h]⟩

theorem one_set {w : World} {b : Nat} {u x : Value} {t : TypeId} (h : w.heap[b]? = some (.cells #[u] t (0, 0))) : (w.setCell ⟨b, 0, none⟩ x).heap[b]? = some (.cells #[x] t (0, 0)) := by
  have hlt := lt_of_block h
  have h' : w.heap[b] = .cells #[u] t (0, 0) := by simpa [Array.getElem?_eq_getElem hlt] using h
  show (w.heap.modify b _)[b]? = _
  rw [Array.getElem?_eq_getElem (by simpa using hlt), Array.getElem_modify_self, h']
  rfl

theorem gives_rd {w' : World} {v : Value} {B : Nat} {l : List UInt8} (h : w'.ownsRow B 5 1 v l.length (l.map bv)) : ∃ a c, v = .slice a l.length c ∧ Rd w' (.slice a l.length c) l := by
  obtain ⟨ao, c, rfl, _⟩ := Rd.own h
  exact ⟨ao, c, rfl, Rd.own h⟩

theorem St.below {T : TypeId} {W0 w : World} {K : List (Nat × Obj)} {a : Nat} {l : List UInt8} (h : St T W0 K a w l) : Below W0.heap.size W0 w := by
  obtain ⟨_, _, _, _, _, _, h5, _⟩ := h
  exact h5
theorem St.lt {T : TypeId} {W0 w : World} {K : List (Nat × Obj)} {a : Nat} {l : List UInt8} (h : St T W0 K a w l) : a < w.heap.size := by
  obtain ⟨_, _, h1, _⟩ := h
  exact lt_of_block h1

/-- A call that keeps what was there keeps the writer. -/
theorem St.old {T : TypeId} {W0 w w' : World} {K : List (Nat × Obj)} {a : Nat} {l : List UInt8} (h : St T W0 K a w l) (hb : Below w.heap.size w w') : St T W0 K a w' l := by
  obtain ⟨ao, c, h1, h2, h3, h4, h5, h6⟩ := h
  exact ⟨ao, c, (hb.block _ (lt_of_block h1)).trans h1, own_old h2 hb, h3, h4, h5.trans (hb.mono h5.size), fun p hp => ⟨(hb.block _ (lt_of_block (h6 p hp).1)).trans (h6 p hp).1, (h6 p hp).2⟩⟩

/-- A new block is one more that stays. -/
theorem St.box {T : TypeId} {W0 w : World} {K : List (Nat × Obj)} {a : Nat} {l : List UInt8} (h : St T W0 K a w l) (cs : Array Value) (t : TypeId) : St T W0 ((w.heap.size, .cells cs t (0, 0)) :: K) a (w.alloc (.cells cs t)) l := by
  have hlt := h.lt
  obtain ⟨ao, c, h1, h2, h3, h4, h5, h6⟩ := h.old ((Below.refl _ _).alloc (Nat.le_refl _) (.cells cs t))
  obtain ⟨ao', c', h1', h2', -⟩ := h
  have hq := (((Below.refl w.heap.size w).alloc (Nat.le_refl _) (.cells cs t)).block _ (lt_of_block h1')).trans h1'
  rw [h1] at hq
  simp only [Option.some.injEq, Obj.cells.injEq, Array.mk.injEq, List.cons.injEq, and_true, Value.slice.injEq, true_and] at hq
  refine ⟨ao, c, h1, h2, h3, h4, h5, fun p hp => ?_⟩
  rcases List.mem_cons.1 hp with rfl | hp
  · refine ⟨heap_alloc_new w _, by show w.heap.size ≠ a; omega, fun e => ?_⟩
    rw [hq.1, hq.2] at e
    have := (h2'.lt _ e).2
    simp only at this
    omega
  · exact h6 p hp
theorem St.drop {T : TypeId} {W0 w : World} {x : Nat × Obj} {K : List (Nat × Obj)} {a : Nat} {l : List UInt8} (h : St T W0 (x :: K) a w l) : St T W0 K a w l := by
  obtain ⟨ao, c, h1, h2, h3, h4, h5, h6⟩ := h
  exact ⟨ao, c, h1, h2, h3, h4, h5, fun p hp => h6 p (List.mem_cons_of_mem _ hp)⟩
theorem St.at {T : TypeId} {W0 w : World} {b : Nat} {o : Obj} {K : List (Nat × Obj)} {a : Nat} {l : List UInt8} (h : St T W0 ((b, o) :: K) a w l) : w.heap[b]? = some o := by
  obtain ⟨ao, c, h1, h2, h3, h4, h5, h6⟩ := h
  exact (h6 (b, o) List.mem_cons_self).1

/-- What is appended is stored. -/
theorem St.put {T : TypeId} {W0 w w1 : World} {K : List (Nat × Obj)} {a : Nat} {l bs : List UInt8} {ao : Option Addr} {c g cap : Nat} (h1 : w.heap[a]? = some (.cells #[.slice ao l.length c] T (0, 0))) (h2 : w.ownsRow W0.heap.size 5 1 (.slice ao l.length c) l.length (l.map bv))
    (h3 : W0.heap.size ≤ a) (h4 : (Value.slice ao l.length c).ownBlock ≠ some a) (h5 : Below W0.heap.size W0 w) (h6 : ∀ p ∈ K, w.heap[p.1]? = some p.2 ∧ p.1 ≠ a ∧ (Value.slice ao l.length c).ownBlock ≠ some p.1)
    (o : w1.ownsRow W0.heap.size 5 1 (.slice (some ⟨g, 0, none⟩) (l.length + bs.length) cap) (l.length + bs.length) (l.map bv ++ bs.map bv)) (hg : w.grownBy w1 (Value.slice ao l.length c).ownBlock) (hgg : (Value.slice ao l.length c).ownBlock = some g ∨ g = w.heap.size) :
    St T W0 K a (w1.setCell ⟨a, 0, none⟩ (.slice (some ⟨g, 0, none⟩) (l.length + bs.length) cap)) (l ++ bs) := by
  have hk := heap_kept hg h1 (fun e => h4 e.symm)
  have hne : ∀ k, k < w.heap.size → (Value.slice ao l.length c).ownBlock ≠ some k → g ≠ k := by
    rintro k hk hn rfl
    rcases hgg with e | e
    · exact hn e
    · omega
  have hga : g ≠ a := hne a (lt_of_block h1) h4
  have hb1 : Below W0.heap.size W0 w1 := h5.grown hg h5.size (fun k hk => (h2.lt k hk).1)
  refine ⟨some ⟨g, 0, none⟩, cap, ?_, ?_, h3, by simpa [Value.ownBlock] using hga, hb1.setCell (p := ⟨a, 0, none⟩) h3 _, fun p hp => ?_⟩
  · rw [List.length_append]
    exact one_set hk
  · rw [List.length_append, List.map_append]
    exact o.kept (grown_set w1 ⟨a, 0, none⟩ _) (.inr (by simpa [Value.ownBlock] using hga))
  · obtain ⟨q1, q2, q3⟩ := h6 p hp
    have k1 := heap_kept hg q1 (fun e => q3 e.symm)
    refine ⟨heap_kept (grown_set w1 ⟨a, 0, none⟩ _) k1 (by simpa using q2), q2, ?_⟩
    have := hne p.1 (lt_of_block q1) q3
    simpa [Value.ownBlock] using this

set_option maxHeartbeats 4000000 in
theorem wnum_any {W0 w : World} {KK : List (Nat × Obj)} {a : Nat} {l : List UInt8} (h : St 69 W0 KK a w l) (n : Nat) (hn : n < 18446744073709551616) (hl : l.length + (numL n).length ≤ 1000000000000) :
    Calls Try.prog 48 #[.pointer (some ⟨a, 0, none⟩), .int .u64 (n : Int)] w (Wrote 69 W0 KK a l (numL n)) := by
  obtain ⟨ao, c, h1, h2, h3, h4, h5, h6⟩ := h
  obtain ⟨bs, hbs⟩ : ∃ bs, bs = numL n := ⟨_, rfl⟩
  have CN : Hid (∀ V, Below w.heap.size w V → Calls Try.prog 86 #[.int .u64 (n : Int)] V (Gives 5 V bs)) := hid fun V hV => by rw [hbs]; exact num_any n V (numL_len10 (by omega))
  have HLB : Hid (0 < bs.length ∧ l.length + bs.length ≤ 1000000000000) := hid ⟨by rw [hbs]; exact numL_pos _, by rw [hbs]; exact hl⟩
  rw [← hbs]; clear hbs hl
  obtain ⟨c0, f0⟩ := one_cell h1
  have H1 := hid h1
  have H2 := hid h2
  have H3 := hid h3
  have H4 := hid h4
  have H5 := hid h5
  have HWd : Hid (Below w.heap.size w w.drew) := hid ⟨rfl, rfl, rfl, Nat.le_refl _, fun _ _ => rfl⟩
  have H6 := hid h6
  clear h1 h2 h3 h4 h5 h6
  go_enter Try.func48, Try.ntmps48
  refine wp_region_noPanic ?_
  refine wp_region_held_drew (S := fun _ => Hid True) (by kernel_rfl) (hid trivial) (fun hHeld => ?_)
  have CNd := hid (CN.out _ HWd.out)
  have d0 : w.drew.cell? ⟨a, 0, none⟩ = some (.slice ao l.length c) := c0
  generalize w.drew = Wd at *
  have HD0 := hid d0
  clear d0 c0 f0
  refine wpAnyH_take (i := 0) (v := (.pointer (some ⟨a, 0, none⟩))) rfl (by kernel_rfl) (by kernel_rfl) (by kernel_rfl) (fun _ _ _ h => (show False from h).elim) ?xyYBwnumany1 ?xhYBwnumany1 ?xrYBwnumany1
  case xhYBwnumany1 => exact hHeld
  case xyYBwnumany1 => exact Or.inl ⟨by rfl, fun W9 hW => by clear hHeld; simp only [List.getElem_toArray, List.getElem_cons_succ, List.getElem_cons_zero]; go_simp⟩
  simp only [Act.put, List.getElem_toArray, List.getElem_cons_succ, List.getElem_cons_zero, List.setIfInBounds_toArray, List.set_cons_succ, List.set_cons_zero]
  refine wpAnyH_take (i := 1) (v := (.pointer (some ⟨a, 0, none⟩))) rfl (by kernel_rfl) (by kernel_rfl) (by kernel_rfl) (fun _ _ _ h => (show False from h).elim) ?xyYBwnumany2 ?xhYBwnumany2 ?xrYBwnumany2
  case xhYBwnumany2 => exact hHeld
  case xyYBwnumany2 => exact Or.inl ⟨by rfl, fun W9 hW => by clear hHeld; simp only [List.getElem_toArray, List.getElem_cons_succ, List.getElem_cons_zero]; go_simp⟩
  simp only [Act.put, List.getElem_toArray, List.getElem_cons_succ, List.getElem_cons_zero, List.setIfInBounds_toArray, List.set_cons_succ, List.set_cons_zero]
  refine wpAnyH_take (i := 2) (v := (.pointer (some ⟨a, 0, none⟩))) rfl (by kernel_rfl) (by kernel_rfl) (by kernel_rfl) (fun _ _ _ h => (show False from h).elim) ?xyYBwnumany3 ?xhYBwnumany3 ?xrYBwnumany3
  case xhYBwnumany3 => exact hHeld
  case xyYBwnumany3 => exact Or.inl ⟨by rfl, fun W9 hW => by clear hHeld; simp only [List.getElem_toArray, List.getElem_cons_succ, List.getElem_cons_zero]; go_simp⟩
  simp only [Act.put, List.getElem_toArray, List.getElem_cons_succ, List.getElem_cons_zero, List.setIfInBounds_toArray, List.set_cons_succ, List.set_cons_zero]
  refine wpAnyH_take (i := 3) (v := (.pointer (some ⟨a, 0, none⟩))) rfl (by kernel_rfl) (by kernel_rfl) (by kernel_rfl) (fun _ _ _ h => (show False from h).elim) ?xyYBwnumany4 ?xhYBwnumany4 ?xrYBwnumany4
  case xhYBwnumany4 => exact hHeld
  case xyYBwnumany4 => exact Or.inl ⟨by rfl, fun W9 hW => by clear hHeld; simp only [List.getElem_toArray, List.getElem_cons_succ, List.getElem_cons_zero]; go_simp⟩
  simp only [Act.put, List.getElem_toArray, List.getElem_cons_succ, List.getElem_cons_zero, List.setIfInBounds_toArray, List.set_cons_succ, List.set_cons_zero]
  refine wpAnyH_take (i := 5) (v := (.int .u64 (n : Int))) rfl (by kernel_rfl) (by kernel_rfl) (by kernel_rfl) (fun _ _ _ h => (show False from h).elim) ?xyYBwnumany5 ?xhYBwnumany5 ?xrYBwnumany5
  case xhYBwnumany5 => exact hHeld
  case xyYBwnumany5 => exact Or.inl ⟨by rfl, fun W9 hW => by clear hHeld; simp only [List.getElem_toArray, List.getElem_cons_succ, List.getElem_cons_zero]; go_simp⟩
  simp only [Act.put, List.getElem_toArray, List.getElem_cons_succ, List.getElem_cons_zero, List.setIfInBounds_toArray, List.set_cons_succ, List.set_cons_zero]
  refine wpAnyH_ready (rs := [4, 6]) (by kernel_rfl) (by simp) ?_
  refine AllReadyH.cons rfl (fun K hK => ?_) (AllReadyH.cons rfl (fun K hK => ?_) AllReadyH.nil)
  · have d0 := HD0.out
    go_simp
    refine hK.out _ _ (hid trivial) (fun hHeld => ?_)
    clear hK K d0
    refine wpAnyH_ready (rs := [6]) (by kernel_rfl) (by simp) ?_
    refine AllReadyH.cons rfl (fun K hK => ?_) AllReadyH.nil
    go_simp
    go_wp2_with (first | (go_at_call 86; refine CNd.out.mono ?_; rintro en wT ⟨vT, rfl, hoT, hbT⟩; obtain ⟨ta, tc, rfl, hrT⟩ := gives_rd hoT; have HRT := hid hrT; have HBT := hid (HWd.out.trans (hbT.mono HWd.out.size)); have hdT := (World.cell?_of_block (w := Wd) (w' := wT) (a := ⟨a, 0, none⟩) (hbT.block _ (World.block_lt_of_cell? _ _ HD0.out))).trans HD0.out; have HDT := hid hdT; clear hbT hrT hoT hdT))
    refine hK.out _ _ (hid trivial) (fun hHeld => ?_)
    clear hK K
    have H1T : Hid (wT.heap[a]? = some (.cells #[.slice ao l.length c] 69 (0, 0))) := hid ((HBT.out.block _ (lt_of_block H1.out)).trans H1.out)
    have H2T := hid (own_old H2.out HBT.out)
    have H5T : Hid (Below W0.heap.size W0 wT) := hid (H5.out.trans (HBT.out.mono H5.out.size))
    have H6T : Hid (∀ p ∈ KK, wT.heap[p.1]? = some p.2 ∧ p.1 ≠ a ∧ (Value.slice ao l.length c).ownBlock ≠ some p.1) := hid fun p hp => ⟨(HBT.out.block _ (lt_of_block (H6.out p hp).1)).trans (H6.out p hp).1, (H6.out p hp).2⟩
    refine wpAnyH_ready (rs := [7]) (by kernel_rfl) (by simp) ?_
    refine AllReadyH.cons rfl (fun K hK => ?_) AllReadyH.nil
    refine step_bapp (by rfl) (.tmp 8) (.tmp 10) (by rfl) W0.heap.size _ _ _ (by rfl) H2T.out _ _ (by rfl) HRT.out HLB.out.1 (by have := HLB.out.2; omega) H5T.out.size (fun g cap w' o5 g5 gg5 => ?_)
    have HK := hid (heap_kept g5 H1T.out (fun e => H4.out e.symm))
    have HP := hid (St.put H1T.out H2T.out H3.out H4.out H5T.out H6T.out o5 g5 gg5)
    clear o5 g5 gg5
    refine hK.out _ _ (hid trivial) (fun hHeld => ?_)
    clear hK K
    simp only [Act.put, List.getElem_toArray, List.getElem_cons_succ, List.getElem_cons_zero, List.setIfInBounds_toArray, List.set_cons_succ, List.set_cons_zero]
    refine wpAnyH_take (i := 8) (v := (.pointer (some ⟨a, 0, none⟩))) rfl (by kernel_rfl) (by kernel_rfl) (by kernel_rfl) (fun _ _ _ h => (show False from h).elim) ?xyYBwnumany6 ?xhYBwnumany6 ?xrYBwnumany6
    case xhYBwnumany6 => exact hHeld
    case xyYBwnumany6 => exact Or.inl ⟨by rfl, fun W9 hW => by clear hHeld; simp only [List.getElem_toArray, List.getElem_cons_succ, List.getElem_cons_zero]; go_simp⟩
    simp only [Act.put, List.getElem_toArray, List.getElem_cons_succ, List.getElem_cons_zero, List.setIfInBounds_toArray, List.set_cons_succ, List.set_cons_zero]
    refine wpAnyH_take (i := 9) (v := (.pointer (some ⟨a, 0, none⟩))) rfl (by kernel_rfl) (by kernel_rfl) (by kernel_rfl) (fun _ _ _ h => (show False from h).elim) ?xyYBwnumany7 ?xhYBwnumany7 ?xrYBwnumany7
    case xhYBwnumany7 => exact hHeld
    case xyYBwnumany7 => exact Or.inl ⟨by rfl, fun W9 hW => by clear hHeld; simp only [List.getElem_toArray, List.getElem_cons_succ, List.getElem_cons_zero]; go_simp⟩
    simp only [Act.put, List.getElem_toArray, List.getElem_cons_succ, List.getElem_cons_zero, List.setIfInBounds_toArray, List.set_cons_succ, List.set_cons_zero]
    obtain ⟨k0, k1⟩ := one_cell HK.out
    refine wpAnyH_ready (rs := [10]) (by kernel_rfl) (by simp) ?_
    refine AllReadyH.cons rfl (fun K hK => ?_) AllReadyH.nil
    go_simp
    refine hK.out _ _ (hid trivial) (fun hHeld => ?_)
    clear hK K
    refine wpAnyH_done (by kernel_rfl) ?_ _
    refine NoPanic.normal ?_
    go_wp2_with fail
    go_end0
    exact ⟨rfl, HP.out⟩
  · go_simp
    go_wp2_with (first | (go_at_call 86; refine CNd.out.mono ?_; rintro en wT ⟨vT, rfl, hoT, hbT⟩; obtain ⟨ta, tc, rfl, hrT⟩ := gives_rd hoT; have HRT := hid hrT; have HBT := hid (HWd.out.trans (hbT.mono HWd.out.size)); have hdT := (World.cell?_of_block (w := Wd) (w' := wT) (a := ⟨a, 0, none⟩) (hbT.block _ (World.block_lt_of_cell? _ _ HD0.out))).trans HD0.out; have HDT := hid hdT; clear hbT hrT hoT hdT))
    refine hK.out _ _ (hid trivial) (fun hHeld => ?_)
    clear hK K
    have d1 := HDT.out
    refine wpAnyH_ready (rs := [4]) (by kernel_rfl) (by simp) ?_
    refine AllReadyH.cons rfl (fun K hK => ?_) AllReadyH.nil
    go_simp
    refine hK.out _ _ (hid trivial) (fun hHeld => ?_)
    clear hK K
    clear d1
    have H1T : Hid (wT.heap[a]? = some (.cells #[.slice ao l.length c] 69 (0, 0))) := hid ((HBT.out.block _ (lt_of_block H1.out)).trans H1.out)
    have H2T := hid (own_old H2.out HBT.out)
    have H5T : Hid (Below W0.heap.size W0 wT) := hid (H5.out.trans (HBT.out.mono H5.out.size))
    have H6T : Hid (∀ p ∈ KK, wT.heap[p.1]? = some p.2 ∧ p.1 ≠ a ∧ (Value.slice ao l.length c).ownBlock ≠ some p.1) := hid fun p hp => ⟨(HBT.out.block _ (lt_of_block (H6.out p hp).1)).trans (H6.out p hp).1, (H6.out p hp).2⟩
    refine wpAnyH_ready (rs := [7]) (by kernel_rfl) (by simp) ?_
    refine AllReadyH.cons rfl (fun K hK => ?_) AllReadyH.nil
    refine step_bapp (by rfl) (.tmp 8) (.tmp 10) (by rfl) W0.heap.size _ _ _ (by rfl) H2T.out _ _ (by rfl) HRT.out HLB.out.1 (by have := HLB.out.2; omega) H5T.out.size (fun g cap w' o5 g5 gg5 => ?_)
    have HK := hid (heap_kept g5 H1T.out (fun e => H4.out e.symm))
    have HP := hid (St.put H1T.out H2T.out H3.out H4.out H5T.out H6T.out o5 g5 gg5)
    clear o5 g5 gg5
    refine hK.out _ _ (hid trivial) (fun hHeld => ?_)
    clear hK K
    simp only [Act.put, List.getElem_toArray, List.getElem_cons_succ, List.getElem_cons_zero, List.setIfInBounds_toArray, List.set_cons_succ, List.set_cons_zero]
    refine wpAnyH_take (i := 8) (v := (.pointer (some ⟨a, 0, none⟩))) rfl (by kernel_rfl) (by kernel_rfl) (by kernel_rfl) (fun _ _ _ h => (show False from h).elim) ?xyYBwnumany8 ?xhYBwnumany8 ?xrYBwnumany8
    case xhYBwnumany8 => exact hHeld
    case xyYBwnumany8 => exact Or.inl ⟨by rfl, fun W9 hW => by clear hHeld; simp only [List.getElem_toArray, List.getElem_cons_succ, List.getElem_cons_zero]; go_simp⟩
    simp only [Act.put, List.getElem_toArray, List.getElem_cons_succ, List.getElem_cons_zero, List.setIfInBounds_toArray, List.set_cons_succ, List.set_cons_zero]
    refine wpAnyH_take (i := 9) (v := (.pointer (some ⟨a, 0, none⟩))) rfl (by kernel_rfl) (by kernel_rfl) (by kernel_rfl) (fun _ _ _ h => (show False from h).elim) ?xyYBwnumany9 ?xhYBwnumany9 ?xrYBwnumany9
    case xhYBwnumany9 => exact hHeld
    case xyYBwnumany9 => exact Or.inl ⟨by rfl, fun W9 hW => by clear hHeld; simp only [List.getElem_toArray, List.getElem_cons_succ, List.getElem_cons_zero]; go_simp⟩
    simp only [Act.put, List.getElem_toArray, List.getElem_cons_succ, List.getElem_cons_zero, List.setIfInBounds_toArray, List.set_cons_succ, List.set_cons_zero]
    obtain ⟨k0, k1⟩ := one_cell HK.out
    refine wpAnyH_ready (rs := [10]) (by kernel_rfl) (by simp) ?_
    refine AllReadyH.cons rfl (fun K hK => ?_) AllReadyH.nil
    go_simp
    refine hK.out _ _ (hid trivial) (fun hHeld => ?_)
    clear hK K
    refine wpAnyH_done (by kernel_rfl) ?_ _
    refine NoPanic.normal ?_
    go_wp2_with fail
    go_end0
    exact ⟨rfl, HP.out⟩

set_option maxHeartbeats 4000000 in
theorem wsigned_any {W0 w : World} {KK : List (Nat × Obj)} {a : Nat} {l : List UInt8} (h : St 69 W0 KK a w l) (z : Int) (hz : (Lit.int .i64 z).wf = true) (hl : l.length + (numL (zig z)).length ≤ 1000000000000) :
    Calls Try.prog 88 #[.pointer (some ⟨a, 0, none⟩), .int .i64 z] w (Wrote 69 W0 KK a l (numL (zig z))) := by
  obtain ⟨ao, c, h1, h2, h3, h4, h5, h6⟩ := h
  obtain ⟨bs, hbs⟩ : ∃ bs, bs = numL (zig z) := ⟨_, rfl⟩
  have CN : Hid (∀ V, Below w.heap.size w V → Calls Try.prog 115 #[.int .i64 z] V (Gives 5 V bs)) := hid fun V hV => by rw [hbs]; exact int_any z V hz
  have HLB : Hid (0 < bs.length ∧ l.length + bs.length ≤ 1000000000000) := hid ⟨by rw [hbs]; exact numL_pos _, by rw [hbs]; exact hl⟩
  rw [← hbs]; clear hbs hl
  obtain ⟨c0, f0⟩ := one_cell h1
  have H1 := hid h1
  have H2 := hid h2
  have H3 := hid h3
  have H4 := hid h4
  have H5 := hid h5
  have HWd : Hid (Below w.heap.size w w.drew) := hid ⟨rfl, rfl, rfl, Nat.le_refl _, fun _ _ => rfl⟩
  have H6 := hid h6
  clear h1 h2 h3 h4 h5 h6
  go_enter Try.func88, Try.ntmps88
  refine wp_region_noPanic ?_
  refine wp_region_held_drew (S := fun _ => Hid True) (by kernel_rfl) (hid trivial) (fun hHeld => ?_)
  have CNd := hid (CN.out _ HWd.out)
  have d0 : w.drew.cell? ⟨a, 0, none⟩ = some (.slice ao l.length c) := c0
  generalize w.drew = Wd at *
  have HD0 := hid d0
  clear d0 c0 f0
  refine wpAnyH_take (i := 0) (v := (.pointer (some ⟨a, 0, none⟩))) rfl (by kernel_rfl) (by kernel_rfl) (by kernel_rfl) (fun _ _ _ h => (show False from h).elim) ?xyYBwsignedany1 ?xhYBwsignedany1 ?xrYBwsignedany1
  case xhYBwsignedany1 => exact hHeld
  case xyYBwsignedany1 => exact Or.inl ⟨by rfl, fun W9 hW => by clear hHeld; simp only [List.getElem_toArray, List.getElem_cons_succ, List.getElem_cons_zero]; go_simp⟩
  simp only [Act.put, List.getElem_toArray, List.getElem_cons_succ, List.getElem_cons_zero, List.setIfInBounds_toArray, List.set_cons_succ, List.set_cons_zero]
  refine wpAnyH_take (i := 1) (v := (.pointer (some ⟨a, 0, none⟩))) rfl (by kernel_rfl) (by kernel_rfl) (by kernel_rfl) (fun _ _ _ h => (show False from h).elim) ?xyYBwsignedany2 ?xhYBwsignedany2 ?xrYBwsignedany2
  case xhYBwsignedany2 => exact hHeld
  case xyYBwsignedany2 => exact Or.inl ⟨by rfl, fun W9 hW => by clear hHeld; simp only [List.getElem_toArray, List.getElem_cons_succ, List.getElem_cons_zero]; go_simp⟩
  simp only [Act.put, List.getElem_toArray, List.getElem_cons_succ, List.getElem_cons_zero, List.setIfInBounds_toArray, List.set_cons_succ, List.set_cons_zero]
  refine wpAnyH_take (i := 2) (v := (.pointer (some ⟨a, 0, none⟩))) rfl (by kernel_rfl) (by kernel_rfl) (by kernel_rfl) (fun _ _ _ h => (show False from h).elim) ?xyYBwsignedany3 ?xhYBwsignedany3 ?xrYBwsignedany3
  case xhYBwsignedany3 => exact hHeld
  case xyYBwsignedany3 => exact Or.inl ⟨by rfl, fun W9 hW => by clear hHeld; simp only [List.getElem_toArray, List.getElem_cons_succ, List.getElem_cons_zero]; go_simp⟩
  simp only [Act.put, List.getElem_toArray, List.getElem_cons_succ, List.getElem_cons_zero, List.setIfInBounds_toArray, List.set_cons_succ, List.set_cons_zero]
  refine wpAnyH_take (i := 3) (v := (.pointer (some ⟨a, 0, none⟩))) rfl (by kernel_rfl) (by kernel_rfl) (by kernel_rfl) (fun _ _ _ h => (show False from h).elim) ?xyYBwsignedany4 ?xhYBwsignedany4 ?xrYBwsignedany4
  case xhYBwsignedany4 => exact hHeld
  case xyYBwsignedany4 => exact Or.inl ⟨by rfl, fun W9 hW => by clear hHeld; simp only [List.getElem_toArray, List.getElem_cons_succ, List.getElem_cons_zero]; go_simp⟩
  simp only [Act.put, List.getElem_toArray, List.getElem_cons_succ, List.getElem_cons_zero, List.setIfInBounds_toArray, List.set_cons_succ, List.set_cons_zero]
  refine wpAnyH_take (i := 5) (v := (.int .i64 z)) rfl (by kernel_rfl) (by kernel_rfl) (by kernel_rfl) (fun _ _ _ h => (show False from h).elim) ?xyYBwsignedany5 ?xhYBwsignedany5 ?xrYBwsignedany5
  case xhYBwsignedany5 => exact hHeld
  case xyYBwsignedany5 => exact Or.inl ⟨by rfl, fun W9 hW => by clear hHeld; simp only [List.getElem_toArray, List.getElem_cons_succ, List.getElem_cons_zero]; go_simp⟩
  simp only [Act.put, List.getElem_toArray, List.getElem_cons_succ, List.getElem_cons_zero, List.setIfInBounds_toArray, List.set_cons_succ, List.set_cons_zero]
  refine wpAnyH_ready (rs := [4, 6]) (by kernel_rfl) (by simp) ?_
  refine AllReadyH.cons rfl (fun K hK => ?_) (AllReadyH.cons rfl (fun K hK => ?_) AllReadyH.nil)
  · have d0 := HD0.out
    go_simp
    refine hK.out _ _ (hid trivial) (fun hHeld => ?_)
    clear hK K d0
    refine wpAnyH_ready (rs := [6]) (by kernel_rfl) (by simp) ?_
    refine AllReadyH.cons rfl (fun K hK => ?_) AllReadyH.nil
    go_simp
    go_wp2_with (first | (go_at_call 115; refine CNd.out.mono ?_; rintro en wT ⟨vT, rfl, hoT, hbT⟩; obtain ⟨ta, tc, rfl, hrT⟩ := gives_rd hoT; have HRT := hid hrT; have HBT := hid (HWd.out.trans (hbT.mono HWd.out.size)); have hdT := (World.cell?_of_block (w := Wd) (w' := wT) (a := ⟨a, 0, none⟩) (hbT.block _ (World.block_lt_of_cell? _ _ HD0.out))).trans HD0.out; have HDT := hid hdT; clear hbT hrT hoT hdT))
    refine hK.out _ _ (hid trivial) (fun hHeld => ?_)
    clear hK K
    have H1T : Hid (wT.heap[a]? = some (.cells #[.slice ao l.length c] 69 (0, 0))) := hid ((HBT.out.block _ (lt_of_block H1.out)).trans H1.out)
    have H2T := hid (own_old H2.out HBT.out)
    have H5T : Hid (Below W0.heap.size W0 wT) := hid (H5.out.trans (HBT.out.mono H5.out.size))
    have H6T : Hid (∀ p ∈ KK, wT.heap[p.1]? = some p.2 ∧ p.1 ≠ a ∧ (Value.slice ao l.length c).ownBlock ≠ some p.1) := hid fun p hp => ⟨(HBT.out.block _ (lt_of_block (H6.out p hp).1)).trans (H6.out p hp).1, (H6.out p hp).2⟩
    refine wpAnyH_ready (rs := [7]) (by kernel_rfl) (by simp) ?_
    refine AllReadyH.cons rfl (fun K hK => ?_) AllReadyH.nil
    refine step_bapp (by rfl) (.tmp 8) (.tmp 10) (by rfl) W0.heap.size _ _ _ (by rfl) H2T.out _ _ (by rfl) HRT.out HLB.out.1 (by have := HLB.out.2; omega) H5T.out.size (fun g cap w' o5 g5 gg5 => ?_)
    have HK := hid (heap_kept g5 H1T.out (fun e => H4.out e.symm))
    have HP := hid (St.put H1T.out H2T.out H3.out H4.out H5T.out H6T.out o5 g5 gg5)
    clear o5 g5 gg5
    refine hK.out _ _ (hid trivial) (fun hHeld => ?_)
    clear hK K
    simp only [Act.put, List.getElem_toArray, List.getElem_cons_succ, List.getElem_cons_zero, List.setIfInBounds_toArray, List.set_cons_succ, List.set_cons_zero]
    refine wpAnyH_take (i := 8) (v := (.pointer (some ⟨a, 0, none⟩))) rfl (by kernel_rfl) (by kernel_rfl) (by kernel_rfl) (fun _ _ _ h => (show False from h).elim) ?xyYBwsignedany6 ?xhYBwsignedany6 ?xrYBwsignedany6
    case xhYBwsignedany6 => exact hHeld
    case xyYBwsignedany6 => exact Or.inl ⟨by rfl, fun W9 hW => by clear hHeld; simp only [List.getElem_toArray, List.getElem_cons_succ, List.getElem_cons_zero]; go_simp⟩
    simp only [Act.put, List.getElem_toArray, List.getElem_cons_succ, List.getElem_cons_zero, List.setIfInBounds_toArray, List.set_cons_succ, List.set_cons_zero]
    refine wpAnyH_take (i := 9) (v := (.pointer (some ⟨a, 0, none⟩))) rfl (by kernel_rfl) (by kernel_rfl) (by kernel_rfl) (fun _ _ _ h => (show False from h).elim) ?xyYBwsignedany7 ?xhYBwsignedany7 ?xrYBwsignedany7
    case xhYBwsignedany7 => exact hHeld
    case xyYBwsignedany7 => exact Or.inl ⟨by rfl, fun W9 hW => by clear hHeld; simp only [List.getElem_toArray, List.getElem_cons_succ, List.getElem_cons_zero]; go_simp⟩
    simp only [Act.put, List.getElem_toArray, List.getElem_cons_succ, List.getElem_cons_zero, List.setIfInBounds_toArray, List.set_cons_succ, List.set_cons_zero]
    obtain ⟨k0, k1⟩ := one_cell HK.out
    refine wpAnyH_ready (rs := [10]) (by kernel_rfl) (by simp) ?_
    refine AllReadyH.cons rfl (fun K hK => ?_) AllReadyH.nil
    go_simp
    refine hK.out _ _ (hid trivial) (fun hHeld => ?_)
    clear hK K
    refine wpAnyH_done (by kernel_rfl) ?_ _
    refine NoPanic.normal ?_
    go_wp2_with fail
    go_end0
    exact ⟨rfl, HP.out⟩
  · go_simp
    go_wp2_with (first | (go_at_call 115; refine CNd.out.mono ?_; rintro en wT ⟨vT, rfl, hoT, hbT⟩; obtain ⟨ta, tc, rfl, hrT⟩ := gives_rd hoT; have HRT := hid hrT; have HBT := hid (HWd.out.trans (hbT.mono HWd.out.size)); have hdT := (World.cell?_of_block (w := Wd) (w' := wT) (a := ⟨a, 0, none⟩) (hbT.block _ (World.block_lt_of_cell? _ _ HD0.out))).trans HD0.out; have HDT := hid hdT; clear hbT hrT hoT hdT))
    refine hK.out _ _ (hid trivial) (fun hHeld => ?_)
    clear hK K
    have d1 := HDT.out
    refine wpAnyH_ready (rs := [4]) (by kernel_rfl) (by simp) ?_
    refine AllReadyH.cons rfl (fun K hK => ?_) AllReadyH.nil
    go_simp
    refine hK.out _ _ (hid trivial) (fun hHeld => ?_)
    clear hK K
    clear d1
    have H1T : Hid (wT.heap[a]? = some (.cells #[.slice ao l.length c] 69 (0, 0))) := hid ((HBT.out.block _ (lt_of_block H1.out)).trans H1.out)
    have H2T := hid (own_old H2.out HBT.out)
    have H5T : Hid (Below W0.heap.size W0 wT) := hid (H5.out.trans (HBT.out.mono H5.out.size))
    have H6T : Hid (∀ p ∈ KK, wT.heap[p.1]? = some p.2 ∧ p.1 ≠ a ∧ (Value.slice ao l.length c).ownBlock ≠ some p.1) := hid fun p hp => ⟨(HBT.out.block _ (lt_of_block (H6.out p hp).1)).trans (H6.out p hp).1, (H6.out p hp).2⟩
    refine wpAnyH_ready (rs := [7]) (by kernel_rfl) (by simp) ?_
    refine AllReadyH.cons rfl (fun K hK => ?_) AllReadyH.nil
    refine step_bapp (by rfl) (.tmp 8) (.tmp 10) (by rfl) W0.heap.size _ _ _ (by rfl) H2T.out _ _ (by rfl) HRT.out HLB.out.1 (by have := HLB.out.2; omega) H5T.out.size (fun g cap w' o5 g5 gg5 => ?_)
    have HK := hid (heap_kept g5 H1T.out (fun e => H4.out e.symm))
    have HP := hid (St.put H1T.out H2T.out H3.out H4.out H5T.out H6T.out o5 g5 gg5)
    clear o5 g5 gg5
    refine hK.out _ _ (hid trivial) (fun hHeld => ?_)
    clear hK K
    simp only [Act.put, List.getElem_toArray, List.getElem_cons_succ, List.getElem_cons_zero, List.setIfInBounds_toArray, List.set_cons_succ, List.set_cons_zero]
    refine wpAnyH_take (i := 8) (v := (.pointer (some ⟨a, 0, none⟩))) rfl (by kernel_rfl) (by kernel_rfl) (by kernel_rfl) (fun _ _ _ h => (show False from h).elim) ?xyYBwsignedany8 ?xhYBwsignedany8 ?xrYBwsignedany8
    case xhYBwsignedany8 => exact hHeld
    case xyYBwsignedany8 => exact Or.inl ⟨by rfl, fun W9 hW => by clear hHeld; simp only [List.getElem_toArray, List.getElem_cons_succ, List.getElem_cons_zero]; go_simp⟩
    simp only [Act.put, List.getElem_toArray, List.getElem_cons_succ, List.getElem_cons_zero, List.setIfInBounds_toArray, List.set_cons_succ, List.set_cons_zero]
    refine wpAnyH_take (i := 9) (v := (.pointer (some ⟨a, 0, none⟩))) rfl (by kernel_rfl) (by kernel_rfl) (by kernel_rfl) (fun _ _ _ h => (show False from h).elim) ?xyYBwsignedany9 ?xhYBwsignedany9 ?xrYBwsignedany9
    case xhYBwsignedany9 => exact hHeld
    case xyYBwsignedany9 => exact Or.inl ⟨by rfl, fun W9 hW => by clear hHeld; simp only [List.getElem_toArray, List.getElem_cons_succ, List.getElem_cons_zero]; go_simp⟩
    simp only [Act.put, List.getElem_toArray, List.getElem_cons_succ, List.getElem_cons_zero, List.setIfInBounds_toArray, List.set_cons_succ, List.set_cons_zero]
    obtain ⟨k0, k1⟩ := one_cell HK.out
    refine wpAnyH_ready (rs := [10]) (by kernel_rfl) (by simp) ?_
    refine AllReadyH.cons rfl (fun K hK => ?_) AllReadyH.nil
    go_simp
    refine hK.out _ _ (hid trivial) (fun hHeld => ?_)
    clear hK K
    refine wpAnyH_done (by kernel_rfl) ?_ _
    refine NoPanic.normal ?_
    go_wp2_with fail
    go_end0
    exact ⟨rfl, HP.out⟩

set_option maxHeartbeats 4000000 in
theorem wdata_any {W0 w : World} {KK : List (Nat × Obj)} {a : Nat} {l : List UInt8} (h : St 69 W0 KK a w l) (x : Value) (m : List UInt8) (hx : Rd w x m) (hm : m.length ≤ 140737488355300) (hl : l.length + (textL m).length ≤ 1000000000000) :
    Calls Try.prog 49 #[.pointer (some ⟨a, 0, none⟩), x] w (Wrote 69 W0 KK a l (textL m)) := by
  obtain ⟨ao, c, h1, h2, h3, h4, h5, h6⟩ := h
  obtain ⟨bs, hbs⟩ : ∃ bs, bs = textL m := ⟨_, rfl⟩
  have CN : Hid (∀ V, Below w.heap.size w V → Calls Try.prog 87 #[x] V (Gives 5 V bs)) := hid fun V hV => by rw [hbs]; exact text_any x m V (hx.old hV) hm
  have HLB : Hid (0 < bs.length ∧ l.length + bs.length ≤ 1000000000000) := hid ⟨by rw [hbs]; unfold textL; rw [List.length_append]; have := numL_pos m.length; omega, by rw [hbs]; exact hl⟩
  rw [← hbs]; clear hbs hl
  obtain ⟨c0, f0⟩ := one_cell h1
  have H1 := hid h1
  have H2 := hid h2
  have H3 := hid h3
  have H4 := hid h4
  have H5 := hid h5
  have HWd : Hid (Below w.heap.size w w.drew) := hid ⟨rfl, rfl, rfl, Nat.le_refl _, fun _ _ => rfl⟩
  have H6 := hid h6
  clear h1 h2 h3 h4 h5 h6
  go_enter Try.func49, Try.ntmps49
  refine wp_region_noPanic ?_
  refine wp_region_held_drew (S := fun _ => Hid True) (by kernel_rfl) (hid trivial) (fun hHeld => ?_)
  have CNd := hid (CN.out _ HWd.out)
  have d0 : w.drew.cell? ⟨a, 0, none⟩ = some (.slice ao l.length c) := c0
  generalize w.drew = Wd at *
  have HD0 := hid d0
  clear d0 c0 f0
  refine wpAnyH_take (i := 0) (v := (.pointer (some ⟨a, 0, none⟩))) rfl (by kernel_rfl) (by kernel_rfl) (by kernel_rfl) (fun _ _ _ h => (show False from h).elim) ?xyYBwdataany1 ?xhYBwdataany1 ?xrYBwdataany1
  case xhYBwdataany1 => exact hHeld
  case xyYBwdataany1 => exact Or.inl ⟨by rfl, fun W9 hW => by clear hHeld; simp only [List.getElem_toArray, List.getElem_cons_succ, List.getElem_cons_zero]; go_simp⟩
  simp only [Act.put, List.getElem_toArray, List.getElem_cons_succ, List.getElem_cons_zero, List.setIfInBounds_toArray, List.set_cons_succ, List.set_cons_zero]
  refine wpAnyH_take (i := 1) (v := (.pointer (some ⟨a, 0, none⟩))) rfl (by kernel_rfl) (by kernel_rfl) (by kernel_rfl) (fun _ _ _ h => (show False from h).elim) ?xyYBwdataany2 ?xhYBwdataany2 ?xrYBwdataany2
  case xhYBwdataany2 => exact hHeld
  case xyYBwdataany2 => exact Or.inl ⟨by rfl, fun W9 hW => by clear hHeld; simp only [List.getElem_toArray, List.getElem_cons_succ, List.getElem_cons_zero]; go_simp⟩
  simp only [Act.put, List.getElem_toArray, List.getElem_cons_succ, List.getElem_cons_zero, List.setIfInBounds_toArray, List.set_cons_succ, List.set_cons_zero]
  refine wpAnyH_take (i := 2) (v := (.pointer (some ⟨a, 0, none⟩))) rfl (by kernel_rfl) (by kernel_rfl) (by kernel_rfl) (fun _ _ _ h => (show False from h).elim) ?xyYBwdataany3 ?xhYBwdataany3 ?xrYBwdataany3
  case xhYBwdataany3 => exact hHeld
  case xyYBwdataany3 => exact Or.inl ⟨by rfl, fun W9 hW => by clear hHeld; simp only [List.getElem_toArray, List.getElem_cons_succ, List.getElem_cons_zero]; go_simp⟩
  simp only [Act.put, List.getElem_toArray, List.getElem_cons_succ, List.getElem_cons_zero, List.setIfInBounds_toArray, List.set_cons_succ, List.set_cons_zero]
  refine wpAnyH_take (i := 3) (v := (.pointer (some ⟨a, 0, none⟩))) rfl (by kernel_rfl) (by kernel_rfl) (by kernel_rfl) (fun _ _ _ h => (show False from h).elim) ?xyYBwdataany4 ?xhYBwdataany4 ?xrYBwdataany4
  case xhYBwdataany4 => exact hHeld
  case xyYBwdataany4 => exact Or.inl ⟨by rfl, fun W9 hW => by clear hHeld; simp only [List.getElem_toArray, List.getElem_cons_succ, List.getElem_cons_zero]; go_simp⟩
  simp only [Act.put, List.getElem_toArray, List.getElem_cons_succ, List.getElem_cons_zero, List.setIfInBounds_toArray, List.set_cons_succ, List.set_cons_zero]
  refine wpAnyH_take (i := 5) (v := (x)) rfl (by kernel_rfl) (by kernel_rfl) (by kernel_rfl) (fun _ _ _ h => (show False from h).elim) ?xyYBwdataany5 ?xhYBwdataany5 ?xrYBwdataany5
  case xhYBwdataany5 => exact hHeld
  case xyYBwdataany5 => exact Or.inl ⟨by rfl, fun W9 hW => by clear hHeld; simp only [List.getElem_toArray, List.getElem_cons_succ, List.getElem_cons_zero]; go_simp⟩
  simp only [Act.put, List.getElem_toArray, List.getElem_cons_succ, List.getElem_cons_zero, List.setIfInBounds_toArray, List.set_cons_succ, List.set_cons_zero]
  refine wpAnyH_ready (rs := [4, 6]) (by kernel_rfl) (by simp) ?_
  refine AllReadyH.cons rfl (fun K hK => ?_) (AllReadyH.cons rfl (fun K hK => ?_) AllReadyH.nil)
  · have d0 := HD0.out
    go_simp
    refine hK.out _ _ (hid trivial) (fun hHeld => ?_)
    clear hK K d0
    refine wpAnyH_ready (rs := [6]) (by kernel_rfl) (by simp) ?_
    refine AllReadyH.cons rfl (fun K hK => ?_) AllReadyH.nil
    go_simp
    go_wp2_with (first | (go_at_call 87; refine CNd.out.mono ?_; rintro en wT ⟨vT, rfl, hoT, hbT⟩; obtain ⟨ta, tc, rfl, hrT⟩ := gives_rd hoT; have HRT := hid hrT; have HBT := hid (HWd.out.trans (hbT.mono HWd.out.size)); have hdT := (World.cell?_of_block (w := Wd) (w' := wT) (a := ⟨a, 0, none⟩) (hbT.block _ (World.block_lt_of_cell? _ _ HD0.out))).trans HD0.out; have HDT := hid hdT; clear hbT hrT hoT hdT))
    refine hK.out _ _ (hid trivial) (fun hHeld => ?_)
    clear hK K
    have H1T : Hid (wT.heap[a]? = some (.cells #[.slice ao l.length c] 69 (0, 0))) := hid ((HBT.out.block _ (lt_of_block H1.out)).trans H1.out)
    have H2T := hid (own_old H2.out HBT.out)
    have H5T : Hid (Below W0.heap.size W0 wT) := hid (H5.out.trans (HBT.out.mono H5.out.size))
    have H6T : Hid (∀ p ∈ KK, wT.heap[p.1]? = some p.2 ∧ p.1 ≠ a ∧ (Value.slice ao l.length c).ownBlock ≠ some p.1) := hid fun p hp => ⟨(HBT.out.block _ (lt_of_block (H6.out p hp).1)).trans (H6.out p hp).1, (H6.out p hp).2⟩
    refine wpAnyH_ready (rs := [7]) (by kernel_rfl) (by simp) ?_
    refine AllReadyH.cons rfl (fun K hK => ?_) AllReadyH.nil
    refine step_bapp (by rfl) (.tmp 8) (.tmp 10) (by rfl) W0.heap.size _ _ _ (by rfl) H2T.out _ _ (by rfl) HRT.out HLB.out.1 (by have := HLB.out.2; omega) H5T.out.size (fun g cap w' o5 g5 gg5 => ?_)
    have HK := hid (heap_kept g5 H1T.out (fun e => H4.out e.symm))
    have HP := hid (St.put H1T.out H2T.out H3.out H4.out H5T.out H6T.out o5 g5 gg5)
    clear o5 g5 gg5
    refine hK.out _ _ (hid trivial) (fun hHeld => ?_)
    clear hK K
    simp only [Act.put, List.getElem_toArray, List.getElem_cons_succ, List.getElem_cons_zero, List.setIfInBounds_toArray, List.set_cons_succ, List.set_cons_zero]
    refine wpAnyH_take (i := 8) (v := (.pointer (some ⟨a, 0, none⟩))) rfl (by kernel_rfl) (by kernel_rfl) (by kernel_rfl) (fun _ _ _ h => (show False from h).elim) ?xyYBwdataany6 ?xhYBwdataany6 ?xrYBwdataany6
    case xhYBwdataany6 => exact hHeld
    case xyYBwdataany6 => exact Or.inl ⟨by rfl, fun W9 hW => by clear hHeld; simp only [List.getElem_toArray, List.getElem_cons_succ, List.getElem_cons_zero]; go_simp⟩
    simp only [Act.put, List.getElem_toArray, List.getElem_cons_succ, List.getElem_cons_zero, List.setIfInBounds_toArray, List.set_cons_succ, List.set_cons_zero]
    refine wpAnyH_take (i := 9) (v := (.pointer (some ⟨a, 0, none⟩))) rfl (by kernel_rfl) (by kernel_rfl) (by kernel_rfl) (fun _ _ _ h => (show False from h).elim) ?xyYBwdataany7 ?xhYBwdataany7 ?xrYBwdataany7
    case xhYBwdataany7 => exact hHeld
    case xyYBwdataany7 => exact Or.inl ⟨by rfl, fun W9 hW => by clear hHeld; simp only [List.getElem_toArray, List.getElem_cons_succ, List.getElem_cons_zero]; go_simp⟩
    simp only [Act.put, List.getElem_toArray, List.getElem_cons_succ, List.getElem_cons_zero, List.setIfInBounds_toArray, List.set_cons_succ, List.set_cons_zero]
    obtain ⟨k0, k1⟩ := one_cell HK.out
    refine wpAnyH_ready (rs := [10]) (by kernel_rfl) (by simp) ?_
    refine AllReadyH.cons rfl (fun K hK => ?_) AllReadyH.nil
    go_simp
    refine hK.out _ _ (hid trivial) (fun hHeld => ?_)
    clear hK K
    refine wpAnyH_done (by kernel_rfl) ?_ _
    refine NoPanic.normal ?_
    go_wp2_with fail
    go_end0
    exact ⟨rfl, HP.out⟩
  · go_simp
    go_wp2_with (first | (go_at_call 87; refine CNd.out.mono ?_; rintro en wT ⟨vT, rfl, hoT, hbT⟩; obtain ⟨ta, tc, rfl, hrT⟩ := gives_rd hoT; have HRT := hid hrT; have HBT := hid (HWd.out.trans (hbT.mono HWd.out.size)); have hdT := (World.cell?_of_block (w := Wd) (w' := wT) (a := ⟨a, 0, none⟩) (hbT.block _ (World.block_lt_of_cell? _ _ HD0.out))).trans HD0.out; have HDT := hid hdT; clear hbT hrT hoT hdT))
    refine hK.out _ _ (hid trivial) (fun hHeld => ?_)
    clear hK K
    have d1 := HDT.out
    refine wpAnyH_ready (rs := [4]) (by kernel_rfl) (by simp) ?_
    refine AllReadyH.cons rfl (fun K hK => ?_) AllReadyH.nil
    go_simp
    refine hK.out _ _ (hid trivial) (fun hHeld => ?_)
    clear hK K
    clear d1
    have H1T : Hid (wT.heap[a]? = some (.cells #[.slice ao l.length c] 69 (0, 0))) := hid ((HBT.out.block _ (lt_of_block H1.out)).trans H1.out)
    have H2T := hid (own_old H2.out HBT.out)
    have H5T : Hid (Below W0.heap.size W0 wT) := hid (H5.out.trans (HBT.out.mono H5.out.size))
    have H6T : Hid (∀ p ∈ KK, wT.heap[p.1]? = some p.2 ∧ p.1 ≠ a ∧ (Value.slice ao l.length c).ownBlock ≠ some p.1) := hid fun p hp => ⟨(HBT.out.block _ (lt_of_block (H6.out p hp).1)).trans (H6.out p hp).1, (H6.out p hp).2⟩
    refine wpAnyH_ready (rs := [7]) (by kernel_rfl) (by simp) ?_
    refine AllReadyH.cons rfl (fun K hK => ?_) AllReadyH.nil
    refine step_bapp (by rfl) (.tmp 8) (.tmp 10) (by rfl) W0.heap.size _ _ _ (by rfl) H2T.out _ _ (by rfl) HRT.out HLB.out.1 (by have := HLB.out.2; omega) H5T.out.size (fun g cap w' o5 g5 gg5 => ?_)
    have HK := hid (heap_kept g5 H1T.out (fun e => H4.out e.symm))
    have HP := hid (St.put H1T.out H2T.out H3.out H4.out H5T.out H6T.out o5 g5 gg5)
    clear o5 g5 gg5
    refine hK.out _ _ (hid trivial) (fun hHeld => ?_)
    clear hK K
    simp only [Act.put, List.getElem_toArray, List.getElem_cons_succ, List.getElem_cons_zero, List.setIfInBounds_toArray, List.set_cons_succ, List.set_cons_zero]
    refine wpAnyH_take (i := 8) (v := (.pointer (some ⟨a, 0, none⟩))) rfl (by kernel_rfl) (by kernel_rfl) (by kernel_rfl) (fun _ _ _ h => (show False from h).elim) ?xyYBwdataany8 ?xhYBwdataany8 ?xrYBwdataany8
    case xhYBwdataany8 => exact hHeld
    case xyYBwdataany8 => exact Or.inl ⟨by rfl, fun W9 hW => by clear hHeld; simp only [List.getElem_toArray, List.getElem_cons_succ, List.getElem_cons_zero]; go_simp⟩
    simp only [Act.put, List.getElem_toArray, List.getElem_cons_succ, List.getElem_cons_zero, List.setIfInBounds_toArray, List.set_cons_succ, List.set_cons_zero]
    refine wpAnyH_take (i := 9) (v := (.pointer (some ⟨a, 0, none⟩))) rfl (by kernel_rfl) (by kernel_rfl) (by kernel_rfl) (fun _ _ _ h => (show False from h).elim) ?xyYBwdataany9 ?xhYBwdataany9 ?xrYBwdataany9
    case xhYBwdataany9 => exact hHeld
    case xyYBwdataany9 => exact Or.inl ⟨by rfl, fun W9 hW => by clear hHeld; simp only [List.getElem_toArray, List.getElem_cons_succ, List.getElem_cons_zero]; go_simp⟩
    simp only [Act.put, List.getElem_toArray, List.getElem_cons_succ, List.getElem_cons_zero, List.setIfInBounds_toArray, List.set_cons_succ, List.set_cons_zero]
    obtain ⟨k0, k1⟩ := one_cell HK.out
    refine wpAnyH_ready (rs := [10]) (by kernel_rfl) (by simp) ?_
    refine AllReadyH.cons rfl (fun K hK => ?_) AllReadyH.nil
    go_simp
    refine hK.out _ _ (hid trivial) (fun hHeld => ?_)
    clear hK K
    refine wpAnyH_done (by kernel_rfl) ?_ _
    refine NoPanic.normal ?_
    go_wp2_with fail
    go_end0
    exact ⟨rfl, HP.out⟩

end Go.Proofs.Ytiblambiebojmaa

set_option linter.unusedVariables false
set_option linter.unusedSimpArgs false
set_option maxRecDepth 100000
namespace Go.Proofs.Ytiblambiebojmaa
open Go.RowKit Go.Deep

/-- '[]byte(s)'. -/
theorem str_conv (w : World) (m : List UInt8) (hm : m.length ≤ 1048576) : ∃ (c : Nat) (W' : World), (convert 9 23 (.string ⟨m.toArray⟩)).run Try.prog w = .ok (.slice (some ⟨w.heap.size, 0, none⟩) m.length c) W' ∧
    Rd W' (.slice (some ⟨w.heap.size, 0, none⟩) m.length c) m ∧ Below w.heap.size w W' := by
  have hs : (⟨m.toArray⟩ : ByteArray).size = m.length := by simp [ByteArray.size]
  have hrun := Lib.run_convert_string_bytes (P := Try.prog) w 9 23 5 ⟨m.toArray⟩ Try.underlying9 Try.underlying23 Try.underlying5
  have hge := grownCap_ge w m.length 0 5
  have hle := grownCap_le_maxLen w m.length 0 5 (by unfold maxLen; omega)
  rw [hs] at hrun
  refine ⟨_, _, hrun, ⟨some ⟨w.heap.size, 0, none⟩, _, rfl, hge, hle, (fun h => by cases h), fun a ha j u hu => ?_⟩, ?_⟩
  · cases ha
    have hj : j < m.length := by
      have := (List.getElem?_eq_some_iff.1 hu).1
      simpa using this
    rw [WideShapes.add_plain, Nat.zero_add, Lib.bytesWorld_cell w 5 ⟨m.toArray⟩ j (by rw [hs]; exact hj), ← hu]
    simp [List.getD, List.getElem?_eq_getElem hj, bv]
  · exact ⟨rfl, rfl, rfl, by rw [Lib.bytesWorld_size]; omega, fun k hk => Lib.bytesWorld_at_old w 5 _ k hk⟩

section
variable {W0 w : World} {KK : List (Nat × Obj)} {a : Nat} {l b : List UInt8} {v : Value}

theorem wnumE (h : St 69 W0 KK a w l) (e : Enc W0 .num [v] b) (hl : l.length + b.length ≤ 1000000000000) : Calls Try.prog 48 #[.pointer (some ⟨a, 0, none⟩), v] w (Wrote 69 W0 KK a l b) := by
  obtain ⟨n, hn, hv, rfl⟩ := e
  cases hv
  exact wnum_any h n hn hl
theorem wsignedE (h : St 69 W0 KK a w l) (e : Enc W0 .int [v] b) (hl : l.length + b.length ≤ 1000000000000) : Calls Try.prog 88 #[.pointer (some ⟨a, 0, none⟩), v] w (Wrote 69 W0 KK a l b) := by
  obtain ⟨z, hz, hv, rfl⟩ := e
  cases hv
  exact wsigned_any h z hz hl
theorem wdataE (h : St 69 W0 KK a w l) (e : Enc W0 .data [v] b) (hl : l.length + b.length ≤ 1000000000000) : Calls Try.prog 49 #[.pointer (some ⟨a, 0, none⟩), v] w (Wrote 69 W0 KK a l b) := by
  obtain ⟨x, m, hv, _, hr, hm, rfl⟩ := e
  cases hv
  exact wdata_any h v m (hr.old h.below) (by omega) hl
set_option maxHeartbeats 1000000 in
theorem wwholeE (h : St 69 W0 KK a w l) (e : Enc W0 .int [v] b) (hl : l.length + b.length ≤ 1000000000000) : Calls Try.prog 52 #[.pointer (some ⟨a, 0, none⟩), v] w (Wrote 69 W0 KK a l b) := by
  have C := hid (wsignedE h e hl)
  clear h e hl
  go_enter Try.func52, Try.ntmps52
  go_wp2_with (first | (go_at_call 88; refine C.out.mono ?_; rintro en w2 ⟨rfl, h2⟩))
  go_end0
  exact ⟨rfl, h2⟩
set_option maxHeartbeats 1000000 in
theorem wflagE (h : St 69 W0 KK a w l) (e : Enc W0 .bool [v] b) (hl : l.length + b.length ≤ 1000000000000) : Calls Try.prog 53 #[.pointer (some ⟨a, 0, none⟩), v] w (Wrote 69 W0 KK a l b) := by
  obtain ⟨q, hv, rfl⟩ := e
  cases hv
  cases q with
  | true =>
    have C := hid (wnum_any h 1 (by omega) hl)
    clear h hl
    go_enter Try.func53, Try.ntmps53
    go_wp2_with (first | (go_at_call 48; refine C.out.mono ?_; rintro en w2 ⟨rfl, h2⟩))
    go_end0
    exact ⟨rfl, h2⟩
  | false =>
    have C := hid (wnum_any h 0 (by omega) hl)
    clear h hl
    go_enter Try.func53, Try.ntmps53
    go_wp2_with (first | (go_at_call 48; refine C.out.mono ?_; rintro en w2 ⟨rfl, h2⟩))
    go_end0
    exact ⟨rfl, h2⟩
set_option maxHeartbeats 1000000 in
theorem wnameE (h : St 69 W0 KK a w l) (e : Enc W0 .name [v] b) (hl : l.length + b.length ≤ 1000000000000) : Calls Try.prog 63 #[.pointer (some ⟨a, 0, none⟩), v] w (Wrote 69 W0 KK a l b) := by
  obtain ⟨m, hv, hm, rfl⟩ := e
  cases hv
  obtain ⟨c, W', hrun, hr, hb⟩ := str_conv w m hm
  have C := hid (wdata_any (h.old hb) _ m hr (by omega) hl)
  have HR := hid hrun
  clear h hl hr hb hrun
  go_enter Try.func63, Try.ntmps63
  go_wp2_with fail
  rw [HR.out]
  go_wp2_with (first | (go_at_call 49; refine C.out.mono ?_; rintro en w2 ⟨rfl, h2⟩))
  go_end0
  exact ⟨rfl, h2⟩
end
end Go.Proofs.Ytiblambiebojmaa

set_option linter.unusedVariables false
set_option linter.unusedSimpArgs false
set_option maxRecDepth 100000
namespace Go.Proofs.Ytiblambiebojmaa
open Go.RowKit Go.Deep

/-- The bytes of the first k things of a list. -/
def takeB (M : List (List Value × List UInt8)) (k : Nat) : List UInt8 := ((M.take k).map (·.2)).flatten

/-- A list in memory. -/
def Lst (W0 : World) (s : Sh) (ao : Option Addr) (n c : Nat) (M : List (List Value × List UInt8)) : Prop :=
  Rws s.wid W0 (.slice ao n c) (M.map (·.1)) ∧ (∀ m ∈ M, Enc W0 s m.1 m.2) ∧ M.length = n ∧ n ≤ 1048576

theorem list_open {W0 : World} {s : Sh} {v : Value} {b : List UInt8} (h : Enc W0 (.list s) [v] b) : ∃ (ao : Option Addr) (n c : Nat) (M : List (List Value × List UInt8)), v = .slice ao n c ∧ Lst W0 s ao n c M ∧ b = numL n ++ takeB M n := by
  obtain ⟨ao, c, M, hv, h1, h2, h3, rfl⟩ := h
  cases hv
  exact ⟨ao, M.length, c, M, rfl, ⟨h1, h2, rfl, h3⟩, by unfold takeB; rw [List.take_length]⟩

theorem Lst.get {W0 : World} {s : Sh} {ao : Option Addr} {n c k : Nat} {M : List (List Value × List UInt8)} (h : Lst W0 s ao n c M) (hs : 0 < s.wid) (hk : k < n) :
    ∃ (m : List Value × List UInt8) (b off : Nat), Enc W0 s m.1 m.2 ∧ ao = some ⟨b, off, none⟩ ∧ (∀ W, Below W0.heap.size W0 W → ∀ (j : Nat) u, m.1[j]? = some u → W.cell? ⟨b, off + k * s.wid + j, none⟩ = some u) ∧ takeB M (k + 1) = takeB M k ++ m.2 ∧ (takeB M k).length + m.2.length ≤ (takeB M n).length := by
  obtain ⟨h1, h2, h3, h4⟩ := h
  have hkl : k < M.length := by omega
  have hm : M[k]? = some M[k] := List.getElem?_eq_getElem hkl
  obtain ⟨b, off, hao, hc⟩ := h1.get hs (k := k) (r := M[k].1) (by rw [List.getElem?_map, hm]; rfl)
  have ht : takeB M (k + 1) = takeB M k ++ M[k].2 := by
    unfold takeB
    rw [List.take_add_one, hm]
    show ((M.take k ++ [M[k]]).map (·.2)).flatten = _
    rw [List.map_append, List.flatten_append]
    simp
  refine ⟨M[k], b, off, h2 _ (List.getElem_mem hkl), hao, fun W hb j u hu => (hb.cell (p := ⟨b, off + k * s.wid + j, none⟩) (World.block_lt_of_cell? _ _ (hc j u hu))).trans (hc j u hu), ht, ?_⟩
  have e : takeB M n = takeB M (k + 1) ++ ((M.drop (k + 1)).map (·.2)).flatten := by
    unfold takeB
    rw [← h3, List.take_length, ← List.flatten_append, ← List.map_append, List.take_append_drop]
  rw [e, ht]
  simp only [List.length_append]
  omega

theorem Lst.cap {W0 : World} {s : Sh} {ao : Option Addr} {n c : Nat} {M : List (List Value × List UInt8)} (h : Lst W0 s ao n c M) : n ≤ c ∧ n ≤ 1048576 ∧ n < 18446744073709551616 ∧ IntKind.u64.wrap (n : Int) = (n : Int) := by
  obtain ⟨h1, h2, h3, h4⟩ := h
  obtain ⟨_, _, e, q1, _⟩ := h1.form
  simp only [Value.slice.injEq, List.length_map] at e q1
  refine ⟨by omega, by omega, by omega, ?_⟩
  rw [wrap_u64]; omega

theorem one_of {W : World} {s : Sh} {cs : List Value} {b : List UInt8} (h : Enc W s cs b) (hs : s.wid = 1) : ∃ v, cs = [v] := by
  have := h.wide.1
  rw [hs] at this
  exact List.length_eq_one_iff.1 this

/-- A cell of a block that stays. -/
theorem box_cell {T : TypeId} {W0 w : World} {B : Nat} {cs : List Value} {t : TypeId} {KK : List (Nat × Obj)} {a : Nat} {l : List UInt8} (h : St T W0 ((B, .cells cs.toArray t (0, 0)) :: KK) a w l) (j : Nat) (u : Value) (hj : cs[j]? = some u) : w.cell? ⟨B, j, none⟩ = some u := by
  have := h.at
  simp [World.cell?, this, hj]

theorem takeB_zero (M : List (List Value × List UInt8)) : takeB M 0 = [] := rfl

theorem form_int {W : World} {v : Value} {b : List UInt8} (h : Enc W .int [v] b) : ∃ z : Int, v = .int .i64 z := by
  obtain ⟨z, _, hv, _⟩ := h; cases hv; exact ⟨z, rfl⟩
theorem form_bool {W : World} {v : Value} {b : List UInt8} (h : Enc W .bool [v] b) : ∃ q : Bool, v = .bool q := by
  obtain ⟨q, hv, _⟩ := h; cases hv; exact ⟨q, rfl⟩
theorem form_name {W : World} {v : Value} {b : List UInt8} (h : Enc W .name [v] b) : ∃ s : ByteArray, v = .string s := by
  obtain ⟨l, hv, _⟩ := h; cases hv; exact ⟨_, rfl⟩
theorem form_list {W : World} {s : Sh} {v : Value} {b : List UInt8} (h : Enc W (.list s) [v] b) : ∃ (a : Option Addr) (n c : Nat), v = .slice a n c := by
  obtain ⟨a, c, M, hv, _⟩ := h; cases hv; exact ⟨a, _, c, rfl⟩

theorem len_now {cur b r : List UInt8} {N : Nat} (h : cur.length + (b ++ r).length ≤ N) : cur.length + b.length ≤ N := by
  rw [List.length_append] at h; omega
theorem len_step {cur b r : List UInt8} {N : Nat} (h : cur.length + (b ++ r).length ≤ N) : (cur ++ b).length + r.length ≤ N := by
  rw [List.length_append] at h ⊢; omega

/-- A new writer, behind the box of what it shall write. -/
theorem St.begin (W0 : World) (cs : Array Value) (t T : TypeId) : St T W0 [(W0.heap.size, .cells cs t (0, 0))] (W0.heap.size + 1) ((W0.alloc (.cells cs t)).alloc (.cells #[.slice none 0 0] T)) [] := by
  have h1 := heap_alloc2_new W0 (.cells cs t) (.cells #[.slice none 0 0] T)
  have hb : Below W0.heap.size W0 ((W0.alloc (.cells cs t)).alloc (.cells #[.slice none 0 0] T)) := ((Below.refl _ _).alloc (Nat.le_refl _) _).alloc (by simp) _
  have h0 := (Below.heap_alloc (W0.alloc (.cells cs t)) (.cells #[.slice none 0 0] T) W0.heap.size (by simp)).trans (heap_alloc_new W0 (.cells cs t))
  refine ⟨none, 0, h1, World.ownsRow_nil _ _ _ _, by omega, by simp [Value.ownBlock], hb, fun p hp => ?_⟩
  rcases List.mem_cons.1 hp with rfl | hp
  · exact ⟨h0, by show W0.heap.size ≠ _; omega, by simp [Value.ownBlock]⟩
  · cases hp
theorem St.ends {T : TypeId} {W0 w : World} {K : List (Nat × Obj)} {a : Nat} {l : List UInt8} (h : St T W0 K a w l) : ∃ cx : Value, w.heap[a]? = some (.cells #[cx] T (0, 0)) ∧ Gives 5 W0 l (.returned cx) w := by
  obtain ⟨ao, c, h1, h2, h3, h4, h5, h6⟩ := h
  exact ⟨_, h1, _, rfl, h2, h5⟩
def sColumn : Sh := .cons .name (.cons .int (.cons .bool .nil))
def sTable : Sh := .cons .int (.cons .name (.cons (.list sColumn) (.cons (.list .int) .nil)))
def sIndex : Sh := .cons .int (.cons .int (.cons .name (.cons (.list .int) (.cons .bool (.cons .int (.cons .bool .nil))))))
def sCatalog : Sh := .cons .int (.cons .int (.cons (.list sTable) (.cons (.list sIndex) .nil)))
theorem Column_cells {W0 : World} {cs : List Value} {bs : List UInt8} (h : Enc W0 sColumn cs bs) : ∃ (v0 v1 v2 : Value) (b0 b1 b2 : List UInt8), cs = [v0, v1, v2] ∧ bs = b0 ++ (b1 ++ b2) ∧ Enc W0 .name [v0] b0 ∧ Enc W0 .int [v1] b1 ∧ Enc W0 .bool [v2] b2 := by
  unfold sColumn at h
  obtain ⟨c0, r0, p0, q0, rfl, rfl, f0, h⟩ := h
  obtain ⟨v0, rfl⟩ := one_of f0 rfl
  have e0 := f0
  obtain ⟨c1, r1, p1, q1, rfl, rfl, f1, h⟩ := h
  obtain ⟨v1, rfl⟩ := one_of f1 rfl
  have e1 := f1
  obtain ⟨c2, r2, p2, q2, rfl, rfl, f2, h⟩ := h
  obtain ⟨v2, rfl⟩ := one_of f2 rfl
  have e2 := f2
  obtain ⟨rfl, rfl⟩ := h
  exact ⟨v0, v1, v2, p0, p1, p2, rfl, by simp [List.append_assoc], e0, e1, e2⟩
theorem Table_cells {W0 : World} {cs : List Value} {bs : List UInt8} (h : Enc W0 sTable cs bs) : ∃ (v0 v1 v2 v3 : Value) (b0 b1 b2 b3 : List UInt8), cs = [v0, v1, v2, v3] ∧ bs = b0 ++ (b1 ++ (b2 ++ b3)) ∧ Enc W0 .int [v0] b0 ∧ Enc W0 .name [v1] b1 ∧ Enc W0 (.list sColumn) [v2] b2 ∧ Enc W0 (.list .int) [v3] b3 := by
  unfold sTable at h
  obtain ⟨c0, r0, p0, q0, rfl, rfl, f0, h⟩ := h
  obtain ⟨v0, rfl⟩ := one_of f0 rfl
  have e0 := f0
  obtain ⟨c1, r1, p1, q1, rfl, rfl, f1, h⟩ := h
  obtain ⟨v1, rfl⟩ := one_of f1 rfl
  have e1 := f1
  obtain ⟨c2, r2, p2, q2, rfl, rfl, f2, h⟩ := h
  obtain ⟨v2, rfl⟩ := one_of f2 rfl
  have e2 := f2
  obtain ⟨c3, r3, p3, q3, rfl, rfl, f3, h⟩ := h
  obtain ⟨v3, rfl⟩ := one_of f3 rfl
  have e3 := f3
  obtain ⟨rfl, rfl⟩ := h
  exact ⟨v0, v1, v2, v3, p0, p1, p2, p3, rfl, by simp [List.append_assoc], e0, e1, e2, e3⟩
theorem Index_cells {W0 : World} {cs : List Value} {bs : List UInt8} (h : Enc W0 sIndex cs bs) : ∃ (v0 v1 v2 v3 v4 v5 v6 : Value) (b0 b1 b2 b3 b4 b5 b6 : List UInt8), cs = [v0, v1, v2, v3, v4, v5, v6] ∧ bs = b0 ++ (b1 ++ (b2 ++ (b3 ++ (b4 ++ (b5 ++ b6))))) ∧ Enc W0 .int [v0] b0 ∧ Enc W0 .int [v1] b1 ∧ Enc W0 .name [v2] b2 ∧ Enc W0 (.list .int) [v3] b3 ∧ Enc W0 .bool [v4] b4 ∧ Enc W0 .int [v5] b5 ∧ Enc W0 .bool [v6] b6 := by
  unfold sIndex at h
  obtain ⟨c0, r0, p0, q0, rfl, rfl, f0, h⟩ := h
  obtain ⟨v0, rfl⟩ := one_of f0 rfl
  have e0 := f0
  obtain ⟨c1, r1, p1, q1, rfl, rfl, f1, h⟩ := h
  obtain ⟨v1, rfl⟩ := one_of f1 rfl
  have e1 := f1
  obtain ⟨c2, r2, p2, q2, rfl, rfl, f2, h⟩ := h
  obtain ⟨v2, rfl⟩ := one_of f2 rfl
  have e2 := f2
  obtain ⟨c3, r3, p3, q3, rfl, rfl, f3, h⟩ := h
  obtain ⟨v3, rfl⟩ := one_of f3 rfl
  have e3 := f3
  obtain ⟨c4, r4, p4, q4, rfl, rfl, f4, h⟩ := h
  obtain ⟨v4, rfl⟩ := one_of f4 rfl
  have e4 := f4
  obtain ⟨c5, r5, p5, q5, rfl, rfl, f5, h⟩ := h
  obtain ⟨v5, rfl⟩ := one_of f5 rfl
  have e5 := f5
  obtain ⟨c6, r6, p6, q6, rfl, rfl, f6, h⟩ := h
  obtain ⟨v6, rfl⟩ := one_of f6 rfl
  have e6 := f6
  obtain ⟨rfl, rfl⟩ := h
  exact ⟨v0, v1, v2, v3, v4, v5, v6, p0, p1, p2, p3, p4, p5, p6, rfl, by simp [List.append_assoc], e0, e1, e2, e3, e4, e5, e6⟩
theorem Catalog_cells {W0 : World} {cs : List Value} {bs : List UInt8} (h : Enc W0 sCatalog cs bs) : ∃ (v0 v1 v2 v3 : Value) (b0 b1 b2 b3 : List UInt8), cs = [v0, v1, v2, v3] ∧ bs = b0 ++ (b1 ++ (b2 ++ b3)) ∧ Enc W0 .int [v0] b0 ∧ Enc W0 .int [v1] b1 ∧ Enc W0 (.list sTable) [v2] b2 ∧ Enc W0 (.list sIndex) [v3] b3 := by
  unfold sCatalog at h
  obtain ⟨c0, r0, p0, q0, rfl, rfl, f0, h⟩ := h
  obtain ⟨v0, rfl⟩ := one_of f0 rfl
  have e0 := f0
  obtain ⟨c1, r1, p1, q1, rfl, rfl, f1, h⟩ := h
  obtain ⟨v1, rfl⟩ := one_of f1 rfl
  have e1 := f1
  obtain ⟨c2, r2, p2, q2, rfl, rfl, f2, h⟩ := h
  obtain ⟨v2, rfl⟩ := one_of f2 rfl
  have e2 := f2
  obtain ⟨c3, r3, p3, q3, rfl, rfl, f3, h⟩ := h
  obtain ⟨v3, rfl⟩ := one_of f3 rfl
  have e3 := f3
  obtain ⟨rfl, rfl⟩ := h
  exact ⟨v0, v1, v2, v3, p0, p1, p2, p3, rfl, by simp [List.append_assoc], e0, e1, e2, e3⟩
end Go.Proofs.Ytiblambiebojmaa

