/-
  LAYER 12: each change keeps a catalog right; a script that came in.
-/
import Derived.Test.YtafcbelkhhjcoaaSrc
import Derived.Test.YtafcbelkhhjcoaaSop
set_option linter.unusedVariables false
set_option linter.unusedSimpArgs false
set_option maxRecDepth 100000
namespace Go.Proofs.Ytafcbelkhhjcoaa
open Go.RowKit Go.ChangeShapes Go.WideShapes Go.ChangeAt Go.Deep

theorem addTableM_ok {C : Cat} (h : CatOk C) (t : Tab) : CatOk (addTableM C t).1 ∧ (addTableM C t).1.ver ≤ C.ver + 1 := by
  unfold addTableM
  split
  · exact ⟨h, by show C.ver ≤ _; omega⟩
  · rename_i h1
    split
    · exact ⟨h, by show C.ver ≤ _; omega⟩
    · rename_i h2
      split
      · exact ⟨h, by show C.ver ≤ _; omega⟩
      · rename_i h3
        refine ⟨addTab_R h (by simpa using h1) (fun q hq e => ?_) (by omega) (by omega), Int.le_refl _⟩
        have := find_no h2 q hq
        simp [e] at this
theorem addIndexM_ok {C : Cat} (h : CatOk C) (x : Idx) (s : List UInt8) : CatOk (addIndexM C x s).1 ∧ (addIndexM C x s).1.ver ≤ C.ver + 1 := by
  unfold addIndexM
  cases hf : (C.tabs.find? fun q => decide (q.name = s)) with
  | none => exact ⟨h, by show C.ver ≤ _; omega⟩
  | some t =>
    have ht := List.mem_of_find?_eq_some hf
    simp only
    split
    · exact ⟨h, by show C.ver ≤ _; omega⟩
    · rename_i h1
      split
      · exact ⟨h, by show C.ver ≤ _; omega⟩
      · rename_i h2
        split
        · exact ⟨h, by show C.ver ≤ _; omega⟩
        · rename_i h3
          simp only [Bool.not_eq_false, Bool.and_eq_true] at h1
          refine ⟨addIdx_R h ht h1.1 h1.2 (fun q hq e => ?_) (by omega) (by omega), Int.le_refl _⟩
          have := find_no h2 q hq
          simp [e] at this
theorem find_pos {α : Type} {p : α → Bool} {l : List α} {x : α} (h : l.find? p = some x) : ∃ i : Nat, l[i]? = some x := by
  obtain ⟨i, hi, rfl⟩ := List.getElem_of_mem (List.mem_of_find?_eq_some h)
  exact ⟨i, List.getElem?_eq_getElem hi⟩
theorem setM_ok {C : Cat} (h : CatOk C) {i : Nat} {x : Idx} (hi : C.idxs[i]? = some x) {st : Int} (hst : 0 ≤ st ∧ st ≤ 7) (b : Bool) : CatOk (setM C x.id st (b || x.bad)) ∧ (setM C x.id st (b || x.bad)).ver ≤ C.ver + 1 := by
  rw [← moved_set ((catR_iff C).2 h) hi]
  exact ⟨movedM_R h hi hst b, by unfold movedM; split <;> exact Int.le_refl _⟩
theorem dropM_ok {C : Cat} (h : CatOk C) (s : List UInt8) : CatOk (dropM C s).1 ∧ (dropM C s).1.ver ≤ C.ver + 1 := by
  unfold dropM
  cases hf : (C.idxs.find? fun q => decide (q.name = s)) with
  | none => exact ⟨h, by show C.ver ≤ _; omega⟩
  | some x =>
    obtain ⟨i, hi⟩ := find_pos hf
    simp only
    split
    · exact ⟨h, by show C.ver ≤ _; omega⟩
    · have := setM_ok h hi (st := if x.state = 4 then 5 else 6) (by split <;> omega) false
      rwa [Bool.false_or] at this
theorem nextI_in (s : Int) (h : 1 ≤ s ∧ s ≤ 7) : 0 ≤ nextI s ∧ nextI s ≤ 7 := by
  unfold nextI; split
  · omega
  · split <;> omega
theorem stepM_ok {C : Cat} (h : CatOk C) (id fr st : Int) (bad : Bool) : CatOk (stepM C id fr st bad).1 ∧ (stepM C id fr st bad).1.ver ≤ C.ver + 1 := by
  unfold stepM
  cases hf : (C.idxs.find? fun q => decide (q.id = id)) with
  | none => exact ⟨h, by show C.ver ≤ _; omega⟩
  | some x =>
    obtain ⟨i, hi⟩ := find_pos hf
    have hid : x.id = id := by simpa using List.find?_some hf
    simp only
    split
    · exact ⟨h, by show C.ver ≤ _; omega⟩
    · rename_i hb
      rw [← hid]
      refine setM_ok h hi ?_ bad
      have hs := (catB_ids ((catR_iff C).2 h)).2 x (List.mem_of_getElem? hi)
      have hn := nextI_in x.state hs
      by_cases h6 : st = 6
      · omega
      · have h7 : (st == 6) = false := by simp [h6]
        have hb2 : stepBad x fr st bad = false := by simpa using hb
        unfold stepBad at hb2
        rw [h7] at hb2
        have h8 : st = nextI x.state := by
          simp only [Bool.and_false, Bool.not_false, Bool.true_and, Bool.or_eq_false_iff, bne_eq_false_iff_eq] at hb2
          exact hb2.2.1
        omega

/-- A change that is asked for. -/
structure OpL where
  kind : Int
  t : Tab
  x : Idx
  name : List UInt8
  id : Int
  fr : Int
  st : Int
  bad : Bool
def OpN (W : World) (cs : List Value) (o : OpL) : Prop :=
  ∃ ta tc tb td xa xc, cs = [.int .i64 o.kind, .int .i64 o.t.id, .string ⟨o.t.name.toArray⟩, .slice ta o.t.cols.length tc, .slice tb o.t.key.length td, .int .i64 o.x.id, .int .i64 o.x.table, .string ⟨o.x.name.toArray⟩, .slice xa o.x.cols.length xc, .bool o.x.uniq, .int .i64 o.x.state, .bool o.x.bad, .string ⟨o.name.toArray⟩, .int .i64 o.id, .int .i64 o.fr, .int .i64 o.st, .bool o.bad] ∧
    TabN (Low W) W [.int .i64 o.t.id, .string ⟨o.t.name.toArray⟩, .slice ta o.t.cols.length tc, .slice tb o.t.key.length td] o.t ∧ IdxN (Low W) W [.int .i64 o.x.id, .int .i64 o.x.table, .string ⟨o.x.name.toArray⟩, .slice xa o.x.cols.length xc, .bool o.x.uniq, .int .i64 o.x.state, .bool o.x.bad] o.x
def OpL.W (o : OpL) : Prop := o.t.W ∧ o.x.W ∧ nmW o.name

section
variable {H : Type} {enc : TypeId × Value → H} {W : World}
theorem op_in {m : Nat} {cs : List Value} {y : DataW H × List MemPlace} (h : DataW.trod enc Try.prog W 0 (fun _ => true) true m 47 cs = some y) :
    ∃ o : OpL, OpN W cs o ∧ (cs.length = 17 ∧ ∀ u ∈ cs, u.oneCell' = true) ∧ ∀ K, (∀ k ∈ y.1.weights Try.prog 47, k ≤ K) → (K ≤ 140737488355328 → o.W) := by
  have hcv : Try.prog.cellsOf 47 = 17 := by kernel_rfl
  obtain ⟨xs, n', rfl, rfl, hlen, hxl, hfd⟩ := DataW.trod_struct Try.underlying47 h
  rw [hcv] at hlen
  match cs, hlen, xs, hxl with
  | [c0, c1, c2, c3, c4, c5, c6, c7, c8, c9, c10, c11, c12, c13, c14, c15, c16], _, [y0, y1, y2, y3, y4, y5, y6, y7], _ =>
    have t0 := part (k := 1) (t := 3) (cs' := [c0]) (by kernel_rfl) (hfd 0 _ rfl) rfl
    have t1 := part (k := 4) (t := 33) (cs' := [c1, c2, c3, c4]) (by kernel_rfl) (hfd 1 _ rfl) rfl
    have t2 := part (k := 7) (t := 37) (cs' := [c5, c6, c7, c8, c9, c10, c11]) (by kernel_rfl) (hfd 2 _ rfl) rfl
    have t3 := part (k := 1) (t := 9) (cs' := [c12]) (by kernel_rfl) (hfd 3 _ rfl) rfl
    have t4 := part (k := 1) (t := 3) (cs' := [c13]) (by kernel_rfl) (hfd 4 _ rfl) rfl
    have t5 := part (k := 1) (t := 3) (cs' := [c14]) (by kernel_rfl) (hfd 5 _ rfl) rfl
    have t6 := part (k := 1) (t := 3) (cs' := [c15]) (by kernel_rfl) (hfd 6 _ rfl) rfl
    have t7 := part (k := 1) (t := 4) (cs' := [c16]) (by kernel_rfl) (hfd 7 _ rfl) rfl
    obtain ⟨i0, e0, f0, g0⟩ := DataW.trod_int Try.underlying3 t0
    obtain ⟨tt, h1, -, w1⟩ := tab_in t1
    obtain ⟨xx, h2, -, w2⟩ := idx_in t2
    obtain ⟨s3, e3, f3, g3⟩ := DataW.trod_string Try.underlying9 t3
    obtain ⟨i4, e4, f4, g4⟩ := DataW.trod_int Try.underlying3 t4
    obtain ⟨i5, e5, f5, g5⟩ := DataW.trod_int Try.underlying3 t5
    obtain ⟨i6, e6, f6, g6⟩ := DataW.trod_int Try.underlying3 t6
    obtain ⟨b7, e7, f7⟩ := DataW.trod_bool Try.underlying4 t7
    cases e0; cases e3; cases e4; cases e5; cases e6; cases e7
    obtain ⟨ta, tc, tb, td, ht⟩ := tab_form h1
    obtain ⟨xa, xc, hx⟩ := idx_form h2
    cases ht; cases hx
    refine ⟨⟨i0, tt, xx, s3.data.toList, i4, i5, i6, b7⟩, ⟨ta, tc, tb, td, xa, xc, rfl, h1, h2⟩, ⟨rfl, fun u hu => by simp only [List.mem_cons, List.not_mem_nil, or_false] at hu; rcases hu with rfl | rfl | rfl | rfl | rfl | rfl | rfl | rfl | rfl | rfl | rfl | rfl | rfl | rfl | rfl | rfl | rfl <;> rfl⟩, fun K hK hK2 => ?_⟩
    have v1 := w1 K (fun k9 h9 => hK _ (by simp only [DataW.weights, Try.underlying47]; exact DataW.weights_mem_each (j := 1) rfl rfl _ h9)) hK2
    have v2 := w2 K (fun k9 h9 => hK _ (by simp only [DataW.weights, Try.underlying47]; exact DataW.weights_mem_each (j := 2) rfl rfl _ h9)) hK2
    have v3 : s3.data.toList.length ≤ K := hK _ (by simp only [DataW.weights, Try.underlying47]; refine DataW.weights_mem_each (j := 3) rfl rfl _ ?_; rw [f3]; simp only [DataW.weights]; exact List.mem_cons_self)
    exact ⟨v1, v2, Nat.le_trans v3 hK2⟩
theorem script_open {base : Nat} {v : Value} {d : DataW H} {p : List MemPlace} (hw : Value.okWide Try.prog W .any base 45 v) (h : DataW.Trod enc Try.prog W 0 (fun _ => true) true 45 v d p) :
    ∃ (l : List OpL), LstN OpN 17 (Low W) W v l ∧ ((∀ k ∈ d.weights Try.prog 45, k ≤ reachBytes) → ∀ o ∈ l, o.W) := by
  obtain ⟨ao, ln, cp, rfl⟩ := okWide_slice Try.underlying45 hw
  obtain ⟨fuel, hf⟩ := h
  have hf1 : DataW.trod enc Try.prog W 0 (fun _ => true) true fuel 45 [.slice ao ln cp] = some (d, p) := hf
  letI : Inhabited OpL := ⟨⟨0, ⟨0, [], [], []⟩, ⟨0, 0, [], [], false, 0, false⟩, [], 0, 0, 0, false⟩⟩
  obtain ⟨x, M, l, h1, h2, h3, h4, h5, h6, h7⟩ := list_in (enc := enc) (W := W) (fun r (o : OpL) => OpN W r o) (fun o K => K ≤ 140737488355328 → o.W) 17 45 47 Try.underlying45 (by kernel_rfl) (by decide) (by decide +kernel) (fun m cs y h => op_in h) hf1
  obtain rfl : Value.slice ao ln cp = x := by simpa using h1
  exact ⟨l, ⟨M, h2, h3, h4, h5⟩, fun hk o ho => (h7 reachBytes hk).1 o ho (by decide)⟩
end
end Go.Proofs.Ytafcbelkhhjcoaa
