/-
  LAYER 12: the life of an index: what Index, Step and Drop answer on a catalog whose last index was added.
-/
import Derived.Test.YtpdmocdfnakggaaSua
import Derived.Test.YtpdmocdfnakggaaSrb
import Derived.Laws.Tables
set_option linter.unusedVariables false
set_option linter.unusedSimpArgs false
namespace Go.Proofs.Ytpdmocdfnakggaa
open Go.RowKit Go.Deep

def lifX (C : Cat) (tid : Int) (x : Idx) (st : Int) (b : Bool) : Idx := ⟨C.nxt, tid, x.name, x.cols, x.uniq, st, b⟩
/-- The steps of an index's life. -/
def lifeL (bad : Bool) : List Int := if bad then [2, 3, 6, 7, 0] else [2, 3, 4]
/-- No index of that name is there yet, and the number is small. -/
structure LifeOk (C : Cat) (x : Idx) : Prop where
  ok : CatOk C
  new : C.idxs.find? (fun q => decide (q.name = x.name)) = none
  ver : C.ver ≤ 1099511627776
theorem life_cells {w : World} {b : Nat} {t : TypeId} {l : List Int} (h : w.heap[b]? = some (.cells (l.map (Value.int .i64)).toArray t (0, 0))) (i : Nat) (z : Int) (hi : l[i]? = some z) : w.cell? ⟨b, i, none⟩ = some (.int .i64 z) :=
  cell_in h i _ (by rw [List.getElem?_toArray, List.getElem?_map, hi]; rfl)
theorem life_cells3 {w : World} {b : Nat} {t : TypeId} (h : w.heap[b]? = some (.cells #[.int .i64 2, .int .i64 3, .int .i64 4] t (0, 0))) : ∀ (i : Nat) (z : Int), (lifeL false)[i]? = some z → w.cell? ⟨b, i, none⟩ = some (.int .i64 z) :=
  fun i z hi => life_cells (l := [2, 3, 4]) h i z hi
theorem life_cells5 {w : World} {b : Nat} {t : TypeId} (h : w.heap[b]? = some (.cells #[.int .i64 2, .int .i64 3, .int .i64 6, .int .i64 7, .int .i64 0] t (0, 0))) : ∀ (i : Nat) (z : Int), (lifeL true)[i]? = some z → w.cell? ⟨b, i, none⟩ = some (.int .i64 z) :=
  fun i z hi => life_cells (l := [2, 3, 6, 7, 0]) h i z hi
theorem life_form {N : Nat → Prop} {w : World} {cs : List Value} {C : Cat} {X : Idx} {k : Int} (h : CatN N w cs (lifeC C X k)) : ∃ a c a' c', cs = [.int .i64 (C.ver + k), .int .i64 (C.nxt + 1), .slice a C.tabs.length c, .slice a' (C.idxs.length + 1) c'] := by
  obtain ⟨a, c, a', c', rfl⟩ := cat_form h
  exact ⟨a, c, a', c', by show [_, _, _, Value.slice a' (C.idxs ++ [X]).length c'] = _; rw [List.length_append]; rfl⟩
theorem gone_form {N : Nat → Prop} {w : World} {cs : List Value} {C : Cat} {k : Int} (h : CatN N w cs (goneC C k)) : ∃ a c a' c', cs = [.int .i64 (C.ver + k), .int .i64 (C.nxt + 1), .slice a C.tabs.length c, .slice a' C.idxs.length c'] := cat_form h

theorem index_life {N : Nat → Prop} {w : World} {cs : List Value} {C : Cat} {x : Idx} {tid st k : Int} {b : Bool} (hL : LifeOk C x) (h : CatN N w cs (lifeC C (lifX C tid x st b) k)) (hok : CatOk (lifeC C (lifX C tid x st b) k)) :
    Calls Try.prog 15 #[.agg cs.toArray, .string ⟨x.name.toArray⟩] w (fun e w' => ∃ ya yc, e = .returned (.tuple #[.agg #[.int .i64 C.nxt, .int .i64 tid, .string ⟨x.name.toArray⟩, .slice ya x.cols.length yc, .bool x.uniq, .int .i64 st, .bool b], .bool true]) ∧ Below w.heap.size w w') := by
  have hf : (lifeC C (lifX C tid x st b) k).idxs.find? (fun t => decide (t.name = x.name)) = some (lifX C tid x st b) := life_find (X := lifX C tid x st b) hL.new k
  refine (schIndex_any h (catR_S hok).2.2.2 x.name).mono ?_
  rintro en w' ⟨vs, rfl, hb, hi⟩
  rw [hf] at hi ⊢
  obtain ⟨ya, yc, rfl⟩ := idx_form hi
  exact ⟨ya, yc, rfl, hb⟩
theorem index_gone {N : Nat → Prop} {w : World} {cs : List Value} {C : Cat} {x : Idx} {k : Int} (hL : LifeOk C x) (h : CatN N w cs (goneC C k)) :
    Calls Try.prog 15 #[.agg cs.toArray, .string ⟨x.name.toArray⟩] w (fun e w' => ∃ ya yc, e = .returned (.tuple #[.agg #[.int .i64 0, .int .i64 0, .string ⟨#[]⟩, .slice ya 0 yc, .bool false, .int .i64 0, .bool false], .bool false]) ∧ Below w.heap.size w w') := by
  have hf : (goneC C k).idxs.find? (fun t => decide (t.name = x.name)) = none := hL.new
  refine (schIndex_any h (fun t ht => (catR_S hL.ok).2.2.2 t ht) x.name).mono ?_
  rintro en w' ⟨vs, rfl, hb, hi⟩
  rw [hf] at hi ⊢
  obtain ⟨ya, yc, rfl⟩ := idx_form hi
  exact ⟨ya, yc, rfl, hb⟩
theorem life_vb {C : Cat} {x : Idx} (hL : LifeOk C x) {X : Idx} {k : Int} (hk : 0 ≤ k ∧ k ≤ 100) : -9223372036854775808 ≤ (lifeC C X k).ver ∧ (lifeC C X k).ver < 9223372036854775807 := by
  have h1 := hL.ok.ver
  have h2 := hL.ver
  show -9223372036854775808 ≤ C.ver + k ∧ C.ver + k < 9223372036854775807
  omega
theorem step_life {N : Nat → Prop} {w : World} {cs : List Value} {C : Cat} {x : Idx} {tid st k : Int} {b : Bool} (hL : LifeOk C x) (h : CatN N w cs (lifeC C (lifX C tid x st b) k)) (hok : CatOk (lifeC C (lifX C tid x st b) k)) (hk : 0 ≤ k ∧ k ≤ 100)
    (z : Int) (q : Bool) (hz : z ≠ 0) (hs : stepBad (lifX C tid x st b) st z q = false) :
    Calls Try.prog 25 #[.agg cs.toArray, .int .i64 C.nxt, .int .i64 st, .int .i64 z, .bool q] w (fun e w' => ∃ a c a' c', e = .returned (.tuple #[.agg #[.int .i64 (C.ver + (k + 1)), .int .i64 (C.nxt + 1), .slice a C.tabs.length c, .slice a' (C.idxs.length + 1) c'], .int .i64 0]) ∧ Below w.heap.size w w' ∧
      CatN (New w w') w' [.int .i64 (C.ver + (k + 1)), .int .i64 (C.nxt + 1), .slice a C.tabs.length c, .slice a' (C.idxs.length + 1) c'] (lifeC C (lifX C tid x z (q || b)) (k + 1)) ∧ CatOk (lifeC C (lifX C tid x z (q || b)) (k + 1))) := by
  have hm : stepM (lifeC C (lifX C tid x st b) k) C.nxt st z q = (lifeC C (lifX C tid x z (q || b)) (k + 1), 0) := by
    have := life_step hL.ok (X := lifX C tid x st b) rfl z q k hs
    rw [if_neg hz] at this
    exact this
  have ho := (stepM_ok hok C.nxt st z q).1
  rw [hm] at ho
  refine (step_any h (catR_S hok) (life_vb hL hk) ((catR_iff _).2 hok) C.nxt st z q).mono ?_
  rintro en w' ⟨vs, rfl, hb, hc⟩
  rw [hm] at hc ⊢
  obtain ⟨a, c, a', c', rfl⟩ := life_form hc
  exact ⟨a, c, a', c', rfl, hb, hc, ho⟩
theorem step_gone {N : Nat → Prop} {w : World} {cs : List Value} {C : Cat} {x : Idx} {tid st k : Int} {b : Bool} (hL : LifeOk C x) (h : CatN N w cs (lifeC C (lifX C tid x st b) k)) (hok : CatOk (lifeC C (lifX C tid x st b) k)) (hk : 0 ≤ k ∧ k ≤ 100)
    (q : Bool) (hs : stepBad (lifX C tid x st b) st 0 q = false) :
    Calls Try.prog 25 #[.agg cs.toArray, .int .i64 C.nxt, .int .i64 st, .int .i64 0, .bool q] w (fun e w' => ∃ a c a' c', e = .returned (.tuple #[.agg #[.int .i64 (C.ver + (k + 1)), .int .i64 (C.nxt + 1), .slice a C.tabs.length c, .slice a' C.idxs.length c'], .int .i64 0]) ∧ Below w.heap.size w w' ∧
      CatN (New w w') w' [.int .i64 (C.ver + (k + 1)), .int .i64 (C.nxt + 1), .slice a C.tabs.length c, .slice a' C.idxs.length c'] (goneC C (k + 1))) := by
  have hm : stepM (lifeC C (lifX C tid x st b) k) C.nxt st 0 q = (goneC C (k + 1), 0) := by
    have := life_step hL.ok (X := lifX C tid x st b) rfl 0 q k hs
    rw [if_pos rfl] at this
    exact this
  refine (step_any h (catR_S hok) (life_vb hL hk) ((catR_iff _).2 hok) C.nxt st 0 q).mono ?_
  rintro en w' ⟨vs, rfl, hb, hc⟩
  rw [hm] at hc ⊢
  obtain ⟨a, c, a', c', rfl⟩ := gone_form hc
  exact ⟨a, c, a', c', rfl, hb, hc⟩
theorem drop_life {N : Nat → Prop} {w : World} {cs : List Value} {C : Cat} {x : Idx} {tid k : Int} {b : Bool} (hL : LifeOk C x) (h : CatN N w cs (lifeC C (lifX C tid x 4 b) k)) (hok : CatOk (lifeC C (lifX C tid x 4 b) k)) (hk : 0 ≤ k ∧ k ≤ 100) :
    Calls Try.prog 24 #[.agg cs.toArray, .string ⟨x.name.toArray⟩] w (fun e w' => ∃ a c a' c', e = .returned (.tuple #[.agg #[.int .i64 (C.ver + (k + 1)), .int .i64 (C.nxt + 1), .slice a C.tabs.length c, .slice a' (C.idxs.length + 1) c'], .int .i64 0]) ∧ Below w.heap.size w w' ∧
      CatN (New w w') w' [.int .i64 (C.ver + (k + 1)), .int .i64 (C.nxt + 1), .slice a C.tabs.length c, .slice a' (C.idxs.length + 1) c'] (lifeC C (lifX C tid x 5 b) (k + 1)) ∧ CatOk (lifeC C (lifX C tid x 5 b) (k + 1))) := by
  have hm : dropM (lifeC C (lifX C tid x 4 b) k) x.name = (lifeC C (lifX C tid x 5 b) (k + 1), 0) := life_drop hL.ok (X := lifX C tid x 4 b) rfl hL.new k (by show ¬ (4 : Int) < 4; decide)
  have ho := (dropM_ok hok x.name).1
  rw [hm] at ho
  refine (drop_any h (catR_S hok) (life_vb hL hk) ((catR_iff _).2 hok) x.name).mono ?_
  rintro en w' ⟨vs, rfl, hb, hc⟩
  rw [hm] at hc ⊢
  obtain ⟨a, c, a', c', rfl⟩ := life_form hc
  exact ⟨a, c, a', c', rfl, hb, hc, ho⟩
theorem drop_again {N : Nat → Prop} {w : World} {cs : List Value} {C : Cat} {x : Idx} {tid k : Int} {b : Bool} (hL : LifeOk C x) (h : CatN N w cs (lifeC C (lifX C tid x 5 b) k)) (hok : CatOk (lifeC C (lifX C tid x 5 b) k)) (hk : 0 ≤ k ∧ k ≤ 100) :
    Calls Try.prog 24 #[.agg cs.toArray, .string ⟨x.name.toArray⟩] w (fun e w' => ∃ a c a' c', e = .returned (.tuple #[.agg #[.int .i64 (C.ver + k), .int .i64 (C.nxt + 1), .slice a C.tabs.length c, .slice a' (C.idxs.length + 1) c'], .int .i64 7]) ∧ Below w.heap.size w w') := by
  have hm : dropM (lifeC C (lifX C tid x 5 b) k) x.name = (lifeC C (lifX C tid x 5 b) k, 7) := life_drop2 (X := lifX C tid x 5 b) hL.new k (by show (4 : Int) < 5; decide)
  refine (drop_any h (catR_S hok) (life_vb hL hk) ((catR_iff _).2 hok) x.name).mono ?_
  rintro en w' ⟨vs, rfl, hb, hc⟩
  rw [hm] at hc ⊢
  obtain ⟨a, c, a', c', rfl⟩ := life_form hc
  exact ⟨a, c, a', c', rfl, hb⟩
theorem life_setRow (w : World) (B : Nat) (cs : Array Value) : Keep (fun k => k = B) w (w.setRow B cs) := by
  refine ⟨rfl, rfl, rfl, ?_, ?_⟩
  · show w.heap.size ≤ (w.heap.modify B _).size
    simp
  · intro k hk hx
    show (w.heap.modify B _)[k]? = _
    rw [Array.getElem?_modify, if_neg (fun e => hx e.symm)]
/-- One step, whatever it leads to. -/
def lifD (C : Cat) (tid : Int) (x : Idx) (z : Int) (b : Bool) (k : Int) : Cat := if z = 0 then goneC C k else lifeC C (lifX C tid x z b) k
theorem step_D {N : Nat → Prop} {w : World} {cs : List Value} {C : Cat} {x : Idx} {tid st k : Int} {b : Bool} (hL : LifeOk C x) (h : CatN N w cs (lifeC C (lifX C tid x st b) k)) (hok : CatOk (lifeC C (lifX C tid x st b) k)) (hk : 0 ≤ k ∧ k ≤ 100)
    (z : Int) (q b' : Bool) (hs : stepBad (lifX C tid x st b) st z q = false) (hb : (q || b) = b') :
    Calls Try.prog 25 #[.agg cs.toArray, .int .i64 C.nxt, .int .i64 st, .int .i64 z, .bool q] w (fun e w' => ∃ a c a' c', e = .returned (.tuple #[.agg #[.int .i64 (C.ver + (k + 1)), .int .i64 (C.nxt + 1), .slice a C.tabs.length c, .slice a' (lifD C tid x z b' (k + 1)).idxs.length c'], .int .i64 0]) ∧ Below w.heap.size w w' ∧
      CatN (New w w') w' [.int .i64 (C.ver + (k + 1)), .int .i64 (C.nxt + 1), .slice a C.tabs.length c, .slice a' (lifD C tid x z b' (k + 1)).idxs.length c'] (lifD C tid x z b' (k + 1)) ∧ CatOk (lifD C tid x z b' (k + 1))) := by
  subst hb
  have hm : stepM (lifeC C (lifX C tid x st b) k) C.nxt st z q = (lifD C tid x z (q || b) (k + 1), 0) := life_step hL.ok (X := lifX C tid x st b) rfl z q k hs
  have e1 : (lifD C tid x z (q || b) (k + 1)).ver = C.ver + (k + 1) := by unfold lifD; split <;> rfl
  have e2 : (lifD C tid x z (q || b) (k + 1)).nxt = C.nxt + 1 := by unfold lifD; split <;> rfl
  have e3 : (lifD C tid x z (q || b) (k + 1)).tabs = C.tabs := by unfold lifD; split <;> rfl
  have ho := (stepM_ok hok C.nxt st z q).1
  rw [hm] at ho
  refine (step_any h (catR_S hok) (life_vb hL hk) ((catR_iff _).2 hok) C.nxt st z q).mono ?_
  rintro en w' ⟨vs, rfl, hb, hc⟩
  rw [hm] at hc ⊢
  obtain ⟨a, c, a', c', rfl⟩ := cat_form hc
  simp only [e1, e2, e3] at hc
  exact ⟨a, c, a', c', by simp only [e1, e2, e3], hb, hc, ho⟩
theorem life_round {C : Cat} {tid : Int} {x : Idx} {bad : Bool} {i : Nat} {st z : Int} (h1 : (1 :: lifeL bad)[i]? = some st) (h2 : (lifeL bad)[i]? = some z) :
    stepBad (lifX C tid x st (bad && decide (3 ≤ i))) st z (bad && (z == 6)) = false ∧ ((bad && (z == 6)) || (bad && decide (3 ≤ i))) = (bad && decide (2 ≤ i)) ∧ (z = 0 ↔ (bad = true ∧ i = 4)) ∧ i ≤ 4 := by
  cases bad <;> rcases i with _ | _ | _ | _ | _ | i <;> simp [lifeL] at h1 h2 <;> subst h1 <;> subst h2 <;> simp [stepBad, lifX, nextI]
theorem life_four {bad : Bool} {i : Nat} {z : Int} (h : (lifeL bad)[i]? = some z) (h2 : i < (lifeL bad).length) (h4 : i ≤ 4) (hz : z ≠ 0) : i + 1 ≤ 4 := by
  cases bad
  · simp [lifeL] at h2; omega
  · by_cases h3 : i = 4
    · subst h3; simp [lifeL] at h; exact absurd h.symm hz
    · omega
/-- The states of an index that goes. -/
def lifeZ (i : Nat) : Int := if i = 3 then 0 else 5 + (i : Int)
theorem lifeZ_lt {i : Nat} (h : i < 3) : lifeZ i = 5 + (i : Int) := if_neg (by omega)
theorem lifeZ_next {i : Nat} (h : i < 3) : nextI (5 + (i : Int)) = lifeZ (i + 1) := by
  rcases i with _ | _ | _ | i
  · rfl
  · rfl
  · rfl
  · omega
theorem lifeZ_bad {C : Cat} {tid : Int} {x : Idx} {i : Nat} (h : i < 3) : stepBad (lifX C tid x (5 + (i : Int)) false) (5 + (i : Int)) (lifeZ (i + 1)) false = false := by
  rcases i with _ | _ | _ | i
  · simp [lifeZ, stepBad, lifX, nextI]
  · simp [lifeZ, stepBad, lifX, nextI]
  · simp [lifeZ, stepBad, lifX, nextI]
  · omega
theorem lifD_lt {C : Cat} {tid : Int} {x : Idx} {i : Nat} (h : i < 3) (k : Int) : lifD C tid x (lifeZ i) false k = lifeC C (lifX C tid x (5 + (i : Int)) false) k := by
  rw [lifeZ_lt h]; exact if_neg (by omega)
theorem lifD_end {C : Cat} {tid : Int} {x : Idx} (k : Int) : lifD C tid x (lifeZ 3) false k = goneC C k := if_pos rfl
theorem lifeC_len (C : Cat) (X : Idx) (k : Int) : (lifeC C X k).idxs.length = C.idxs.length + 1 := by show (C.idxs ++ [_]).length = _; rw [List.length_append]; rfl
theorem goneC_len (C : Cat) (k : Int) : (goneC C k).idxs.length = C.idxs.length := rfl
end Go.Proofs.Ytpdmocdfnakggaa
