/-
  LAYER 12: the life of an index (mathematics): what is added, stepped, dropped, with all others as they are.
-/
import Derived.Test.YtpdmocdfnakggaaSrd
set_option linter.unusedVariables false
set_option linter.unusedSimpArgs false
namespace Go.Proofs.Ytpdmocdfnakggaa
open Go.RowKit Go.Deep

def lifeC (C : Cat) (X : Idx) (k : Int) : Cat := { C with ver := C.ver + k, nxt := C.nxt + 1, idxs := C.idxs ++ [X] }
def goneC (C : Cat) (k : Int) : Cat := { C with ver := C.ver + k, nxt := C.nxt + 1 }

theorem life_find {C : Cat} {X : Idx} (h : C.idxs.find? (fun q => decide (q.name = X.name)) = none) (k : Int) : (lifeC C X k).idxs.find? (fun q => decide (q.name = X.name)) = some X := by
  simp [lifeC, List.find?_append, h]
theorem addIndex_life {C : Cat} {x : Idx} {s : List UInt8} (h : (addIndexM C x s).2 = 0) : ∃ tid, (addIndexM C x s).1 = lifeC C ⟨C.nxt, tid, x.name, x.cols, x.uniq, 1, false⟩ 1 ∧ C.idxs.find? (fun q => decide (q.name = x.name)) = none ∧ C.nxt < 1073741824 ∧ C.idxs.length < 10 := by
  unfold addIndexM at h ⊢
  cases hf : (C.tabs.find? fun q => decide (q.name = s)) with
  | none => rw [hf] at h; exact absurd (show (5 : Int) = 0 from h) (by decide)
  | some t =>
    rw [hf] at h
    simp only at h ⊢
    split at h
    · exact absurd (show (9 : Int) = 0 from h) (by decide)
    split at h
    · exact absurd (show (6 : Int) = 0 from h) (by decide)
    split at h
    · exact absurd (show (4 : Int) = 0 from h) (by decide)
    rename_i h1 h2 h3
    rw [if_neg h1, if_neg h2, if_neg h3]
    refine ⟨t.id, rfl, ?_, by omega, by omega⟩
    cases hq : (C.idxs.find? fun q => decide (q.name = x.name)) with
    | none => rfl
    | some y => rw [hq] at h2; exact absurd rfl h2
theorem addIndex_stay {C : Cat} {x : Idx} {s : List UInt8} (h : (addIndexM C x s).2 ≠ 0) : (addIndexM C x s).1.ver = C.ver := by
  unfold addIndexM at h ⊢
  cases hf : (C.tabs.find? fun q => decide (q.name = s)) with
  | none => rfl
  | some t =>
    rw [hf] at h
    simp only at h ⊢
    split
    · rfl
    split
    · rfl
    split
    · rfl
    · rename_i h1 h2 h3
      rw [if_neg h1, if_neg h2, if_neg h3] at h
      exact absurd rfl h
theorem life_setL {C : Cat} (h : CatOk C) {X : Idx} (hX : X.id = C.nxt) (st : Int) (b : Bool) : setL C.nxt st b (C.idxs ++ [X]) = C.idxs ++ (if st = 0 then [] else [{ X with state := st, bad := b }]) := by
  have h1 : (C.idxs.map (setI C.nxt st b)).filter (fun x => decide (¬ x.state = 0)) = C.idxs := by
    have h2 : C.idxs.map (setI C.nxt st b) = C.idxs := by
      conv => rhs; rw [← List.map_id C.idxs]
      refine List.map_congr_left fun x hx => ?_
      have := (h.iid.2 x.id (List.mem_map.2 ⟨x, hx, rfl⟩)).2
      unfold setI
      rw [if_neg (by omega)]
      rfl
    rw [h2, List.filter_eq_self]
    intro x hx
    obtain ⟨t, -, -, -, h3, -⟩ := idxF_open (h.idx x hx)
    exact decide_eq_true (by omega)
  unfold setL
  rw [List.map_append, List.filter_append, h1]
  have h4 : setI C.nxt st b X = { X with state := st, bad := b } := by unfold setI; rw [if_pos hX]
  rw [List.map_cons, List.map_nil, h4]
  by_cases hs : st = 0
  · subst hs; rfl
  · rw [if_neg hs, List.filter_cons_of_pos (by simp [hs]), List.filter_nil]
theorem life_find_id {C : Cat} (h : CatOk C) {X : Idx} (hX : X.id = C.nxt) (k : Int) : (lifeC C X k).idxs.find? (fun q => decide (q.id = C.nxt)) = some X := by
  have h1 : C.idxs.find? (fun q => decide (q.id = C.nxt)) = none := by
    rw [List.find?_eq_none]
    intro x hx
    have := (h.iid.2 x.id (List.mem_map.2 ⟨x, hx, rfl⟩)).2
    simp only [decide_eq_true_eq]; omega
  show (C.idxs ++ [X]).find? _ = _
  rw [List.find?_append, h1, Option.none_or, List.find?_cons_of_pos (by simp [hX])]
theorem life_setM {C : Cat} (h : CatOk C) {X : Idx} (hX : X.id = C.nxt) (st : Int) (b : Bool) (k : Int) : setM (lifeC C X k) C.nxt st b = if st = 0 then goneC C (k + 1) else lifeC C { X with state := st, bad := b } (k + 1) := by
  show ({ C with ver := C.ver + k + 1, nxt := C.nxt + 1, idxs := setL C.nxt st b (C.idxs ++ [X]) } : Cat) = _
  rw [life_setL h hX, Int.add_assoc]
  by_cases hs : st = 0
  · rw [if_pos hs, if_pos hs, List.append_nil]; rfl
  · rw [if_neg hs, if_neg hs]; rfl
theorem life_step {C : Cat} (h : CatOk C) {X : Idx} (hX : X.id = C.nxt) (st : Int) (b : Bool) (k : Int) (hs : stepBad X X.state st b = false) : stepM (lifeC C X k) C.nxt X.state st b = (if st = 0 then goneC C (k + 1) else lifeC C { X with state := st, bad := b || X.bad } (k + 1), 0) := by
  unfold stepM
  rw [life_find_id h hX]
  simp only [hs, Bool.false_eq_true, if_false]
  rw [life_setM h hX]
theorem life_drop {C : Cat} (h : CatOk C) {X : Idx} (hX : X.id = C.nxt) (hn : C.idxs.find? (fun q => decide (q.name = X.name)) = none) (k : Int) (hs : ¬ 4 < X.state) : dropM (lifeC C X k) X.name = (lifeC C { X with state := if X.state = 4 then 5 else 6 } (k + 1), 0) := by
  unfold dropM
  rw [life_find hn]
  simp only [if_neg hs]
  have h1 : ¬ (if X.state = 4 then (5 : Int) else 6) = 0 := by split <;> decide
  have e := life_setM h hX (if X.state = 4 then (5 : Int) else 6) X.bad k
  rw [if_neg h1] at e
  rw [← e, ← hX]
theorem life_drop2 {C : Cat} {X : Idx} (hn : C.idxs.find? (fun q => decide (q.name = X.name)) = none) (k : Int) (hs : 4 < X.state) : dropM (lifeC C X k) X.name = (lifeC C X k, 7) := by
  unfold dropM
  rw [life_find hn]
  simp only [if_pos hs]
end Go.Proofs.Ytpdmocdfnakggaa
