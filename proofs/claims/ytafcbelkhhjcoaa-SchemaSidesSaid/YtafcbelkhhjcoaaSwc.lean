/-
  LAYER 12: SchemaSides' mathematics: which states an index has ahead of a change and behind it.
-/
import Derived.Test.YtafcbelkhhjcoaaSwa
import Derived.Test.YtafcbelkhhjcoaaSwb
set_option linter.unusedVariables false
set_option linter.unusedSimpArgs false
set_option maxRecDepth 100000
namespace Go.Proofs.Ytafcbelkhhjcoaa
open Go.RowKit Go.Deep

def stC (C : Cat) (id : Int) : Int := (C.idxs.find? (fun t => decide (t.id = id))).elim 0 Idx.state
def trL : List (Int × Int) := [(0, 0), (1, 1), (2, 2), (3, 3), (4, 4), (5, 5), (6, 6), (7, 7), (0, 1), (1, 2), (2, 3), (3, 4), (5, 6), (6, 7), (7, 0), (4, 5), (1, 6), (2, 6), (3, 6)]
def TrI (a b : Int) : Prop := (a, b) ∈ trL
structure SdOk (C R : Cat) : Prop where
  ok : CatOk R
  ver : R.ver = C.ver ∨ R.ver = C.ver + 1
  tr : ∀ id, TrI (stC C id) (stC R id)
theorem st_in {C : Cat} (h : CatOk C) {x : Idx} (hx : x ∈ C.idxs) : 1 ≤ x.state ∧ x.state ≤ 7 := by
  obtain ⟨t, -, -, -, h4, h5⟩ := idxF_open (h.idx x hx)
  exact ⟨h4, h5⟩
theorem tr_same {z : Int} (h1 : 0 ≤ z) (h2 : z ≤ 7) : TrI z z := by
  have : z = 0 ∨ z = 1 ∨ z = 2 ∨ z = 3 ∨ z = 4 ∨ z = 5 ∨ z = 6 ∨ z = 7 := by omega
  rcases this with rfl | rfl | rfl | rfl | rfl | rfl | rfl | rfl <;> unfold TrI <;> decide
theorem stC_in {C : Cat} (h : CatOk C) (id : Int) : 0 ≤ stC C id ∧ stC C id ≤ 7 := by
  unfold stC
  cases hq : C.idxs.find? (fun t => decide (t.id = id)) with
  | none => exact ⟨by decide, by decide⟩
  | some x =>
    have := st_in h (List.mem_of_find?_eq_some hq)
    exact ⟨by show 0 ≤ x.state; omega, this.2⟩
theorem sd_refl {C : Cat} (h : CatOk C) (id : Int) : TrI (stC C id) (stC C id) := tr_same (stC_in h id).1 (stC_in h id).2
theorem set_other {id0 st id : Int} {b : Bool} (hne : id ≠ id0) : ∀ (l : List Idx), (∀ x ∈ l, x.state ≠ 0) → (setL id0 st b l).find? (fun t => decide (t.id = id)) = l.find? (fun t => decide (t.id = id))
  | [], _ => rfl
  | u :: r, h => by
    have ih := set_other (id0 := id0) (st := st) (b := b) hne r (fun x hx => h x (List.mem_cons_of_mem _ hx))
    unfold setL at ih ⊢
    rw [List.map_cons, List.filter_cons]
    by_cases hu : u.id = id0
    · have e1 : (setI id0 st b u).id = id0 := by unfold setI; rw [if_pos hu]; exact hu
      have e2 : (u :: r).find? (fun t => decide (t.id = id)) = r.find? (fun t => decide (t.id = id)) := by
        rw [List.find?_cons, decide_eq_false (by rw [hu]; exact fun e => hne e.symm)]
      rw [e2, ← ih]
      split
      · rw [List.find?_cons, decide_eq_false (by rw [e1]; exact fun e => hne e.symm)]
      · rfl
    · have e1 : setI id0 st b u = u := by unfold setI; rw [if_neg hu]
      rw [e1, if_pos (by have := h u (List.mem_cons_self ..); simpa using this), List.find?_cons, List.find?_cons, ih]
theorem set_none {id0 st : Int} {b : Bool} : ∀ (l : List Idx), (∀ x ∈ l, x.id ≠ id0) → (setL id0 st b l).find? (fun t => decide (t.id = id0)) = none
  | [], _ => rfl
  | u :: r, h => by
    have ih := set_none (id0 := id0) (st := st) (b := b) r (fun x hx => h x (List.mem_cons_of_mem _ hx))
    unfold setL at ih ⊢
    rw [List.map_cons, List.filter_cons]
    have hu := h u (List.mem_cons_self ..)
    have e1 : setI id0 st b u = u := by unfold setI; rw [if_neg hu]
    rw [e1]
    split
    · rw [List.find?_cons, decide_eq_false hu]; exact ih
    · exact ih
theorem set_this {id0 st : Int} {b : Bool} : ∀ (l : List Idx), (l.map (·.id)).Nodup → (∀ x ∈ l, x.state ≠ 0) → (∃ x ∈ l, x.id = id0) → ((setL id0 st b l).find? (fun t => decide (t.id = id0))).elim 0 Idx.state = st
  | [], _, _, h => by obtain ⟨x, hx, -⟩ := h; cases hx
  | u :: r, hn, h, hex => by
    rw [List.map_cons, List.nodup_cons] at hn
    by_cases hu : u.id = id0
    · have hr : ∀ x ∈ r, x.id ≠ id0 := fun x hx e => hn.1 (by rw [hu, ← e]; exact List.mem_map_of_mem hx)
      have h0 := set_none (id0 := id0) (st := st) (b := b) r hr
      unfold setL at h0 ⊢
      rw [List.map_cons, List.filter_cons]
      have e1 : setI id0 st b u = { u with state := st, bad := b } := by unfold setI; rw [if_pos hu]
      rw [e1]
      by_cases hs : st = 0
      · rw [if_neg (by simpa using hs), h0]; exact hs.symm
      · rw [if_pos (by simpa using hs), List.find?_cons, decide_eq_true (show ({ u with state := st, bad := b } : Idx).id = id0 from hu)]; rfl
    · have hex2 : ∃ x ∈ r, x.id = id0 := by
        obtain ⟨x, hx, e⟩ := hex
        rcases List.mem_cons.1 hx with rfl | hx
        · exact absurd e hu
        · exact ⟨x, hx, e⟩
      have ih := set_this (id0 := id0) (st := st) (b := b) r hn.2 (fun x hx => h x (List.mem_cons_of_mem _ hx)) hex2
      unfold setL at ih ⊢
      rw [List.map_cons, List.filter_cons]
      have e1 : setI id0 st b u = u := by unfold setI; rw [if_neg hu]
      rw [e1, if_pos (by have := h u (List.mem_cons_self ..); simpa using this), List.find?_cons, decide_eq_false hu]
      exact ih
theorem sd_set {C : Cat} (h : CatOk C) {id0 st : Int} {b : Bool} {x : Idx} (hx : x ∈ C.idxs) (hid : x.id = id0) (ht : TrI x.state st) (id : Int) : TrI (stC C id) (stC (setM C id0 st b) id) := by
  have hs : ∀ y ∈ C.idxs, y.state ≠ 0 := fun y hy => by have := st_in h hy; omega
  have hnd : (C.idxs.map (·.id)).Nodup := h.iid.1.imp (fun q => by omega)
  by_cases he : id = id0
  · subst he
    have e1 : stC (setM C id st b) id = st := set_this C.idxs hnd hs ⟨x, hx, hid⟩
    have e2 : stC C id = x.state := by
      unfold stC
      cases hq : C.idxs.find? (fun t => decide (t.id = id)) with
      | none => have := List.find?_eq_none.1 hq x hx; simp [hid] at this
      | some y =>
        have h1 := List.mem_of_find?_eq_some hq
        have h2 : y.id = id := by simpa using List.find?_some hq
        obtain ⟨i, hi⟩ := List.getElem?_of_mem hx
        obtain ⟨j, hj⟩ := List.getElem?_of_mem h1
        obtain ⟨hil, hiv⟩ := List.getElem?_eq_some_iff.1 hi
        obtain ⟨hjl, hjv⟩ := List.getElem?_eq_some_iff.1 hj
        have hp := List.pairwise_iff_getElem.1 h.iid.1
        have a1 : (C.idxs.map (·.id))[i]'(by simpa using hil) = id := by rw [List.getElem_map, hiv, hid]
        have a2 : (C.idxs.map (·.id))[j]'(by simpa using hjl) = id := by rw [List.getElem_map, hjv, h2]
        rcases Nat.lt_trichotomy i j with q | q | q
        · have := hp i j (by simpa using hil) (by simpa using hjl) q; omega
        · subst q; show y.state = x.state; rw [← hiv, ← hjv]
        · have := hp j i (by simpa using hjl) (by simpa using hil) q; omega
    rw [e1, e2]; exact ht
  · have e1 : stC (setM C id0 st b) id = stC C id := by
      unfold stC; rw [show (setM C id0 st b).idxs = setL id0 st b C.idxs from rfl, set_other he _ hs]
    rw [e1]; exact sd_refl h id
theorem tr_next {z : Int} (h1 : 1 ≤ z) (h2 : z ≤ 7) : TrI z (nextI z) := by
  have : z = 1 ∨ z = 2 ∨ z = 3 ∨ z = 4 ∨ z = 5 ∨ z = 6 ∨ z = 7 := by omega
  rcases this with rfl | rfl | rfl | rfl | rfl | rfl | rfl <;> unfold TrI <;> decide
theorem sd_table {C : Cat} (h : CatOk C) (t : Tab) : SdOk C (addTableM C t).1 := by
  refine ⟨(addTableM_ok h t).1, ?_, fun id => ?_⟩
  · unfold addTableM
    split
    · exact .inl rfl
    · split
      · exact .inl rfl
      · split
        · exact .inl rfl
        · exact .inr rfl
  · have e : stC (addTableM C t).1 id = stC C id := by
      unfold addTableM
      split
      · rfl
      · split
        · rfl
        · split <;> rfl
    rw [e]; exact sd_refl h id
theorem sd_index {C : Cat} (h : CatOk C) (x : Idx) (s : List UInt8) : SdOk C (addIndexM C x s).1 := by
  refine ⟨(addIndexM_ok h x s).1, ?_, fun id => ?_⟩
  · unfold addIndexM
    split
    · exact .inl rfl
    · split
      · exact .inl rfl
      · split
        · exact .inl rfl
        · split
          · exact .inl rfl
          · exact .inr rfl
  · unfold addIndexM
    split
    · exact sd_refl h id
    · rename_i t _
      split
      · exact sd_refl h id
      · split
        · exact sd_refl h id
        · split
          · exact sd_refl h id
          · show TrI (stC C id) (stC (addIdx C t.id x) id)
            have hf : ∀ y ∈ C.idxs, y.id < C.nxt := fun y hy => (h.iid.2 y.id (List.mem_map_of_mem hy)).2
            by_cases he : id = C.nxt
            · subst he
              have e0 : C.idxs.find? (fun t => decide (t.id = C.nxt)) = none := List.find?_eq_none.2 (fun y hy => by have := hf y hy; simp; omega)
              have e1 : stC C C.nxt = 0 := by unfold stC; rw [e0]; rfl
              have e2 : stC (addIdx C t.id x) C.nxt = 1 := by
                unfold stC
                show ((C.idxs ++ [_]).find? _).elim 0 Idx.state = 1
                rw [List.find?_append, e0]
                simp
              rw [e1, e2]; unfold TrI; decide
            · have e2 : stC (addIdx C t.id x) id = stC C id := by
                unfold stC
                show ((C.idxs ++ [_]).find? _).elim 0 Idx.state = _
                rw [List.find?_append]
                cases hq : C.idxs.find? (fun t => decide (t.id = id)) with
                | none =>
                  rw [Option.none_or, List.find?_cons, decide_eq_false (show ¬ C.nxt = id from fun e => he e.symm)]
                  rfl
                | some y => rfl
              rw [e2]; exact sd_refl h id
theorem sd_drop {C : Cat} (h : CatOk C) (s : List UInt8) : SdOk C (dropM C s).1 := by
  refine ⟨(dropM_ok h s).1, ?_, fun id => ?_⟩
  · unfold dropM
    split
    · exact .inl rfl
    · split
      · exact .inl rfl
      · exact .inr rfl
  · unfold dropM
    split
    · exact sd_refl h id
    · rename_i x hx
      split
      · exact sd_refl h id
      · rename_i h4
        have hm := List.mem_of_find?_eq_some hx
        have h5 := st_in h hm
        refine sd_set h hm rfl ?_ id
        have : x.state = 1 ∨ x.state = 2 ∨ x.state = 3 ∨ x.state = 4 := by omega
        rcases this with e | e | e | e <;> rw [e] <;> unfold TrI <;> decide
theorem sd_step {C : Cat} (h : CatOk C) (id0 fr st : Int) (b : Bool) : SdOk C (stepM C id0 fr st b).1 := by
  refine ⟨(stepM_ok h id0 fr st b).1, ?_, fun id => ?_⟩
  · unfold stepM
    split
    · exact .inl rfl
    · split
      · exact .inl rfl
      · exact .inr rfl
  · unfold stepM
    split
    · exact sd_refl h id
    · rename_i x hx
      split
      · exact sd_refl h id
      · rename_i h4
        have hm := List.mem_of_find?_eq_some hx
        have hid : x.id = id0 := by simpa using List.find?_some hx
        have h5 := st_in h hm
        refine sd_set h hm hid ?_ id
        unfold stepBad at h4
        simp only [Bool.or_eq_true, Bool.and_eq_true, bne_iff_ne, beq_iff_eq, Bool.not_eq_true', ne_eq, not_or, not_and, Decidable.not_not] at h4
        obtain ⟨h6, h7⟩ := h4
        by_cases hb : ((b && (fr == 3)) && (st == 6)) = true
        · simp only [Bool.and_eq_true, beq_iff_eq] at hb
          rw [h6, hb.1.2, hb.2]; unfold TrI; decide
        · have h8 := h7 (by simpa using hb)
          have : st = nextI x.state := by
            rcases h8 with h8 | h8 <;> simp_all
          rw [this]; exact tr_next h5.1 h5.2
end Go.Proofs.Ytafcbelkhhjcoaa
