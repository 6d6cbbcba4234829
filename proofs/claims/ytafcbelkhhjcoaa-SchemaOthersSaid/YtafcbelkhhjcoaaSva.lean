/-
  LAYER 12: SchemaOthers' mathematics: what AddTable and Step leave as it was.
-/
import Derived.Test.YtafcbelkhhjcoaaSrd
import Derived.Test.YtafcbelkhhjcoaaSrb
import Derived.Test.YtafcbelkhhjcoaaSqt
set_option linter.unusedVariables false
set_option linter.unusedSimpArgs false
set_option maxRecDepth 100000
namespace Go.Proofs.Ytafcbelkhhjcoaa
open Go.RowKit Go.Deep

/-- What is promised behind each operation may be made narrower. -/
theorem wpAnyH_low2 {P : Program} {md : Region.Mode} {ops : Array Oper} {Q : Exit → Act → World → Prop} {S S' : World → Prop} (h : ∀ V, S' V → S V) : ∀ (fuel : Nat) (listed : Array Bool) (a : Act) (w : World),
    wpAnyH P md ops Q S' fuel listed a w → wpAnyH P md ops Q S fuel listed a w
  | 0, _, _, _, H => H
  | fuel + 1, _, _, _, H => ⟨H.1, fun i hi => wpOp_mono (fun a' w' h' => ⟨h _ h'.1, wpAnyH_low2 h fuel _ _ _ h'.2⟩) (H.2 i hi)⟩

theorem addTable_new {C : Cat} {t : Tab} (h : (addTableM C t).2 = 0) : (addTableM C t).1 = addTab C t ∧ C.tabs.find? (fun q => decide (q.name = t.name)) = none := by
  unfold addTableM at h ⊢
  split at h
  · cases h
  · rename_i h1
    split at h
    · cases h
    · rename_i h2
      split at h
      · cases h
      · rename_i h3
        rw [if_neg h1, if_neg h2, if_neg h3]
        refine ⟨rfl, ?_⟩
        cases hq : C.tabs.find? (fun q => decide (q.name = t.name)) with
        | none => rfl
        | some y => rw [hq] at h2; exact absurd rfl h2
theorem addTab_find {C : Cat} {t : Tab} (h : C.tabs.find? (fun q => decide (q.name = t.name)) = none) : (addTab C t).tabs.find? (fun q => decide (q.name = t.name)) = some { t with id := C.nxt } := by
  show (C.tabs ++ [_]).find? _ = _
  rw [List.find?_append, h]
  simp
theorem addTab_tabs {C : Cat} {t : Tab} : (addTab C t).tabs.take C.tabs.length = C.tabs ∧ (addTab C t).tabs.length = C.tabs.length + 1 ∧ (addTab C t).idxs = C.idxs :=
  ⟨by show (C.tabs ++ [_]).take _ = _; simp, by show (C.tabs ++ [_]).length = _; simp, rfl⟩
theorem stepM_err {C : Cat} {id fr st : Int} {b : Bool} (h : (stepM C id fr st b).2 ≠ 0) : (stepM C id fr st b).1 = C := by
  unfold stepM at h ⊢
  cases hq : C.idxs.find? (fun t => decide (t.id = id)) with
  | none => rfl
  | some x =>
    rw [hq] at h
    simp only at h ⊢
    split
    · rfl
    · rename_i h1; rw [if_neg h1] at h; exact absurd rfl h
theorem stepM_tabs {C : Cat} {id fr st : Int} {b : Bool} : (stepM C id fr st b).1.tabs = C.tabs := by
  unfold stepM
  cases hq : C.idxs.find? (fun t => decide (t.id = id)) with
  | none => rfl
  | some x => simp only; split <;> rfl
theorem name_one {l : List Idx} (h : (l.map (·.name)).Nodup) {x y : Idx} (hx : x ∈ l) (hy : y ∈ l) (he : x.name = y.name) : x = y := by
  induction l with
  | nil => cases hx
  | cons z r ih =>
    rw [List.map_cons, List.nodup_cons] at h
    rcases List.mem_cons.1 hx with e1 | hx2
    · rcases List.mem_cons.1 hy with e2 | hy2
      · rw [e1, e2]
      · exact absurd (by rw [← e1, he]; exact List.mem_map_of_mem hy2) h.1
    · rcases List.mem_cons.1 hy with e2 | hy2
      · exact absurd (by rw [← e2, ← he]; exact List.mem_map_of_mem hx2) h.1
      · exact ih h.2 hx2 hy2
theorem setI_name (id st : Int) (b : Bool) (x : Idx) : (setI id st b x).name = x.name := by unfold setI; split <;> rfl
theorem stepM_find {C : Cat} (hok : CatOk C) {id fr st : Int} {b : Bool} {i : Nat} {x : Idx} (hi : C.idxs[i]? = some x) (hne : x.id ≠ id) : (stepM C id fr st b).1.idxs.find? (fun q => decide (q.name = x.name)) = some x := by
  have hx : x ∈ C.idxs := List.mem_of_getElem? hi
  have hc : C.idxs.find? (fun q => decide (q.name = x.name)) = some x := by
    cases hq : C.idxs.find? (fun q => decide (q.name = x.name)) with
    | none => have := List.find?_eq_none.1 hq x hx; simp at this
    | some y =>
      have h1 := List.mem_of_find?_eq_some hq
      have h2 := List.find?_some hq
      rw [name_one hok.inm h1 hx (by simpa using h2)]
  unfold stepM
  cases hq : C.idxs.find? (fun t => decide (t.id = id)) with
  | none => exact hc
  | some y =>
    simp only
    split
    · exact hc
    · show (setL id st _ C.idxs).find? _ = some x
      have hm : x ∈ setL id st (b || y.bad) C.idxs := by
        unfold setL
        refine List.mem_filter.2 ⟨List.mem_map.2 ⟨x, hx, by unfold setI; rw [if_neg hne]⟩, ?_⟩
        obtain ⟨t, -, -, -, h1, -⟩ := idxF_open (hok.idx x hx)
        simp; omega
      cases hf : (setL id st (b || y.bad) C.idxs).find? (fun q => decide (q.name = x.name)) with
      | none => have := List.find?_eq_none.1 hf x hm; simp at this
      | some z =>
        have h1 := List.mem_of_find?_eq_some hf
        have h2 : z.name = x.name := by simpa using List.find?_some hf
        unfold setL at h1
        obtain ⟨h3, h4⟩ := List.mem_filter.1 h1
        obtain ⟨u, hu, rfl⟩ := List.mem_map.1 h3
        rw [setI_name] at h2
        have := name_one hok.inm hu hx h2
        subst this
        unfold setI; rw [if_neg hne]
/-- Table, of a catalog to which a table came. -/
theorem oth_table {N : Nat → Prop} {w : World} {cs : List Value} {C : Cat} {t : Tab} (h : CatN N w cs (addTab C t)) (hok : CatOk (addTab C t)) (hn : C.tabs.find? (fun q => decide (q.name = t.name)) = none) :
    Calls Try.prog 19 #[.agg cs.toArray, .string ⟨t.name.toArray⟩] w (fun e w' => ∃ a c a' c', e = .returned (.tuple #[.agg #[.int .i64 C.nxt, .string ⟨t.name.toArray⟩, .slice a t.cols.length c, .slice a' t.key.length c'], .bool true]) ∧ Below w.heap.size w w' ∧ TabN (New w w') w' [.int .i64 C.nxt, .string ⟨t.name.toArray⟩, .slice a t.cols.length c, .slice a' t.key.length c'] { t with id := C.nxt }) := by
  refine (schTable_any h (catR_S hok).2.2.1 t.name).mono ?_
  rintro e w' ⟨vs, he, hb, hv⟩
  rw [addTab_find hn] at he hv
  obtain ⟨a, c, a', c', rfl⟩ := tab_form hv
  exact ⟨a, c, a', c', he, hb, hv⟩
/-- Index, by a name, of a catalog that has it. -/
theorem oth_index {N : Nat → Prop} {w : World} {cs : List Value} {C : Cat} {x : Idx} (h : CatN N w cs C) (hok : CatOk C) (hn : C.idxs.find? (fun q => decide (q.name = x.name)) = some x) :
    Calls Try.prog 21 #[.agg cs.toArray, .string ⟨x.name.toArray⟩] w (fun e w' => ∃ a c, e = .returned (.tuple #[.agg #[.int .i64 x.id, .int .i64 x.table, .string ⟨x.name.toArray⟩, .slice a x.cols.length c, .bool x.uniq, .int .i64 x.state, .bool x.bad], .bool true]) ∧ Below w.heap.size w w' ∧ IdxN (New w w') w' [.int .i64 x.id, .int .i64 x.table, .string ⟨x.name.toArray⟩, .slice a x.cols.length c, .bool x.uniq, .int .i64 x.state, .bool x.bad] x) := by
  refine (schIndex_any h (catR_S hok).2.2.2 x.name).mono ?_
  rintro e w' ⟨vs, he, hb, hv⟩
  rw [hn] at he hv
  obtain ⟨a, c, rfl⟩ := idx_form hv
  exact ⟨a, c, he, hb, hv⟩
/-- Index, by any name. -/
theorem oth_any {N : Nat → Prop} {w : World} {cs : List Value} {C : Cat} (h : CatN N w cs C) (hok : CatOk C) (s : List UInt8) :
    Calls Try.prog 21 #[.agg cs.toArray, .string ⟨s.toArray⟩] w (fun e w' => ∃ (y : Idx) (a : Option Addr) (c : Nat) (b : Bool), e = .returned (.tuple #[.agg #[.int .i64 y.id, .int .i64 y.table, .string ⟨y.name.toArray⟩, .slice a y.cols.length c, .bool y.uniq, .int .i64 y.state, .bool y.bad], .bool b]) ∧ Below w.heap.size w w' ∧ IdxN (New w w') w' [.int .i64 y.id, .int .i64 y.table, .string ⟨y.name.toArray⟩, .slice a y.cols.length c, .bool y.uniq, .int .i64 y.state, .bool y.bad] y ∧ (∀ x, C.idxs.find? (fun q => decide (q.name = s)) = some x → y = x ∧ b = true)) := by
  refine (schIndex_any h (catR_S hok).2.2.2 s).mono ?_
  rintro e w' ⟨vs, he, hb, hv⟩
  obtain ⟨a, c, rfl⟩ := idx_form hv
  refine ⟨_, a, c, _, he, hb, hv, fun x hx => ?_⟩
  rw [hx]; exact ⟨rfl, rfl⟩
end Go.Proofs.Ytafcbelkhhjcoaa
