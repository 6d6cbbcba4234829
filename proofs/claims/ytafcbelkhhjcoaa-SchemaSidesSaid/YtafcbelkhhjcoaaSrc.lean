/-
  LAYER 12: what is right stays right; what is right is not much.
-/
import Derived.Test.YtafcbelkhhjcoaaSra
import Derived.Test.YtafcbelkhhjcoaaSqv
set_option linter.unusedVariables false
set_option linter.unusedSimpArgs false
set_option maxRecDepth 100000
namespace Go.Proofs.Ytafcbelkhhjcoaa
open Go.RowKit Go.Deep

theorem rsB_iff (e : Int) : ∀ (a : Int) (l : List Int), rsB e a l = true ↔ l.Pairwise (· < ·) ∧ ∀ z ∈ l, a < z ∧ z < e
  | a, [] => by simp [rsB]
  | a, n :: r => by
    simp only [rsB, Bool.and_eq_true, Bool.not_eq_true', Bool.or_eq_false_iff, decide_eq_false_iff_not, rsB_iff e n r, List.pairwise_cons, List.mem_cons]
    constructor
    · rintro ⟨⟨h1, h2⟩, h3, h4⟩
      refine ⟨⟨fun z hz => (h4 z hz).1, h3⟩, fun z hz => ?_⟩
      rcases hz with rfl | hz
      · omega
      · have := h4 z hz; omega
    · rintro ⟨⟨h1, h2⟩, h3⟩
      have h4 := h3 n (Or.inl rfl)
      exact ⟨by omega, h2, fun z hz => ⟨h1 z hz, (h3 z (Or.inr hz)).2⟩⟩
theorem unl_iff {α : Type} [BEq α] [LawfulBEq α] : ∀ (p l : List α), unl p l = true ↔ l.Nodup ∧ ∀ x ∈ l, x ∉ p
  | p, [] => by simp [unl]
  | p, v :: r => by
    simp only [unl, Bool.and_eq_true, Bool.not_eq_true', List.contains_eq_mem, decide_eq_false_iff_not, unl_iff (p ++ [v]) r, List.nodup_cons, List.mem_cons, List.mem_append, List.not_mem_nil, or_false, not_or]
    constructor
    · rintro ⟨h1, h2, h3⟩
      refine ⟨⟨fun hv => (h3 v hv).2 rfl, h2⟩, fun x hx => ?_⟩
      rcases hx with rfl | hx
      · exact h1
      · exact (h3 x hx).1
    · rintro ⟨⟨h1, h2⟩, h3⟩
      exact ⟨h3 v (Or.inl rfl), h2, fun x hx => ⟨h3 x (Or.inr hx), fun e => h1 (e ▸ hx)⟩⟩

structure CatOk (C : Cat) : Prop where
  ver : 0 ≤ C.ver
  nxt : 1 ≤ C.nxt ∧ C.nxt ≤ 1073741824
  len : C.tabs.length ≤ 6 ∧ C.idxs.length ≤ 10
  tid : (C.tabs.map (·.id)).Pairwise (· < ·) ∧ ∀ z ∈ C.tabs.map (·.id), 0 < z ∧ z < C.nxt
  iid : (C.idxs.map (·.id)).Pairwise (· < ·) ∧ ∀ z ∈ C.idxs.map (·.id), 0 < z ∧ z < C.nxt
  all : (C.tabs.map (·.id) ++ C.idxs.map (·.id)).Nodup
  tnm : (C.tabs.map (·.name)).Nodup
  inm : (C.idxs.map (·.name)).Nodup
  tab : ∀ t ∈ C.tabs, tabB t = true
  idx : ∀ x ∈ C.idxs, idxF C x = true
theorem catR_iff (C : Cat) : catB C = true ↔ CatOk C := by
  rw [← catF_eq]
  simp only [numsF, idsF, namesF, Bool.and_eq_true, decide_eq_true_eq, rsB_iff, unl_iff, List.all_eq_true, List.not_mem_nil, not_false_eq_true, implies_true, and_true]
  constructor
  · rintro ⟨⟨⟨⟨⟨⟨⟨⟨h1, h2⟩, h3⟩, h4⟩, h5⟩, ⟨h6, h7⟩, h8⟩, h9, h10⟩, h11⟩, h12⟩
    exact ⟨h1, ⟨h2, h3⟩, ⟨h4, h5⟩, h6, h7, h8, h9, h10, h11, h12⟩
  · rintro ⟨h1, ⟨h2, h3⟩, ⟨h4, h5⟩, h6, h7, h8, h9, h10, h11, h12⟩
    exact ⟨⟨⟨⟨⟨⟨⟨⟨h1, h2⟩, h3⟩, h4⟩, h5⟩, ⟨h6, h7⟩, h8⟩, h9, h10⟩, h11⟩, h12⟩

theorem placesB_len {l : List Int} {n : Int} (h : placesB l n = true) : l.length ≤ 6 := by
  unfold placesB at h; simp only [Bool.and_eq_true, decide_eq_true_eq] at h; exact h.2
theorem nameB_len {s : List UInt8} (h : nameB s = true) : s.length ≤ 20 := by
  unfold nameB at h; simp only [Bool.and_eq_true, decide_eq_true_eq] at h; exact h.2
theorem tabB_len {t : Tab} (h : tabB t = true) : t.cols.length ≤ 6 ∧ t.key.length ≤ 6 ∧ t.name.length ≤ 20 ∧ (∀ c ∈ t.cols, c.name.length ≤ 20 ∧ (c.kind = 1 ∨ c.kind = 2)) ∧ ∀ z ∈ t.key, 0 ≤ z ∧ z < t.cols.length := by
  rw [← fitTab_eq] at h
  unfold fitCols at h
  simp only [Bool.and_eq_true, decide_eq_true_eq, List.all_eq_true, colF, Bool.or_eq_true] at h
  exact ⟨h.1.1.2.1.1.2, placesB_len h.1.2, nameB_len h.1.1.1, fun c hc => ⟨nameB_len (h.1.1.2.1.2 c hc).1, (h.1.1.2.1.2 c hc).2⟩, plB_in h.1.2⟩
theorem idxF_open {C : Cat} {x : Idx} (h : idxF C x = true) : ∃ t, byId C.tabs x.table = some t ∧ nameB x.name = true ∧ placesB x.cols t.cols.length = true ∧ 1 ≤ x.state ∧ x.state ≤ 7 := by
  unfold idxF at h
  simp only [Bool.and_eq_true, decide_eq_true_eq] at h
  cases hb : byId C.tabs x.table with
  | none => rw [hb] at h; simp at h
  | some t => rw [hb] at h; simp only [Bool.and_eq_true] at h; exact ⟨t, rfl, h.1.1.1, h.1.1.2, h.1.2, h.2⟩
theorem catR_S {C : Cat} (h : CatOk C) : C.S := by
  refine ⟨by have := h.len.1; omega, by have := h.len.2; omega, fun t ht => ?_, fun x hx => ?_⟩
  · have := tabB_len (h.tab t ht); omega
  · obtain ⟨t, -, -, h2, -⟩ := idxF_open (h.idx x hx); have := placesB_len h2; omega
theorem catR_W {C : Cat} (h : CatOk C) (hv : C.ver ≤ 9223372036854775807) : C.W := by
  have hid : ∀ t ∈ C.tabs, 0 < t.id ∧ t.id < C.nxt := fun t ht => h.tid.2 t.id (List.mem_map_of_mem ht)
  have hn := h.nxt
  refine ⟨⟨by have := h.ver; omega, hv⟩, ⟨by omega, by omega⟩, fun t ht => ?_, fun x hx => ?_, by have := h.len.1; omega, by have := h.len.2; omega⟩
  · obtain ⟨h1, h2, h3, h4, h5⟩ := tabB_len (h.tab t ht)
    have := hid t ht
    refine ⟨⟨by omega, by omega⟩, (show _ ≤ _ by omega), fun c hc => ?_, fun z hz => ?_, by omega, by omega⟩
    · obtain ⟨q1, q2⟩ := h4 c hc
      exact ⟨(show _ ≤ _ by omega), ⟨by omega, by omega⟩⟩
    · have := h5 z hz; exact ⟨by omega, by omega⟩
  · obtain ⟨t, h1, h2, h3, h4, h5⟩ := idxF_open (h.idx x hx)
    have h6 := h.iid.2 x.id (List.mem_map_of_mem hx)
    have h7 : t ∈ C.tabs ∧ t.id = x.table := by
      unfold byId at h1
      exact ⟨List.mem_of_find?_eq_some h1, by simpa using List.find?_some h1⟩
    have h8 := hid t h7.1
    have h9 := tabB_len (h.tab t h7.1)
    refine ⟨⟨by omega, by omega⟩, ⟨by omega, by omega⟩, (show _ ≤ _ by have := nameB_len h2; omega), fun z hz => ?_, ⟨by omega, by omega⟩, by have := placesB_len h3; omega⟩
    have := plB_in h3 z hz
    exact ⟨by omega, by omega⟩

theorem byId_app {l : List Tab} {u : Tab} {z : Int} {t : Tab} (h : byId l z = some t) : byId (l ++ [u]) z = some t := by
  unfold byId at *; rw [List.find?_append, h]; rfl
theorem byId_at {l : List Tab} (h : (l.map (·.id)).Pairwise (· < ·)) {t : Tab} (ht : t ∈ l) : byId l t.id = some t := by
  unfold byId
  induction l with
  | nil => cases ht
  | cons y r ih =>
    rw [List.map_cons, List.pairwise_cons] at h
    rw [List.find?_cons]
    rcases List.mem_cons.1 ht with rfl | hr
    · simp
    · have := h.1 t.id (List.mem_map_of_mem hr)
      rw [show decide (y.id = t.id) = false by simp; omega]
      exact ih h.2 hr
theorem pw_app {l : List Int} {e : Int} (h : l.Pairwise (· < ·) ∧ ∀ z ∈ l, 0 < z ∧ z < e) (he : 0 < e) : (l ++ [e]).Pairwise (· < ·) ∧ ∀ z ∈ l ++ [e], 0 < z ∧ z < e + 1 := by
  refine ⟨List.pairwise_append.2 ⟨h.1, by simp, fun a ha b hb => ?_⟩, fun z hz => ?_⟩
  · simp at hb; subst hb; exact (h.2 a ha).2
  · rcases List.mem_append.1 hz with h1 | h1
    · have := h.2 z h1; omega
    · simp at h1; subst h1; omega
theorem find_no {α : Type} {p : α → Bool} {l : List α} (h : ¬ (l.find? p).isSome = true) : ∀ x ∈ l, p x = false := fun x hx => by
  have h1 : l.find? p = none := by cases hq : l.find? p with | none => rfl | some y => rw [hq] at h; simp at h
  have := List.find?_eq_none.1 h1 x hx
  simpa using this

theorem addTab_R {C : Cat} (h : CatOk C) {t : Tab} (ht : tabB t = true) (hn : ∀ q ∈ C.tabs, q.name ≠ t.name) (hl : C.tabs.length < 6) (hx : C.nxt < 1073741824) : CatOk (addTab C t) := by
  have hnx := h.nxt
  have ht2 : tabB { t with id := C.nxt } = true := ht
  refine ⟨by show 0 ≤ C.ver + 1; have := h.ver; omega, ⟨by show 1 ≤ C.nxt + 1; omega, by show C.nxt + 1 ≤ _; omega⟩, ⟨by show (C.tabs ++ [_]).length ≤ 6; rw [List.length_append]; simp; omega, h.len.2⟩, ?_, ?_, ?_, ?_, h.inm, ?_, ?_⟩
  · have e1 : (addTab C t).tabs.map (·.id) = C.tabs.map (·.id) ++ [C.nxt] := by simp [addTab]
    rw [e1]
    exact pw_app h.tid (by omega)
  · exact ⟨h.iid.1, fun z hz => by have := h.iid.2 z hz; show 0 < z ∧ z < C.nxt + 1; omega⟩
  · have e1 : (addTab C t).tabs.map (·.id) = C.tabs.map (·.id) ++ [C.nxt] := by simp [addTab]
    have e2 : (addTab C t).idxs.map (·.id) = C.idxs.map (·.id) := rfl
    rw [e1, e2, List.append_assoc]
    have hall := List.nodup_append.1 h.all
    refine List.nodup_append.2 ⟨hall.1, ?_, ?_⟩
    · rw [List.singleton_append, List.nodup_cons]
      exact ⟨fun hm => by have := (h.iid.2 _ hm).2; omega, hall.2.1⟩
    · intro a ha b hb
      rw [List.singleton_append] at hb
      rcases List.mem_cons.1 hb with rfl | hb
      · have := (h.tid.2 a ha).2; omega
      · exact hall.2.2 a ha b hb
  · have e1 : (addTab C t).tabs.map (·.name) = C.tabs.map (·.name) ++ [t.name] := by simp [addTab]
    rw [e1]
    refine List.nodup_append.2 ⟨h.tnm, by simp, fun a ha b hb => ?_⟩
    simp at hb
    obtain ⟨q, hq, rfl⟩ := List.mem_map.1 ha
    rw [hb]; exact hn q hq
  · intro q hq
    rcases List.mem_append.1 hq with h1 | h1
    · exact h.tab q h1
    · simp at h1; subst h1; exact ht2
  · intro x hx
    obtain ⟨u, h1, h2, h3, h4, h5⟩ := idxF_open (h.idx x hx)
    have h6 : byId (addTab C t).tabs x.table = some u := byId_app h1
    unfold idxF
    rw [h6]
    simp only [h2, h3, decide_eq_true h4, decide_eq_true h5]; rfl
theorem addIdx_R {C : Cat} (h : CatOk C) {x : Idx} {t : Tab} (ht : t ∈ C.tabs) (hxn : nameB x.name = true) (hxp : placesB x.cols t.cols.length = true) (hn : ∀ q ∈ C.idxs, q.name ≠ x.name) (hl : C.idxs.length < 10) (hx : C.nxt < 1073741824) : CatOk (addIdx C t.id x) := by
  have hnx := h.nxt
  refine ⟨by show 0 ≤ C.ver + 1; have := h.ver; omega, ⟨by show 1 ≤ C.nxt + 1; omega, by show C.nxt + 1 ≤ _; omega⟩, ⟨h.len.1, by show (C.idxs ++ [_]).length ≤ 10; rw [List.length_append]; simp; omega⟩, ?_, ?_, ?_, h.tnm, ?_, h.tab, ?_⟩
  · exact ⟨h.tid.1, fun z hz => by have := h.tid.2 z hz; show 0 < z ∧ z < C.nxt + 1; omega⟩
  · have e1 : (addIdx C t.id x).idxs.map (·.id) = C.idxs.map (·.id) ++ [C.nxt] := by simp [addIdx]
    rw [e1]
    exact pw_app h.iid (by omega)
  · have e1 : (addIdx C t.id x).idxs.map (·.id) = C.idxs.map (·.id) ++ [C.nxt] := by simp [addIdx]
    have e2 : (addIdx C t.id x).tabs.map (·.id) = C.tabs.map (·.id) := rfl
    rw [e1, e2, ← List.append_assoc]
    refine List.nodup_append.2 ⟨h.all, by simp, fun a ha b hb => ?_⟩
    simp at hb
    subst hb
    rcases List.mem_append.1 ha with h1 | h1
    · have := (h.tid.2 a h1).2; omega
    · have := (h.iid.2 a h1).2; omega
  · have e1 : (addIdx C t.id x).idxs.map (·.name) = C.idxs.map (·.name) ++ [x.name] := by simp [addIdx]
    rw [e1]
    refine List.nodup_append.2 ⟨h.inm, by simp, fun a ha b hb => ?_⟩
    simp at hb
    obtain ⟨q, hq, rfl⟩ := List.mem_map.1 ha
    rw [hb]; exact hn q hq
  · intro q hq
    rcases List.mem_append.1 hq with h1 | h1
    · exact h.idx q h1
    · simp at h1; subst h1
      unfold idxF
      rw [show byId (addIdx C t.id x).tabs t.id = some t from byId_at h.tid.1 ht]
      simp only [hxn, hxp]; rfl
theorem movedM_R {C : Cat} (h : CatOk C) {i : Nat} {x : Idx} (hi : C.idxs[i]? = some x) {st : Int} (hst : 0 ≤ st ∧ st ≤ 7) (bad : Bool) : CatOk (movedM C i st bad x) := by
  unfold movedM
  by_cases h0 : st = 0
  · rw [if_pos h0]
    have hs : (C.idxs.take i ++ C.idxs.drop (i + 1)).Sublist C.idxs := by
      have := (List.Sublist.refl (C.idxs.take i)).append (List.drop_sublist_drop_left C.idxs (Nat.le_succ i))
      rwa [List.take_append_drop] at this
    refine ⟨by show 0 ≤ C.ver + 1; have := h.ver; omega, h.nxt, ⟨h.len.1, by show (C.idxs.take i ++ C.idxs.drop (i + 1)).length ≤ 10; have := hs.length_le; have := h.len.2; omega⟩, h.tid, ?_, ?_, h.tnm, ?_, h.tab, ?_⟩
    · exact ⟨h.iid.1.sublist (hs.map _), fun z hz => h.iid.2 z ((hs.map _).subset hz)⟩
    · exact h.all.sublist ((List.Sublist.refl _).append (hs.map _))
    · exact h.inm.sublist (hs.map _)
    · intro q hq; exact h.idx q (hs.subset hq)
  · rw [if_neg h0]
    have hil := (List.getElem?_eq_some_iff.1 hi).1
    have hm : ∀ {β : Type} (f : Idx → β) (y : Idx), f y = f x → (C.idxs.set i y).map f = C.idxs.map f := fun f y hy => by
      rw [List.map_set, hy]
      apply List.ext_getElem?
      intro j
      rw [List.getElem?_set]
      split
      · rename_i e; subst e
        simp [hil, List.getElem?_map, hi]
        have := (List.getElem?_eq_some_iff.1 hi).2
        rw [this]
      · rfl
    refine ⟨by show 0 ≤ C.ver + 1; have := h.ver; omega, h.nxt, ⟨h.len.1, by show (C.idxs.set i _).length ≤ 10; rw [List.length_set]; exact h.len.2⟩, h.tid, ?_, ?_, h.tnm, ?_, h.tab, ?_⟩
    · have e1 := hm (fun y => y.id) { x with state := st, bad := x.bad || bad } rfl
      rw [e1]; exact h.iid
    · have e1 := hm (fun y => y.id) { x with state := st, bad := x.bad || bad } rfl
      rw [e1]; exact h.all
    · have e1 := hm (fun y => y.name) { x with state := st, bad := x.bad || bad } rfl
      rw [e1]; exact h.inm
    · intro q hq
      rcases List.mem_or_eq_of_mem_set hq with h1 | h1
      · exact h.idx q h1
      · subst h1
        obtain ⟨u, h1, h2, h3, h4, h5⟩ := idxF_open (h.idx x (List.mem_of_getElem? hi))
        unfold idxF
        simp only
        rw [h1]
        simp only [h2, h3, decide_eq_true (show 1 ≤ st by omega), decide_eq_true hst.2]; rfl
end Go.Proofs.Ytafcbelkhhjcoaa
