/-
  PAGES: the mathematics of spans: where they begin and end on pages, what is between.
-/
import Derived.Test.YtcgnghkjkdkmmaaGs
set_option linter.unusedVariables false
namespace Go.Proofs.Ytcgnghkjkdkmmaa

variable {α : Type}

def idx (ML : List (List α)) (p i : Nat) : Nat := (ML.take p).flatten.length + i

theorem take_idx (ML : List (List α)) (p i : Nat) (h : i ≤ (pgAt ML p).length) : ML.flatten.take (idx ML p i) = (ML.take p).flatten ++ (pgAt ML p).take i := by
  unfold idx
  rw [flat_at ML p, List.append_assoc, List.take_append, List.take_of_length_le (Nat.le_add_right _ _), Nat.add_sub_cancel_left, List.take_append_of_le_length h]

theorem drop_idx (ML : List (List α)) (p i : Nat) (h : i ≤ (pgAt ML p).length) : ML.flatten.drop (idx ML p i) = (pgAt ML p).drop i ++ (ML.drop (p + 1)).flatten := by
  unfold idx
  rw [flat_at ML p, List.append_assoc, List.drop_append, List.drop_of_length_le (Nat.le_add_right _ _), Nat.add_sub_cancel_left, List.nil_append, List.drop_append_of_le_length h]

/-- The pages between two spots. -/
def betw (ML : List (List α)) (p i p' i' : Nat) : List (List α) :=
  if p = p' then [((pgAt ML p).take i').drop i] else (pgAt ML p).drop i :: ((ML.take p').drop (p + 1)) ++ [(pgAt ML p').take i']

theorem pgAt_take (ML : List (List α)) {p p' : Nat} (h : p < p') : pgAt (ML.take p') p = pgAt ML p := by
  unfold pgAt; rw [List.getElem?_take, if_pos h]

theorem betw_flat (ML : List (List α)) (p i p' i' : Nat) (hp : p ≤ p') (he : p = p' → i ≤ i') (hi : i ≤ (pgAt ML p).length) (hi' : i' ≤ (pgAt ML p').length) :
    (betw ML p i p' i').flatten = (ML.flatten.take (idx ML p' i')).drop (idx ML p i) := by
  rw [take_idx ML p' i' hi']
  unfold betw
  by_cases h : p = p'
  · subst h
    rw [if_pos rfl]
    unfold idx
    rw [List.drop_append, List.drop_of_length_le (Nat.le_add_right _ _), Nat.add_sub_cancel_left]
    simp
  · rw [if_neg h]
    have hlt : p < p' := by omega
    have e := flat_at (ML.take p') p
    rw [pgAt_take ML hlt, List.take_take, Nat.min_eq_left hp] at e
    rw [e]
    unfold idx
    rw [List.append_assoc, List.append_assoc, List.drop_append, List.drop_of_length_le (Nat.le_add_right _ _), Nat.add_sub_cancel_left, List.nil_append, List.drop_append_of_le_length hi]
    simp

theorem idx_le {ML : List (List α)} {p i p' i' : Nat} (h : idx ML p i ≤ idx ML p' i') (hh : p' < ML.length → i' < (pgAt ML p').length) (hl : p ≤ ML.length) : p ≤ p' := by
  rcases Nat.lt_or_ge p' p with h1 | h1
  · exfalso
    have h2 := hh (by omega)
    have e := take_at ML p'
    have e2 : (ML.take (p' + 1)).flatten.length ≤ (ML.take p).flatten.length := by
      have : ML.take p = ML.take (p' + 1) ++ (ML.take p).drop (p' + 1) := by
        have e3 : (ML.take p).take (p' + 1) = ML.take (p' + 1) := by rw [List.take_take, Nat.min_eq_left (by omega)]
        rw [← e3, List.take_append_drop]
      rw [this, List.flatten_append, List.length_append]
      omega
    rw [e, List.length_append] at e2
    unfold idx at h
    omega
  · exact h1

theorem part_filter (P : α → Bool) (L : List α) (a b : Nat) (hab : a ≤ b) (h1 : ∀ x ∈ L.take a, P x = false) (h2 : ∀ x ∈ (L.take b).drop a, P x = true) (h3 : ∀ x ∈ L.drop b, P x = false) :
    L.filter P = (L.take b).drop a ∧ L.filter (fun x => !P x) = L.take a ++ L.drop b := by
  have e : L = L.take a ++ ((L.take b).drop a ++ L.drop b) := by
    have : L.take a = (L.take b).take a := by rw [List.take_take, Nat.min_eq_left hab]
    rw [this, ← List.append_assoc, List.take_append_drop, List.take_append_drop]
  constructor
  · conv => lhs; rw [e]
    rw [List.filter_append, List.filter_append, List.filter_eq_nil_iff.2 (fun x hx => by simp [h1 x hx]), List.filter_eq_self.2 h2, List.filter_eq_nil_iff.2 (fun x hx => by simp [h3 x hx])]
    simp
  · conv => lhs; rw [e]
    rw [List.filter_append, List.filter_append, List.filter_eq_self.2 (fun x hx => by simp [h1 x hx]), List.filter_eq_nil_iff.2 (fun x hx => by simp [h2 x hx]), List.filter_eq_self.2 (fun x hx => by simp [h3 x hx])]
    simp

/-- Where a span begins and ends. -/
structure PartOk (ML : List (List Lp)) (f t : List UInt8) (p i p' i' : Nat) : Prop where
  le : p ≤ p'
  le' : p' ≤ ML.length
  here : p < ML.length → i < (pgAt ML p).length
  none : p = ML.length → i = 0
  here' : p' < ML.length → i' < (pgAt ML p').length
  none' : p' = ML.length → i' = 0
  same : p = p' → i ≤ i'
  mid : ML.flatten.filter (fun m => inSpan f t m.key) = (ML.flatten.take (idx ML p' i')).drop (idx ML p i)
  out : ML.flatten.filter (fun m => !inSpan f t m.key) = ML.flatten.take (idx ML p i) ++ ML.flatten.drop (idx ML p' i')

theorem bound_of {ML : List (List Lp)} {p i : Nat} (hle : p ≤ ML.length) (hh : p < ML.length → i < (pgAt ML p).length) (hn : p = ML.length → i = 0) : i ≤ (pgAt ML p).length := by
  rcases Nat.lt_or_ge p ML.length with h | h
  · exact Nat.le_of_lt (hh h)
  · have : p = ML.length := by omega
    rw [hn this]; exact Nat.zero_le _

theorem SpotOk.bound {ML : List (List Lp)} {key : List UInt8} {p i : Nat} (h : SpotOk ML key p i) : i ≤ (pgAt ML p).length := bound_of h.le h.here h.none
theorem SpotOk.lowT {ML : List (List Lp)} {key : List UInt8} {p i : Nat} (h : SpotOk ML key p i) : ∀ x ∈ ML.flatten.take (idx ML p i), lt x.key key := by rw [take_idx ML p i h.bound]; exact h.low
theorem SpotOk.highD {ML : List (List Lp)} {key : List UInt8} {p i : Nat} (h : SpotOk ML key p i) : ∀ x ∈ ML.flatten.drop (idx ML p i), ¬ lt x.key key := by rw [drop_idx ML p i h.bound]; exact h.high

theorem idx_end (ML : List (List α)) : idx ML ML.length 0 = ML.flatten.length := by unfold idx; rw [List.take_length]; rfl

theorem span_of (f t k : List UInt8) : inSpan f t k = true ↔ ¬ lt k f ∧ (t = [] ∨ lt k t) := by
  unfold inSpan
  rw [Bool.and_eq_true, Bool.or_eq_true, Bool.not_eq_true', less_lt, lt_less]
  simp

theorem span_not (f t k : List UInt8) : inSpan f t k = false ↔ lt k f ∨ (t ≠ [] ∧ ¬ lt k t) := by
  have := span_of f t k
  rcases Classical.em (inSpan f t k = true) with h | h
  · rw [h]
    have := this.1 h
    constructor
    · intro e; cases e
    · rintro (e | ⟨e1, e2⟩)
      · exact (this.1 e).elim
      · rcases this.2 with e | e
        · exact (e1 e).elim
        · exact (e2 e).elim
  · have h' : inSpan f t k = false := by simpa using h
    rw [h']
    simp only [true_iff]
    rcases Classical.em (lt k f) with e | e
    · exact .inl e
    · refine .inr ⟨fun e2 => h (this.2 ⟨e, .inl e2⟩), fun e2 => h (this.2 ⟨e, .inr e2⟩)⟩

theorem idx_bound {ML : List (List Lp)} {p i : Nat} (h : i ≤ (pgAt ML p).length) : idx ML p i ≤ ML.flatten.length := by
  unfold idx
  conv => rhs; rw [flat_at ML p]
  simp only [List.length_append]
  omega

/-- The span goes to the end. -/
theorem part_end {ML : List (List Lp)} {f : List UInt8} {p i : Nat} (h : SpotOk ML f p i) : PartOk ML f [] p i ML.length 0 := by
  have hb := idx_bound (ML := ML) h.bound
  have hp := part_filter (fun m : Lp => inSpan f [] m.key) ML.flatten (idx ML p i) (idx ML ML.length 0) (by rw [idx_end]; exact hb)
    (fun x hx => (span_not _ _ _).2 (.inl (h.lowT x hx)))
    (fun x hx => (span_of _ _ _).2 ⟨h.highD x (by rw [idx_end, List.take_length] at hx; exact hx), .inl rfl⟩)
    (fun x hx => by rw [idx_end, List.drop_length] at hx; cases hx)
  refine ⟨h.le, Nat.le_refl _, h.here, h.none, fun h => by omega, fun _ => rfl, fun e => by rw [h.none e]; omega, hp.1, hp.2⟩

/-- The end is ahead of the beginning: there is nothing. -/
theorem part_none {ML : List (List Lp)} {f t : List UInt8} {p i : Nat} (h : SpotOk ML f p i) (hlt : lt t f) (hne : t ≠ []) : PartOk ML f t p i p i := by
  have hp := part_filter (fun m : Lp => inSpan f t m.key) ML.flatten (idx ML p i) (idx ML p i) (Nat.le_refl _)
    (fun x hx => (span_not _ _ _).2 (.inl (h.lowT x hx)))
    (fun x hx => by rw [List.drop_of_length_le (List.length_take_le _ _)] at hx; cases hx)
    (fun x hx => (span_not _ _ _).2 (.inr ⟨hne, fun e => h.highD x hx (lt_trans e hlt)⟩))
  exact ⟨Nat.le_refl _, h.le, h.here, h.none, h.here, h.none, fun _ => Nat.le_refl _, hp.1, hp.2⟩

/-- The end is not ahead of the beginning. -/
theorem part_both {ML : List (List Lp)} {f t : List UInt8} {p i p' i' : Nat} (h : SpotOk ML f p i) (h' : SpotOk ML t p' i') (hge : ¬ lt t f) (hne : t ≠ []) : PartOk ML f t p i p' i' := by
  have hii : idx ML p i ≤ idx ML p' i' := by
    rcases Nat.lt_or_ge (idx ML p' i') (idx ML p i) with hlt | hge2
    · exfalso
      have hb := idx_bound (ML := ML) h.bound
      have hx : ML.flatten[idx ML p' i']? = some (ML.flatten[idx ML p' i']'(by omega)) := List.getElem?_eq_getElem (by omega)
      generalize ML.flatten[idx ML p' i']'(by omega) = x at hx
      have h1 : x ∈ ML.flatten.take (idx ML p i) := List.mem_iff_getElem?.2 ⟨idx ML p' i', by rw [List.getElem?_take, if_pos hlt]; exact hx⟩
      have h2 : x ∈ ML.flatten.drop (idx ML p' i') := List.mem_iff_getElem?.2 ⟨0, by rw [List.getElem?_drop]; exact hx⟩
      exact h'.highD x h2 (lt_of_not (h.lowT x h1) hge)
    · exact hge2
  have hp := part_filter (fun m : Lp => inSpan f t m.key) ML.flatten (idx ML p i) (idx ML p' i') hii
    (fun x hx => (span_not _ _ _).2 (.inl (h.lowT x hx)))
    (fun x hx => (span_of _ _ _).2 ⟨h.highD x (by
      rw [List.drop_take] at hx; exact List.mem_of_mem_take hx), .inr (h'.lowT x (List.mem_of_mem_drop hx))⟩)
    (fun x hx => (span_not _ _ _).2 (.inr ⟨hne, h'.highD x hx⟩))
  refine ⟨idx_le hii h'.here h.le, h'.le, h.here, h.none, h'.here, h'.none, fun e => ?_, hp.1, hp.2⟩
  subst e
  unfold idx at hii
  omega
end Go.Proofs.Ytcgnghkjkdkmmaa
