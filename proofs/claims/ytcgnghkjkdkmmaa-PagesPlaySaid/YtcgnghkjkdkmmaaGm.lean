/-
  PAGES: the mathematics: lists on pages; what a change of them makes.
-/
import Derived.Test.YtcgnghkjkdkmmaaGa
set_option linter.unusedVariables false
namespace Go.Proofs.Ytcgnghkjkdkmmaa

variable {α : Type}

/-- Page number p, or none. -/
def pgAt (G : List (List α)) (p : Nat) : List α := (G[p]?).getD []

theorem pgAt_lt {G : List (List α)} {p : Nat} {g : List α} (h : G[p]? = some g) : pgAt G p = g := by unfold pgAt; rw [h]; rfl
theorem pgAt_ge {G : List (List α)} {p : Nat} (h : G.length ≤ p) : pgAt G p = [] := by unfold pgAt; rw [List.getElem?_eq_none h]; rfl

theorem flat_at (G : List (List α)) (p : Nat) : G.flatten = (G.take p).flatten ++ pgAt G p ++ (G.drop (p + 1)).flatten := by
  by_cases h : p < G.length
  · have e := List.getElem?_eq_getElem h
    rw [pgAt_lt e]
    have : G = G.take p ++ G[p] :: G.drop (p + 1) := by rw [← List.drop_eq_getElem_cons h, List.take_append_drop]
    conv => lhs; rw [this]
    rw [List.flatten_append, List.flatten_cons, List.append_assoc]
  · rw [pgAt_ge (by omega), List.take_of_length_le (by omega), List.drop_of_length_le (by omega)]
    simp

def laidL (l : List α) : List (List α) := if l.length = 0 then [] else if l.length ≤ 8 then [l] else [l.take (l.length / 2), l.drop (l.length / 2)]

theorem laid_flat (l : List α) : (laidL l).flatten = l := by
  unfold laidL
  split
  · rename_i h; rw [List.eq_nil_of_length_eq_zero h]; rfl
  · split <;> simp

def headL (G : List (List α)) (p i p' i' : Nat) (wth : List α) : List α := (pgAt G p).take i ++ wth ++ (pgAt G p').drop i'

def changeL (G : List (List α)) (p i p' i' : Nat) (wth : List α) : List (List α) :=
  if 4 ≤ (headL G p i p' i' wth).length then G.take p ++ laidL (headL G p i p' i' wth) ++ G.drop (min (p' + 1) G.length)
  else if 0 < p then G.take (p - 1) ++ laidL (pgAt G (p - 1) ++ headL G p i p' i' wth) ++ G.drop (min (p' + 1) G.length)
  else if min (p' + 1) G.length < G.length then G.take p ++ laidL (headL G p i p' i' wth ++ pgAt G (min (p' + 1) G.length)) ++ G.drop (min (p' + 1) G.length + 1)
  else G.take p ++ laidL (headL G p i p' i' wth) ++ G.drop (min (p' + 1) G.length)

theorem drop_min (G : List (List α)) (n : Nat) : G.drop (min n G.length) = G.drop n := by
  by_cases h : n ≤ G.length
  · rw [Nat.min_eq_left h]
  · rw [Nat.min_eq_right (by omega), List.drop_of_length_le (Nat.le_refl _), List.drop_of_length_le (by omega)]

theorem drop_at (G : List (List α)) (p : Nat) : (G.drop p).flatten = pgAt G p ++ (G.drop (p + 1)).flatten := by
  by_cases h : p < G.length
  · have e := List.getElem?_eq_getElem h
    rw [pgAt_lt e, List.drop_eq_getElem_cons h, List.flatten_cons]
  · rw [pgAt_ge (by omega), List.drop_of_length_le (by omega), List.drop_of_length_le (by omega)]
    simp

theorem take_at (G : List (List α)) (p : Nat) : (G.take (p + 1)).flatten = (G.take p).flatten ++ pgAt G p := by
  by_cases h : p < G.length
  · have e := List.getElem?_eq_getElem h
    rw [pgAt_lt e, List.take_add_one, e, List.flatten_append]
    show _ ++ [G[p]].flatten = _
    rw [List.flatten_cons, List.flatten_nil, List.append_nil]
  · rw [pgAt_ge (by omega), List.take_of_length_le (by omega), List.take_of_length_le (by omega)]
    simp

theorem change_flat (G : List (List α)) (p i p' i' : Nat) (wth : List α) :
    (changeL G p i p' i' wth).flatten = (G.take p).flatten ++ headL G p i p' i' wth ++ (G.drop (p' + 1)).flatten := by
  unfold changeL
  split
  · simp [laid_flat, drop_min]
  · split
    · rename_i h
      have e := take_at G (p - 1)
      rw [show p - 1 + 1 = p by omega] at e
      simp [laid_flat, drop_min, e]
    · split
      · rename_i h
        rw [Nat.min_eq_left (by omega)]
        simp [laid_flat, drop_at G (p' + 1)]
      · simp [laid_flat, drop_min]

/-- Pages are as full as they should be. -/
def OkL (G : List (List α)) : Prop := ∀ g ∈ G, 1 ≤ g.length ∧ g.length ≤ 8 ∧ (1 < G.length → 4 ≤ g.length)

theorem laid_ok (l : List α) (h : l.length ≤ 16) : ∀ g ∈ laidL l, 1 ≤ g.length ∧ g.length ≤ 8 ∧ (4 ≤ l.length → 4 ≤ g.length) := by
  intro g hg
  unfold laidL at hg
  split at hg
  · simp at hg
  · split at hg
    · simp at hg; subst hg; omega
    · simp at hg
      rcases hg with rfl | rfl
      · rw [List.length_take]; omega
      · rw [List.length_drop]; omega

theorem laid_one (l : List α) (h : l.length < 4) : (laidL l).length ≤ 1 := by
  unfold laidL
  split
  · simp
  · split
    · simp
    · omega

theorem change_ok (G : List (List α)) (p i p' i' : Nat) (wth : List α) (hG : OkL G) (hp : p ≤ p') (hp' : p' ≤ G.length) (hl : (headL G p i p' i' wth).length ≤ 16) (hend : p = G.length → (headL G p i p' i' wth).length < 4) : OkL (changeL G p i p' i' wth) := by
  have sub : ∀ {a b : Nat} {L : List (List α)}, (∀ g ∈ L, 1 ≤ g.length ∧ g.length ≤ 8 ∧ 4 ≤ g.length) → (1 < G.length ∨ (G.take a = [] ∧ G.drop b = [])) → OkL (G.take a ++ L ++ G.drop b) := by
    intro a b L h1 h2 g hg
    rw [List.mem_append, List.mem_append] at hg
    rcases hg with (h | h) | h
    · rcases h2 with h2 | h2
      · have := hG g (List.mem_of_mem_take h); exact ⟨this.1, this.2.1, fun _ => this.2.2 h2⟩
      · rw [h2.1] at h; cases h
    · have := h1 g h; exact ⟨this.1, this.2.1, fun _ => this.2.2⟩
    · rcases h2 with h2 | h2
      · have := hG g (List.mem_of_mem_drop h); exact ⟨this.1, this.2.1, fun _ => this.2.2 h2⟩
      · rw [h2.2] at h; cases h
  have page : ∀ q, q < G.length → 1 ≤ (pgAt G q).length ∧ (pgAt G q).length ≤ 8 ∧ (1 < G.length → 4 ≤ (pgAt G q).length) := fun q hq => by
    rw [pgAt_lt (List.getElem?_eq_getElem hq)]
    exact hG _ (List.getElem_mem hq)
  unfold changeL
  split
  · rename_i h4
    refine sub (fun g hg => ?_) ?_
    · have := laid_ok _ hl g hg; exact ⟨this.1, this.2.1, this.2.2 h4⟩
    · by_cases h1 : 1 < G.length
      · exact .inl h1
      · refine .inr ⟨?_, ?_⟩
        · have : p ≠ G.length := fun e => by have := hend e; omega
          rw [show p = 0 by omega]; rfl
        · exact List.drop_of_length_le (by omega)
  · rename_i h4
    split
    · rename_i h0
      have hpl := page (p - 1) (by omega)
      by_cases h1 : 1 < G.length
      · refine sub (fun g hg => ?_) (.inl h1)
        have hlen : (pgAt G (p - 1) ++ headL G p i p' i' wth).length ≤ 16 := by rw [List.length_append]; omega
        have := laid_ok _ hlen g hg
        exact ⟨this.1, this.2.1, this.2.2 (by rw [List.length_append]; have := hpl.2.2 h1; omega)⟩
      · have hp1 : p = 1 := by omega
        have hz : G.take (p - 1) = [] := by rw [hp1]; rfl
        have hd : G.drop (min (p' + 1) G.length) = [] := List.drop_of_length_le (by omega)
        rw [hz, hd, List.nil_append, List.append_nil]
        intro g hg
        have hlen : (pgAt G (p - 1) ++ headL G p i p' i' wth).length ≤ 16 := by rw [List.length_append]; omega
        have := laid_ok _ hlen g hg
        refine ⟨this.1, this.2.1, fun h => this.2.2 ?_⟩
        rcases Nat.lt_or_ge (pgAt G (p - 1) ++ headL G p i p' i' wth).length 4 with hq | hq
        · have := laid_one _ hq; omega
        · exact hq
    · split
      · rename_i h0 he
        have hpl := page (min (p' + 1) G.length) he
        refine sub (fun g hg => ?_) (.inl (by omega))
        have hlen : (headL G p i p' i' wth ++ pgAt G (min (p' + 1) G.length)).length ≤ 16 := by rw [List.length_append]; omega
        have := laid_ok _ hlen g hg
        exact ⟨this.1, this.2.1, this.2.2 (by rw [List.length_append]; have := hpl.2.2 (by omega); omega)⟩
      · rename_i h0 he
        have hz : G.take p = [] := by rw [show p = 0 by omega]; rfl
        have hd : G.drop (min (p' + 1) G.length) = [] := List.drop_of_length_le (by omega)
        rw [hz, hd, List.nil_append, List.append_nil]
        intro g hg
        have := laid_ok _ hl g hg
        have h1 := laid_one (headL G p i p' i' wth) (by omega)
        exact ⟨this.1, this.2.1, fun h => by omega⟩
end Go.Proofs.Ytcgnghkjkdkmmaa
