/-
  PAGES: the order of keys; where a key stands on pages.
-/
import GoSem.Op.String
import Derived.Lib.Bytealg
import Derived.Test.YtcgnghkjkdkmmaaGm
set_option linter.unusedVariables false
namespace Go.Proofs.Ytcgnghkjkdkmmaa
open Go.Lib (compareBytes)

/-! ### The order of bytes. -/
theorem cb_self : ∀ x : List UInt8, compareBytes x x = 0
  | [] => rfl
  | c :: x => by unfold compareBytes; simp [cb_self x]

theorem cb_eq : ∀ x y : List UInt8, compareBytes x y = 0 → x = y
  | [], [], _ => rfl
  | [], _ :: _, h => by simp [compareBytes] at h
  | _ :: _, [], h => by simp [compareBytes] at h
  | a :: x, b :: y, h => by
    unfold compareBytes at h
    split at h
    · cases h
    · rename_i h1
      split at h
      · cases h
      · rename_i h2
        have e : a = b := UInt8.le_antisymm (UInt8.not_lt.1 h2) (UInt8.not_lt.1 h1)
        rw [e, cb_eq x y h]

theorem cb_pre (p : List UInt8) (x y : List UInt8) : compareBytes (p ++ x) (p ++ y) = compareBytes x y := by
  induction p with
  | nil => rfl
  | cons c p ih =>
    show (if c < c then -1 else if c < c then 1 else compareBytes (p ++ x) (p ++ y)) = _
    rw [if_neg (UInt8.lt_irrefl c), if_neg (UInt8.lt_irrefl c), ih]

theorem cb_tri : ∀ x y : List UInt8, compareBytes x y = -1 ∨ compareBytes x y = 0 ∨ compareBytes x y = 1
  | [], [] => .inr (.inl rfl)
  | [], _ :: _ => .inl rfl
  | _ :: _, [] => .inr (.inr rfl)
  | a :: x, b :: y => by
    unfold compareBytes
    split
    · exact .inl rfl
    · split
      · exact .inr (.inr rfl)
      · exact cb_tri x y

theorem cb_lt {a b : UInt8} (h : a < b) (x y : List UInt8) : compareBytes (a :: x) (b :: y) = -1 := by
  unfold compareBytes; rw [if_pos h]

theorem cb_gt {a b : UInt8} (h : b < a) (x y : List UInt8) : compareBytes (a :: x) (b :: y) = 1 := by
  unfold compareBytes; rw [if_neg (UInt8.lt_asymm h), if_pos h]

theorem cb_cons (a : UInt8) (x y : List UInt8) : compareBytes (a :: x) (a :: y) = compareBytes x y := cb_pre [a] x y

theorem cb_swap : ∀ x y : List UInt8, compareBytes y x = - compareBytes x y
  | [], [] => rfl
  | [], _ :: _ => rfl
  | _ :: _, [] => rfl
  | a :: x, b :: y => by
    by_cases h : a < b
    · rw [cb_lt h, cb_gt h]; rfl
    · by_cases h2 : b < a
      · rw [cb_lt h2, cb_gt h2]
      · have e : a = b := UInt8.le_antisymm (UInt8.not_lt.1 h2) (UInt8.not_lt.1 h)
        subst e
        rw [cb_cons, cb_cons, cb_swap x y]

/-- '<' on texts. -/
theorem less_eq : ∀ x y : List UInt8, Op.bytesLess x y = decide (compareBytes x y = -1)
  | [], [] => rfl
  | _ :: _, [] => rfl
  | [], _ :: _ => rfl
  | a :: x, b :: y => by
    show (decide (a < b) || (a == b && Op.bytesLess x y)) = _
    by_cases h : a < b
    · rw [cb_lt h]; simp [h]
    · by_cases h2 : b < a
      · rw [cb_gt h2]
        have : ¬ a = b := fun e => h (by rw [e] at h2; exact absurd h2 (UInt8.lt_irrefl b))
        simp [h, this]
      · have e : a = b := UInt8.le_antisymm (UInt8.not_lt.1 h2) (UInt8.not_lt.1 h)
        subst e
        rw [cb_cons, less_eq x y]
        simp [UInt8.lt_irrefl]

theorem beq_eq (x y : List UInt8) : (x == y) = decide (compareBytes x y = 0) := by
  by_cases h : x = y
  · subst h; simp [cb_self]
  · have : ¬ compareBytes x y = 0 := fun e => h (cb_eq x y e)
    simp [h, this]


theorem cb_trans : ∀ x y z : List UInt8, compareBytes x y = -1 → compareBytes y z = -1 → compareBytes x z = -1
  | [], _, [], h, k => by cases h' : ‹List UInt8› <;> simp_all [compareBytes]
  | [], _, _ :: _, _, _ => rfl
  | _ :: _, [], _, h, _ => by simp [compareBytes] at h
  | _ :: _, _ :: _, [], _, k => by simp [compareBytes] at k
  | a :: x, b :: y, c :: z, h, k => by
    by_cases h1 : a < b
    · by_cases h2 : b < c
      · exact cb_lt (UInt8.lt_trans h1 h2) x z
      · by_cases h3 : c < b
        · rw [cb_gt h3] at k; omega
        · have e : b = c := UInt8.le_antisymm (UInt8.not_lt.1 h3) (UInt8.not_lt.1 h2)
          subst e
          exact cb_lt h1 x z
    · by_cases h1' : b < a
      · rw [cb_gt h1'] at h; omega
      · have e : a = b := UInt8.le_antisymm (UInt8.not_lt.1 h1') (UInt8.not_lt.1 h1)
        subst e
        rw [cb_cons] at h
        by_cases h2 : a < c
        · exact cb_lt h2 x z
        · by_cases h3 : c < a
          · rw [cb_gt h3] at k; omega
          · have e : a = c := UInt8.le_antisymm (UInt8.not_lt.1 h3) (UInt8.not_lt.1 h2)
            subst e
            rw [cb_cons] at k ⊢
            exact cb_trans x y z h k

/-- One key is below another. -/
def lt (a b : List UInt8) : Prop := compareBytes a b = -1
theorem lt_less {a b : List UInt8} : Op.bytesLess a b = true ↔ lt a b := by rw [less_eq]; simp [lt]
theorem less_lt {a b : List UInt8} : Op.bytesLess a b = false ↔ ¬ lt a b := by rw [less_eq]; simp [lt]
theorem lt_cmp {a b : List UInt8} : cmpB a b < 0 ↔ lt a b := by
  unfold cmpB lt
  rcases cb_tri a b with h | h | h <;> rw [h] <;> omega
theorem lt_trans {a b c : List UInt8} (h : lt a b) (k : lt b c) : lt a c := cb_trans a b c h k
theorem lt_irrefl (a : List UInt8) : ¬ lt a a := by unfold lt; rw [cb_self]; omega
theorem lt_asymm {a b : List UInt8} (h : lt a b) : ¬ lt b a := fun k => lt_irrefl a (lt_trans h k)
/-- Not below, and not the other way: the same. -/
theorem lt_eq {a b : List UInt8} (h : ¬ lt a b) (k : ¬ lt b a) : a = b := by
  unfold lt at h k
  rcases cb_tri a b with e | e | e
  · exact (h e).elim
  · exact cb_eq a b e
  · rw [cb_swap, e] at k; exact (k rfl).elim
theorem lt_of_not {a b c : List UInt8} (h : lt a b) (k : ¬ lt c b) : lt a c := by
  rcases Classical.em (lt b c) with h2 | h2
  · exact lt_trans h h2
  · rw [lt_eq k h2]; exact h
theorem lt_of_not' {a b c : List UInt8} (h : ¬ lt b a) (k : lt b c) : lt a c := by
  rcases Classical.em (lt a b) with h2 | h2
  · exact lt_trans h2 k
  · rw [lt_eq h2 h]; exact k
theorem cmp0 {a b : List UInt8} : cmpB a b = 0 ↔ a = b := ⟨fun h => cb_eq a b h, fun h => by subst h; exact cb_self a⟩

/-- In order. -/
def Srt (M : List Lp) : Prop := M.Pairwise fun x y => lt x.key y.key

/-- Where a key stands on pages: all ahead are below, all from there on are not. -/
structure SpotOk (ML : List (List Lp)) (key : List UInt8) (p i : Nat) : Prop where
  le : p ≤ ML.length
  low : ∀ x ∈ (ML.take p).flatten ++ (pgAt ML p).take i, lt x.key key
  high : ∀ x ∈ (pgAt ML p).drop i ++ (ML.drop (p + 1)).flatten, ¬ lt x.key key
  here : p < ML.length → i < (pgAt ML p).length
  none : p = ML.length → i = 0

theorem SpotOk.flat {ML : List (List Lp)} {key : List UInt8} {p i : Nat} (h : SpotOk ML key p i) :
    ML.flatten = ((ML.take p).flatten ++ (pgAt ML p).take i) ++ ((pgAt ML p).drop i ++ (ML.drop (p + 1)).flatten) := by
  rw [flat_at ML p]
  simp only [List.append_assoc]
  rw [← List.append_assoc ((pgAt ML p).take i), List.take_append_drop]

theorem Srt.at {M : List Lp} (h : Srt M) {i j : Nat} {x y : Lp} (hi : M[i]? = some x) (hj : M[j]? = some y) (hij : i < j) : lt x.key y.key := by
  obtain ⟨hi', rfl⟩ := List.getElem?_eq_some_iff.1 hi
  obtain ⟨hj', rfl⟩ := List.getElem?_eq_some_iff.1 hj
  exact List.pairwise_iff_getElem.1 h i j hi' hj' hij

theorem Srt.mono {M : List Lp} (h : Srt M) (key : List UInt8) : Mono (M.map fun m => cmpB m.key key) := by
  intro i j c d hij hc hd hlt
  simp only [List.getElem?_map, Option.map_eq_some_iff] at hc hd
  obtain ⟨x, hx, rfl⟩ := hc
  obtain ⟨y, hy, rfl⟩ := hd
  rw [lt_cmp] at hlt ⊢
  rcases Nat.lt_or_ge i j with h1 | h1
  · exact lt_trans (h.at hx hy h1) hlt
  · obtain rfl : i = j := by omega
    rw [hx] at hy; cases hy; exact hlt

/-- Pages in order. -/
theorem srt_pages {ML : List (List Lp)} (h : Srt ML.flatten) : (∀ g ∈ ML, Srt g) ∧ ∀ (i j : Nat) (a b : List Lp), i < j → ML[i]? = some a → ML[j]? = some b → ∀ x ∈ a, ∀ y ∈ b, lt x.key y.key := by
  obtain ⟨h1, h2⟩ := List.pairwise_flatten.1 h
  refine ⟨h1, fun i j a b hij ha hb x hx y hy => ?_⟩
  obtain ⟨hi', rfl⟩ := List.getElem?_eq_some_iff.1 ha
  obtain ⟨hj', rfl⟩ := List.getElem?_eq_some_iff.1 hb
  exact List.pairwise_iff_getElem.1 h2 i j hi' hj' hij x hx y hy

/-- The pairs of pages. -/
def mls (G : List Pg) : List (List Lp) := G.map (·.M)
theorem mls_at {G : List Pg} {p : Nat} {g : Pg} (h : G[p]? = some g) : pgAt (mls G) p = g.M := pgAt_lt (by unfold mls; rw [List.getElem?_map, h]; rfl)
theorem mls_len (G : List Pg) : (mls G).length = G.length := by unfold mls; rw [List.length_map]

/-- All of a page are not behind its last one. -/
theorem last_ge {M : List Lp} (h : Srt M) {l x : Lp} (hl : M[M.length - 1]? = some l) (hx : x ∈ M) : x.key = l.key ∨ lt x.key l.key := by
  obtain ⟨i, hi⟩ := List.mem_iff_getElem?.1 hx
  have hil := (List.getElem?_eq_some_iff.1 hi).1
  rcases Nat.lt_or_ge i (M.length - 1) with h1 | h1
  · exact .inr (h.at hi hl h1)
  · obtain rfl : i = M.length - 1 := by omega
    rw [hl] at hi; cases hi; exact .inl rfl

theorem mono_last {G : List Pg} (hne : ∀ g ∈ G, g.M ≠ []) (h : Srt (mls G).flatten) (key : List UInt8) : Mono (G.map fun g => cmpB (lastK g) key) := by
  intro i j c d hij hc hd hlt
  simp only [List.getElem?_map, Option.map_eq_some_iff] at hc hd
  obtain ⟨x, hx, rfl⟩ := hc
  obtain ⟨y, hy, rfl⟩ := hd
  rw [lt_cmp] at hlt ⊢
  rcases Nat.lt_or_ge i j with h1 | h1
  · obtain ⟨lx, hlx⟩ := last_is (hne x (List.mem_of_getElem? hx))
    obtain ⟨ly, hly⟩ := last_is (hne y (List.mem_of_getElem? hy))
    rw [lastK_eq hly] at hlt
    rw [lastK_eq hlx]
    have := (srt_pages h).2 i j x.M y.M h1 (by unfold mls; rw [List.getElem?_map, hx]; rfl) (by unfold mls; rw [List.getElem?_map, hy]; rfl) lx (List.mem_of_getElem? hlx) ly (List.mem_of_getElem? hly)
    exact lt_trans this hlt
  · obtain rfl : i = j := by omega
    rw [hx] at hy; cases hy; exact hlt

theorem mem_take {α : Type} {L : List α} {n : Nat} {x : α} (h : x ∈ L.take n) : ∃ i, i < n ∧ L[i]? = some x := by
  obtain ⟨i, hi⟩ := List.mem_iff_getElem?.1 h
  rw [List.getElem?_take] at hi
  split at hi
  · exact ⟨i, by assumption, hi⟩
  · cases hi
theorem mem_drop {α : Type} {L : List α} {n : Nat} {x : α} (h : x ∈ L.drop n) : ∃ i, n ≤ i ∧ L[i]? = some x := by
  obtain ⟨i, hi⟩ := List.mem_iff_getElem?.1 h
  rw [List.getElem?_drop] at hi
  exact ⟨n + i, by omega, hi⟩

/-- All ahead of the page found are below. -/
theorem pages_low {G : List Pg} (hne : ∀ g ∈ G, g.M ≠ []) (h : Srt (mls G).flatten) {key : List UInt8} {k : Nat} (hk : Srch (G.map fun g => cmpB (lastK g) key) k) : ∀ x ∈ ((mls G).take k).flatten, lt x.key key := by
  intro x hx
  obtain ⟨a, ha, hxa⟩ := List.mem_flatten.1 hx
  obtain ⟨i, hi, hia⟩ := mem_take ha
  unfold mls at hia
  simp only [List.getElem?_map, Option.map_eq_some_iff] at hia
  obtain ⟨g, hg, rfl⟩ := hia
  have := hk.2.1 i _ hi (by rw [List.getElem?_map, hg]; rfl)
  rw [lt_cmp] at this
  obtain ⟨l, hl⟩ := last_is (hne g (List.mem_of_getElem? hg))
  rw [lastK_eq hl] at this
  rcases last_ge ((srt_pages h).1 g.M (List.mem_of_getElem? (by unfold mls; rw [List.getElem?_map, hg]; rfl))) hl hxa with e | e
  · rw [e]; exact this
  · exact lt_trans e this

theorem spot_end {G : List Pg} (hne : ∀ g ∈ G, g.M ≠ []) (h : Srt (mls G).flatten) {key : List UInt8} (hk : Srch (G.map fun g => cmpB (lastK g) key) G.length) : SpotOk (mls G) key G.length 0 := by
  refine ⟨by rw [mls_len]; omega, ?_, ?_, ?_, fun _ => rfl⟩
  · intro x hx
    rw [List.take_zero, List.append_nil] at hx
    exact pages_low hne h hk x hx
  · intro x hx
    rw [pgAt_ge (by rw [mls_len]; omega), List.drop_of_length_le (l := mls G) (by rw [mls_len]; omega)] at hx
    simp at hx
  · intro hlt; rw [mls_len] at hlt; omega

theorem spot_on {G : List Pg} (hne : ∀ g ∈ G, g.M ≠ []) (h : Srt (mls G).flatten) {key : List UInt8} {k i : Nat} {g : Pg} (hg : G[k]? = some g) (hk : Srch (G.map fun g => cmpB (lastK g) key) k) (hi : Srch (g.M.map fun m => cmpB m.key key) i) : SpotOk (mls G) key k i := by
  have hkl := (List.getElem?_eq_some_iff.1 hg).1
  have hgm : (mls G)[k]? = some g.M := by unfold mls; rw [List.getElem?_map, hg]; rfl
  obtain ⟨l, hl⟩ := last_is (hne g (List.mem_of_getElem? hg))
  have hlast : ¬ lt l.key key := by
    have : 0 ≤ cmpB (lastK g) key := hk.2.2 k _ (Nat.le_refl _) (by rw [List.getElem?_map, hg]; rfl)
    rw [← lt_cmp, ← lastK_eq hl]; omega
  refine ⟨by rw [mls_len]; omega, ?_, ?_, ?_, ?_⟩
  · intro x hx
    rw [mls_at hg] at hx
    rcases List.mem_append.1 hx with hx | hx
    · exact pages_low hne h hk x hx
    · obtain ⟨j, hj, hjx⟩ := mem_take hx
      have := hi.2.1 j _ hj (by rw [List.getElem?_map, hjx]; rfl)
      exact lt_cmp.1 this
  · intro x hx
    rw [mls_at hg] at hx
    rcases List.mem_append.1 hx with hx | hx
    · obtain ⟨j, hj, hjx⟩ := mem_drop hx
      have : 0 ≤ cmpB x.key key := hi.2.2 j _ hj (by rw [List.getElem?_map, hjx]; rfl)
      rw [← lt_cmp]; omega
    · obtain ⟨a, ha, hxa⟩ := List.mem_flatten.1 hx
      obtain ⟨j, hj, hja⟩ := mem_drop ha
      have := (srt_pages h).2 k j g.M a (by omega) hgm hja l (List.mem_of_getElem? hl) x hxa
      exact fun hc => hlast (lt_trans this hc)
  · intro _
    rw [mls_at hg]
    rcases Nat.lt_or_ge i g.M.length with h1 | h1
    · exact h1
    · exfalso
      have h2 := hi.1
      rw [List.length_map] at h2
      have hpos := List.length_pos_iff.2 (hne g (List.mem_of_getElem? hg))
      have := hi.2.1 (g.M.length - 1) _ (by omega) (by rw [List.getElem?_map, hl]; rfl)
      exact hlast (lt_cmp.1 this)
  · intro e; rw [mls_len] at e; omega
end Go.Proofs.Ytcgnghkjkdkmmaa
