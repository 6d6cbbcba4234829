/-
  WAL: what lies on the disk behind a fall.
-/
import Derived.Test.YtcbbklbjfknnlaaDoorWze
set_option linter.unusedVariables false
set_option linter.unusedSimpArgs false
set_option maxRecDepth 100000
namespace Go.Proofs.YtcbbklbjfknnlaaDoor
open Go.RowKit

/-- What is taken back. -/
theorem tb_get : ∀ (xs : List Wr) (S : List (List UInt8)), (∀ x ∈ xs, x.was = z64) → ∀ p, p < S.length → ((∃ x ∈ xs, x.at' = p) → (tbM S xs).getD p [] = z64) ∧ ((∀ x ∈ xs, x.at' ≠ p) → (tbM S xs).getD p [] = S.getD p [])
  | [], S, _, p, _ => ⟨(fun ⟨x, hx, _⟩ => by cases hx), fun _ => rfl⟩
  | x :: xs, S, h, p, hp => by
    have ih := tb_get xs (S.set x.at' x.was) (fun y hy => h y (by simp [hy])) p (by rw [List.length_set]; exact hp)
    have e : tbM S (x :: xs) = tbM (S.set x.at' x.was) xs := rfl
    rw [e]
    refine ⟨fun ⟨y, hy, hyp⟩ => ?_, fun hn => ?_⟩
    · by_cases h2 : ∃ z ∈ xs, z.at' = p
      · exact ih.1 h2
      · rw [ih.2 (fun z hz e9 => h2 ⟨z, hz, e9⟩)]
        rcases List.mem_cons.1 hy with rfl | hy
        · subst hyp
          rw [getD_set_self hp]
          exact h y (by simp)
        · exact (h2 ⟨y, hy, hyp⟩).elim
    · rw [ih.2 (fun z hz => hn z (by simp [hz])), getD_set_other (fun e9 => hn x (by simp) e9.symm)]

/-- What is kept of it. -/
theorem lay_other : ∀ (Q : List Wr) (S : List (List UInt8)) (ks : List Int) (p : Nat), (∀ x ∈ Q, x.at' ≠ p) → (layM S Q ks).getD p [] = S.getD p []
  | [], S, ks, p, _ => rfl
  | x :: Q, S, [], p, _ => by rw [lay_nil]
  | x :: Q, S, z :: ks, p, h => by
    have e : layM S (x :: Q) (z :: ks) = layM (lay1 S x z) Q ks := rfl
    rw [e, lay_other Q _ ks p (fun y hy => h y (by simp [hy]))]
    unfold lay1
    rw [getD_set_other (fun e9 => h x (by simp) e9.symm)]
theorem lay_hit : ∀ (Q : List Wr) (S : List (List UInt8)) (ks : List Int), Q.Pairwise (fun x y => x.at' ≠ y.at') → (∀ x ∈ Q, x.at' < S.length) → ∀ x ∈ Q, ∃ c, c ≤ 64 ∧ (layM S Q ks).getD x.at' [] = x.now.take c ++ (S.getD x.at' []).drop c
  | [], _, _, _, _, _, hx => by cases hx
  | y :: Q, S, [], _, _, x, _ => ⟨0, by omega, by rw [lay_nil]; simp⟩
  | y :: Q, S, z :: ks, hd, hl, x, hx => by
    have e : layM S (y :: Q) (z :: ks) = layM (lay1 S y z) Q ks := rfl
    rw [e]
    obtain ⟨h1, h2⟩ := List.pairwise_cons.1 hd
    rcases List.mem_cons.1 hx with rfl | hx
    · refine ⟨cl z, cl_le z, ?_⟩
      rw [lay_other Q _ ks _ (fun q hq e9 => h1 q hq e9.symm)]
      unfold lay1
      rw [getD_set_self (hl x (by simp))]
    · obtain ⟨c, hc, h9⟩ := lay_hit Q (lay1 S y z) ks h2 (fun q hq => by rw [lay1_len]; exact hl q (by simp [hq])) x hx
      refine ⟨c, hc, ?_⟩
      rw [h9]
      congr 2
      unfold lay1
      rw [getD_set_other (fun e9 => h1 x hx e9.symm)]
theorem lay_len : ∀ (Q : List Wr) (S : List (List UInt8)) (ks : List Int), (layM S Q ks).length = S.length
  | [], S, ks => rfl
  | x :: Q, S, [] => by rw [lay_nil]
  | x :: Q, S, z :: ks => by
    have e : layM S (x :: Q) (z :: ks) = layM (lay1 S x z) Q ks := rfl
    rw [e, lay_len Q _ ks, lay1_len]

/-- A torn sector has no number, or the whole body. -/
theorem torn {l : List UInt8} (hl : l.length = 64) {c : Nat} (hc : c ≤ 64) (h : sealN (l.take c ++ z64.drop c) ≠ 0) : (l.take c ++ z64.drop c).take 56 = l.take 56 := by
  by_cases e : c ≤ 56
  · exfalso
    apply h
    unfold sealN
    rw [List.drop_append, List.length_take, hl, Nat.min_eq_left hc, List.drop_of_length_le (by rw [List.length_take]; omega), List.nil_append, List.drop_drop, show c + (56 - c) = 56 from by omega]
    kernel_rfl
  · rw [List.take_append_of_le_length (by rw [List.length_take, hl]; omega), List.take_take, Nat.min_eq_left (by omega)]

theorem first_none {α : Type} (f : Nat → Option α) : ∀ s, (∃ j, j < s ∧ f j = none) → ∃ j, j < s ∧ f j = none ∧ ∀ i, i < j → f i ≠ none
  | 0, ⟨j, h, _⟩ => by omega
  | s + 1, ⟨j, h, h2⟩ => by
    by_cases e : ∃ j, j < s ∧ f j = none
    · obtain ⟨j, h1, h2, h3⟩ := first_none f s e
      exact ⟨j, by omega, h2, h3⟩
    · have : j = s := by
        rcases Nat.lt_or_ge j s with h9 | h9
        · exact (e ⟨j, h9, h2⟩).elim
        · omega
      subst this
      exact ⟨j, h, h2, fun i hi h9 => e ⟨i, hi, h9⟩⟩

/-- How many records are whole. -/
theorem whole_to {α : Type} (P : Nat → Option α) (R : List Rc) : ∀ d k, k + d = R.length → (∀ i, i < gones R k → P i ≠ none) → ∃ k', k ≤ k' ∧ k' ≤ R.length ∧ (∀ i, i < gones R k' → P i ≠ none) ∧ (k' = R.length ∨ ∃ r, R[k']? = some r ∧ ∃ j, j < secs r.b.length ∧ P (gones R k' + j) = none ∧ ∀ i, i < j → P (gones R k' + i) ≠ none)
  | 0, k, h, hp => ⟨k, Nat.le_refl _, by omega, hp, .inl (by omega)⟩
  | d + 1, k, h, hp => by
    have hv := List.getElem?_eq_getElem (l := R) (i := k) (by omega)
    generalize R[k]'_ = r at hv
    by_cases e : ∃ j, j < secs r.b.length ∧ P (gones R k + j) = none
    · exact ⟨k, Nat.le_refl _, by omega, hp, .inr ⟨r, hv, first_none (fun j => P (gones R k + j)) _ e⟩⟩
    · obtain ⟨k', h1, h2, h3⟩ := whole_to P R d (k + 1) (by omega) (fun i hi => by
        rw [gones_next hv] at hi
        rcases Nat.lt_or_ge i (gones R k) with h9 | h9
        · exact hp i h9
        · intro h8
          exact e ⟨i - gones R k, by omega, by rw [show gones R k + (i - gones R k) = i from by omega]; exact h8⟩)
      exact ⟨k', by omega, h2, h3⟩

/-- What waits: the sectors from the a-th on. -/
structure Wts (S : List (List UInt8)) (Q : List Wr) (h : Hd) (u a : Nat) : Prop where
  su : h.su ≤ a
  len : a + Q.length = u
  each : ∀ i x, Q[i]? = some x → x.at' = 2 + (h.fr + (a + i)) ∧ x.was = z64 ∧ x.now = S.getD (2 + (h.fr + (a + i))) []

theorem Wts.at {S : List (List UInt8)} {Q : List Wr} {h : Hd} {u a : Nat} (hw : Wts S Q h u a) : (∀ x ∈ Q, x.was = z64) ∧ (∀ p, (∃ x ∈ Q, x.at' = p) ↔ 2 + (h.fr + a) ≤ p ∧ p < 2 + (h.fr + u)) ∧ Q.Pairwise (fun x y => x.at' ≠ y.at') := by
  have hlen := hw.len
  refine ⟨fun x hx => ?_, fun p => ⟨fun ⟨x, hx, hp⟩ => ?_, fun ⟨h1, h2⟩ => ?_⟩, ?_⟩
  · obtain ⟨i, hi⟩ := List.mem_iff_getElem?.1 hx
    exact (hw.each i x hi).2.1
  · obtain ⟨i, hi⟩ := List.mem_iff_getElem?.1 hx
    have h9 := (hw.each i x hi).1
    have := (List.getElem?_eq_some_iff.1 hi).1
    omega
  · have hv := List.getElem?_eq_getElem (l := Q) (i := p - (2 + (h.fr + a))) (by omega)
    exact ⟨_, List.mem_of_getElem? hv, by rw [(hw.each _ _ hv).1]; omega⟩
  · rw [List.pairwise_iff_getElem]
    intro i j hi hj hij
    rw [(hw.each i _ (List.getElem?_eq_getElem hi)).1, (hw.each j _ (List.getElem?_eq_getElem hj)).1]
    omega

section
variable {n : Nat} {S : List (List UInt8)} {Q : List Wr} {H : Hd} {R : List Rc} {m : Nat}

/-- The disk behind a fall: what was safe is there, and of what waited some records, in order. -/
theorem fall_ond (h : Dsk n S H R) (hw : Wts S Q H (gones R R.length) (gones R m)) (hm : m ≤ R.length) (hS : ∀ s ∈ S, s.length = 64) (hn2 : n ≤ 65536) (hR : R.length ≤ 90000) (hrl : ∀ r ∈ R, r.b.length ≤ 32768) (ks : List Int) :
    newK (layM (tbM S Q.reverse) Q ks) h0 2 = H ∧ ∃ k, m ≤ k ∧ k ≤ R.length ∧ Ond n (layM (tbM S Q.reverse) Q ks) H ((R.take k).map (·.b)) := by
  have hlr := imgR_len R
  have hnw := h.nw
  have htn := h.tn
  have hsl := h.sl
  have hsu := hw.su
  obtain ⟨a1, a2, a3⟩ := hw.at
  have hga := gones_mono R m
  have hrev : ∀ p, (∃ x ∈ Q.reverse, x.at' = p) ↔ (∃ x ∈ Q, x.at' = p) := fun p => by simp
  -- sector by sector
  have key1 : ∀ p, p < S.length → ¬ (2 + (H.fr + gones R m) ≤ p ∧ p < 2 + (H.fr + gones R R.length)) → (layM (tbM S Q.reverse) Q ks).getD p [] = S.getD p [] := fun p hp hn9 => by
    have hno : ∀ x ∈ Q, x.at' ≠ p := fun x hx e => hn9 ((a2 p).1 ⟨x, hx, e⟩)
    rw [lay_other _ _ _ _ hno]
    exact (tb_get Q.reverse S (fun x hx => a1 x (by simpa using hx)) p hp).2 (fun x hx => hno x (by simpa using hx))
  have key2 : ∀ i, gones R m ≤ i → i < gones R R.length → ∃ c, c ≤ 64 ∧ (layM (tbM S Q.reverse) Q ks).getD (2 + (H.fr + i)) [] = (S.getD (2 + (H.fr + i)) []).take c ++ z64.drop c := fun i h1 h2 => by
    have hQl := hw.len
    have hv := List.getElem?_eq_getElem (l := Q) (i := i - gones R m) (by omega)
    generalize Q[i - gones R m]'_ = x at hv
    obtain ⟨e1, e2, e3⟩ := hw.each _ x hv
    rw [show gones R m + (i - gones R m) = i from by omega] at e1 e3
    have hx : x ∈ Q := List.mem_of_getElem? hv
    have hall : ∀ y ∈ Q, y.at' < (tbM S Q.reverse).length := fun y hy => by
      have := ((a2 y.at').1 ⟨y, hy, rfl⟩).2
      rw [tb_len]
      omega
    obtain ⟨c, hc, h9⟩ := lay_hit Q (tbM S Q.reverse) ks a3 hall x hx
    have h8 := (tb_get Q.reverse S (fun x hx => a1 x (by simpa using hx)) x.at' (by have := hall x hx; rw [tb_len] at this; exact this)).1 ⟨x, by simpa using hx, rfl⟩
    rw [h8, e1, e3] at h9
    exact ⟨c, hc, h9⟩
  have hlen : (layM (tbM S Q.reverse) Q ks).length = S.length := by rw [lay_len, tb_len]
  generalize layM (tbM S Q.reverse) Q ks = T at *
  have hnk : newK T h0 2 = H := by
    rw [newK_same (S := S) (S' := T) (key1 0 (by omega) (by omega)) (key1 1 (by omega) (by omega))]
    exact h.nk
  refine ⟨hnk, ?_⟩
  have hplc : ∀ i, i ≤ (imgR R).length → plc n H i = 2 + (H.fr + i) := fun i hi => by
    unfold plc
    rw [Nat.mod_eq_of_lt (by omega)]
  have hnp : ∀ i, 0 < nmb n H i := fun i => by
    unfold nmb
    have : 0 < H.tn * (n - 2) := Nat.mul_pos htn (by omega)
    omega
  -- piece by piece
  have pc1 : ∀ i x, (imgR R)[i]? = some x → i < gones R m → pieceM T n H i = some x := fun i x hx hi => by
    have hil := (List.getElem?_eq_some_iff.1 hx).1
    obtain ⟨b1, b2⟩ := h.bd i x hx
    unfold pieceM
    rw [if_neg (by omega), hplc i (by omega), key1 _ (by omega) (by omega), if_neg (fun e => e.2 (b2 e.1)), b1]
  have pc2 : ∀ i x, (imgR R)[i]? = some x → pieceM T n H i = none ∨ pieceM T n H i = some x := fun i x hx => by
    rcases Nat.lt_or_ge i (gones R m) with hi | hi
    · exact .inr (pc1 i x hx hi)
    · have hil := (List.getElem?_eq_some_iff.1 hx).1
      obtain ⟨b1, b2⟩ := h.bd i x hx
      obtain ⟨c, hc, hT⟩ := key2 i hi (by omega)
      unfold pieceM
      rw [if_neg (by omega), hplc i (by omega), hT]
      by_cases e : sealN ((S.getD (2 + (H.fr + i)) []).take c ++ z64.drop c) = nmb n H i
      · refine .inr ?_
        have h64 : (S.getD (2 + (H.fr + i)) []).length = 64 := by
          rw [List.getD_eq_getElem?_getD, List.getElem?_eq_getElem (by omega)]
          exact hS _ (List.getElem_mem _)
        rw [if_neg (fun e9 => e9.2 e), torn h64 hc (by rw [e]; have := hnp i; omega), b1]
      · exact .inl (if_pos ⟨by omega, e⟩)
  have pc3 : pieceM T n H (gones R R.length) = none := by
    unfold pieceM
    rw [if_neg (by omega), hplc _ (by omega), key1 _ (by omega) (by omega), h.zr _ (by omega) (by omega), if_pos]
    refine ⟨by omega, ?_⟩
    rw [z64_seal]
    have := hnp (gones R R.length)
    omega
  obtain ⟨k, h1, h2, h3, h4⟩ := whole_to (fun i => pieceM T n H i) R (R.length - m) m (by omega) (fun i hi => by
    have hv := List.getElem?_eq_getElem (l := imgR R) (i := i) (by omega)
    rw [pc1 i _ hv hi]
    simp)
  have hgk := gones_mono R k
  have hoff : ∀ j, j ≤ k → offs ((R.take k).map (·.b)) j = gones R j := fun j hj => by
    rw [offs_map]
    unfold gones
    rw [List.take_take, Nat.min_eq_left hj]
  have hlk : ((R.take k).map (·.b)).length = k := by rw [List.length_map, List.length_take]; omega
  have hmem : ∀ (i : Nat) (r : Rc), R[i]? = some r → r.b.length ≤ 32768 := fun i r hr => hrl r (List.mem_of_getElem? hr)
  refine ⟨k, h1, h2, fun i l hl j hj => ?_, ?_, fun l hl => ?_, by rw [hlk]; omega, ?_⟩
  · have hik : i < k := by
      have := (List.getElem?_eq_some_iff.1 hl).1
      omega
    rw [List.getElem?_map, List.getElem?_take_of_lt hik] at hl
    cases hr : R[i]? with
    | none => rw [hr] at hl; cases hl
    | some r =>
      rw [hr] at hl
      simp only [Option.map_some, Option.some.injEq] at hl
      subst hl
      have hx := imgR_get hr hj
      rw [hoff i (by omega)]
      have hgi : gones R i + j < gones R k := by
        have h9 : gones R (i + 1) ≤ gones R k := by
          have := gones_mono (R.take k) (i + 1)
          have e1 : gones (R.take k) (i + 1) = gones R (i + 1) := by unfold gones; rw [List.take_take, Nat.min_eq_left (by omega)]
          have e2 : gones (R.take k) (R.take k).length = gones R k := by unfold gones; rw [List.take_length]
          omega
        rw [gones_next hr] at h9
        omega
      rcases pc2 _ _ hx with e | e
      · exact (h3 _ hgi e).elim
      · exact e
  · rw [hlk, hoff k (Nat.le_refl _)]
    rcases h4 with e | ⟨r, hr, j, hj, hjn, hji⟩
    · subst e
      exact .inl pc3
    · have hgn := gones_next hr
      have hgl := gones_mono R (k + 1)
      rcases Nat.eq_zero_or_pos j with e | e
      · subst e
        exact .inl hjn
      · refine .inr ⟨r.b, j, hmem k r hr, by omega, e, hj, fun i hi => ?_, hjn⟩
        rcases pc2 _ _ (imgR_get hr (show i < secs r.b.length by omega)) with e9 | e9
        · exact (hji i hi e9).elim
        · exact e9
  · obtain ⟨r, hr, rfl⟩ := List.mem_map.1 hl
    exact hrl r (List.mem_of_mem_take hr)
  · rw [hlk, hoff k (Nat.le_refl _)]
    omega
end
end Go.Proofs.YtcbbklbjfknnlaaDoor
