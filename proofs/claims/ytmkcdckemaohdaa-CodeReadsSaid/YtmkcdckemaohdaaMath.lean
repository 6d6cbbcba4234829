/-
  PLAIN MATHEMATICS of layer 1: the bytes of a number. It imports nothing of the program.
-/
namespace Go.Proofs.Ytmkcdckemaohdaa

/-- A byte that is not a number's last one, and one that is. -/
def moreB (n : Nat) : UInt8 := UInt8.ofNat (n % 128 + 128)
def lastB (n : Nat) : UInt8 := UInt8.ofNat n

/-- The bytes of a number: seven bits a byte, the lowest first. -/
def numL (v : Nat) : List UInt8 :=
  if v < 128 then [lastB v] else moreB v :: numL (v / 128)
termination_by v
decreasing_by omega

theorem numL_lt {v : Nat} (h : v < 128) : numL v = [lastB v] := by
  rw [numL, if_pos h]

theorem numL_ge {v : Nat} (h : 128 ≤ v) : numL v = moreB v :: numL (v / 128) := by
  rw [numL, if_neg (by omega)]

theorem numL_pos (v : Nat) : 1 ≤ (numL v).length := by
  by_cases h : v < 128
  · rw [numL_lt h]; simp
  · rw [numL_ge (by omega)]; simp

theorem numL_len (k : Nat) : ∀ v, v < 128 * 128 ^ k → (numL v).length ≤ k + 1 := by
  induction k with
  | zero => intro v h; rw [numL_lt (by omega)]; simp
  | succ k ih =>
    intro v h
    by_cases h1 : v < 128
    · rw [numL_lt h1]; simp
    · rw [numL_ge (by omega)]
      have := ih (v / 128) (by rw [Nat.pow_succ] at h; omega)
      simp; omega

theorem numL_len10 {v : Nat} (h : v < 2 ^ 64) : (numL v).length ≤ 10 := numL_len 9 v (by omega)

theorem numL_mono : ∀ (n a b : Nat), b ≤ n → a ≤ b → (numL a).length ≤ (numL b).length := by
  intro n
  induction n with
  | zero => intro a b h h1; have : a = b := by omega
            rw [this]; exact Nat.le_refl _
  | succ n ih =>
    intro a b h h1
    by_cases h2 : a < 128
    · rw [numL_lt h2]; exact numL_pos b
    · rw [numL_ge (v := a) (by omega), numL_ge (v := b) (by omega)]
      have := ih (a / 128) (b / 128) (by omega) (by omega)
      simp; omega

theorem moreB_toNat (n : Nat) : (moreB n).toNat = n % 128 + 128 := by
  unfold moreB
  rw [UInt8.toNat_ofNat']; omega

theorem lastB_toNat {n : Nat} (h : n < 128) : (lastB n).toNat = n := by
  unfold lastB
  rw [UInt8.toNat_ofNat']; omega

/-- The number that a signed one is written as. -/
def zig (i : Int) : Nat := if i < 0 then (-2 * i - 1).toNat else (2 * i).toNat

/-! ### Reading a number: (value, how many bytes, fault). -/
def rdN : Nat → Nat → List UInt8 → Nat × Nat × Int
  | _, _, [] => (0, 0, 8)
  | i, v, c :: r =>
    if i = 9 ∧ 1 < c.toNat then (0, 0, 9)
    else if 128 ≤ c.toNat then rdN (i + 1) (v + c.toNat % 128 * 128 ^ i) r
    else if c.toNat = 0 ∧ 0 < i then (0, 0, 9)
    else (v + c.toNat % 128 * 128 ^ i, i + 1, 0)

theorem rdN_form {i v : Nat} {c : UInt8} {r : List UInt8} (h : i = 9 ∧ 1 < c.toNat) : rdN i v (c :: r) = (0, 0, 9) := by rw [rdN, if_pos h]
theorem rdN_more {i v : Nat} {c : UInt8} {r : List UInt8} (h : ¬ (i = 9 ∧ 1 < c.toNat)) (h1 : 128 ≤ c.toNat) : rdN i v (c :: r) = rdN (i + 1) (v + c.toNat % 128 * 128 ^ i) r := by rw [rdN, if_neg h, if_pos h1]
theorem rdN_zero {i v : Nat} {c : UInt8} {r : List UInt8} (h : ¬ (i = 9 ∧ 1 < c.toNat)) (h1 : ¬ 128 ≤ c.toNat) (h2 : c.toNat = 0 ∧ 0 < i) : rdN i v (c :: r) = (0, 0, 9) := by rw [rdN, if_neg h, if_neg h1, if_pos h2]
theorem rdN_last {i v : Nat} {c : UInt8} {r : List UInt8} (h : ¬ (i = 9 ∧ 1 < c.toNat)) (h1 : ¬ 128 ≤ c.toNat) (h2 : ¬ (c.toNat = 0 ∧ 0 < i)) : rdN i v (c :: r) = (v + c.toNat % 128 * 128 ^ i, i + 1, 0) := by rw [rdN, if_neg h, if_neg h1, if_neg h2]

/-- What is written is read. -/
theorem rdN_numL : ∀ (k i v n : Nat) (r : List UInt8), i + k = 9 → n < 2 * 128 ^ k → (i = 0 ∨ 0 < n) → rdN i v (numL n ++ r) = (v + n * 128 ^ i, i + (numL n).length, 0) := by
  intro k
  induction k with
  | zero =>
    intro i v n r hi hn h0
    rw [numL_lt (by omega), List.singleton_append, rdN_last]
    · rw [lastB_toNat (by omega), Nat.mod_eq_of_lt (by omega)]; rfl
    · rw [lastB_toNat (by omega)]; omega
    · rw [lastB_toNat (by omega)]; omega
    · rw [lastB_toNat (by omega)]; omega
  | succ k ih =>
    intro i v n r hi hn h0
    by_cases h : n < 128
    · rw [numL_lt h, List.singleton_append, rdN_last]
      · rw [lastB_toNat h, Nat.mod_eq_of_lt h]; rfl
      · rw [lastB_toNat (by omega)]; omega
      · rw [lastB_toNat (by omega)]; omega
      · rw [lastB_toNat (by omega)]; omega
    · rw [numL_ge (by omega), List.cons_append, rdN_more]
      · rw [ih (i + 1) _ (n / 128) r (by omega) (by rw [Nat.pow_succ] at hn; omega) (by right; omega)]
        rw [moreB_toNat]
        have e1 : v + (n % 128 + 128) % 128 * 128 ^ i + n / 128 * 128 ^ (i + 1) = v + n * 128 ^ i := by
          rw [Nat.add_mod_right, Nat.mod_mod, Nat.pow_succ]
          have : n * 128 ^ i = (n % 128 + n / 128 * 128) * 128 ^ i := by congr 1; omega
          rw [this, Nat.add_mul, Nat.mul_assoc, Nat.mul_comm 128 (128 ^ i)]
          omega
        rw [e1]
        congr 2
        simp; omega
      · omega
      · rw [moreB_toNat]; omega

theorem rdN_back {n : Nat} (h : n < 2 ^ 64) (r : List UInt8) : rdN 0 0 (numL n ++ r) = (n, (numL n).length, 0) := by
  have := rdN_numL 9 0 0 n r rfl (by omega) (by left; rfl)
  simpa using this

/-- What is cut off within a number is too short. -/
theorem rdN_cut : ∀ (k i v n : Nat), i + k = 9 → n < 2 * 128 ^ k → rdN i v (numL n).dropLast = (0, 0, 8) := by
  intro k
  induction k with
  | zero =>
    intro i v n hi hn
    rw [numL_lt (by omega)]; rfl
  | succ k ih =>
    intro i v n hi hn
    by_cases h : n < 128
    · rw [numL_lt h]; rfl
    · rw [numL_ge (by omega), List.dropLast_cons_of_ne_nil (by intro h1; have := numL_pos (n / 128); rw [h1] at this; simp at this), rdN_more]
      · exact ih (i + 1) _ (n / 128) (by omega) (by rw [Nat.pow_succ] at hn; omega)
      · omega
      · rw [moreB_toNat]; omega

theorem rdN_dropLast {n : Nat} (h : n < 2 ^ 64) : rdN 0 0 (numL n).dropLast = (0, 0, 8) := rdN_cut 9 0 0 n rfl (by omega)

/-- What is read, written again, is the same bytes. -/
theorem rdN_inv : ∀ (l : List UInt8) (i v a n : Nat), i ≤ 9 → rdN i v l = (a, n, 0) → ∃ x, a = v + x * 128 ^ i ∧ n = i + (numL x).length ∧ numL x = l.take (numL x).length ∧ (0 < i → 0 < x) := by
  intro l
  induction l with
  | nil => intro i v a n _ h; simp [rdN] at h
  | cons c r ih =>
    intro i v a n hi h
    have hc : c.toNat < 256 := c.toNat_lt
    by_cases h1 : i = 9 ∧ 1 < c.toNat
    · rw [rdN_form h1] at h; simp at h
    · by_cases h2 : 128 ≤ c.toNat
      · rw [rdN_more h1 h2] at h
        obtain ⟨x, e1, e2, e3, e4⟩ := ih (i + 1) _ a n (by omega) h
        have hx := e4 (by omega)
        have hm : (c.toNat % 128 + 128 * x) % 128 = c.toNat % 128 := by omega
        have hd : (c.toNat % 128 + 128 * x) / 128 = x := by omega
        have hg : numL (c.toNat % 128 + 128 * x) = c :: numL x := by
          rw [numL_ge (by omega), hd]
          congr 1
          apply UInt8.toNat_inj.1
          rw [moreB_toNat, hm]; omega
        refine ⟨c.toNat % 128 + 128 * x, ?_, ?_, ?_, fun _ => by omega⟩
        · rw [e1, Nat.pow_succ, Nat.add_mul, Nat.mul_comm 128 x, Nat.mul_assoc, Nat.mul_comm 128 (128 ^ i)]; omega
        · rw [e2, hg]; simp; omega
        · rw [hg]; simp [← e3]
      · by_cases h3 : c.toNat = 0 ∧ 0 < i
        · rw [rdN_zero h1 h2 h3] at h; simp at h
        · rw [rdN_last h1 h2 h3] at h
          simp only [Prod.mk.injEq, and_true] at h
          have hg : numL c.toNat = [c] := by
            rw [numL_lt (by omega)]
            congr 1
            apply UInt8.toNat_inj.1
            rw [lastB_toNat (by omega)]
          refine ⟨c.toNat, ?_, ?_, ?_, fun _ => by omega⟩
          · rw [← h.1, Nat.mod_eq_of_lt (by omega)]
          · rw [hg, ← h.2]; rfl
          · rw [hg]; rfl

theorem step_lt {V k c : Nat} (hV : V < 128 ^ k) : V + c % 128 * 128 ^ k < 128 ^ (k + 1) := by
  rw [Nat.pow_succ]
  have : c % 128 * 128 ^ k ≤ 127 * 128 ^ k := Nat.mul_le_mul_right _ (by omega)
  omega

/-- The size is within the bytes; a fault has no size, and no value. -/
theorem rdN_bounds : ∀ (l : List UInt8) (i v : Nat), v < 128 ^ i → i ≤ 9 → (rdN i v l).1 < 2 ^ 64 ∧ ((rdN i v l).2.2 = 0 ∧ i < (rdN i v l).2.1 ∧ (rdN i v l).2.1 ≤ i + l.length ∧ (rdN i v l).2.1 ≤ 10 ∨ (rdN i v l).1 = 0 ∧ (rdN i v l).2.1 = 0 ∧ ((rdN i v l).2.2 = 8 ∨ (rdN i v l).2.2 = 9)) := by
  intro l
  induction l with
  | nil => intro i v _ _; simp [rdN]
  | cons c r ih =>
    intro i v hv hi
    have hc : c.toNat < 256 := c.toNat_lt
    by_cases h1 : i = 9 ∧ 1 < c.toNat
    · rw [rdN_form h1]; simp
    · by_cases h2 : 128 ≤ c.toNat
      · rw [rdN_more h1 h2]
        have h9 : i < 9 := by omega
        have hv' : v + c.toNat % 128 * 128 ^ i < 128 ^ (i + 1) := by
          rw [Nat.pow_succ]
          have : c.toNat % 128 * 128 ^ i ≤ 127 * 128 ^ i := Nat.mul_le_mul_right _ (by omega)
          omega
        have := ih (i + 1) _ hv' (by omega)
        simp only [List.length_cons]
        omega
      · by_cases h3 : c.toNat = 0 ∧ 0 < i
        · rw [rdN_zero h1 h2 h3]; simp
        · rw [rdN_last h1 h2 h3]
          simp only [List.length_cons]
          refine ⟨?_, .inl ⟨trivial, by omega, by omega, by omega⟩⟩
          have hp : i ≤ 8 ∨ i = 9 := by omega
          rcases hp with hp | rfl
          · have h8 : 128 ^ i ≤ 128 ^ 8 := Nat.pow_le_pow_right (by omega) hp
            have h7 : c.toNat % 128 * 128 ^ i ≤ 127 * 128 ^ i := Nat.mul_le_mul_right _ (by omega)
            generalize c.toNat % 128 * 128 ^ i = q at *
            generalize 128 ^ i = p at *
            have h8' : p ≤ 72057594037927936 := h8
            omega
          · have hc1 : c.toNat ≤ 1 := by omega
            have h8 : c.toNat % 128 * 128 ^ 9 ≤ 1 * 128 ^ 9 := Nat.mul_le_mul_right _ (by omega)
            omega

end Go.Proofs.Ytmkcdckemaohdaa
