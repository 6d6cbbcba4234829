/-
  PLAIN MATHEMATICS of layer 1: the bytes of a number. It imports nothing of the program.
-/
namespace Go.Proofs.Ytmkcdckemaohdaa

/-- A byte that is not a number's last one, and one that is. -/
def moreB (n : Nat) : UInt8 := UInt8.ofNat (n % 128 + 128)
def lastB (n : Nat) : UInt8 := UInt8.ofNat n

/-- The bytes of a number: seven bits a byte, the lowest first. -/
def numL (v : Nat) : List UInt8 :=
  if v < 128 then [lastB v] else moreB v :: numL (v / 128)
termination_by v
decreasing_by omega

theorem numL_lt {v : Nat} (h : v < 128) : numL v = [lastB v] := by
  rw [numL, if_pos h]

theorem numL_ge {v : Nat} (h : 128 ≤ v) : numL v = moreB v :: numL (v / 128) := by
  rw [numL, if_neg (by omega)]

theorem numL_pos (v : Nat) : 1 ≤ (numL v).length := by
  by_cases h : v < 128
  · rw [numL_lt h]; simp
  · rw [numL_ge (by omega)]; simp

theorem numL_len (k : Nat) : ∀ v, v < 128 * 128 ^ k → (numL v).length ≤ k + 1 := by
  induction k with
  | zero => intro v h; rw [numL_lt (by omega)]; simp
  | succ k ih =>
    intro v h
    by_cases h1 : v < 128
    · rw [numL_lt h1]; simp
    · rw [numL_ge (by omega)]
      have := ih (v / 128) (by rw [Nat.pow_succ] at h; omega)
      simp; omega

theorem numL_len10 {v : Nat} (h : v < 2 ^ 64) : (numL v).length ≤ 10 := numL_len 9 v (by omega)

theorem numL_mono : ∀ (n a b : Nat), b ≤ n → a ≤ b → (numL a).length ≤ (numL b).length := by
  intro n
  induction n with
  | zero => intro a b h h1; have : a = b := by omega
            rw [this]; exact Nat.le_refl _
  | succ n ih =>
    intro a b h h1
    by_cases h2 : a < 128
    · rw [numL_lt h2]; exact numL_pos b
    · rw [numL_ge (v := a) (by omega), numL_ge (v := b) (by omega)]
      have := ih (a / 128) (b / 128) (by omega) (by omega)
      simp; omega

theorem moreB_toNat (n : Nat) : (moreB n).toNat = n % 128 + 128 := by
  unfold moreB
  rw [UInt8.toNat_ofNat']; omega

theorem lastB_toNat {n : Nat} (h : n < 128) : (lastB n).toNat = n := by
  unfold lastB
  rw [UInt8.toNat_ofNat']; omega

/-- The number that a signed one is written as. -/
def zig (i : Int) : Nat := if i < 0 then (-2 * i - 1).toNat else (2 * i).toNat

end Go.Proofs.Ytmkcdckemaohdaa
