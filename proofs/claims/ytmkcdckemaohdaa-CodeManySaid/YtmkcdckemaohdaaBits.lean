/-
  BITS OF 64: what the code's shifts and masks come to.
-/
import Derived.Test.YtmkcdckemaohdaaMath
import Derived.WalkKit
import Derived.OpenShut
namespace Go.Proofs.Ytmkcdckemaohdaa

theorem i64_not {v : Int} (h : -9223372036854775808 ≤ v ∧ v ≤ 9223372036854775807) : bits .xor .i64 (-1) v = -1 - v := by
  unfold bits
  have e1 : (BitVec.ofInt 64 (-1)) ^^^ (BitVec.ofInt 64 v) = ~~~ (BitVec.ofInt 64 v) := by
    rw [show (BitVec.ofInt 64 (-1)) = BitVec.allOnes 64 from by decide]
    exact BitVec.allOnes_xor
  show IntKind.i64.wrap (((BitVec.ofInt 64 (-1)) ^^^ (BitVec.ofInt 64 v)).toNat : Int) = -1 - v
  rw [e1, BitVec.toNat_not, IntKind.wrap_i64]
  have e2 : (BitVec.ofInt 64 v).toNat = (v % 18446744073709551616).toNat := by
    rw [BitVec.toNat_ofInt]; rfl
  rw [e2]
  omega

theorem u64_or1 {n : Nat} (h : n < 9223372036854775808) : bits .or .u64 (2 * (n : Int)) 1 = ((2 * n + 1 : Nat) : Int) := by
  have h1 := u64_or_nat (2 * n) 1 (by omega) (by omega)
  have e : 2 * n ||| 1 = 2 * n + 1 := nat_join 1 (2 * n) 1 (by omega) (by omega)
  rw [e] at h1
  simpa using h1

theorem wrap_u64 (n : Int) : IntKind.u64.wrap n = n % 18446744073709551616 := by simp [IntKind.wrap, IntKind.bits, IntKind.signed]

/-- What 'uint64(^v)<<1 | 1' is, v below 0. -/
theorem zig_neg {v : Int} (hv : (Lit.int .i64 v).wf = true) (hn : v < 0) :
    bits BinOp.or IntKind.u64 (IntKind.u64.wrap (IntKind.u64.wrap (bits BinOp.xor IntKind.i64 (-1) v) * 2)) 1 = ((zig v : Nat) : Int) := by
  have hb := bounds_i64 hv
  rw [i64_not hb, wrap_u64, wrap_u64]
  obtain ⟨n, hn2⟩ : ∃ n : Nat, v = -1 - (n : Int) := ⟨(-1 - v).toNat, by omega⟩
  subst hn2
  have e : ((-1 - (-1 - (n : Int))) % 18446744073709551616 * 2) % 18446744073709551616 = 2 * (n : Int) := by omega
  rw [e, u64_or1 (by omega)]
  unfold zig
  rw [if_pos hn]
  omega

/-- What 'uint64(v)<<1' is, v not below 0. -/
theorem zig_pos {v : Int} (hv : (Lit.int .i64 v).wf = true) (hn : 0 ≤ v) :
    IntKind.u64.wrap (IntKind.u64.wrap v * 2) = ((zig v : Nat) : Int) := by
  have hb := bounds_i64 hv
  rw [wrap_u64, wrap_u64]
  unfold zig
  rw [if_neg (by omega)]
  omega

theorem u8_low (c : Nat) (h : c < 256) : bits BinOp.andNot IntKind.u8 (c : Int) 128 = ((c % 128 : Nat) : Int) := by
  have h1 := u8_andNot_nat c 128 h (by omega)
  have e : c &&& (255 - 128) = c % 128 := Nat.and_two_pow_sub_one_eq_mod c 7
  rw [e] at h1
  exact h1

theorem pow7 (k : Nat) : 2 ^ (7 * k) = 128 ^ k := by rw [Nat.pow_mul]

/-- What 'v |= uint64(c&^128) << (7*k)' is. -/
theorem or_step {V k c : Nat} (hV : V < 128 ^ k) (hk : k ≤ 9) (hc : c < 256) (h9 : ¬ (k = 9 ∧ 1 < c)) :
    bits BinOp.or IntKind.u64 (V : Int) (IntKind.u64.wrap (IntKind.u64.wrap (bits BinOp.andNot IntKind.u8 (c : Int) 128) * 2 ^ (7 * k))) = ((V + c % 128 * 128 ^ k : Nat) : Int) := by
  rw [u8_low c hc, wrap_u64, wrap_u64]
  have e0 : ((c % 128 : Nat) : Int) % 18446744073709551616 = ((c % 128 : Nat) : Int) := by omega
  have e1 : ((c % 128 : Nat) : Int) * 2 ^ (7 * k) = ((c % 128 * 128 ^ k : Nat) : Int) := by
    rw [← pow7]; simp
  have hb : c % 128 * 128 ^ k < 18446744073709551616 ∧ 128 ^ k ≤ 9223372036854775808 := by
    have hp : k ≤ 8 ∨ k = 9 := by omega
    rcases hp with hp | rfl
    · have h8 : 128 ^ k ≤ 128 ^ 8 := Nat.pow_le_pow_right (by omega) hp
      have h7 : c % 128 * 128 ^ k ≤ 127 * 128 ^ k := Nat.mul_le_mul_right _ (by omega)
      generalize c % 128 * 128 ^ k = q at *
      generalize 128 ^ k = p at *
      have h8' : p ≤ 72057594037927936 := h8
      omega
    · have h8 : c % 128 * 128 ^ 9 ≤ 1 * 128 ^ 9 := Nat.mul_le_mul_right _ (by omega)
      omega
  rw [e0, e1]
  have e2 : ((c % 128 * 128 ^ k : Nat) : Int) % 18446744073709551616 = ((c % 128 * 128 ^ k : Nat) : Int) := by omega
  rw [e2, u64_or_nat V _ (by omega) hb.1]
  have e3 : V ||| c % 128 * 128 ^ k = V + c % 128 * 128 ^ k := by
    have := nat_join (7 * k) (c % 128 * 128 ^ k) V (by rw [pow7]; exact Nat.mul_mod_left _ _) (by rw [pow7]; exact hV)
    rw [Nat.or_comm, this]; omega
  rw [e3]

/-- What 'v | uint64(x%128) << uint(7*k)' is. -/
theorem or_step2 {V k c : Nat} (hV : V < 128 ^ k) (hk : k ≤ 9) (hc : c < 256) (h9 : ¬ (k = 9 ∧ 1 < c)) :
    bits BinOp.or IntKind.u64 (V : Int) (IntKind.u64.wrap ((c : Int) % 128 * 2 ^ (7 * k))) = ((V + c % 128 * 128 ^ k : Nat) : Int) := by
  have h := or_step hV hk hc h9
  rw [u8_low c hc] at h
  have e0 : IntKind.u64.wrap ((c % 128 : Nat) : Int) = (c : Int) % 128 := by rw [wrap_u64]; omega
  rw [e0] at h
  exact h

theorem zig_lt {v : Int} (hv : (Lit.int .i64 v).wf = true) : zig v < 2 ^ 64 := by
  have hb := bounds_i64 hv
  unfold zig
  split <;> omega

theorem numL_zig {v : Int} (hv : (Lit.int .i64 v).wf = true) : (numL (zig v)).length ≤ 10 := numL_len10 (zig_lt hv)

end Go.Proofs.Ytmkcdckemaohdaa
