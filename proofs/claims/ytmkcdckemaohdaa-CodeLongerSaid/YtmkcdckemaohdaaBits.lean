/-
  BITS OF 64: what the code's shifts and masks come to.
-/
import Derived.Test.YtmkcdckemaohdaaMath
import Derived.WalkKit
import Derived.OpenShut
namespace Go.Proofs.Ytmkcdckemaohdaa

theorem i64_not {v : Int} (h : -9223372036854775808 ≤ v ∧ v ≤ 9223372036854775807) : bits .xor .i64 (-1) v = -1 - v := by
  unfold bits
  have e1 : (BitVec.ofInt 64 (-1)) ^^^ (BitVec.ofInt 64 v) = ~~~ (BitVec.ofInt 64 v) := by
    rw [show (BitVec.ofInt 64 (-1)) = BitVec.allOnes 64 from by decide]
    exact BitVec.allOnes_xor
  show IntKind.i64.wrap (((BitVec.ofInt 64 (-1)) ^^^ (BitVec.ofInt 64 v)).toNat : Int) = -1 - v
  rw [e1, BitVec.toNat_not, IntKind.wrap_i64]
  have e2 : (BitVec.ofInt 64 v).toNat = (v % 18446744073709551616).toNat := by
    rw [BitVec.toNat_ofInt]; rfl
  rw [e2]
  omega

theorem u64_or1 {n : Nat} (h : n < 9223372036854775808) : bits .or .u64 (2 * (n : Int)) 1 = ((2 * n + 1 : Nat) : Int) := by
  have h1 := u64_or_nat (2 * n) 1 (by omega) (by omega)
  have e : 2 * n ||| 1 = 2 * n + 1 := nat_join 1 (2 * n) 1 (by omega) (by omega)
  rw [e] at h1
  simpa using h1

theorem wrap_u64 (n : Int) : IntKind.u64.wrap n = n % 18446744073709551616 := by simp [IntKind.wrap, IntKind.bits, IntKind.signed]

/-- What 'uint64(^v)<<1 | 1' is, v below 0. -/
theorem zig_neg {v : Int} (hv : (Lit.int .i64 v).wf = true) (hn : v < 0) :
    bits BinOp.or IntKind.u64 (IntKind.u64.wrap (IntKind.u64.wrap (bits BinOp.xor IntKind.i64 (-1) v) * 2)) 1 = ((zig v : Nat) : Int) := by
  have hb := bounds_i64 hv
  rw [i64_not hb, wrap_u64, wrap_u64]
  obtain ⟨n, hn2⟩ : ∃ n : Nat, v = -1 - (n : Int) := ⟨(-1 - v).toNat, by omega⟩
  subst hn2
  have e : ((-1 - (-1 - (n : Int))) % 18446744073709551616 * 2) % 18446744073709551616 = 2 * (n : Int) := by omega
  rw [e, u64_or1 (by omega)]
  unfold zig
  rw [if_pos hn]
  omega

/-- What 'uint64(v)<<1' is, v not below 0. -/
theorem zig_pos {v : Int} (hv : (Lit.int .i64 v).wf = true) (hn : 0 ≤ v) :
    IntKind.u64.wrap (IntKind.u64.wrap v * 2) = ((zig v : Nat) : Int) := by
  have hb := bounds_i64 hv
  rw [wrap_u64, wrap_u64]
  unfold zig
  rw [if_neg (by omega)]
  omega

theorem zig_lt {v : Int} (hv : (Lit.int .i64 v).wf = true) : zig v < 2 ^ 64 := by
  have hb := bounds_i64 hv
  unfold zig
  split <;> omega

theorem numL_zig {v : Int} (hv : (Lit.int .i64 v).wf = true) : (numL (zig v)).length ≤ 10 := numL_len10 (zig_lt hv)

end Go.Proofs.Ytmkcdckemaohdaa
