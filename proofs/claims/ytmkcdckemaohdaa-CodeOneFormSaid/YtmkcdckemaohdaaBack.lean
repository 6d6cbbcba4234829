/-
  WHAT IS WRITTEN IS READ: the reader's calls over bytes that begin with what was written.
-/
import Derived.Test.YtmkcdckemaohdaaReader2
import Derived.Test.YtmkcdckemaohdaaText
namespace Go.Proofs.Ytmkcdckemaohdaa
open Go.RowKit

theorem lookS_num {l : List UInt8} : lookS maxU l 0 = rdN 0 0 l := by
  have hb := (rdN_bounds l 0 0 (by decide) (by omega)).1
  unfold lookS
  rw [if_neg (by simp), if_neg (by unfold maxU; omega)]

theorem lookS_back {v m : Nat} (h : v < 2 ^ 64) (hm : v ≤ m) (r : List UInt8) : lookS m (numL v ++ r) 0 = (v, (numL v).length, 0) := by
  unfold lookS
  rw [if_neg (by simp), rdN_back h r, if_neg (by simp; omega)]

theorem unzig_zig {i : Int} (_h : (Lit.int .i64 i).wf = true) : unzig (zig i) = i := by
  unfold unzig zig
  split <;> split <;> omega

theorem textS_back {b : List UInt8} {m : Nat} (h : b.length ≤ m) (hb : b.length < 2 ^ 64) (r : List UInt8) : textS m (textL b ++ r) 0 = (b, (textL b).length, 0) := by
  have e : textL b ++ r = numL b.length ++ (b ++ r) := by unfold textL; simp
  have h0 := numL_pos b.length
  unfold textS
  rw [e, lookS_back hb h]
  rw [if_neg (by simp; intro h1; rw [h1] at h0; simp at h0), if_neg (by simp)]
  simp [textL]

theorem numR_back (w : World) (R v : Nat) (r : List UInt8) (hv : v < 2 ^ 64) (h : RAt w R (numL v ++ r) 0) :
    Calls Try.prog 28 #[.pointer (some ⟨R, 0, none⟩)] w fun en w' => en = .returned (.int .u64 (v : Int)) ∧ RAt w' R r 0 ∧ w.grownBy w' (some R) := by
  refine (numR_any w R _ 0 h).mono ?_
  rintro en w' ⟨h1, h2, h3⟩
  rw [lookS_back hv (by unfold maxU; omega)] at h1 h2
  exact ⟨h1, by simpa using h2, h3⟩

theorem intR_back (w : World) (R : Nat) (i : Int) (r : List UInt8) (hi : (Lit.int .i64 i).wf = true) (h : RAt w R (numL (zig i) ++ r) 0) :
    Calls Try.prog 22 #[.pointer (some ⟨R, 0, none⟩)] w fun en w' => en = .returned (.int .i64 i) ∧ RAt w' R r 0 ∧ w.grownBy w' (some R) := by
  have hz := zig_lt hi
  refine (intR_any w R _ 0 h).mono ?_
  rintro en w' ⟨h1, h2, h3⟩
  rw [lookS_back hz (by unfold maxU; omega)] at h1 h2
  rw [unzig_zig hi] at h1
  exact ⟨h1, by simpa using h2, h3⟩

theorem textR_back (w : World) (R : Nat) (b r : List UInt8) (z : Int) (hz : (Lit.int .i64 z).wf = true) (hb : b.length ≤ nn z) (h : RAt w R (textL b ++ r) 0) (hl : (textL b ++ r).length ≤ 140737488355328) :
    Calls Try.prog 26 #[.pointer (some ⟨R, 0, none⟩), .int .i64 z] w fun en w' =>
      ∃ (ao : Option Addr) (c : Nat), en = .returned (.slice ao b.length c) ∧ w'.ownsRow w.heap.size 5 1 (.slice ao b.length c) b.length (b.map bv) ∧ RAt w' R r 0 ∧ w.grownBy w' (some R) := by
  have hlt : b.length < 2 ^ 64 := by unfold textL at hl; simp at hl; omega
  refine (textR_any w R _ 0 z hz h hl).mono ?_
  rintro en w' ⟨ao, c, h1, h2, h3, h4⟩
  rw [textS_back hb hlt] at h1 h2 h3
  exact ⟨ao, c, h1, h2, by simpa using h3, h4⟩

end Go.Proofs.Ytmkcdckemaohdaa
