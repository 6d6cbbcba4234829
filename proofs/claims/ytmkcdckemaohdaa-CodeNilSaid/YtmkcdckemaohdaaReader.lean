/-
  CODE's READER: what each call does to it.
-/
import Derived.Test.YtmkcdckemaohdaaFirst
import Derived.Test.YtmkcdckemaohdaaNum
namespace Go.Proofs.Ytmkcdckemaohdaa
open Go.RowKit

/-- The reader in block R: what is left, and its fault. -/
def RAt (w : World) (R : Nat) (l : List UInt8) (e : Int) : Prop :=
  ∃ (ao : Option Addr) (c : Nat), w.heap[R]? = some (.cells #[.slice ao l.length c, .int .i64 e] 56 (0, 0)) ∧ Rd w (.slice ao l.length c) l ∧ ∀ k, blk (.slice ao l.length c) = some k → k < R

theorem RAt.kept {w w' : World} {R : Nat} {l : List UInt8} {e : Int} {row : Option Nat} (h : RAt w R l e) (hg : w.grownBy w' row) (hne : ∀ k, row = some k → R < k) : RAt w' R l e := by
  obtain ⟨ao, c, h1, h2, h3⟩ := h
  refine ⟨ao, c, heap_kept hg h1 (fun h => by have := hne R h.symm; omega), h2.kept hg ?_, h3⟩
  cases hb : blk (.slice ao l.length c) with
  | none => exact .inl rfl
  | some k =>
    right
    intro hk
    have h5 := h3 k hb
    have h6 := hne k hk.symm
    omega

theorem RAt.old {w w' : World} {R : Nat} {l : List UInt8} {e : Int} (h : RAt w R l e) (hb : Below w.heap.size w w') : RAt w' R l e :=
  h.kept (grown_below hb none) (fun k hk => by cases hk)

theorem RAt.lt {w : World} {R : Nat} {l : List UInt8} {e : Int} (h : RAt w R l e) : R < w.heap.size := by
  obtain ⟨ao, c, h1, _⟩ := h
  exact lt_of_block h1

/-- A fault is written. -/
theorem RAt.fault {w : World} {R : Nat} {l : List UInt8} {e : Int} (h : RAt w R l e) (e' : Int) : RAt (w.setCell ⟨R, 1, none⟩ (.int .i64 e')) R l e' ∧ w.grownBy (w.setCell ⟨R, 1, none⟩ (.int .i64 e')) (some R) := by
  obtain ⟨ao, c, h1, h2, h3⟩ := h
  have hg := grown_set w ⟨R, 1, none⟩ (.int .i64 e')
  exact ⟨⟨ao, c, two_set1 h1, h2.kept hg (.inr (fun hk => by have := h3 R hk; omega)), h3⟩, hg⟩

/-- What is left is cut. -/
theorem RAt.step {w : World} {R n : Nat} {l : List UInt8} {e : Int} {ao ao' : Option Addr} {c c' : Nat} (h1 : w.heap[R]? = some (.cells #[.slice ao l.length c, .int .i64 e] 56 (0, 0))) (h3 : ∀ k, blk (.slice ao l.length c) = some k → k < R)
    (h2 : Rd w (.slice ao' (l.length - n) c') (l.drop n)) (h4 : ∀ k, blk (.slice ao' (l.length - n) c') = some k → blk (.slice ao l.length c) = some k) :
    RAt (w.setCell ⟨R, 0, none⟩ (.slice ao' (l.length - n) c')) R (l.drop n) e ∧ w.grownBy (w.setCell ⟨R, 0, none⟩ (.slice ao' (l.length - n) c')) (some R) := by
  have hg := grown_set w ⟨R, 0, none⟩ (.slice ao' (l.length - n) c')
  have hlen : (l.drop n).length = l.length - n := List.length_drop
  have hne : blk (.slice ao' (l.length - n) c') ≠ some R := fun hk => by have := h3 R (h4 R hk); omega
  refine ⟨⟨ao', c', ?_, ?_, ?_⟩, hg⟩
  · rw [hlen]; exact two_set0 h1
  · rw [hlen]; exact h2.kept hg (.inr hne)
  · rw [hlen]; exact fun k hk => h3 k (h4 k hk)

/-- What 'look' answers, and the fault behind it. -/
def lookS (m : Nat) (l : List UInt8) (e : Int) : Nat × Nat × Int :=
  if e ≠ 0 then (0, 0, e) else if (rdN 0 0 l).2.2 = 0 ∧ m < (rdN 0 0 l).1 then (0, 0, 9) else rdN 0 0 l

def LookIs (w : World) (R : Nat) (m : Nat) (l : List UInt8) (e : Int) (en : Ending) (w' : World) : Prop :=
  en = .returned (.tuple #[.int .u64 ((lookS m l e).1 : Nat), .int .i64 ((lookS m l e).2.1 : Nat)]) ∧ RAt w' R l (lookS m l e).2.2 ∧ w.grownBy w' (some R)

set_option maxHeartbeats 1000000 in
set_option maxRecDepth 100000 in
theorem err_any (w : World) (R : Nat) (l : List UInt8) (e : Int) (h : RAt w R l e) :
    Calls Try.prog 31 #[.pointer (some ⟨R, 0, none⟩)] w fun en w' => en = .returned (.int .i64 e) ∧ w = w' := by
  obtain ⟨ao, c, h1, h2, h3⟩ := h
  obtain ⟨c0, c1, f0, f1⟩ := two_cells h1
  clear h1 h2 h3
  go_enter Try.func31, Try.ntmps31
  go_wp2
  go_ret
  exact ⟨rfl, rfl⟩

set_option maxHeartbeats 1000000 in
set_option maxRecDepth 100000 in
theorem left_any (w : World) (R : Nat) (l : List UInt8) (e : Int) (h : RAt w R l e) :
    Calls Try.prog 30 #[.pointer (some ⟨R, 0, none⟩)] w fun en w' => en = .returned (.int .i64 (l.length : Nat)) ∧ w = w' := by
  obtain ⟨ao, c, h1, h2, h3⟩ := h
  obtain ⟨c0, c1, f0, f1⟩ := two_cells h1
  clear h1 h2 h3
  go_enter Try.func30, Try.ntmps30
  go_wp2
  go_ret
  exact ⟨rfl, rfl⟩

set_option maxHeartbeats 1000000 in
set_option maxRecDepth 100000 in
theorem look_any (w : World) (R : Nat) (m : Nat) (l : List UInt8) (e : Int) (h : RAt w R l e) :
    Calls Try.prog 36 #[.pointer (some ⟨R, 0, none⟩), .int .u64 (m : Int)] w (LookIs w R m l e) := by
  have h' := hid h
  obtain ⟨ao, c, h1, h2, h3⟩ := h
  obtain ⟨c0, c1, f0, f1⟩ := two_cells h1
  clear h1 h3
  go_enter Try.func36, Try.ntmps36
  go_wp2_with fail
  refine (err_any w R l e h'.out).mono ?_
  rintro en w1 ⟨rfl, rfl⟩
  by_cases he : e = 0
  · subst he
    go_wp2_with fail
    refine (first_any _ l w h2).mono ?_
    rintro en w1 ⟨rfl, rfl⟩
    have HS : Hid (lookS m l 0 = if (rdN 0 0 l).2.2 = 0 ∧ m < (rdN 0 0 l).1 then (0, 0, 9) else rdN 0 0 l) := by unfold lookS; rw [if_neg (by simp)]; exact rfl
    have hb := (rdN_bounds l 0 0 (by decide) (by omega)).2
    generalize rdN 0 0 l = t at *
    obtain ⟨v, n, er⟩ := t
    simp only at *
    have HF1 := fun e' => hid (h'.out.fault e')
    by_cases t1 : er = 0 ∧ m < v
    · have HL : Hid (lookS m l 0 = (0, 0, 9)) := by rw [HS.out, if_pos t1]; exact rfl
      obtain ⟨rfl, t1b⟩ := t1
      clear HS hb
      go_wp2
      go_ret2
      exact ⟨by rw [HL.out]; rfl, by rw [HL.out]; exact (HF1 9).out⟩
    · have HL : Hid (lookS m l 0 = (v, n, er)) := by rw [HS.out, if_neg t1]; exact rfl
      by_cases t2 : er = 0
      · subst t2
        have t3 : ¬ m < v := by omega
        clear HS hb HF1
        go_wp2
        go_ret2
        exact ⟨by rw [HL.out]; rfl, by rw [HL.out]; exact h'.out, World.grownBy.refl _ _⟩
      · obtain ⟨rfl, rfl⟩ : v = 0 ∧ n = 0 := by omega
        have HF := HF1 er
        clear HS hb HF1
        go_wp2
        go_ret2
        exact ⟨by rw [HL.out]; rfl, by rw [HL.out]; exact HF.out⟩
  · have HL : Hid (lookS m l e = (0, 0, e)) := by unfold lookS; rw [if_pos he]; exact rfl
    go_wp2_with fail
    go_ret2
    exact ⟨by rw [HL.out]; rfl, by rw [HL.out]; exact h'.out, World.grownBy.refl _ _⟩

/-- The reader has gone on by n. -/
def Passed (w : World) (R n : Nat) (l : List UInt8) (e : Int) (en : Ending) (w' : World) : Prop :=
  en = .returned (.tuple #[]) ∧ RAt w' R (l.drop n) e ∧ w.grownBy w' (some R)

set_option maxHeartbeats 1000000 in
set_option maxRecDepth 100000 in
theorem pass_any (w : World) (R n : Nat) (l : List UInt8) (e : Int) (h : RAt w R l e) (hn : n ≤ l.length) :
    Calls Try.prog 38 #[.pointer (some ⟨R, 0, none⟩), .int .i64 (n : Int)] w (Passed w R n l e) := by
  by_cases h0 : n = 0
  · subst h0
    go_enter Try.func38, Try.ntmps38
    go_wp2
    go_end0
    exact ⟨rfl, by simpa using h, World.grownBy.refl _ _⟩
  · have hpos : (0 : Int) < (n : Int) := by omega
    obtain ⟨ao, c, h1, h2, h3⟩ := h
    obtain ⟨c0, c1, f0, f1⟩ := two_cells h1
    obtain ⟨ao', c', hs, h5, h6⟩ := h2.cut 23 5 Try.underlying23 (by kernel_rfl) n hn
    have HS := hid (RAt.step h1 h3 h5 h6)
    clear h1 h2 h3 h5 h6 h0
    go_enter Try.func38, Try.ntmps38
    go_wp2
    go_end0
    exact ⟨rfl, HS.out⟩

theorem lookS_le (m : Nat) (l : List UInt8) (e : Int) : (lookS m l e).2.1 ≤ l.length := by
  have hb := (rdN_bounds l 0 0 (by decide) (by omega)).2
  unfold lookS
  split
  · exact Nat.zero_le _
  · split
    · exact Nat.zero_le _
    · omega

theorem lookS_lt (m : Nat) (l : List UInt8) (e : Int) : (lookS m l e).1 < 2 ^ 64 := by
  have hb := (rdN_bounds l 0 0 (by decide) (by omega)).1
  unfold lookS
  split
  · exact Nat.two_pow_pos 64
  · split
    · exact Nat.two_pow_pos 64
    · exact hb

theorem lookS_most (m : Nat) (l : List UInt8) (e : Int) : (lookS m l e).1 ≤ m := by
  have hb := (rdN_bounds l 0 0 (by decide) (by omega)).2
  unfold lookS
  split
  · exact Nat.zero_le _
  · split
    · exact Nat.zero_le _
    · omega

def maxU : Nat := 18446744073709551615
theorem maxU_eq : (18446744073709551615 : Int) = ((maxU : Nat) : Int) := rfl

/-- A number is read: its value; where the reader stands; its fault. -/
def NumIs (w : World) (R : Nat) (t : Nat × Nat × Int) (v : Value) (l : List UInt8) (en : Ending) (w' : World) : Prop :=
  en = .returned v ∧ RAt w' R (l.drop t.2.1) t.2.2 ∧ w.grownBy w' (some R)

set_option maxHeartbeats 1000000 in
set_option maxRecDepth 100000 in
theorem numR_any (w : World) (R : Nat) (l : List UInt8) (e : Int) (h : RAt w R l e) :
    Calls Try.prog 28 #[.pointer (some ⟨R, 0, none⟩)] w (NumIs w R (lookS maxU l e) (.int .u64 ((lookS maxU l e).1 : Nat)) l) := by
  go_enter Try.func28, Try.ntmps28
  go_wp2_with fail
  rw [maxU_eq]
  refine (look_any w R maxU l e h).mono ?_
  rintro en w1 ⟨rfl, h1, g1⟩
  go_wp2_with fail
  refine (pass_any w1 R _ l _ h1 (lookS_le _ _ _)).mono ?_
  rintro en w2 ⟨rfl, h2, g2⟩
  go_wp2_with fail
  go_ret
  exact ⟨rfl, h2, grown_trans g1 g2⟩

/-- What a signed number is read as. -/
def unzig (v : Nat) : Int := if v % 2 = 1 then -1 - (v / 2 : Nat) else (v / 2 : Nat)

end Go.Proofs.Ytmkcdckemaohdaa
