/-
  THE CODE's PUT: a value's bytes behind others.
-/
import Derived.Test.YtacmidfcocjdjaaTRight
namespace Go.Proofs.Ytacmidfcocjdjaa
open Go.RowKit

theorem Try.info_u8 : (Try.prog.info? 5).map (fun i => (i.zero, i.size, i.bytes)) = some (some (.int .u8 0), 1, 1) := by kernel_rfl

/-- Bytes behind those of an own row: what is below the row's bound stays. -/
def Puts (base : Nat) (w : World) (l : List UInt8) (e : Ending) (w' : World) : Prop :=
  ∃ x, e = .returned x ∧ w'.ownsRow base 5 1 x l.length (l.map bv) ∧ Below base w w'

theorem own_below {w w1 : World} {base n : Nat} {t : TypeId} {x : Value} {xs : List Value} (hown : w.ownsRow base t 1 x n xs) (hb : base ≤ w.heap.size) {o : Obj} (hg : (w.alloc o).grownBy w1 x.ownBlock) : Below base w w1 :=
  ((Below.refl base w).alloc hb o).grown hg (by simp; omega) (fun k hk => (hown.lt k hk).1)

theorem put_step {w wr w1 : World} {base : Nat} {acc : List UInt8} {x x' : Value} {o : Obj} {c : UInt8} (hbb : Below base w wr) (hb : base ≤ w.heap.size) (hown : wr.ownsRow base 5 1 x acc.length (acc.map bv))
    (hown' : w1.ownsRow base 5 1 x' (acc.length + 1) (acc.map bv ++ [bv c])) (hg : (wr.alloc o).grownBy w1 x.ownBlock) :
    w1.ownsRow base 5 1 x' (acc ++ [c]).length ((acc ++ [c]).map bv) ∧ Below base w w1 :=
  ⟨by simpa using hown', hbb.trans (own_below hown (Nat.le_trans hb hbb.size) hg)⟩

theorem put_step2 {w wr w1 : World} {base : Nat} {acc : List UInt8} {x x' : Value} {o : Obj} {c d : UInt8} (hbb : Below base w wr) (hb : base ≤ w.heap.size) (hown : wr.ownsRow base 5 1 x acc.length (acc.map bv))
    (hown' : w1.ownsRow base 5 1 x' (acc.length + 2) (acc.map bv ++ [bv c, bv d])) (hg : (wr.alloc o).grownBy w1 x.ownBlock) :
    w1.ownsRow base 5 1 x' (acc ++ [c, d]).length ((acc ++ [c, d]).map bv) ∧ Below base w w1 :=
  ⟨by simpa using hown', hbb.trans (own_below hown (Nat.le_trans hb hbb.size) hg)⟩

theorem cells_two_new (w : World) (x y : Value) (t : TypeId) : ∀ (j : Nat) u, [x, y][j]? = some u → (w.alloc (.cells #[x, y] t)).cell? ((⟨w.heap.size, 0, none⟩ : Addr).add j) = some u := by
  intro j u h
  have hn : (w.alloc (.cells #[x, y] t)).heap[w.heap.size]? = some (.cells #[x, y] t (0, 0)) := heap_alloc_new _ _
  have h2 := two_cells hn
  rw [WideShapes.add_plain]
  match j, h with
  | 0, h => simp at h; subst h; exact h2.1
  | 1, h => simp at h; subst h; exact h2.2.1
  | j + 2, h => simp at h

theorem bv_nat (n : Nat) : bv (UInt8.ofNat n) = .int .u8 ((n : Int) % 256) := by
  unfold bv
  rw [UInt8.toNat_ofNat']
  congr 1

theorem byte_at (u k : Nat) : Value.int .u8 ((u : Int) / 2 ^ (8 * k) % 256) = bv (UInt8.ofNat (u / 256 ^ k)) := by
  rw [bv_nat, Nat.pow_mul' |> fun _ => Int.natCast_ediv]
  have e : ((256 ^ k : Nat) : Int) = 2 ^ (8 * k) := by
    rw [Int.pow_mul]; simp
  rw [e]

set_option maxHeartbeats 1000000 in
set_option maxRecDepth 100000 in
theorem kind_any (k : Int) (w : World) (hk : k = 0 ∨ k = 1 ∨ k = 2) : Calls Try.prog 40 #[.int .i64 k] w fun e w' => e = .returned (.int .u8 ((kindB k).toNat : Int)) ∧ w' = w := by
  rcases hk with rfl | rfl | rfl
  all_goals
    go_enter Try.func40, Try.ntmps40
    go_wp2
    go_ret
    exact ⟨rfl, rfl⟩

theorem xor_top {n : Nat} (h : n < 18446744073709551616) : n ^^^ 9223372036854775808 = if n < 9223372036854775808 then n + 9223372036854775808 else n - 9223372036854775808 := by
  have low : ∀ m, m < 9223372036854775808 → m ^^^ 9223372036854775808 = m + 9223372036854775808 := fun m hm => by
    apply Nat.eq_of_testBit_eq
    intro j
    rw [Nat.testBit_xor, Nat.add_comm]
    have e : (9223372036854775808 : Nat) = 2 ^ 63 := rfl
    rw [e]
    by_cases hj : j = 63
    · subst hj
      rw [Nat.testBit_two_pow_add_eq, Nat.testBit_lt_two_pow (by rw [e] at hm; exact hm), Nat.testBit_two_pow_self]; rfl
    · by_cases hlt : j < 63
      · rw [Nat.testBit_two_pow_add_gt hlt, Nat.testBit_two_pow_of_ne (by omega)]; simp
      · have hp : 2 ^ 64 ≤ 2 ^ j := Nat.pow_le_pow_right (by decide) (by omega)
        rw [Nat.testBit_two_pow_of_ne (by omega), Nat.testBit_lt_two_pow (x := m) (by omega), Nat.testBit_lt_two_pow (x := 2 ^ 63 + m) (by omega)]; rfl
  by_cases h1 : n < 9223372036854775808
  · rw [if_pos h1, low n h1]
  · rw [if_neg h1]
    have h2 := low (n - 9223372036854775808) (by omega)
    have h3 : n = (n - 9223372036854775808) ^^^ 9223372036854775808 := by rw [h2]; omega
    conv => lhs; rw [h3]
    rw [Nat.xor_assoc, Nat.xor_self, Nat.xor_zero]

theorem sign_in {i : Int} (h1 : -9223372036854775808 ≤ i) (h2 : i ≤ 9223372036854775807) : bits BinOp.xor IntKind.u64 (IntKind.u64.wrap i) 9223372036854775808 = (((i + 9223372036854775808).toNat : Nat) : Int) := by
  have e : IntKind.u64.wrap i = (((i % 18446744073709551616).toNat : Nat) : Int) := by rw [IntKind.wrap_u64]; omega
  have h := bits_xor_u64_nat (i % 18446744073709551616).toNat 9223372036854775808 (by omega) (by omega)
  rw [e]
  refine h.trans ?_
  rw [xor_top (by omega)]
  congr 1
  split <;> omega

theorem sign_out {u : Nat} (h : u < 18446744073709551616) : IntKind.i64.wrap (bits BinOp.xor IntKind.u64 (u : Int) 9223372036854775808) = (u : Int) - 9223372036854775808 := by
  have h1 := bits_xor_u64_nat u 9223372036854775808 h (by omega)
  refine (congrArg IntKind.i64.wrap h1).trans ?_
  rw [xor_top h, IntKind.wrap_i64]
  split <;> omega

set_option maxHeartbeats 1000000 in
set_option maxRecDepth 100000 in
theorem putInt_any (base : Nat) (x : Value) (pre : List UInt8) (i : Int) (w : World) (hx : w.ownsRow base 5 1 x pre.length (pre.map bv)) (hb : base ≤ w.heap.size) (hl : pre.length ≤ 100000) (h1 : -9223372036854775808 ≤ i) (h2 : i ≤ 9223372036854775807) :
    Calls Try.prog 41 #[x, .int .i64 i] w (Puts base w (pre ++ be 8 (i + 9223372036854775808).toNat)) := by
  obtain ⟨i0, hi, hz0, hz1, hz2⟩ := info_parts Try.info_u8
  have hs := sign_in h1 h2
  have hu : (i + 9223372036854775808).toNat < 18446744073709551616 := by omega
  generalize (i + 9223372036854775808).toNat = u at *
  clear h1 h2
  have HU := hid hu
  have HL := hid hl
  have HX := hid hx
  have HB := hid hb
  clear hu hl hx hb
  go_enter Try.func41, Try.ntmps41
  go_wp2
  clear hs
  go_loopw [0, 6] (fun b j wr => ∃ (k : Nat) (acc : List UInt8), k ≤ 8 ∧ j = .int .i64 ((k : Int) - 1) ∧ acc ++ be k u = pre ++ be 8 u ∧ wr.ownsRow base 5 1 b acc.length (acc.map bv) ∧ Below base w wr)
    (fun _ j _ => (intOf j + 1).toNat)
  case atStart => exact ⟨8, pre, by omega, rfl, rfl, HX.out, Below.refl _ _⟩
  case round =>
    obtain ⟨k, acc, hk, rfl, hacc, hown, hbb⟩ := hrel
    have HA := hid hacc
    have hal : acc.length ≤ 100008 := by
      have := congrArg List.length hacc
      have := HL.out
      simp only [List.length_append, be_len] at *
      omega
    have HBB := hid hbb
    clear hacc hbb
    cases k with
    | zero =>
      clear hal
      have HO := hid hown
      clear hown
      go_wp2
      go_ret
      have e : acc = pre ++ be 8 u := by have := HA.out; simpa [be] using this
      refine ⟨_, rfl, ?_, HBB.out⟩
      rw [← e]
      exact HO.out
    | succ k =>
      have e1 : ((k + 1 : Nat) : Int) - 1 = (k : Int) := by omega
      rw [e1]
      have hk8 : k < 8 := by omega
      go_wp2_with (first
        | (at_builtin; refine wpList_append_own _ rfl _ _ 27 rfl base 5 i0 (.int .u8 0) 1 1 Try.underlying27 hi hz0 hz1 hz2 rfl (by decide) _ _ _ rfl (hown.alloc _) ⟨wr.heap.size, 0, none⟩ 1 1 [bv (UInt8.ofNat (u / 256 ^ k))] rfl rfl ?c1 ?c2 ?c3 ?c4 ?c5 ?_))
      case c1 => rw [← byte_at]; exact (cell_one_new _ _ _)
      case c2 => exact bv_one [_]
      case c3 => unfold maxLen; simp; omega
      case c4 => simp; omega
      case c5 => have := HBB.out.size; have := HB.out; simp; omega
      intro x' w1 hown' hgrow _
      have R := put_step HBB.out HB.out hown hown' hgrow
      have HN := hid (by rw [← HA.out]; simp [be] : (acc ++ [UInt8.ofNat (u / 256 ^ k)]) ++ be k u = pre ++ be 8 u)
      clear hown' hgrow hown
      go_wp2_with fail
      go_roundw
      case rel => exact ⟨k, acc ++ [UInt8.ofNat (u / 256 ^ k)], by omega, by go_num, HN.out, R⟩
      case measure => simp [intOf]

theorem idx_at {P : Program} (t : TypeId) (ht : P.underlying t = some .string) (s : List UInt8) (k : Nat) (h : k < s.length) : ∀ W, (Instr.index t (.string ⟨s.toArray⟩) (.int .i64 (k : Int))).run P W = .ok (.int .u8 ((s[k].toNat : Nat) : Int)) W := by
  intro W
  rw [run_index_string W t _ _ _ ht, dif_pos ⟨by omega, by show (k : Int) < (s.length : Int); omega⟩]
  rfl

theorem escL_take {s : List UInt8} {k : Nat} (h : k < s.length) : escL (s.take (k + 1)) = escL (s.take k) ++ (if s[k] = 0 then [s[k], 255] else [s[k]]) := by
  rw [List.take_add_one, List.getElem?_eq_getElem h]
  show escL (s.take k ++ [s[k]]) = _
  rw [escL_app]
  congr 1
  by_cases hc : s[k] = 0
  · simp [escL, hc]
  · simp [escL, hc]

set_option maxHeartbeats 2000000 in
set_option maxRecDepth 100000 in
theorem putText_any (base : Nat) (x : Value) (pre s : List UInt8) (w : World) (hx : w.ownsRow base 5 1 x pre.length (pre.map bv)) (hb : base ≤ w.heap.size) (hl : pre.length ≤ 100000) (hs : s.length ≤ 20) :
    Calls Try.prog 42 #[x, .string ⟨s.toArray⟩] w (Puts base w (pre ++ textB s)) := by
  obtain ⟨i0, hi, hz0, hz1, hz2⟩ := info_parts Try.info_u8
  have hsz := str_len s
  have HL := hid hl
  have HX := hid hx
  have HB := hid hb
  clear hl hx hb
  go_enter Try.func42, Try.ntmps42
  go_wp2
  go_loopw [0, 8] (fun b j wr => ∃ (k : Nat) (acc : List UInt8), k ≤ s.length ∧ j = .int .i64 (k : Int) ∧ acc = pre ++ escL (s.take k) ∧ wr.ownsRow base 5 1 b acc.length (acc.map bv) ∧ Below base w wr)
    (fun _ j _ => s.length - (intOf j).toNat)
  case atStart => exact ⟨0, pre, by omega, rfl, by simp [escL], HX.out, Below.refl _ _⟩
  case round =>
    obtain ⟨k, acc, hk, rfl, hacc, hown, hbb⟩ := hrel
    have HA := hid hacc
    have hal : acc.length ≤ 100040 := by
      have := HL.out
      have := escL_len (s.take k)
      rw [hacc]
      simp only [List.length_append, List.length_take] at *
      omega
    have HBB := hid hbb
    clear hacc hbb
    by_cases hlt : k < s.length
    · have HE := hid (escL_take hlt)
      have hidx := idx_at (P := Try.prog) 9 Try.underlying9 s k hlt
      have hc256 := UInt8.toNat_lt s[k]
      have hcz : (s[k] = 0) ↔ s[k].toNat = 0 := by rw [← UInt8.toNat_inj]; rfl
      generalize s[k] = c at *
      have hbv : Value.int .u8 ((c.toNat : Nat) : Int) = bv c := rfl
      have HC := hid hcz
      clear hcz
      have HBW : Hid (base ≤ wr.heap.size) := Nat.le_trans HB.out HBB.out.size
      by_cases hc0 : c.toNat = 0
      · have HE2 : Hid (escL (s.take (k + 1)) = escL (s.take k) ++ [c, 255]) := by rw [Hid, HE.out, if_pos (HC.out.2 hc0)]
        have HCC : Hid (Value.int .u8 (0 : Int) = bv c) := by rw [Hid, ← hbv, hc0]; rfl
        rw [hc0] at hidx
        clear HE HC hbv
        go_wp2_with (first
          | (at_builtin; refine wpList_append_own _ rfl _ _ 27 rfl base 5 i0 (.int .u8 0) 1 1 Try.underlying27 hi hz0 hz1 hz2 rfl (by decide) _ _ _ rfl (hown.alloc _) ⟨wr.heap.size, 0, none⟩ 1 1 [bv c] rfl rfl ?c1 ?c2 ?c3 ?c4 ?c5 ?_))
        case c1 => rw [← HCC.out]; exact (cell_one_new _ _ _)
        case c2 => exact bv_one [_]
        case c3 => unfold maxLen; simp; omega
        case c4 => simp; omega
        case c5 => have := HBW.out; simp; omega
        intro x1 w1 hown1 hg1 _
        obtain ⟨q1, q2⟩ := put_step HBB.out HB.out hown hown1 hg1
        have Q2 := hid q2
        have HB1 : Hid (base ≤ w1.heap.size) := Nat.le_trans HB.out q2.size
        clear hown1 hg1 hown q2
        go_wp2_with (first
          | (at_builtin; refine wpList_append_own _ rfl _ _ 27 rfl base 5 i0 (.int .u8 0) 1 1 Try.underlying27 hi hz0 hz1 hz2 rfl (by decide) _ _ _ rfl (q1.alloc _) ⟨w1.heap.size, 0, none⟩ 1 1 [bv 255] rfl rfl ?d1 ?d2 ?d3 ?d4 ?d5 ?_))
        case d1 => exact (cell_one_new _ _ _)
        case d2 => exact bv_one [_]
        case d3 => unfold maxLen; simp; omega
        case d4 => simp; omega
        case d5 => have := HB1.out; simp; omega
        intro x2 w2 hown2 hg2 _
        have R := put_step (acc := acc ++ [c]) (c := 255) Q2.out HB.out q1 (by simpa using hown2) hg2
        clear hown2 hg2 q1
        go_wp2_with fail
        go_roundw
        case rel => exact ⟨k + 1, acc ++ [c] ++ [255], by omega, by go_num, by rw [HE2.out, HA.out]; simp, R⟩
        case measure => simp [intOf]; omega
      · have HE2 : Hid (escL (s.take (k + 1)) = escL (s.take k) ++ [c]) := by rw [Hid, HE.out, if_neg (fun e => hc0 (HC.out.1 e))]
        have hc1 : ¬ (c.toNat : Int) = 0 := by omega
        clear HE HC hbv
        go_wp2_with (first
          | (at_builtin; refine wpList_append_own _ rfl _ _ 27 rfl base 5 i0 (.int .u8 0) 1 1 Try.underlying27 hi hz0 hz1 hz2 rfl (by decide) _ _ _ rfl (hown.alloc _) ⟨wr.heap.size, 0, none⟩ 1 1 [bv c] rfl rfl ?c1 ?c2 ?c3 ?c4 ?c5 ?_))
        case c1 => exact (cell_one_new _ _ _)
        case c2 => exact bv_one [_]
        case c3 => unfold maxLen; simp; omega
        case c4 => simp; omega
        case c5 => have := HBW.out; simp; omega
        intro x1 w1 hown1 hg1 _
        have R := put_step HBB.out HB.out hown hown1 hg1
        clear hown1 hg1 hown
        go_wp2_with fail
        go_roundw
        case rel => exact ⟨k + 1, acc ++ [c], by omega, by go_num, by rw [HE2.out, HA.out]; simp, R⟩
        case measure => simp [intOf]; omega
    · obtain rfl : k = s.length := by omega
      have HBW : Hid (base ≤ wr.heap.size) := Nat.le_trans HB.out HBB.out.size
      go_wp2_with (first
        | (at_builtin; refine wpList_append_own _ rfl _ _ 27 rfl base 5 i0 (.int .u8 0) 1 1 Try.underlying27 hi hz0 hz1 hz2 rfl (by decide) _ _ _ rfl (hown.alloc _) ⟨wr.heap.size, 0, none⟩ 2 2 [bv 0, bv 1] rfl rfl ?c1 ?c2 ?c3 ?c4 ?c5 ?_))
      case c1 => exact (cells_two_new _ _ _ _)
      case c2 => exact bv_one [_, _]
      case c3 => unfold maxLen; simp; omega
      case c4 => simp; omega
      case c5 => have := HBW.out; simp; omega
      intro x1 w1 hown1 hg1 _
      have R := put_step2 HBB.out HB.out hown hown1 hg1
      clear hown1 hg1 hown
      go_wp2_with fail
      go_ret
      have e : acc ++ [0, 1] = pre ++ textB s := by rw [HA.out, List.take_length]; simp [textB]
      rw [e] at R
      exact ⟨_, rfl, R⟩
end Go.Proofs.Ytacmidfcocjdjaa
