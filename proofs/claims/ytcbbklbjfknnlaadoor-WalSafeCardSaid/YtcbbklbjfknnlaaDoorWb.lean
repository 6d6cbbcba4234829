/-
  WAL: numbers as bytes: little, great, seal.
-/
import Derived.Test.YtcbbklbjfknnlaaDoorDx0
import Derived.OpenShut
import Derived.LoopN
set_option linter.unusedVariables false
set_option maxRecDepth 100000
namespace Go.Proofs.YtcbbklbjfknnlaaDoor
open Go.RowKit

theorem wrap_u64 (n : Int) : IntKind.u64.wrap n = n % 18446744073709551616 := by simp [IntKind.wrap, IntKind.bits, IntKind.signed]

/-- The number that bytes are, the lowest one first; a number's eight bytes. -/
def gr : List UInt8 → Nat
  | [] => 0
  | c :: l => c.toNat + 256 * gr l
def le8 (n : Nat) : List UInt8 := (List.range 8).map fun i => UInt8.ofNat (n / 256 ^ i % 256)
theorem le8_len (n : Nat) : (le8 n).length = 8 := by simp [le8]
theorem gr_app (a b : List UInt8) : gr (a ++ b) = gr a + 256 ^ a.length * gr b := by
  induction a with
  | nil => simp [gr]
  | cons c a ih =>
    rw [List.cons_append, gr, gr, ih, List.length_cons, Nat.pow_succ, Nat.mul_add, Nat.add_assoc, ← Nat.mul_assoc 256, Nat.mul_comm 256 (256 ^ a.length)]
theorem gr_lt (l : List UInt8) : gr l < 256 ^ l.length := by
  induction l with
  | nil => simp [gr]
  | cons c l ih =>
    rw [gr, List.length_cons, Nat.pow_succ]
    have := c.toNat_lt
    omega
theorem gr_next {l : List UInt8} {k : Nat} {c : UInt8} (h : l[k]? = some c) : gr (l.take (k + 1)) = gr (l.take k) + c.toNat * 256 ^ k := by
  have hk := (List.getElem?_eq_some_iff.1 h).1
  rw [List.take_add_one, h, gr_app, List.length_take, Nat.min_eq_left (by omega)]
  simp [gr, Nat.mul_comm]
theorem gr_le8 {n : Nat} (h : n < 18446744073709551616) : gr (le8 n) = n := by
  have hb : ∀ m, (UInt8.ofNat (m % 256)).toNat = m % 256 := fun m => by
    rw [UInt8.toNat_ofNat']
    omega
  have e : le8 n = [UInt8.ofNat (n / 256 ^ 0 % 256), UInt8.ofNat (n / 256 ^ 1 % 256), UInt8.ofNat (n / 256 ^ 2 % 256), UInt8.ofNat (n / 256 ^ 3 % 256), UInt8.ofNat (n / 256 ^ 4 % 256), UInt8.ofNat (n / 256 ^ 5 % 256), UInt8.ofNat (n / 256 ^ 6 % 256), UInt8.ofNat (n / 256 ^ 7 % 256)] := rfl
  rw [e]
  simp only [gr, hb]
  omega

/-- What 'n |= uint64(x) << (8*i)' is. -/
theorem or_byte {V k c : Nat} (hV : V < 256 ^ k) (hk : k ≤ 7) (hc : c < 256) :
    bits BinOp.or IntKind.u64 (V : Int) (IntKind.u64.wrap (IntKind.u64.wrap (c : Int) * 2 ^ (8 * k))) = ((V + c * 256 ^ k : Nat) : Int) := by
  have e0 : IntKind.u64.wrap (c : Int) = (c : Int) := by rw [wrap_u64]; omega
  rw [e0]
  have e1 : (c : Int) * 2 ^ (8 * k) = ((c * 256 ^ k : Nat) : Int) := by
    rw [show (256 : Nat) ^ k = 2 ^ (8 * k) from by rw [Nat.pow_mul]]; simp
  have hb : c * 256 ^ k < 18446744073709551616 ∧ 256 ^ k ≤ 72057594037927936 := by
    have h8 : 256 ^ k ≤ 256 ^ 7 := Nat.pow_le_pow_right (by omega) hk
    have h7 : c * 256 ^ k ≤ 255 * 256 ^ k := Nat.mul_le_mul_right _ (by omega)
    generalize c * 256 ^ k = q at *
    generalize 256 ^ k = p at *
    have h8' : p ≤ 72057594037927936 := h8
    omega
  rw [e1, wrap_u64]
  have e2 : ((c * 256 ^ k : Nat) : Int) % 18446744073709551616 = ((c * 256 ^ k : Nat) : Int) := by omega
  rw [e2, u64_or_nat V _ (by omega) hb.1]
  have e3 : V ||| c * 256 ^ k = V + c * 256 ^ k := by
    have h256 : 2 ^ (8 * k) = 256 ^ k := by rw [Nat.pow_mul]
    have := nat_join (8 * k) (c * 256 ^ k) V (by rw [h256]; exact Nat.mul_mod_left _ _) (by rw [h256]; exact hV)
    rw [Nat.or_comm, this]; omega
  rw [e3]

set_option maxHeartbeats 2000000 in
theorem great_any (w : World) (x : Value) (l : List UInt8) (h : Rd w x l) (hl : 8 ≤ l.length) : Calls Tryd.prog 56 #[x] w (fun e w' => e = .returned (.int .u64 (gr (l.take 8) : Int)) ∧ w' = w) := by
  obtain ⟨ao, c, hs, hr, -⟩ := h.head (P := Tryd.prog) 32 5 Tryd.underlying32 (by kernel_rfl) 8 hl
  have hs8 : ∀ W, (Instr.slice 32 x none (some (.int .i64 8)) none).run Tryd.prog W = .ok (.slice ao 8 c) W := fun W => hs .i64 W
  have hone := one_rd h
  have hlen := fun W => run_len_slice (P := Tryd.prog) W 32 3 ao 8 c Tryd.underlying32
  have HR := hid hr
  have HL := hid hl
  clear hs hr h hl
  go_enter Tryd.func56, Tryd.ntmps56
  go_wp2_with fail
  go_loop [3, 9] (fun n i => ∃ k : Nat, k ≤ 8 ∧ i = .int .i64 (k : Int) ∧ n = .int .u64 (gr (l.take k) : Int)) (fun _ i => 8 - (intOf i).toNat)
  case atStart => exact ⟨0, by omega, rfl, rfl⟩
  case round =>
    obtain ⟨k, hk, rfl, rfl⟩ := hrel
    by_cases hlt : k < 8
    · have hv := List.getElem?_eq_getElem (show k < (l.take 8).length by rw [List.length_take]; have := HL.out; omega)
      generalize (l.take 8)[k]'_ = u at *
      obtain ⟨b, off, rfl, hc⟩ := rd_get HR.out hv
      rw [List.getElem?_take_of_lt hlt] at hv
      have hV : gr (l.take k) < 256 ^ k := by
        have h1 := gr_lt (l.take k)
        rw [List.length_take, Nat.min_eq_left (by have := HL.out; omega)] at h1
        exact h1
      have hn := gr_next hv
      have hor := or_byte (V := gr (l.take k)) (k := k) (c := u.toNat) hV (by omega) u.toNat_lt
      rw [← hn] at hor
      have hki : (k : Int) < 8 := by omega
      have HV := hid hv
      have HN := hid hn
      clear hv hV hn
      unfold bv at hc
      go_wp2_with fail
      go_round
      case rel => exact ⟨k + 1, by omega, by go_num, rfl⟩
      case measure => first | (simp [intOf]; done) | (simp [intOf]; omega)
    · obtain rfl : k = 8 := by omega
      go_wp2_with fail
      go_ret
      exact ⟨rfl, rfl⟩

theorem le8_at (n k : Nat) (h : k < 8) : (le8 n)[k]? = some (UInt8.ofNat (n / 256 ^ k % 256)) := by
  unfold le8
  rw [List.getElem?_map, List.getElem?_range h]
  rfl

set_option maxHeartbeats 2000000 in
theorem little_any (w : World) (n : Nat) (hn : n < 18446744073709551616) : Calls Tryd.prog 62 #[.int .u64 (n : Int)] w (Gives 5 w (le8 n)) := by
  have hmk := run_make_row' (P := Tryd.prog) 32 5 (.int .u8 0) 1 Tryd.underlying32 info_u8 rfl .i64 .i64 8 (by decide) (by decide)
  have hmk2 : ∀ W, (Instr.makeSlice 32 (.int .i64 8) (.int .i64 8)).run Tryd.prog W = .ok (.slice (some ⟨W.heap.size, 0, none⟩) 8 8) (W.alloc (.cells (madeCells #[.int .u8 0] 8) 5)) := hmk
  clear hmk
  obtain ⟨mc, hmc⟩ : ∃ mc, mc = madeCells #[Value.int .u8 0] 8 := ⟨_, rfl⟩
  rw [← hmc] at hmk2
  have hrow : (w.alloc (.cells mc 5)).rowIs w.heap.size 5 8 (fun _ => .int .u8 0) := by rw [hmc]; exact World.rowIs_made w _ 8 _
  have hbz : Below w.heap.size w (w.alloc (.cells mc 5)) := (Below.refl _ _).alloc (Nat.le_refl _) _
  have HROW := hid hrow
  have HBZ := hid hbz
  have hlen := fun W => run_len_slice (P := Tryd.prog) W 32 3 (some ⟨w.heap.size, 0, none⟩) 8 8 Tryd.underlying32
  clear hrow hbz hmc
  go_enter Tryd.func62, Tryd.ntmps62
  go_wp2_with fail
  go_loopw [8] (fun i wr => ∃ k : Nat, k ≤ 8 ∧ i = .int .i64 (k : Int) ∧ Hid (wr.rowIs w.heap.size 5 8 (fun j => if j < k then bv (UInt8.ofNat (n / 256 ^ j % 256)) else .int .u8 0)) ∧ Hid (Below w.heap.size w wr)) (fun i _ => 8 - (intOf i).toNat)
  case atStart => exact ⟨0, by omega, rfl, by simpa using HROW, HBZ⟩
  case round =>
    obtain ⟨k, hk, rfl, HR, HB⟩ := hrel
    by_cases hlt : k < 8
    · have hs0 := HR.out.cell hlt
      have hs1 := HR.out.frozen k
      have hki : (k : Int) < 8 := by omega
      have hval : bv (UInt8.ofNat (n / 256 ^ k % 256)) = .int .u8 ((n : Int) / 2 ^ (8 * k) % 256) := by
        unfold bv
        rw [UInt8.toNat_ofNat', show (256 : Nat) ^ k = 2 ^ (8 * k) from by rw [Nat.pow_mul]]
        have : n / 2 ^ (8 * k) % 256 % 2 ^ 8 = n / 2 ^ (8 * k) % 256 := Nat.mod_mod _ _
        rw [this]
        simp
      have hr2 : (wr.setCell ⟨w.heap.size, k, none⟩ (.int .u8 ((n : Int) / 2 ^ (8 * k) % 256))).rowIs w.heap.size 5 8 (fun j => if j < k + 1 then bv (UInt8.ofNat (n / 256 ^ j % 256)) else .int .u8 0) := (HR.out.set k _).congr (fun j hj => by
        by_cases e : j = k
        · subst e; rw [if_pos rfl, if_pos (by omega), hval]
        · by_cases e2 : j < k
          · rw [if_neg e, if_pos e2, if_pos (by omega)]
          · rw [if_neg e, if_neg e2, if_neg (by omega)])
      have HR2 := hid hr2
      have HB2 : Hid (Below w.heap.size w (wr.setCell ⟨w.heap.size, k, none⟩ (.int .u8 ((n : Int) / 2 ^ (8 * k) % 256)))) := HB.out.setCell (Nat.le_refl _) _
      clear hr2 hval
      go_wp2_with fail
      go_roundw
      case rel => exact ⟨k + 1, by omega, by go_num, HR2, HB2⟩
      case measure => first | (simp [intOf]; done) | (simp [intOf]; omega)
    · obtain rfl : k = 8 := by omega
      have HE : Hid (Gives 5 w (le8 n) (.returned (.slice (some ⟨w.heap.size, 0, none⟩) 8 8)) wr) :=
        ⟨_, rfl, row_own HR.out (Nat.le_refl _) (le8_len n) (by decide) (fun i hi => ⟨_, le8_at n i hi, if_pos hi⟩), HB.out⟩
      go_wp2_with fail
      go_ret
      exact HE.out

/-- A number at a sector's end. -/
def sealN (b : List UInt8) : Nat := gr (b.drop 56)
theorem seal_any (w : World) (x : Value) (l : List UInt8) (h : Rd w x l) (hl : l.length = 64) : Calls Tryd.prog 71 #[x] w (fun e w' => e = .returned (.int .u64 (sealN l : Int)) ∧ w' = w) := by
  obtain ⟨ao, c, hs, hr, -⟩ := h.cut (P := Tryd.prog) 32 5 Tryd.underlying32 (by kernel_rfl) 56 (by omega)
  have hs56 : ∀ W, (Instr.slice 32 x (some (.int .i64 56)) none none).run Tryd.prog W = .ok (.slice ao (l.length - 56) c) W := fun W => hs W
  rw [hl] at hs56 hr
  have CG0 := great_any w _ _ hr (by rw [List.length_drop, hl]; decide)
  rw [List.take_of_length_le (by rw [List.length_drop, hl]; decide)] at CG0
  have CG := hid CG0
  have hone := one_rd h
  clear h hs hr CG0
  go_enter Tryd.func71, Tryd.ntmps71
  go_wp2_with (first | (go_at_call 56; refine CG.out.mono ?_; rintro e w2 ⟨rfl, rfl⟩))
  go_ret
  exact ⟨rfl, rfl⟩
end Go.Proofs.YtcbbklbjfknnlaaDoor
