import Derived.OpenShut
import Derived.LoopN
import Derived.Test.YtddnleofflobhaaGreatDoorRows
import Derived.WalkKit
import Derived.WalkSpells
import Derived.WalkLawsBesides
import Derived.Laws.AppendOwnNone
import Derived.BigQuiet
import Derived.Deep.QuietTactic
import Derived.Deep.MidRow
import Derived.Laws.MakeOwn
import Derived.Lib.Bytes
import Derived.Shelf.Abstract
import Derived.Deep.OwnRows
import Derived.Deep.Slices
import Derived.Deep.AppendLies
import Derived.OwnWalk
import Derived.Great.FillDense
import Derived.Laws.Tables
import Derived.Test.YtddnleofflobhaaGreatDoorVG1
import Derived.Test.YtddnleofflobhaaGreatDoorVG2
import Derived.Test.YtddnleofflobhaaGreatDoorVG3
set_option linter.unusedVariables false
set_option linter.unusedSimpArgs false
set_option linter.unusedVariables false
set_option maxRecDepth 100000
namespace Go.Proofs.YtddnleofflobhaaGreatDoor
open Go.RowKit

/-- The number that bytes are, the lowest one first; a number's eight bytes. -/
def gr : List UInt8 → Nat
  | [] => 0
  | c :: l => c.toNat + 256 * gr l
def le8 (n : Nat) : List UInt8 := (List.range 8).map fun i => UInt8.ofNat (n / 256 ^ i % 256)
theorem le8_len (n : Nat) : (le8 n).length = 8 := by simp [le8]
theorem gr_app (a b : List UInt8) : gr (a ++ b) = gr a + 256 ^ a.length * gr b := by
  induction a with
  | nil => simp [gr]
  | cons c a ih =>
    rw [List.cons_append, gr, gr, ih, List.length_cons, Nat.pow_succ, Nat.mul_add, Nat.add_assoc, ← Nat.mul_assoc 256, Nat.mul_comm 256 (256 ^ a.length)]
theorem gr_lt (l : List UInt8) : gr l < 256 ^ l.length := by
  induction l with
  | nil => simp [gr]
  | cons c l ih =>
    rw [gr, List.length_cons, Nat.pow_succ]
    have := c.toNat_lt
    omega
theorem gr_next {l : List UInt8} {k : Nat} {c : UInt8} (h : l[k]? = some c) : gr (l.take (k + 1)) = gr (l.take k) + c.toNat * 256 ^ k := by
  have hk := (List.getElem?_eq_some_iff.1 h).1
  rw [List.take_add_one, h, gr_app, List.length_take, Nat.min_eq_left (by omega)]
  simp [gr, Nat.mul_comm]
theorem gr_le8 {n : Nat} (h : n < 18446744073709551616) : gr (le8 n) = n := by
  have hb : ∀ m, (UInt8.ofNat (m % 256)).toNat = m % 256 := fun m => by
    rw [UInt8.toNat_ofNat']
    omega
  have e : le8 n = [UInt8.ofNat (n / 256 ^ 0 % 256), UInt8.ofNat (n / 256 ^ 1 % 256), UInt8.ofNat (n / 256 ^ 2 % 256), UInt8.ofNat (n / 256 ^ 3 % 256), UInt8.ofNat (n / 256 ^ 4 % 256), UInt8.ofNat (n / 256 ^ 5 % 256), UInt8.ofNat (n / 256 ^ 6 % 256), UInt8.ofNat (n / 256 ^ 7 % 256)] := rfl
  rw [e]
  simp only [gr, hb]
  omega

/-- What 'n |= uint64(x) << (8*i)' is. -/
theorem or_byte {V k c : Nat} (hV : V < 256 ^ k) (hk : k ≤ 7) (hc : c < 256) :
    bits BinOp.or IntKind.u64 (V : Int) (IntKind.u64.wrap (IntKind.u64.wrap (c : Int) * 2 ^ (8 * k))) = ((V + c * 256 ^ k : Nat) : Int) := by
  have e0 : IntKind.u64.wrap (c : Int) = (c : Int) := by rw [wrap_u64]; omega
  rw [e0]
  have e1 : (c : Int) * 2 ^ (8 * k) = ((c * 256 ^ k : Nat) : Int) := by
    rw [show (256 : Nat) ^ k = 2 ^ (8 * k) from by rw [Nat.pow_mul]]; simp
  have hb : c * 256 ^ k < 18446744073709551616 ∧ 256 ^ k ≤ 72057594037927936 := by
    have h8 : 256 ^ k ≤ 256 ^ 7 := Nat.pow_le_pow_right (by omega) hk
    have h7 : c * 256 ^ k ≤ 255 * 256 ^ k := Nat.mul_le_mul_right _ (by omega)
    generalize c * 256 ^ k = q at *
    generalize 256 ^ k = p at *
    have h8' : p ≤ 72057594037927936 := h8
    omega
  rw [e1, wrap_u64]
  have e2 : ((c * 256 ^ k : Nat) : Int) % 18446744073709551616 = ((c * 256 ^ k : Nat) : Int) := by omega
  rw [e2, u64_or_nat V _ (by omega) hb.1]
  have e3 : V ||| c * 256 ^ k = V + c * 256 ^ k := by
    have h256 : 2 ^ (8 * k) = 256 ^ k := by rw [Nat.pow_mul]
    have := nat_join (8 * k) (c * 256 ^ k) V (by rw [h256]; exact Nat.mul_mod_left _ _) (by rw [h256]; exact hV)
    rw [Nat.or_comm, this]; omega
  rw [e3]

set_option maxHeartbeats 2000000 in
theorem great_any (w : World) (x : Value) (l : List UInt8) (h : Rd w x l) (hl : 8 ≤ l.length) : Calls Tryz.prog 108 #[x] w (fun e w' => e = .returned (.int .u64 (gr (l.take 8) : Int)) ∧ w' = w) := by
  obtain ⟨ao, c, hs, hr, -⟩ := h.head (P := Tryz.prog) 25 5 Tryz.underlying25 (by kernel_rfl) 8 hl
  have hs8 : ∀ W, (Instr.slice 25 x none (some (.int .i64 8)) none).run Tryz.prog W = .ok (.slice ao 8 c) W := fun W => hs .i64 W
  have hone := one_rd h
  have hlen := fun W => run_len_slice (P := Tryz.prog) W 25 3 ao 8 c Tryz.underlying25
  have HR := hid hr
  have HL := hid hl
  clear hs hr h hl
  go_enter Tryz.func108, Tryz.ntmps108
  go_wp2_with fail
  go_loop [3, 9] (fun n i => ∃ k : Nat, k ≤ 8 ∧ i = .int .i64 (k : Int) ∧ n = .int .u64 (gr (l.take k) : Int)) (fun _ i => 8 - (intOf i).toNat)
  case atStart => exact ⟨0, by omega, rfl, rfl⟩
  case round =>
    obtain ⟨k, hk, rfl, rfl⟩ := hrel
    by_cases hlt : k < 8
    · have hv := List.getElem?_eq_getElem (show k < (l.take 8).length by rw [List.length_take]; have := HL.out; omega)
      generalize (l.take 8)[k]'_ = u at *
      obtain ⟨b, off, rfl, hc⟩ := rd_get HR.out hv
      rw [List.getElem?_take_of_lt hlt] at hv
      have hV : gr (l.take k) < 256 ^ k := by
        have h1 := gr_lt (l.take k)
        rw [List.length_take, Nat.min_eq_left (by have := HL.out; omega)] at h1
        exact h1
      have hn := gr_next hv
      have hor := or_byte (V := gr (l.take k)) (k := k) (c := u.toNat) hV (by omega) u.toNat_lt
      rw [← hn] at hor
      have hki : (k : Int) < 8 := by omega
      have HV := hid hv
      have HN := hid hn
      clear hv hV hn
      unfold bv at hc
      go_wp2_with fail
      go_round
      case rel => exact ⟨k + 1, by omega, by go_num, rfl⟩
      case measure => first | (simp [intOf]; done) | (simp [intOf]; omega)
    · obtain rfl : k = 8 := by omega
      go_wp2_with fail
      go_ret
      exact ⟨rfl, rfl⟩

theorem le8_at (n k : Nat) (h : k < 8) : (le8 n)[k]? = some (UInt8.ofNat (n / 256 ^ k % 256)) := by
  unfold le8
  rw [List.getElem?_map, List.getElem?_range h]
  rfl

set_option maxHeartbeats 2000000 in
theorem little_any (w : World) (n : Nat) (hn : n < 18446744073709551616) : Calls Tryz.prog 143 #[.int .u64 (n : Int)] w (Gives 5 w (le8 n)) := by
  have hmk := run_make_row' (P := Tryz.prog) 25 5 (.int .u8 0) 1 Tryz.underlying25 info_u8 rfl .i64 .i64 8 (by decide) (by decide)
  have hmk2 : ∀ W, (Instr.makeSlice 25 (.int .i64 8) (.int .i64 8)).run Tryz.prog W = .ok (.slice (some ⟨W.heap.size, 0, none⟩) 8 8) (W.alloc (.cells (madeCells #[.int .u8 0] 8) 5)) := hmk
  clear hmk
  obtain ⟨mc, hmc⟩ : ∃ mc, mc = madeCells #[Value.int .u8 0] 8 := ⟨_, rfl⟩
  rw [← hmc] at hmk2
  have hrow : (w.alloc (.cells mc 5)).rowIs w.heap.size 5 8 (fun _ => .int .u8 0) := by rw [hmc]; exact World.rowIs_made w _ 8 _
  have hbz : Below w.heap.size w (w.alloc (.cells mc 5)) := (Below.refl _ _).alloc (Nat.le_refl _) _
  have HROW := hid hrow
  have HBZ := hid hbz
  have hlen := fun W => run_len_slice (P := Tryz.prog) W 25 3 (some ⟨w.heap.size, 0, none⟩) 8 8 Tryz.underlying25
  clear hrow hbz hmc
  go_enter Tryz.func143, Tryz.ntmps143
  go_wp2_with fail
  go_loopw [8] (fun i wr => ∃ k : Nat, k ≤ 8 ∧ i = .int .i64 (k : Int) ∧ Hid (wr.rowIs w.heap.size 5 8 (fun j => if j < k then bv (UInt8.ofNat (n / 256 ^ j % 256)) else .int .u8 0)) ∧ Hid (Below w.heap.size w wr)) (fun i _ => 8 - (intOf i).toNat)
  case atStart => exact ⟨0, by omega, rfl, by simpa using HROW, HBZ⟩
  case round =>
    obtain ⟨k, hk, rfl, HR, HB⟩ := hrel
    by_cases hlt : k < 8
    · have hs0 := HR.out.cell hlt
      have hs1 := HR.out.frozen k
      have hki : (k : Int) < 8 := by omega
      have hval : bv (UInt8.ofNat (n / 256 ^ k % 256)) = .int .u8 ((n : Int) / 2 ^ (8 * k) % 256) := by
        unfold bv
        rw [UInt8.toNat_ofNat', show (256 : Nat) ^ k = 2 ^ (8 * k) from by rw [Nat.pow_mul]]
        have : n / 2 ^ (8 * k) % 256 % 2 ^ 8 = n / 2 ^ (8 * k) % 256 := Nat.mod_mod _ _
        rw [this]
        simp
      have hr2 : (wr.setCell ⟨w.heap.size, k, none⟩ (.int .u8 ((n : Int) / 2 ^ (8 * k) % 256))).rowIs w.heap.size 5 8 (fun j => if j < k + 1 then bv (UInt8.ofNat (n / 256 ^ j % 256)) else .int .u8 0) := (HR.out.set k _).congr (fun j hj => by
        by_cases e : j = k
        · subst e; rw [if_pos rfl, if_pos (by omega), hval]
        · by_cases e2 : j < k
          · rw [if_neg e, if_pos e2, if_pos (by omega)]
          · rw [if_neg e, if_neg e2, if_neg (by omega)])
      have HR2 := hid hr2
      have HB2 : Hid (Below w.heap.size w (wr.setCell ⟨w.heap.size, k, none⟩ (.int .u8 ((n : Int) / 2 ^ (8 * k) % 256)))) := HB.out.setCell (Nat.le_refl _) _
      clear hr2 hval
      go_wp2_with fail
      go_roundw
      case rel => exact ⟨k + 1, by omega, by go_num, HR2, HB2⟩
      case measure => first | (simp [intOf]; done) | (simp [intOf]; omega)
    · obtain rfl : k = 8 := by omega
      have HE : Hid (Gives 5 w (le8 n) (.returned (.slice (some ⟨w.heap.size, 0, none⟩) 8 8)) wr) :=
        ⟨_, rfl, row_own HR.out (Nat.le_refl _) (le8_len n) (by decide) (fun i hi => ⟨_, le8_at n i hi, if_pos hi⟩), HB.out⟩
      go_wp2_with fail
      go_ret
      exact HE.out

/-- A number at a sector's end. -/
def sealN (b : List UInt8) : Nat := gr (b.drop 56)
theorem seal_any (w : World) (x : Value) (l : List UInt8) (h : Rd w x l) (hl : l.length = 64) : Calls Tryz.prog 122 #[x] w (fun e w' => e = .returned (.int .u64 (sealN l : Int)) ∧ w' = w) := by
  obtain ⟨ao, c, hs, hr, -⟩ := h.cut (P := Tryz.prog) 25 5 Tryz.underlying25 (by kernel_rfl) 56 (by omega)
  have hs56 : ∀ W, (Instr.slice 25 x (some (.int .i64 56)) none none).run Tryz.prog W = .ok (.slice ao (l.length - 56) c) W := fun W => hs W
  rw [hl] at hs56 hr
  have CG0 := great_any w _ _ hr (by rw [List.length_drop, hl]; decide)
  rw [List.take_of_length_le (by rw [List.length_drop, hl]; decide)] at CG0
  have CG := hid CG0
  have hone := one_rd h
  clear h hs hr CG0
  go_enter Tryz.func122, Tryz.ntmps122
  go_wp2_with (first | (go_at_call 108; refine CG.out.mono ?_; rintro e w2 ⟨rfl, rfl⟩))
  go_ret
  exact ⟨rfl, rfl⟩
end Go.Proofs.YtddnleofflobhaaGreatDoor

namespace Go.Proofs.YtddnleofflobhaaGreatDoor
open Go.RowKit

theorem Rd.at' {w : World} {x : Value} {l : List UInt8} (h : Rd w x l) (hl : 0 < l.length) :
    ∃ b off c, x = .slice (some ⟨b, off, none⟩) l.length c ∧ l.length ≤ c ∧ c ≤ maxLen ∧ ∀ j (hj : j < l.length), w.cell? ⟨b, off + j, none⟩ = some (.int .u8 ((l[j]).toNat : Int)) := by
  obtain ⟨ao, c, rfl, h1, h2, h3, h4⟩ := h
  cases ao with
  | none => have := h3 rfl; omega
  | some a =>
    obtain ⟨b, off, spot⟩ := a
    have h0 := h4 _ rfl 0 (bv l[0]) (by simp [List.getElem?_eq_getElem hl])
    have hspot : spot = none := by simpa [Addr.add] using World.cell?_spot h0
    subst hspot
    refine ⟨b, off, c, rfl, h1, h2, fun j hj => ?_⟩
    have hj' := h4 _ rfl j (bv l[j]) (by simp [List.getElem?_eq_getElem hj])
    rw [WideShapes.add_plain] at hj'
    exact hj'

/-- 'append(out, x...)' within the capacity. -/
theorem wp_app_fits {P : Program} {w : World} {ops : Array Oper} {rest : List Oper} {o : Oper} {a : Act} {Q : Exit → Act → World → Prop} (hgd : o.guard = none) (s x : Operand) (t : TypeId)
    (ho : o.op = .call { callee := .builtin .append, args := #[s, x], argTypes := #[t, t] })
    (base : Nat) (e : TypeId) (ht : P.underlying t = some (.slice e)) (hinfo : (P.info? e).map (fun i => (i.zero, i.size, i.bytes)) = some (some (.int .u8 0), 1, 1))
    (g k cap : Nat) (xs : List Value) (hs : a.eval s = .slice (some ⟨g, 0, none⟩) k cap) (hown : w.ownsRow base e 1 (.slice (some ⟨g, 0, none⟩) k cap) k xs)
    (y : Value) (l : List UInt8) (hx : a.eval x = y) (hr : Rd w y l) (hfit : k + l.length ≤ cap)
    (h : ∀ w', w'.ownsRow base e 1 (.slice (some ⟨g, 0, none⟩) (k + l.length) cap) (k + l.length) (xs ++ l.map bv) → w.grownBy w' (some g) → wpList P ops Q rest (a.put o.dst (.slice (some ⟨g, 0, none⟩) (k + l.length) cap)) w') : wpList P ops Q (o :: rest) a w := by
  obtain ⟨i0, hi, hz0, hz1, hz2⟩ := info_parts hinfo
  obtain ⟨ao, c, rfl, h1, h2, h3, h4⟩ := hr
  refine wpList_append_fits_any w hgd s x t ho base e i0 1 ht hi hz1 g k cap xs hs hown ao l.length c (l.map bv) hx (by simp) (fun hn => ?_) (fun ad had => h4 ad had) (bv_one l) hfit h
  have := h3 hn
  omega

/-- It answers true, and at most draws. -/
def Draws (w : World) (v : Value) (en : Ending) (w' : World) : Prop := en = .returned v ∧ ∃ n, w' = w.drewN n

theorem Draws.below {w w' : World} {v : Value} {en : Ending} (h : Draws w v en w') : Below w.heap.size w w' := by
  obtain ⟨_, n, rfl⟩ := h
  exact ⟨rfl, rfl, rfl, Nat.le_refl _, fun _ _ => rfl⟩

end Go.Proofs.YtddnleofflobhaaGreatDoor

set_option linter.unusedVariables false
set_option maxRecDepth 100000
namespace Go.Proofs.YtddnleofflobhaaGreatDoor
open Go.RowKit

theorem fill_one (off : Nat) (v : Value) (cs : Array Value) : (v.cells.zipIdx.foldl (fun cs (c, j) => cs.setIfInBounds (off + j) c) cs).size = cs.size ∧
    ∀ k, (v.cells.zipIdx.foldl (fun cs (c, j) => cs.setIfInBounds (off + j) c) cs)[k]? = if off ≤ k ∧ k < off + v.cells.size ∧ k < cs.size then v.cells[k - off]? else cs[k]? := by
  obtain ⟨h1, h2⟩ := Great.foldl_set off v.cells.toList 0 cs
  have e : v.cells.zipIdx.foldl (fun cs (c, j) => cs.setIfInBounds (off + j) c) cs = (v.cells.toList.zipIdx 0).foldl (fun cs (x : Value × Nat) => cs.setIfInBounds (off + x.2) x.1) cs := by
    rw [← Array.foldl_toList, Array.toList_zipIdx]
  rw [e]
  refine ⟨h1, fun k => ?_⟩
  rw [h2 k]
  simp only [Nat.add_zero, Array.length_toList, Array.getElem?_toList]

theorem write_parts : (match Tryz.prog.info? 110, Tryz.prog.underlying 110 with
    | some it, some (.struct fields) => (it.zero, fields.toList.mapM (fun f => (Tryz.prog.info? f.type).map fun i => (f.offset, i.size)))
    | _, _ => (none, none)) = (some (.agg (#[.int .i64 0] ++ Array.replicate 128 (.int .u8 0))), some [(0, 1), (1, 64), (65, 64)]) := by kernel_rfl

theorem built_write (z : Int) (A B : Array Value) (hA : A.size = 64) (hB : B.size = 64) : Tryz.prog.built 110 [(0, .int .i64 z), (1, .agg A), (2, .agg B)] = some (#[.int .i64 z] ++ (A ++ B)) := by
  have hp := write_parts
  unfold Program.built
  cases hi : Tryz.prog.info? 110 with
  | none => rw [hi] at hp; simp at hp
  | some it =>
    rw [hi] at hp
    cases hu : Tryz.prog.underlying 110 with
    | none => rw [hu] at hp; simp at hp
    | some d =>
      rw [hu] at hp
      cases d <;> try (simp at hp; done)
      rename_i fields
      simp only [Prod.mk.injEq] at hp
      obtain ⟨h1, h2⟩ := hp
      simp only [h1, h2]
      obtain ⟨Z, hZ⟩ : ∃ Z : Array Value, Z = #[.int .i64 0] ++ Array.replicate 128 (.int .u8 0) := ⟨_, rfl⟩
      have hZs : Z.size = 129 := by rw [hZ]; simp
      simp only [Value.cells, ← hZ]
      obtain ⟨s1, g1⟩ := fill_one 0 (.int .i64 z) Z
      have c1 : (Value.int .i64 z).cells = #[.int .i64 z] := rfl
      generalize hR1 : ((Value.int .i64 z).cells.zipIdx.foldl (fun cs (c, j) => cs.setIfInBounds (0 + j) c) Z) = R1 at s1 g1
      obtain ⟨s2, g2⟩ := fill_one 1 (.agg A) R1
      generalize hR2 : ((Value.agg A).cells.zipIdx.foldl (fun cs (c, j) => cs.setIfInBounds (1 + j) c) R1) = R2 at s2 g2
      obtain ⟨s3, g3⟩ := fill_one 65 (.agg B) R2
      generalize hR3 : ((Value.agg B).cells.zipIdx.foldl (fun cs (c, j) => cs.setIfInBounds (65 + j) c) R2) = R3 at s3 g3
      have cA : (Value.agg A).cells = A := rfl
      have cB : (Value.agg B).cells = B := rfl
      rw [cA] at g2
      rw [cB] at g3
      rw [c1] at g1
      have e1 : Instr.fill (([(0, 1), (1, 64), (65, 64)] : List (Nat × Nat)).toArray[·]?) Z [(0, .int .i64 z), (1, .agg A), (2, .agg B)] = some R3 := by
        unfold Instr.fill
        simp only [List.getElem?_toArray, List.getElem?_cons_zero]
        rw [hR1]
        rw [if_neg (by rw [c1]; simp [hZs])]
        unfold Instr.fill
        simp only [List.getElem?_toArray, List.getElem?_cons_succ, List.getElem?_cons_zero]
        rw [hR2]
        rw [if_neg (by rw [cA]; simp [hA, s1, hZs])]
        unfold Instr.fill
        simp only [List.getElem?_toArray, List.getElem?_cons_succ, List.getElem?_cons_zero]
        rw [hR3]
        rw [if_neg (by rw [cB]; simp [hB, s2, s1, hZs])]
        unfold Instr.fill
        rfl
      rw [e1]
      congr 1
      apply Array.ext_getElem?
      intro k
      rw [g3 k, g2 k, g1 k]
      rw [Array.getElem?_append, Array.getElem?_append]
      simp only [List.size_toArray, List.length_cons, List.length_nil]
      by_cases k0 : k = 0
      · subst k0; simp [hZs]
      · by_cases k1 : k < 65
        · rw [if_neg (by omega), if_pos (by omega), if_neg (by omega), if_pos (by omega)]
        · by_cases k2 : k < 129
          · rw [if_pos (by omega), if_neg (by omega), if_neg (by omega)]
            congr 1; omega
          · rw [if_neg (by omega), if_neg (by omega), if_neg (by omega), if_neg (by omega), if_neg (by omega), Array.getElem?_eq_none (by omega), Array.getElem?_eq_none (by omega)]
end Go.Proofs.YtddnleofflobhaaGreatDoor

set_option linter.unusedVariables false
namespace Go.Proofs.YtddnleofflobhaaGreatDoor
open Go.RowKit

/-- All that lay lies, but for the blocks of X. -/
structure Keep (X : Nat → Prop) (w w' : World) : Prop where
  os : w'.os = w.os
  tape : w'.tape = w.tape
  output : w'.output = w.output
  size : w.heap.size ≤ w'.heap.size
  block : ∀ k, k < w.heap.size → ¬ X k → w'.heap[k]? = w.heap[k]?

theorem Keep.refl (X : Nat → Prop) (w : World) : Keep X w w := ⟨rfl, rfl, rfl, Nat.le_refl _, fun _ _ _ => rfl⟩
theorem Keep.trans {X : Nat → Prop} {a b c : World} (h : Keep X a b) (k : Keep X b c) : Keep X a c :=
  ⟨k.os.trans h.os, k.tape.trans h.tape, k.output.trans h.output, Nat.le_trans h.size k.size, fun i hi hn => (k.block i (Nat.lt_of_lt_of_le hi h.size) hn).trans (h.block i hi hn)⟩
/-- The second step's blocks: some of the first one's, or new ones. -/
theorem Keep.trans2 {X Y : Nat → Prop} {a b c : World} (h : Keep X a b) (k : Keep Y b c) (hy : ∀ i, Y i → X i ∨ a.heap.size ≤ i) : Keep X a c :=
  ⟨k.os.trans h.os, k.tape.trans h.tape, k.output.trans h.output, Nat.le_trans h.size k.size, fun i hi hn => (k.block i (Nat.lt_of_lt_of_le hi h.size) (fun e => (hy i e).elim hn (by omega))).trans (h.block i hi hn)⟩
theorem Keep.mono {X Y : Nat → Prop} {a b : World} (h : Keep X a b) (hxy : ∀ k, k < a.heap.size → X k → Y k) : Keep Y a b :=
  ⟨h.os, h.tape, h.output, h.size, fun i hi hn => h.block i hi (fun hx => hn (hxy i hi hx))⟩
theorem Keep.of_below {X : Nat → Prop} {w w' : World} (h : Below w.heap.size w w') : Keep X w w' := ⟨h.os, h.tape, h.output, h.size, fun k hk _ => h.block k hk⟩
theorem Keep.of_grown {X : Nat → Prop} {w w' : World} {row : Option Nat} (h : w.grownBy w' row) (hx : ∀ k, row = some k → X k) : Keep X w w' :=
  ⟨h.os, h.tape, h.output, h.size, fun k hk hn => h.block k hk (fun e => hn (hx k e.symm))⟩
theorem Keep.below {X : Nat → Prop} {w w' : World} {n : Nat} (h : Keep X w w') (hn : n ≤ w.heap.size) (hx : ∀ k, X k → n ≤ k) : Below n w w' :=
  ⟨h.os, h.tape, h.output, h.size, fun k hk => h.block k (Nat.lt_of_lt_of_le hk hn) (fun hx' => by have := hx k hx'; omega)⟩
theorem Keep.set {X : Nat → Prop} (w : World) (a : Addr) (v : Value) (hx : X a.block) : Keep X w (w.setCell a v) := Keep.of_grown (grown_set w a v) (fun k e => by cases e; exact hx)
theorem Keep.setCells {X : Nat → Prop} {b : Nat} (hx : X b) : ∀ (vs : List Value) (o : Nat) (w0 w : World), Keep X w0 w → Keep X w0 (w.setCells b o vs)
  | [], _, _, _, h => h
  | v :: r, o, w0, w, h => by
    rw [World.setCells]
    exact Keep.setCells hx r (o + 1) w0 _ (h.trans (Keep.set w ⟨b, o, none⟩ v hx))
/-- What is owned stays owned. -/
theorem own_keep {X : Nat → Prop} {w w' : World} {base : Nat} {e : TypeId} {size : Nat} {v : Value} {n : Nat} {xs : List Value} (h : w.ownsRow base e size v n xs) (hk : Keep X w w') (hx : ∀ k, v.ownBlock = some k → ¬ X k) : w'.ownsRow base e size v n xs :=
  ⟨h.1, h.2.imp id fun ⟨g, cap, cur, a, b, c, d⟩ => ⟨g, cap, cur, a, b, by rw [hk.block g (lt_of_block c) (hx g (by rw [a]; rfl))]; exact c, d⟩⟩

theorem Rd.keep {X : Nat → Prop} {w w' : World} {x : Value} {l : List UInt8} (h : Rd w x l) (hk : Keep X w w') (hx : l ≠ [] → ∀ k, blk x = some k → ¬ X k) : Rd w' x l := by
  obtain ⟨ao, c, rfl, h1, h2, h3, h4⟩ := h
  refine ⟨ao, c, rfl, h1, h2, h3, fun a ha j u hu => ?_⟩
  subst ha
  have h6 := h4 a rfl j u hu
  have hlt := World.block_lt_of_cell? w _ h6
  rw [World.cell?_of_block (w := w) (a := a.add j) (hk.block _ hlt (by rw [add_block]; exact hx (fun e => by subst e; simp at hu) _ rfl))]
  exact h6
theorem Rws.keep {X : Nat → Prop} {size : Nat} {w w' : World} {x : Value} {L : List (List Value)} (h : Rws size w x L) (hk : Keep X w w') (hx : L ≠ [] → ∀ k, blk x = some k → ¬ X k) : Rws size w' x L := by
  obtain ⟨ao, c, rfl, h1, h2, h3, h5, h4⟩ := h
  refine ⟨ao, c, rfl, h1, h2, h3, h5, fun a ha j u hu => ?_⟩
  subst ha
  have h6 := h4 a rfl j u hu
  have hlt := World.block_lt_of_cell? w _ h6
  rw [World.cell?_of_block (w := w) (a := a.add j) (hk.block _ hlt (by rw [add_block]; exact hx (fun e => by subst e; simp at hu) _ rfl))]
  exact h6
theorem blk_of {ao : Option Addr} {n c k : Nat} (h : blk (.slice ao n c) = some k) : ∃ a, ao = some a ∧ a.block = k := by
  cases ao with
  | none => cases h
  | some a => exact ⟨a, rfl, by simpa [blk] using h⟩
theorem rd_block {w : World} {ao : Option Addr} {n c : Nat} {l : List UInt8} (h : Rd w (.slice ao n c) l) (hn : l ≠ []) : ∀ a, ao = some a → a.block < w.heap.size := by
  intro a ha
  subst ha
  obtain ⟨ao', c', he, h1, h2, h3, h4⟩ := h
  simp only [Value.slice.injEq] at he
  obtain ⟨rfl, rfl, rfl⟩ := he
  cases l with
  | nil => exact (hn rfl).elim
  | cons x l => have := World.block_lt_of_cell? w _ (h4 a rfl 0 _ rfl); rwa [add_block] at this
theorem below_on2 {a b c : World} (h : Below a.heap.size a b) (k : Below b.heap.size b c) : Below a.heap.size a c := h.trans (k.mono h.size)
/-- Behind 'append' the row lies where it lay, or in a new block. -/
theorem app_fresh {P : Program} {w w' : World} {base : Nat} {t ty e : TypeId} {i : TypeInfo} {z : Value} {size bytes : Nat} (ht : P.underlying t = some (.slice e)) (hi : P.info? e = some i) (hz : i.zero = some z)
    (hsize : i.size = size) (hby : i.bytes = bytes) (hzs : z.cells.size = size) (hsz : 0 < size)
    {v v' : Value} {n : Nat} {xs : List Value} (hown : w.ownsRow base e size v n xs)
    {a : Addr} {m c : Nat} {news : List Value} (hl : news.length = m * size) (hnews : ∀ j u, news[j]? = some u → w.cell? (a.add j) = some u) (h1 : ∀ u ∈ news, u.oneCell' = true)
    (h63 : n + m ≤ maxLen) (hbytes : (n + m) * bytes ≤ 140737488355328) (hr : (Builtin.append_ #[t, t] ty #[v, .slice (some a) m c]).run P w = .ok v' w') :
    ∀ k, v'.ownBlock = some k → v.ownBlock = some k ∨ w.heap.size ≤ k := by
  have hown0 := hown
  rcases hown.2 with ⟨rfl, rfl⟩ | ⟨g, cap, cur, rfl, hbg, hg, hnc, hcm, hcs, htake⟩
  · have hx : xs = [] := List.eq_nil_of_length_eq_zero (by simpa using hown.1)
    subst hx
    obtain ⟨v2, w2, hr2, ho, -, -⟩ := run_append_own (P := P) w w.heap.size t ty e i z size bytes ht hi hz hsize hby hzs hsz _ 0 [] (World.ownsRow_nil w w.heap.size e size) a m c news hl hnews h1 h63 hbytes (Nat.le_refl _)
    rw [hr] at hr2
    cases hr2
    exact fun k hk => .inr (ho.lt k hk).1
  · subst hsize
    subst hby
    by_cases hroom : n + m ≤ cap
    · have hfit : n * i.size + news.length ≤ cur.size := by rw [hl, hcs, ← Nat.add_mul]; exact Nat.mul_le_mul_right _ hroom
      have hr2 := run_append_room (P := P) w t ty e i ht hi g n cap cur hg a m c news hl hnews h1 hroom hfit
      rw [hr] at hr2
      cases hr2
      exact fun k hk => .inl hk
    · have hr2 := run_append_grow (P := P) (ty := ty) w t e i z ht hi hz ⟨g, 0, none⟩ n cap xs hown.1 (hown0.cells (g := g) rfl) a m c news hl hnews (by omega) (by simp only [maxLen] at h63; omega) (growslice_fits (by omega) hbytes)
      rw [hr] at hr2
      cases hr2
      exact fun k hk => .inr (by simp [Value.ownBlock] at hk; omega)
end Go.Proofs.YtddnleofflobhaaGreatDoor

set_option linter.unusedVariables false
set_option maxRecDepth 100000
namespace Go.Proofs.YtddnleofflobhaaGreatDoor
open Go.RowKit

/-- A disk's blocks. -/
def DX (db sb : Nat) (vw : Value) : Nat → Prop := fun k => k = db ∨ k = sb ∨ vw.ownBlock = some k
/-- What a disk's call leaves alone: all but the disk's blocks; the row of writes lies where it lay, or in a new block. -/
structure Dfr (db sb : Nat) (vw vw' : Value) (w w' : World) : Prop where
  keep : Keep (DX db sb vw) w w'
  new : ∀ k, vw'.ownBlock = some k → vw.ownBlock = some k ∨ w.heap.size ≤ k
theorem Dfr.refl (db sb : Nat) (vw : Value) (w : World) : Dfr db sb vw vw w w := ⟨Keep.refl _ _, fun _ h => .inl h⟩
theorem Dfr.trans {db sb : Nat} {v v' v'' : Value} {a b c : World} (h : Dfr db sb v v' a b) (k : Dfr db sb v' v'' b c) : Dfr db sb v v'' a c :=
  ⟨h.keep.trans2 k.keep (fun i hi => by
    rcases hi with hi | hi | hi
    · exact .inl (.inl hi)
    · exact .inl (.inr (.inl hi))
    · exact (h.new i hi).imp (fun h => .inr (.inr h)) id), fun i hi => by
    rcases k.new i hi with hi | hi
    · exact h.new i hi
    · exact .inr (Nat.le_trans h.keep.size hi)⟩
theorem Dfr.of_below {db sb : Nat} {v : Value} {a b : World} (h : Below a.heap.size a b) : Dfr db sb v v a b := ⟨Keep.of_below h, fun _ h => .inl h⟩
theorem Dfr.set (db sb : Nat) (v : Value) (w : World) (o : Nat) (x : Value) : Dfr db sb v v w (w.setCell ⟨db, o, none⟩ x) := ⟨Keep.set w _ x (.inl rfl), fun _ h => .inl h⟩
theorem Dfr.nil {db sb : Nat} {v v' : Value} {a b : World} (h : Dfr db sb v v' a b) : Dfr db sb v (.slice none 0 0) a b := ⟨h.keep, fun k hk => by cases hk⟩

theorem Dk.below {base : Nat} {w w' : World} {db sb n : Nat} {vw vw' : Value} {S : List (List UInt8)} {Q : List Wr} {dn : Bool} {lf : Nat} (h : Dk base w db sb n vw S Q dn lf) (hf : Dfr db sb vw vw' w w') : Below base w w' :=
  hf.keep.below (Nat.le_trans h.lo.1 (Nat.le_of_lt (lt_of_block h.hd))) (fun k hk => by
    rcases hk with rfl | rfl | hk
    · exact h.lo.1
    · exact h.lo.2
    · exact (h.wa.lt k hk).1)
/-- A disk behind what leaves its blocks alone. -/
theorem Dk.kept {X : Nat → Prop} {base : Nat} {w w' : World} {db sb n : Nat} {vw : Value} {S : List (List UInt8)} {Q : List Wr} {dn : Bool} {lf : Nat} (h : Dk base w db sb n vw S Q dn lf) (hk : Keep X w w') (hx : ∀ k, DX db sb vw k → ¬ X k) : Dk base w' db sb n vw S Q dn lf :=
  ⟨h.lo, (hk.block _ (lt_of_block h.hd) (hx _ (.inl rfl))).trans h.hd, (hk.block _ (lt_of_block h.sh) (hx _ (.inr (.inl rfl)))).trans h.sh, own_keep h.wa hk (fun k e => hx k (.inr (.inr e))), h.len, h.ok, h.few⟩
theorem Dk.lt {base : Nat} {w : World} {db sb n : Nat} {vw : Value} {S : List (List UInt8)} {Q : List Wr} {dn : Bool} {lf : Nat} (h : Dk base w db sb n vw S Q dn lf) : ∀ k, DX db sb vw k → base ≤ k ∧ k < w.heap.size := fun k hk => by
  rcases hk with rfl | rfl | hk
  · exact ⟨h.lo.1, lt_of_block h.hd⟩
  · exact ⟨h.lo.2, lt_of_block h.sh⟩
  · exact h.wa.lt k hk

def hitE (lf : Nat) : Int := if lf = 1 then 3 else 0
def hitD (lf : Nat) : Bool := decide (lf = 1)

section
variable {base : Nat} {w : World} {db sb n : Nat} {vw : Value} {S : List (List UInt8)} {Q : List Wr} {dn : Bool} {lf : Nat}

theorem Dk.set2 (h : Dk base w db sb n vw S Q dn lf) (b : Bool) : Dk base (w.setCell ⟨db, 2, none⟩ (.bool b)) db sb n vw S Q b lf := by
  have h1 := set_at (k := 2) (.bool b) h.hd
  exact ⟨h.lo, h1, (Below.heap_setCell _ ⟨db, 2, none⟩ _ sb (fun e => h.apart.1 e.symm)).trans h.sh, h.wa.kept (grown_set w ⟨db, 2, none⟩ (.bool b)) (.inr h.apart.2.1), h.len, h.ok, h.few⟩
theorem Dk.set3 (h : Dk base w db sb n vw S Q dn lf) (m : Nat) : Dk base (w.setCell ⟨db, 3, none⟩ (.int .i64 (m : Int))) db sb n vw S Q dn m := by
  have h1 := set_at (k := 3) (.int .i64 (m : Int)) h.hd
  exact ⟨h.lo, h1, (Below.heap_setCell _ ⟨db, 3, none⟩ _ sb (fun e => h.apart.1 e.symm)).trans h.sh, h.wa.kept (grown_set w ⟨db, 3, none⟩ (.int .i64 (m : Int))) (.inr h.apart.2.1), h.len, h.ok, h.few⟩
theorem Dk.set1 (h : Dk base w db sb n vw S Q dn lf) : Dk base (w.setCell ⟨db, 1, none⟩ (.slice none 0 0)) db sb n (.slice none 0 0) S [] dn lf :=
  ⟨h.lo, set_at _ h.hd, (Below.heap_setCell _ ⟨db, 1, none⟩ _ sb (by exact fun e => h.apart.1 e.symm)).trans h.sh, World.ownsRow_nil _ _ _ _, h.len, (fun x hx => by cases hx), h.few⟩

set_option maxHeartbeats 2000000 in
theorem counted_gen (h : Dk base w db sb n vw S Q false lf) (hlf : lf ≤ 9223372036854775807) : Calls Tryz.prog 148 #[.pointer (some ⟨db, 0, none⟩)] w (fun e w' => e = .returned (.int .i64 (hitE lf)) ∧ Dk base w' db sb n vw S Q (hitD lf) (lf - 1) ∧ Dfr db sb vw vw w w') := by
  obtain ⟨c0, c1, c2, c3, f0, f1, f2, f3⟩ := four_cells h.hd
  by_cases h0 : lf = 0
  · subst h0
    refine (counted0 h).mono ?_
    rintro e w' ⟨rfl, rfl⟩
    exact ⟨rfl, h, Dfr.refl _ _ _ _⟩
  · obtain ⟨m, rfl⟩ : ∃ m, lf = m + 1 := ⟨lf - 1, by omega⟩
    have hz : ¬ (((m + 1 : Nat) : Int) = 0) := by omega
    have hw : IntKind.i64.wrap (((m + 1 : Nat) : Int) - 1) = (m : Int) := by rw [IntKind.wrap_i64]; omega
    have h3 := h.set3 m
    obtain ⟨d0, d1, d2, d3, k0, k1, k2, k3⟩ := four_cells h3.hd
    by_cases hm : m = 0
    · subst hm
      have h4 := h3.set2 true
      have CA : Hid (Calls Tryz.prog 45 #[.pointer (some ⟨db, 0, none⟩)] ((w.setCell ⟨db, 3, none⟩ (.int .i64 ((0 : Nat) : Int))).setCell ⟨db, 2, none⟩ (.bool true)) (fun e w' => e = .returned (.int .i64 3) ∧ w' = ((w.setCell ⟨db, 3, none⟩ (.int .i64 ((0 : Nat) : Int))).setCell ⟨db, 2, none⟩ (.bool true)))) := able_any h4
      have H4 := hid h4
      have F4 : Hid (Dfr db sb vw vw w ((w.setCell ⟨db, 3, none⟩ (.int .i64 ((0 : Nat) : Int))).setCell ⟨db, 2, none⟩ (.bool true))) := (Dfr.set db sb vw w 3 _).trans (Dfr.set db sb vw _ 2 _)
      clear h h3 h4
      go_enter Tryz.func148, Tryz.ntmps148
      go_wp2_with (first | (go_at_call 45; refine CA.out.mono ?_; rintro e w2 ⟨rfl, rfl⟩))
      go_ret
      exact ⟨rfl, H4.out, F4.out⟩
    · have hm0 : ((m : Int) == 0) = false := by simp; exact hm
      have h4 := h3.set2 false
      have CA : Hid (Calls Tryz.prog 45 #[.pointer (some ⟨db, 0, none⟩)] ((w.setCell ⟨db, 3, none⟩ (.int .i64 (m : Int))).setCell ⟨db, 2, none⟩ (.bool false)) (fun e w' => e = .returned (.int .i64 0) ∧ w' = ((w.setCell ⟨db, 3, none⟩ (.int .i64 (m : Int))).setCell ⟨db, 2, none⟩ (.bool false)))) := able_any h4
      have H4 := hid h4
      have F4 : Hid (Dfr db sb vw vw w ((w.setCell ⟨db, 3, none⟩ (.int .i64 (m : Int))).setCell ⟨db, 2, none⟩ (.bool false))) := (Dfr.set db sb vw w 3 _).trans (Dfr.set db sb vw _ 2 _)
      have HE : Hid (hitE (m + 1) = 0 ∧ hitD (m + 1) = false) := ⟨if_neg (by omega), decide_eq_false (by omega)⟩
      clear h h3 h4
      go_enter Tryz.func148, Tryz.ntmps148
      go_wp2_with (first | (go_at_call 45; refine CA.out.mono ?_; rintro e w2 ⟨rfl, rfl⟩))
      go_ret
      rw [HE.out.1, HE.out.2]
      exact ⟨rfl, H4.out, F4.out⟩

theorem flush_gen (h : Dk base w db sb n vw S Q false lf) (hlf : lf ≤ 9223372036854775807) : Calls Tryz.prog 145 #[.pointer (some ⟨db, 0, none⟩)] w (fun e w' => e = .returned (.int .i64 (hitE lf)) ∧ ∃ vw', Dk base w' db sb n vw' S (if lf = 1 then Q else []) (hitD lf) (lf - 1) ∧ Dfr db sb vw vw' w w') := by
  have CA : Hid (Calls Tryz.prog 45 #[.pointer (some ⟨db, 0, none⟩)] w (fun e w' => e = .returned (.int .i64 0) ∧ w' = w)) := able_any h
  have CC := counted_gen h hlf
  by_cases h1 : lf = 1
  · subst h1
    have CC2 : Hid (Calls Tryz.prog 148 #[.pointer (some ⟨db, 0, none⟩)] w (fun e w' => e = .returned (.int .i64 3) ∧ Dk base w' db sb n vw S Q true 0 ∧ Dfr db sb vw vw w w')) := CC
    clear CC h
    go_enter Tryz.func145, Tryz.ntmps145
    go_wp2_with (first
      | (go_at_call 45; refine CA.out.mono ?_; rintro e w2 ⟨rfl, rfl⟩)
      | (go_at_call 148; refine CC2.out.mono ?_))
    rintro e w3 ⟨rfl, hD, hF⟩
    have HD := hid hD
    have HF := hid hF
    clear hD hF
    go_wp2_with fail
    go_ret
    exact ⟨rfl, vw, HD.out, HF.out⟩
  · have HE : hitE lf = 0 ∧ hitD lf = false := ⟨if_neg h1, decide_eq_false h1⟩
    rw [HE.1, HE.2] at CC ⊢
    rw [if_neg h1]
    have CC2 := hid CC
    clear CC h HE h1 hlf
    go_enter Tryz.func145, Tryz.ntmps145
    go_wp2_with (first
      | (go_at_call 45; refine CA.out.mono ?_; rintro e w2 ⟨rfl, rfl⟩)
      | (go_at_call 148; refine CC2.out.mono ?_))
    rintro e w3 ⟨rfl, hD, hF⟩
    have HD := hid hD
    have HF := hid hF
    obtain ⟨c0, c1, c2, c3, f0, f1, f2, f3⟩ := four_cells hD.hd
    clear hD hF
    go_wp2_with fail
    go_ret
    exact ⟨rfl, _, HD.out.set1, HF.out.trans (Dfr.set db sb vw _ 1 _).nil⟩

end
end Go.Proofs.YtddnleofflobhaaGreatDoor

