import Derived.Test.YtddnleofflobhaaGreatDoorRows
import Derived.WalkKit
import Derived.WalkSpells
import Derived.WalkLawsBesides
import Derived.Laws.AppendOwnNone
import Derived.OpenShut
import Derived.Deep.Slices
import Derived.Deep.AppendLies
import Derived.BigQuiet
import Derived.Deep.QuietTactic
import Derived.Deep.MidRow
import Derived.Laws.MakeOwn
set_option linter.unusedVariables false
set_option linter.unusedSimpArgs false
namespace Go.Proofs.YtddnleofflobhaaGreatDoor

/-- A byte that is not a number's last one, and one that is. -/
def moreB (n : Nat) : UInt8 := UInt8.ofNat (n % 128 + 128)
def lastB (n : Nat) : UInt8 := UInt8.ofNat n

/-- The bytes of a number: seven bits a byte, the lowest first. -/
def numL (v : Nat) : List UInt8 :=
  if v < 128 then [lastB v] else moreB v :: numL (v / 128)
termination_by v
decreasing_by omega

theorem numL_lt {v : Nat} (h : v < 128) : numL v = [lastB v] := by
  rw [numL, if_pos h]

theorem numL_ge {v : Nat} (h : 128 ≤ v) : numL v = moreB v :: numL (v / 128) := by
  rw [numL, if_neg (by omega)]

theorem numL_pos (v : Nat) : 1 ≤ (numL v).length := by
  by_cases h : v < 128
  · rw [numL_lt h]; simp
  · rw [numL_ge (by omega)]; simp

theorem numL_len (k : Nat) : ∀ v, v < 128 * 128 ^ k → (numL v).length ≤ k + 1 := by
  induction k with
  | zero => intro v h; rw [numL_lt (by omega)]; simp
  | succ k ih =>
    intro v h
    by_cases h1 : v < 128
    · rw [numL_lt h1]; simp
    · rw [numL_ge (by omega)]
      have := ih (v / 128) (by rw [Nat.pow_succ] at h; omega)
      simp; omega

theorem numL_len10 {v : Nat} (h : v < 2 ^ 64) : (numL v).length ≤ 10 := numL_len 9 v (by omega)

theorem moreB_toNat (n : Nat) : (moreB n).toNat = n % 128 + 128 := by
  unfold moreB
  rw [UInt8.toNat_ofNat']; omega

theorem lastB_toNat {n : Nat} (h : n < 128) : (lastB n).toNat = n := by
  unfold lastB
  rw [UInt8.toNat_ofNat']; omega

def rdN : Nat → Nat → List UInt8 → Nat × Nat × Int
  | _, _, [] => (0, 0, 8)
  | i, v, c :: r =>
    if i = 9 ∧ 1 < c.toNat then (0, 0, 9)
    else if 128 ≤ c.toNat then rdN (i + 1) (v + c.toNat % 128 * 128 ^ i) r
    else if c.toNat = 0 ∧ 0 < i then (0, 0, 9)
    else (v + c.toNat % 128 * 128 ^ i, i + 1, 0)

theorem rdN_form {i v : Nat} {c : UInt8} {r : List UInt8} (h : i = 9 ∧ 1 < c.toNat) : rdN i v (c :: r) = (0, 0, 9) := by rw [rdN, if_pos h]
theorem rdN_more {i v : Nat} {c : UInt8} {r : List UInt8} (h : ¬ (i = 9 ∧ 1 < c.toNat)) (h1 : 128 ≤ c.toNat) : rdN i v (c :: r) = rdN (i + 1) (v + c.toNat % 128 * 128 ^ i) r := by rw [rdN, if_neg h, if_pos h1]
theorem rdN_zero {i v : Nat} {c : UInt8} {r : List UInt8} (h : ¬ (i = 9 ∧ 1 < c.toNat)) (h1 : ¬ 128 ≤ c.toNat) (h2 : c.toNat = 0 ∧ 0 < i) : rdN i v (c :: r) = (0, 0, 9) := by rw [rdN, if_neg h, if_neg h1, if_pos h2]
theorem rdN_last {i v : Nat} {c : UInt8} {r : List UInt8} (h : ¬ (i = 9 ∧ 1 < c.toNat)) (h1 : ¬ 128 ≤ c.toNat) (h2 : ¬ (c.toNat = 0 ∧ 0 < i)) : rdN i v (c :: r) = (v + c.toNat % 128 * 128 ^ i, i + 1, 0) := by rw [rdN, if_neg h, if_neg h1, if_neg h2]

/-- What is written is read. -/
theorem rdN_numL : ∀ (k i v n : Nat) (r : List UInt8), i + k = 9 → n < 2 * 128 ^ k → (i = 0 ∨ 0 < n) → rdN i v (numL n ++ r) = (v + n * 128 ^ i, i + (numL n).length, 0) := by
  intro k
  induction k with
  | zero =>
    intro i v n r hi hn h0
    rw [numL_lt (by omega), List.singleton_append, rdN_last]
    · rw [lastB_toNat (by omega), Nat.mod_eq_of_lt (by omega)]; rfl
    · rw [lastB_toNat (by omega)]; omega
    · rw [lastB_toNat (by omega)]; omega
    · rw [lastB_toNat (by omega)]; omega
  | succ k ih =>
    intro i v n r hi hn h0
    by_cases h : n < 128
    · rw [numL_lt h, List.singleton_append, rdN_last]
      · rw [lastB_toNat h, Nat.mod_eq_of_lt h]; rfl
      · rw [lastB_toNat (by omega)]; omega
      · rw [lastB_toNat (by omega)]; omega
      · rw [lastB_toNat (by omega)]; omega
    · rw [numL_ge (by omega), List.cons_append, rdN_more]
      · rw [ih (i + 1) _ (n / 128) r (by omega) (by rw [Nat.pow_succ] at hn; omega) (by right; omega)]
        rw [moreB_toNat]
        have e1 : v + (n % 128 + 128) % 128 * 128 ^ i + n / 128 * 128 ^ (i + 1) = v + n * 128 ^ i := by
          rw [Nat.add_mod_right, Nat.mod_mod, Nat.pow_succ]
          have : n * 128 ^ i = (n % 128 + n / 128 * 128) * 128 ^ i := by congr 1; omega
          rw [this, Nat.add_mul, Nat.mul_assoc, Nat.mul_comm 128 (128 ^ i)]
          omega
        rw [e1]
        congr 2
        simp; omega
      · omega
      · rw [moreB_toNat]; omega

theorem rdN_back {n : Nat} (h : n < 2 ^ 64) (r : List UInt8) : rdN 0 0 (numL n ++ r) = (n, (numL n).length, 0) := by
  have := rdN_numL 9 0 0 n r rfl (by omega) (by left; rfl)
  simpa using this

theorem step_lt {V k c : Nat} (hV : V < 128 ^ k) : V + c % 128 * 128 ^ k < 128 ^ (k + 1) := by
  rw [Nat.pow_succ]
  have : c % 128 * 128 ^ k ≤ 127 * 128 ^ k := Nat.mul_le_mul_right _ (by omega)
  omega

/-- The size is within the bytes; a fault has no size, and no value. -/
theorem rdN_bounds : ∀ (l : List UInt8) (i v : Nat), v < 128 ^ i → i ≤ 9 → (rdN i v l).1 < 2 ^ 64 ∧ ((rdN i v l).2.2 = 0 ∧ i < (rdN i v l).2.1 ∧ (rdN i v l).2.1 ≤ i + l.length ∧ (rdN i v l).2.1 ≤ 10 ∨ (rdN i v l).1 = 0 ∧ (rdN i v l).2.1 = 0 ∧ ((rdN i v l).2.2 = 8 ∨ (rdN i v l).2.2 = 9)) := by
  intro l
  induction l with
  | nil => intro i v _ _; simp [rdN]
  | cons c r ih =>
    intro i v hv hi
    have hc : c.toNat < 256 := c.toNat_lt
    by_cases h1 : i = 9 ∧ 1 < c.toNat
    · rw [rdN_form h1]; simp
    · by_cases h2 : 128 ≤ c.toNat
      · rw [rdN_more h1 h2]
        have h9 : i < 9 := by omega
        have hv' : v + c.toNat % 128 * 128 ^ i < 128 ^ (i + 1) := by
          rw [Nat.pow_succ]
          have : c.toNat % 128 * 128 ^ i ≤ 127 * 128 ^ i := Nat.mul_le_mul_right _ (by omega)
          omega
        have := ih (i + 1) _ hv' (by omega)
        simp only [List.length_cons]
        omega
      · by_cases h3 : c.toNat = 0 ∧ 0 < i
        · rw [rdN_zero h1 h2 h3]; simp
        · rw [rdN_last h1 h2 h3]
          simp only [List.length_cons]
          refine ⟨?_, .inl ⟨trivial, by omega, by omega, by omega⟩⟩
          have hp : i ≤ 8 ∨ i = 9 := by omega
          rcases hp with hp | rfl
          · have h8 : 128 ^ i ≤ 128 ^ 8 := Nat.pow_le_pow_right (by omega) hp
            have h7 : c.toNat % 128 * 128 ^ i ≤ 127 * 128 ^ i := Nat.mul_le_mul_right _ (by omega)
            generalize c.toNat % 128 * 128 ^ i = q at *
            generalize 128 ^ i = p at *
            have h8' : p ≤ 72057594037927936 := h8
            omega
          · have hc1 : c.toNat ≤ 1 := by omega
            have h8 : c.toNat % 128 * 128 ^ 9 ≤ 1 * 128 ^ 9 := Nat.mul_le_mul_right _ (by omega)
            omega

end Go.Proofs.YtddnleofflobhaaGreatDoor

namespace Go.Proofs.YtddnleofflobhaaGreatDoor
open Go.RowKit

theorem hid {p : Prop} (h : p) : Hid p := h

/-- A byte's cell. -/
def bv (c : UInt8) : Value := .int .u8 (c.toNat : Int)

theorem bv_one (l : List UInt8) : ∀ u ∈ l.map bv, u.oneCell' = true := by
  intro u hu
  obtain ⟨_, _, rfl⟩ := List.mem_map.1 hu
  rfl

/-- The block that a slice lies in. -/
def blk : Value → Option Nat
  | .slice (some a) _ _ => some a.block
  | _ => none

/-- The slice x reads as the bytes l. -/
def Rd (w : World) (x : Value) (l : List UInt8) : Prop :=
  ∃ (ao : Option Addr) (c : Nat), x = .slice ao l.length c ∧ l.length ≤ c ∧ c ≤ maxLen ∧ (ao = none → c = 0) ∧
    ∀ a, ao = some a → ∀ (j : Nat) u, (l.map bv)[j]? = some u → w.cell? (a.add j) = some u

theorem Rd.nil (w : World) : Rd w (.slice none 0 0) [] := ⟨none, 0, rfl, by simp, by simp, fun _ => rfl, fun a h => by cases h⟩

theorem add_block (a : Addr) (j : Nat) : (a.add j).block = a.block := by unfold Addr.add; split <;> rfl

/-- What is read stays read, where its block is left alone. -/
theorem Rd.kept {w w' : World} {x : Value} {l : List UInt8} {row : Option Nat} (h : Rd w x l) (hg : w.grownBy w' row) (hne : blk x = none ∨ blk x ≠ row) : Rd w' x l := by
  obtain ⟨ao, c, rfl, h1, h2, h3, h4⟩ := h
  refine ⟨ao, c, rfl, h1, h2, h3, fun a ha j u hu => ?_⟩
  subst ha
  have h6 := h4 a rfl j u hu
  have hlt := World.block_lt_of_cell? w _ h6
  rw [World.cell?_of_block (w := w) (a := a.add j) (hg.block _ hlt (by rw [add_block]; simpa [blk] using hne))]
  exact h6

/-- Behind a call that leaves all that was there. -/
theorem Rd.old {w w' : World} {x : Value} {l : List UInt8} (h : Rd w x l) (hb : Below w.heap.size w w') : Rd w' x l := by
  obtain ⟨ao, c, rfl, h1, h2, h3, h4⟩ := h
  refine ⟨ao, c, rfl, h1, h2, h3, fun a ha j u hu => ?_⟩
  subst ha
  have h6 := h4 a rfl j u hu
  rw [hb.cell (p := a.add j) (World.block_lt_of_cell? w _ h6)]
  exact h6

theorem Rd.below {w0 w w' : World} {x : Value} {l : List UInt8} (h : Rd w0 x l) (hb0 : Below w0.heap.size w0 w) (hb : Below w0.heap.size w w') : Rd w' x l := h.old (hb0.trans hb)

theorem Rd.alloc {w : World} {x : Value} {l : List UInt8} (h : Rd w x l) (o : Obj) : Rd (w.alloc o) x l := h.old ((Below.refl _ _).alloc (Nat.le_refl _) o)

/-- What the call itself made. -/
theorem Rd.own {w : World} {base : Nat} {e : TypeId} {x : Value} {l : List UInt8} (h : w.ownsRow base e 1 x l.length (l.map bv)) : Rd w x l := by
  obtain ⟨h1, h2⟩ := h
  rcases h2 with ⟨rfl, hn⟩ | ⟨g, cap, cur, rfl, hb, hg, hn, hc, hs, ht⟩
  · obtain rfl : l = [] := List.eq_nil_of_length_eq_zero hn
    exact Rd.nil w
  · refine ⟨some ⟨g, 0, none⟩, cap, rfl, hn, hc, (fun h => by cases h), fun a ha => ?_⟩
    cases ha
    intro j u hu
    rw [WideShapes.add_plain, Nat.zero_add, cell_of_row w g j cur e (0, 0) hg]
    rw [← ht, List.getElem?_take] at hu
    split at hu
    · simpa using hu
    · cases hu

/-- 'string(x)'. -/
theorem Rd.conv {P : Program} {w : World} {x : Value} {l : List UInt8} (h : Rd w x l) (src dst e : TypeId) (hs : P.underlying src = some (.slice e)) (he : P.underlying e = some (.int .u8)) (hd : P.underlying dst = some .string) :
    (convert src dst x).run P w = .ok (.string ⟨l.toArray⟩) w := by
  obtain ⟨ao, c, rfl, h1, h2, h3, h4⟩ := h
  cases ao with
  | none =>
    obtain rfl : l = [] := List.eq_nil_of_length_eq_zero (by have := h3 rfl; omega)
    rw [run_convert_bytes_nil w src e hs he _ _ dst hd]
    rfl
  | some a =>
    rw [run_convert_bytes_string w src dst e _ _ _ hs he hd]
    have hl : (loadCells a l.length).run P w = .ok ((l.map fun x => (x.toNat : Int)).map (Value.int .u8)).toArray w := by
      have := run_loadCells_list (P := P) w a (l.map bv) (h4 a rfl)
      have e1 : (l.map fun x => (x.toNat : Int)).map (Value.int .u8) = l.map bv := by rw [List.map_map]; rfl
      rw [e1]
      simpa using this
    rw [run_bytesToString w a l.length c (l.map fun x => (x.toNat : Int)) hl, foldl_push_bytes]
    congr 2
    simp [ByteArray.empty, ByteArray.emptyWithCapacity, Function.comp_def]
    rfl

/-- 'append(v, x...)', v the call's own, x whatever. -/
theorem wp_app {P : Program} {w : World} {ops : Array Oper} {rest : List Oper} {o : Oper} {a : Act} {Q : Exit → Act → World → Prop} (hgd : o.guard = none) (s x : Operand) (t : TypeId)
    (ho : o.op = .call { callee := .builtin .append, args := #[s, x], argTypes := #[t, t] })
    (base : Nat) (e : TypeId) (ht : P.underlying t = some (.slice e)) (hinfo : (P.info? e).map (fun i => (i.zero, i.size, i.bytes)) = some (some (.int .u8 0), 1, 1))
    (v : Value) (n : Nat) (xs : List Value) (hs : a.eval s = v) (hown : w.ownsRow base e 1 v n xs)
    (y : Value) (l : List UInt8) (hx : a.eval x = y) (hr : Rd w y l) (hn : n + l.length ≤ 140737488355328) (hbase : base ≤ w.heap.size)
    (h : ∀ v' w', w'.ownsRow base e 1 v' (n + l.length) (xs ++ l.map bv) → w.grownBy w' v.ownBlock → wpList P ops Q rest (a.put o.dst v') w') : wpList P ops Q (o :: rest) a w := by
  obtain ⟨i0, hi, hz0, hz1, hz2⟩ := info_parts hinfo
  obtain ⟨ao, c, rfl, h1, h2, h3, h4⟩ := hr
  cases ao with
  | some ad =>
    exact wpList_append_own w hgd s x t ho base e i0 (.int .u8 0) 1 1 ht hi hz0 hz1 hz2 rfl (by decide) v n xs hs hown ad l.length c (l.map bv) hx (by simp) (h4 ad rfl) (bv_one l)
      (by unfold maxLen; omega) (by omega) hbase fun v' w' a1 a2 _ => h v' w' a1 a2
  | none =>
    have hc := h3 rfl
    obtain rfl : l = [] := List.eq_nil_of_length_eq_zero (by omega)
    subst hc
    exact wpList_append_own_none hgd s x t ho base e i0 1 ht hi v n xs hs hown hx (h v w (by simpa using hown) (World.grownBy.refl _ _))

/-- What is owned from a later block on is owned from an earlier one on. -/
theorem ownsRow_base {w : World} {base base' : Nat} {e : TypeId} {size : Nat} {v : Value} {n : Nat} {xs : List Value} (h : w.ownsRow base e size v n xs) (hb : base' ≤ base) : w.ownsRow base' e size v n xs := by
  obtain ⟨h1, h2⟩ := h
  rcases h2 with h2 | ⟨g, cap, cur, hv, hg, r⟩
  · exact ⟨h1, .inl h2⟩
  · exact ⟨h1, .inr ⟨g, cap, cur, hv, Nat.le_trans hb hg, r⟩⟩

theorem grown_below {w w' : World} (h : Below w.heap.size w w') (row : Option Nat) : w.grownBy w' row := ⟨h.os, h.tape, h.output, h.size, fun k hk _ => h.block k hk⟩

theorem grown_set (w : World) (a : Addr) (v : Value) : w.grownBy (w.setCell a v) (some a.block) :=
  ⟨rfl, rfl, rfl, by simp [World.setCell], fun k _ hne => Below.heap_setCell _ _ _ _ (fun e => hne (by rw [e]))⟩

theorem grown_trans {a b c : World} {row : Option Nat} (h : a.grownBy b row) (k : b.grownBy c row) : a.grownBy c row :=
  ⟨k.os.trans h.os, k.tape.trans h.tape, k.output.trans h.output, Nat.le_trans h.size k.size, fun i hi hne => (k.block i (Nat.lt_of_lt_of_le hi h.size) hne).trans (h.block i hi hne)⟩

/-- What is owned stays owned behind a call that leaves all that was there. -/
theorem own_old {w w' : World} {base : Nat} {e : TypeId} {size : Nat} {v : Value} {n : Nat} {xs : List Value} (h : w.ownsRow base e size v n xs) (hb : Below w.heap.size w w') : w'.ownsRow base e size v n xs :=
  h.kept (grown_below hb none) (by cases v.ownBlock <;> simp)

theorem heap_kept {w w' : World} {row : Option Nat} (h : w.grownBy w' row) {k : Nat} {o : Obj} (hk : w.heap[k]? = some o) (hne : some k ≠ row) : w'.heap[k]? = some o := by
  rw [h.block k (lt_of_block hk) hne]; exact hk

/-- A block of two cells. -/
theorem two_set0 {w : World} {b : Nat} {u v x : Value} {t : TypeId} (h : w.heap[b]? = some (.cells #[u, v] t (0, 0))) : (w.setCell ⟨b, 0, none⟩ x).heap[b]? = some (.cells #[x, v] t (0, 0)) := by
  have hlt := lt_of_block h
  have h' : w.heap[b] = .cells #[u, v] t (0, 0) := by simpa [Array.getElem?_eq_getElem hlt] using h
  show (w.heap.modify b _)[b]? = _
  rw [Array.getElem?_eq_getElem (by simpa using hlt), Array.getElem_modify_self, h']
  rfl
theorem two_set1 {w : World} {b : Nat} {u v x : Value} {t : TypeId} (h : w.heap[b]? = some (.cells #[u, v] t (0, 0))) : (w.setCell ⟨b, 1, none⟩ x).heap[b]? = some (.cells #[u, x] t (0, 0)) := by
  have hlt := lt_of_block h
  have h' : w.heap[b] = .cells #[u, v] t (0, 0) := by simpa [Array.getElem?_eq_getElem hlt] using h
  show (w.heap.modify b _)[b]? = _
  rw [Array.getElem?_eq_getElem (by simpa using hlt), Array.getElem_modify_self, h']
  rfl
theorem two_cells {w : World} {b : Nat} {u v : Value} {t : TypeId} (h : w.heap[b]? = some (.cells #[u, v] t (0, 0))) :
    w.cell? ⟨b, 0, none⟩ = some u ∧ w.cell? ⟨b, 1, none⟩ = some v ∧ w.frozen? ⟨b, 0, none⟩ = false ∧ w.frozen? ⟨b, 1, none⟩ = false := by
  simp [World.cell?, World.frozen?, h]

/-- 'x[n:]'. -/
theorem Rd.cut {P : Program} {w : World} {x : Value} {l : List UInt8} (h : Rd w x l) (t e : TypeId) (ht : P.underlying t = some (.slice e)) (hinfo : (P.info? e).map (fun i => (i.zero, i.size, i.bytes)) = some (some (.int .u8 0), 1, 1)) (n : Nat) (hn : n ≤ l.length) :
    ∃ (ao : Option Addr) (c : Nat), (∀ W, (Instr.slice t x (some (.int .i64 (n : Int))) none none).run P W = .ok (.slice ao (l.length - n) c) W) ∧ Rd w (.slice ao (l.length - n) c) (l.drop n) ∧ (∀ k, blk (.slice ao (l.length - n) c) = some k → blk x = some k) := by
  obtain ⟨i0, hi, hz0, hz1, hz2⟩ := info_parts hinfo
  obtain ⟨ao, c, rfl, h1, h2, h3, h4⟩ := h
  have ht' : P.underlying t = some (.slice (P.elem t)) := by simp [Program.elem, ht]
  have he : P.elem t = e := by simp [Program.elem, ht]
  have hs : ∀ W, (sizeOf e).run P W = .ok 1 W := fun W => by simp [sizeOf, typeInfo, hi, hz1]
  have hlen : (l.drop n).length = l.length - n := List.length_drop
  refine ⟨if c = n then ao else ao.map (·.add (n * 1)), c - n, fun W => ?_, ?_, ?_⟩
  · rw [run_slice_l W t _ _ _ ht' .i64 _ (by omega) (by omega), he, hs]
    simp [Result.andThen, sliced]
  · refine ⟨_, _, by rw [hlen], by rw [hlen]; omega, by omega, ?_, ?_⟩
    · intro hne
      split at hne
      · omega
      · cases ao with
        | none => have := h3 rfl; omega
        | some a => simp at hne
    · intro a ha j u hu
      have hj : j < l.length - n := by
        have := (List.getElem?_eq_some_iff.1 hu).1
        simpa using this
      rw [if_neg (by omega)] at ha
      cases ao with
      | none => simp at ha
      | some a0 =>
        simp at ha
        subst ha
        rw [List.map_drop, List.getElem?_drop] at hu
        have := h4 a0 rfl (n + j) u hu
        have e2 : (a0.add n).add j = a0.add (n + j) := by
          unfold Addr.add
          by_cases hn0 : n = 0
          · subst hn0; simp
          · by_cases hj0 : j = 0
            · subst hj0; simp
            · simp [hn0, hj0]; omega
        rw [e2]
        exact this
  · intro k hk
    split at hk
    · cases ao with
      | none => simp [blk] at hk
      | some a => simpa [blk] using hk
    · cases ao with
      | none => simp [blk] at hk
      | some a => simpa [blk, add_block] using hk

/-- 'x[:n]'. -/
theorem Rd.head {P : Program} {w : World} {x : Value} {l : List UInt8} (h : Rd w x l) (t e : TypeId) (ht : P.underlying t = some (.slice e)) (hinfo : (P.info? e).map (fun i => (i.zero, i.size, i.bytes)) = some (some (.int .u8 0), 1, 1)) (n : Nat) (hn : n ≤ l.length) :
    ∃ (ao : Option Addr) (c : Nat), (∀ k W, (Instr.slice t x none (some (.int k (n : Int))) none).run P W = .ok (.slice ao n c) W) ∧ Rd w (.slice ao n c) (l.take n) ∧ (∀ k, blk (.slice ao n c) = some k → blk x = some k) := by
  obtain ⟨i0, hi, hz0, hz1, hz2⟩ := info_parts hinfo
  obtain ⟨ao, c, rfl, h1, h2, h3, h4⟩ := h
  have ht' : P.underlying t = some (.slice (P.elem t)) := by simp [Program.elem, ht]
  have he : P.elem t = e := by simp [Program.elem, ht]
  have hs : ∀ W, (sizeOf e).run P W = .ok 1 W := fun W => by simp [sizeOf, typeInfo, hi, hz1]
  have hlen : (l.take n).length = n := by rw [List.length_take]; omega
  have hsame : (if c = 0 then ao else ao.map (·.add (0 * 1))) = ao := by
    split
    · rfl
    · cases ao <;> simp [Addr.add]
  refine ⟨ao, c, fun k W => ?_, ⟨ao, c, by rw [hlen], by rw [hlen]; omega, h2, h3, fun a ha j u hu => ?_⟩, fun k hk => by cases ao with | none => simp [blk] at hk | some a => simpa [blk] using hk⟩
  · rw [run_slice_h W t _ _ _ ht' k _ (by omega) (by omega), he, hs]
    simp only [Result.andThen, sliced]
    rw [hsame]
    simp
  · refine h4 a ha j u ?_
    rw [List.map_take, List.getElem?_take] at hu
    split at hu
    · exact hu
    · cases hu

theorem Rd.take {w : World} {ao : Option Addr} {m c : Nat} {l : List UInt8} (h : Rd w (.slice ao m c) l) (n : Nat) (hn : n ≤ l.length) : Rd w (.slice ao n c) (l.take n) := by
  obtain ⟨ao', c', he, h1, h2, h3, h4⟩ := h
  simp only [Value.slice.injEq] at he
  obtain ⟨rfl, rfl, rfl⟩ := he
  have hlen : (l.take n).length = n := by rw [List.length_take]; omega
  refine ⟨ao, c, by rw [hlen], by rw [hlen]; omega, h2, h3, fun a ha j u hu => h4 a ha j u ?_⟩
  rw [List.map_take, List.getElem?_take] at hu
  split at hu
  · exact hu
  · cases hu

theorem Rd.len {P : Program} {w : World} {x : Value} {l : List UInt8} (h : Rd w x l) (t e ty : TypeId) (ht : P.underlying t = some (.slice e)) :
    ∀ W, (Builtin.len_ #[t] ty #[x]).run P W = .ok (goInt l.length) W := by
  obtain ⟨ao, c, rfl, h1, h2, h3, h4⟩ := h
  have ht' : P.underlying t = some (.slice (P.elem t)) := by simp [Program.elem, ht]
  exact fun W => run_len_slice W t ty _ _ _ ht'

/-- The bytes that one value makes: what a call gives back, in new memory. -/
def Gives (e8 : TypeId) (w : World) (l : List UInt8) (e : Ending) (w' : World) : Prop :=
  ∃ x, e = .returned x ∧ w'.ownsRow w.heap.size e8 1 x l.length (l.map bv) ∧ Below w.heap.size w w'

/-- The value's shape, for the walk. -/
theorem Gives.elim {e8 : TypeId} {w : World} {l : List UInt8} {e : Ending} {w' : World} (h : Gives e8 w l e w') :
    ∃ (ao : Option Addr) (c : Nat), e = .returned (.slice ao l.length c) ∧ w'.ownsRow w.heap.size e8 1 (.slice ao l.length c) l.length (l.map bv) ∧ Below w.heap.size w w' := by
  obtain ⟨x, rfl, h1, h2⟩ := h
  obtain ⟨ao, c, rfl, _⟩ := Rd.own h1
  exact ⟨ao, c, rfl, h1, h2⟩

end Go.Proofs.YtddnleofflobhaaGreatDoor

namespace Go.Proofs.YtddnleofflobhaaGreatDoor

theorem wrap_u64 (n : Int) : IntKind.u64.wrap n = n % 18446744073709551616 := by simp [IntKind.wrap, IntKind.bits, IntKind.signed]

theorem u8_low (c : Nat) (h : c < 256) : bits BinOp.andNot IntKind.u8 (c : Int) 128 = ((c % 128 : Nat) : Int) := by
  have h1 := u8_andNot_nat c 128 h (by omega)
  have e : c &&& (255 - 128) = c % 128 := Nat.and_two_pow_sub_one_eq_mod c 7
  rw [e] at h1
  exact h1

theorem pow7 (k : Nat) : 2 ^ (7 * k) = 128 ^ k := by rw [Nat.pow_mul]

/-- What 'v |= uint64(c&^128) << (7*k)' is. -/
theorem or_step {V k c : Nat} (hV : V < 128 ^ k) (hk : k ≤ 9) (hc : c < 256) (h9 : ¬ (k = 9 ∧ 1 < c)) :
    bits BinOp.or IntKind.u64 (V : Int) (IntKind.u64.wrap (IntKind.u64.wrap (bits BinOp.andNot IntKind.u8 (c : Int) 128) * 2 ^ (7 * k))) = ((V + c % 128 * 128 ^ k : Nat) : Int) := by
  rw [u8_low c hc, wrap_u64, wrap_u64]
  have e0 : ((c % 128 : Nat) : Int) % 18446744073709551616 = ((c % 128 : Nat) : Int) := by omega
  have e1 : ((c % 128 : Nat) : Int) * 2 ^ (7 * k) = ((c % 128 * 128 ^ k : Nat) : Int) := by
    rw [← pow7]; simp
  have hb : c % 128 * 128 ^ k < 18446744073709551616 ∧ 128 ^ k ≤ 9223372036854775808 := by
    have hp : k ≤ 8 ∨ k = 9 := by omega
    rcases hp with hp | rfl
    · have h8 : 128 ^ k ≤ 128 ^ 8 := Nat.pow_le_pow_right (by omega) hp
      have h7 : c % 128 * 128 ^ k ≤ 127 * 128 ^ k := Nat.mul_le_mul_right _ (by omega)
      generalize c % 128 * 128 ^ k = q at *
      generalize 128 ^ k = p at *
      have h8' : p ≤ 72057594037927936 := h8
      omega
    · have h8 : c % 128 * 128 ^ 9 ≤ 1 * 128 ^ 9 := Nat.mul_le_mul_right _ (by omega)
      omega
  rw [e0, e1]
  have e2 : ((c % 128 * 128 ^ k : Nat) : Int) % 18446744073709551616 = ((c % 128 * 128 ^ k : Nat) : Int) := by omega
  rw [e2, u64_or_nat V _ (by omega) hb.1]
  have e3 : V ||| c % 128 * 128 ^ k = V + c % 128 * 128 ^ k := by
    have := nat_join (7 * k) (c % 128 * 128 ^ k) V (by rw [pow7]; exact Nat.mul_mod_left _ _) (by rw [pow7]; exact hV)
    rw [Nat.or_comm, this]; omega
  rw [e3]

end Go.Proofs.YtddnleofflobhaaGreatDoor

namespace Go.Proofs.YtddnleofflobhaaGreatDoor
open Go.RowKit

/-- Rows of that many cells. -/
def Wide (size : Nat) (L : List (List Value)) : Prop := ∀ r ∈ L, r.length = size ∧ ∀ u ∈ r, u.oneCell' = true

theorem Wide.app {size : Nat} {a b : List (List Value)} (h : Wide size a) (k : Wide size b) : Wide size (a ++ b) := fun r hr => by
  rcases List.mem_append.1 hr with h1 | h1
  · exact h r h1
  · exact k r h1

theorem Wide.sub {size : Nat} {a b : List (List Value)} (h : Wide size a) (k : ∀ r ∈ b, r ∈ a) : Wide size b := fun r hr => h r (k r hr)

theorem Wide.one {size : Nat} {L : List (List Value)} (h : Wide size L) : ∀ u ∈ L.flatten, u.oneCell' = true := fun u hu => by
  obtain ⟨r, hr, hu⟩ := List.mem_flatten.1 hu
  exact (h r hr).2 u hu

theorem Wide.len {size : Nat} {L : List (List Value)} (h : Wide size L) : L.flatten.length = L.length * size := by
  induction L with
  | nil => simp
  | cons r L ih =>
    have h1 := (h r (by simp)).1
    have h2 := ih (h.sub fun x hx => by simp [hx])
    rw [List.flatten_cons, List.length_append, h1, h2, List.length_cons, Nat.add_mul]
    omega

theorem Wide.at {size : Nat} {L : List (List Value)} (h : Wide size L) : ∀ {k : Nat} {r : List Value}, L[k]? = some r → ∀ {j : Nat} {u : Value}, r[j]? = some u → L.flatten[k * size + j]? = some u := by
  induction L with
  | nil => intro k r hk; simp at hk
  | cons q L ih =>
    intro k r hk j u hj
    have hq := (h q (by simp)).1
    cases k with
    | zero =>
      simp at hk
      subst hk
      have hjl : j < q.length := (List.getElem?_eq_some_iff.1 hj).1
      rw [Nat.zero_mul, Nat.zero_add, List.flatten_cons, List.getElem?_append_left hjl]
      exact hj
    | succ k =>
      have hk' : L[k]? = some r := by simpa using hk
      have h3 := ih (h.sub fun x hx => by simp [hx]) hk' hj
      rw [List.flatten_cons, List.getElem?_append_right (by rw [hq, Nat.add_mul]; omega)]
      have e : (k + 1) * size + j - q.length = k * size + j := by rw [hq, Nat.add_mul]; omega
      rw [e]
      exact h3

/-- The slice x reads as the rows L. -/
def Rws (size : Nat) (w : World) (x : Value) (L : List (List Value)) : Prop :=
  ∃ (ao : Option Addr) (c : Nat), x = .slice ao L.length c ∧ L.length ≤ c ∧ c ≤ maxLen ∧ (ao = none → c = 0) ∧ Wide size L ∧
    ∀ a, ao = some a → ∀ (j : Nat) u, L.flatten[j]? = some u → w.cell? (a.add j) = some u

theorem Rws.nil (size : Nat) (w : World) : Rws size w (.slice none 0 0) [] := ⟨none, 0, rfl, by simp, by simp, (fun _ => rfl), (fun r hr => by cases hr), (fun a h => by cases h)⟩

theorem Rws.wide {size : Nat} {w : World} {x : Value} {L : List (List Value)} (h : Rws size w x L) : Wide size L := by
  obtain ⟨_, _, _, _, _, _, h5, _⟩ := h
  exact h5

theorem Rws.kept {size : Nat} {w w' : World} {x : Value} {L : List (List Value)} {row : Option Nat} (h : Rws size w x L) (hg : w.grownBy w' row) (hne : blk x = none ∨ blk x ≠ row) : Rws size w' x L := by
  obtain ⟨ao, c, rfl, h1, h2, h3, h5, h4⟩ := h
  refine ⟨ao, c, rfl, h1, h2, h3, h5, fun a ha j u hu => ?_⟩
  subst ha
  have h6 := h4 a rfl j u hu
  have hlt := World.block_lt_of_cell? w _ h6
  rw [World.cell?_of_block (w := w) (a := a.add j) (hg.block _ hlt (by rw [add_block]; simpa [blk] using hne))]
  exact h6

theorem Rws.old {size : Nat} {w w' : World} {x : Value} {L : List (List Value)} (h : Rws size w x L) (hb : Below w.heap.size w w') : Rws size w' x L := by
  obtain ⟨ao, c, rfl, h1, h2, h3, h5, h4⟩ := h
  refine ⟨ao, c, rfl, h1, h2, h3, h5, fun a ha j u hu => ?_⟩
  subst ha
  have h6 := h4 a rfl j u hu
  rw [hb.cell (p := a.add j) (World.block_lt_of_cell? w _ h6)]
  exact h6

theorem Rws.len {P : Program} {size : Nat} {w : World} {x : Value} {L : List (List Value)} (h : Rws size w x L) (t e ty : TypeId) (ht : P.underlying t = some (.slice e)) :
    ∀ W, (Builtin.len_ #[t] ty #[x]).run P W = .ok (goInt L.length) W := by
  obtain ⟨ao, c, rfl, h1, h2, h3, _⟩ := h
  have ht' : P.underlying t = some (.slice (P.elem t)) := by simp [Program.elem, ht]
  exact fun W => run_len_slice W t ty _ _ _ ht'

theorem Rws.form {size : Nat} {w : World} {x : Value} {L : List (List Value)} (h : Rws size w x L) : ∃ ao c, x = .slice ao L.length c ∧ L.length ≤ c ∧ c ≤ maxLen := by
  obtain ⟨ao, c, rfl, h1, h2, h3, _⟩ := h
  exact ⟨ao, c, rfl, h1, h2⟩

/-- One row's cells. -/
theorem Rws.get {size : Nat} {w : World} {ao : Option Addr} {n c : Nat} {L : List (List Value)} (h : Rws size w (.slice ao n c) L) (hs : 0 < size) {k : Nat} {r : List Value} (hk : L[k]? = some r) :
    ∃ b off, ao = some ⟨b, off, none⟩ ∧ ∀ (j : Nat) u, r[j]? = some u → w.cell? ⟨b, off + k * size + j, none⟩ = some u := by
  obtain ⟨ao', c', he, h1, h2, h3, h5, h4⟩ := h
  simp only [Value.slice.injEq] at he
  obtain ⟨rfl, rfl, rfl⟩ := he
  have hkl : k < L.length := (List.getElem?_eq_some_iff.1 hk).1
  have hr := h5 r (List.mem_of_getElem? hk)
  cases ao with
  | none => have := h3 rfl; omega
  | some a =>
    obtain ⟨b, off, spot⟩ := a
    have hL0 : L[0]? = some (L[0]'(by omega)) := List.getElem?_eq_getElem (by omega)
    have hr0 := h5 _ (List.mem_of_getElem? hL0)
    have hu0 : (L[0]'(by omega))[0]? = some ((L[0]'(by omega))[0]'(by omega)) := List.getElem?_eq_getElem (by omega)
    have h0 := h4 _ rfl _ _ (h5.at hL0 hu0)
    have hspot : spot = none := by
      rw [Nat.zero_mul, Nat.zero_add] at h0
      simpa [Addr.add] using World.cell?_spot h0
    subst hspot
    refine ⟨b, off, rfl, fun j u hj => ?_⟩
    have := h4 _ rfl _ _ (h5.at hk hj)
    rw [WideShapes.add_plain, ← Nat.add_assoc] at this
    exact this

/-- What the call itself made. -/
theorem Rws.own {size : Nat} {w : World} {base : Nat} {e : TypeId} {x : Value} {L : List (List Value)} (h : w.ownsRow base e size x L.length L.flatten) (hw : Wide size L) : Rws size w x L := by
  obtain ⟨h1, h2⟩ := h
  rcases h2 with ⟨rfl, hn⟩ | ⟨g, cap, cur, rfl, hb, hg, hn, hc, hs, ht⟩
  · obtain rfl : L = [] := List.eq_nil_of_length_eq_zero hn
    exact Rws.nil size w
  · refine ⟨some ⟨g, 0, none⟩, cap, rfl, hn, hc, (fun h => by cases h), hw, fun a ha => ?_⟩
    cases ha
    intro j u hu
    rw [WideShapes.add_plain, Nat.zero_add, cell_of_row w g j cur e (0, 0) hg]
    rw [← ht, List.getElem?_take] at hu
    split at hu
    · simpa using hu
    · cases hu

theorem Rws.take {size : Nat} {w : World} {ao : Option Addr} {m c : Nat} {L : List (List Value)} (h : Rws size w (.slice ao m c) L) (n : Nat) (hn : n ≤ L.length) : Rws size w (.slice ao n c) (L.take n) := by
  obtain ⟨ao', c', he, h1, h2, h3, h5, h4⟩ := h
  simp only [Value.slice.injEq] at he
  obtain ⟨rfl, rfl, rfl⟩ := he
  have hlen : (L.take n).length = n := by rw [List.length_take]; omega
  refine ⟨ao, c, by rw [hlen], by rw [hlen]; omega, h2, h3, h5.sub fun r hr => List.mem_of_mem_take hr, fun a ha j u hu => h4 a ha j u ?_⟩
  have e : L.flatten = (L.take n).flatten ++ (L.drop n).flatten := by rw [← List.flatten_append, List.take_append_drop]
  rw [e, List.getElem?_append_left]
  · exact hu
  · exact (List.getElem?_eq_some_iff.1 hu).1

/-- 'x[:n]'. -/
theorem Rws.head {P : Program} {size : Nat} {w : World} {x : Value} {L : List (List Value)} (h : Rws size w x L) (t e : TypeId) (ht : P.underlying t = some (.slice e)) (hinfo : (P.info? e).map (fun i => i.size) = some size) (n : Nat) (hn : n ≤ L.length) :
    ∃ (ao : Option Addr) (c : Nat), (∀ k W, (Instr.slice t x none (some (.int k (n : Int))) none).run P W = .ok (.slice ao n c) W) ∧ Rws size w (.slice ao n c) (L.take n) ∧ (∀ k, blk (.slice ao n c) = some k → blk x = some k) := by
  obtain ⟨i0, hi, hz1⟩ : ∃ i, P.info? e = some i ∧ i.size = size := by
    cases hq : P.info? e with
    | none => rw [hq] at hinfo; cases hinfo
    | some i => rw [hq] at hinfo; exact ⟨i, rfl, by simpa using hinfo⟩
  have h' := h
  obtain ⟨ao, c, rfl, h1, h2, h3, h5, h4⟩ := h
  have ht' : P.underlying t = some (.slice (P.elem t)) := by simp [Program.elem, ht]
  have he : P.elem t = e := by simp [Program.elem, ht]
  have hs : ∀ W, (sizeOf e).run P W = .ok size W := fun W => by simp [sizeOf, typeInfo, hi, hz1]
  have hsame : (if c = 0 then ao else ao.map (·.add (0 * size))) = ao := by
    split
    · rfl
    · cases ao <;> simp [Addr.add]
  refine ⟨ao, c, fun k W => ?_, h'.take n hn, fun k hk => by cases ao with | none => simp [blk] at hk | some a => simpa [blk] using hk⟩
  rw [run_slice_h W t _ _ _ ht' k _ (by omega) (by omega), he, hs]
  simp only [Result.andThen, sliced]
  rw [hsame]
  simp

/-- 'x[n:]'. -/
theorem Rws.cut {P : Program} {size : Nat} {w : World} {x : Value} {L : List (List Value)} (h : Rws size w x L) (hsz : 0 < size) (t e : TypeId) (ht : P.underlying t = some (.slice e)) (hinfo : (P.info? e).map (fun i => i.size) = some size) (n : Nat) (hn : n ≤ L.length) :
    ∃ (ao : Option Addr) (c : Nat), (∀ W, (Instr.slice t x (some (.int .i64 (n : Int))) none none).run P W = .ok (.slice ao (L.length - n) c) W) ∧ Rws size w (.slice ao (L.length - n) c) (L.drop n) ∧ (∀ k, blk (.slice ao (L.length - n) c) = some k → blk x = some k) := by
  obtain ⟨i0, hi, hz1⟩ : ∃ i, P.info? e = some i ∧ i.size = size := by
    cases hq : P.info? e with
    | none => rw [hq] at hinfo; cases hinfo
    | some i => rw [hq] at hinfo; exact ⟨i, rfl, by simpa using hinfo⟩
  have h0 := h
  obtain ⟨ao, c, rfl, h1, h2, h3, h5, h4⟩ := h
  have ht' : P.underlying t = some (.slice (P.elem t)) := by simp [Program.elem, ht]
  have he : P.elem t = e := by simp [Program.elem, ht]
  have hs : ∀ W, (sizeOf e).run P W = .ok size W := fun W => by simp [sizeOf, typeInfo, hi, hz1]
  have hlen : (L.drop n).length = L.length - n := List.length_drop
  refine ⟨if c = n then ao else ao.map (·.add (n * size)), c - n, fun W => ?_, ?_, ?_⟩
  · rw [run_slice_l W t _ _ _ ht' .i64 _ (by omega) (by omega), he, hs]
    simp [Result.andThen, sliced]
  · refine ⟨_, _, by rw [hlen], by rw [hlen]; omega, by omega, ?_, h5.sub fun r hr => List.mem_of_mem_drop hr, ?_⟩
    · intro hne
      split at hne
      · omega
      · cases ao with
        | none => have := h3 rfl; omega
        | some a => simp at hne
    · intro a ha j u hu
      have hjl : j < (L.drop n).flatten.length := (List.getElem?_eq_some_iff.1 hu).1
      have hwd : Wide size (L.drop n) := h5.sub fun r hr => List.mem_of_mem_drop hr
      have hpos : 0 < (L.drop n).length := by
        rcases Nat.eq_zero_or_pos (L.drop n).length with h | h
        · rw [List.eq_nil_of_length_eq_zero h] at hjl; simp at hjl
        · exact h
      rw [if_neg (by omega)] at ha
      cases ao with
      | none => simp at ha
      | some a0 =>
        simp at ha
        subst ha
        have e : L.flatten = (L.take n).flatten ++ (L.drop n).flatten := by rw [← List.flatten_append, List.take_append_drop]
        have hwt : Wide size (L.take n) := h5.sub fun r hr => List.mem_of_mem_take hr
        have hlt : (L.take n).flatten.length = n * size := by rw [hwt.len, List.length_take]; congr 1; omega
        have h7 : L.flatten[n * size + j]? = some u := by
          rw [e, List.getElem?_append_right (by omega), hlt]
          rw [show n * size + j - n * size = j by omega]
          exact hu
        have h6 := h4 a0 rfl _ _ h7
        rw [Deep.add_add]
        exact h6
  · intro k hk
    split at hk
    · cases ao with
      | none => simp [blk] at hk
      | some a => simpa [blk] using hk
    · cases ao with
      | none => simp [blk] at hk
      | some a => simpa [blk, add_block] using hk

/-- 'append(v, x...)', v the call's own, x whatever. 'hgd': no guard, or one that holds (by rfl). -/
theorem wp_rapp {P : Program} {w : World} {ops : Array Oper} {rest : List Oper} {o : Oper} {a : Act} {Q : Exit → Act → World → Prop} (hgd : Region.wanted o (yielded ops a.tmps) = true) (s x : Operand) (t : TypeId)
    (ho : o.op = .call { callee := .builtin .append, args := #[s, x], argTypes := #[t, t] })
    (base size bytes : Nat) (e : TypeId) (ht : P.underlying t = some (.slice e)) (z : Value) (hinfo : (P.info? e).map (fun i => (i.zero, i.size, i.bytes)) = some (some z, size, bytes)) (hzs : z.cells.size = size) (hsz : 0 < size)
    (v : Value) (n : Nat) (xs : List Value) (hs : a.eval s = v) (hown : w.ownsRow base e size v n xs)
    (y : Value) (L : List (List Value)) (hx : a.eval x = y) (hr : Rws size w y L) (hn : (n + L.length) * bytes ≤ 140737488355328) (hm : n + L.length ≤ maxLen) (hbase : base ≤ w.heap.size)
    (h : ∀ v' w', w'.ownsRow base e size v' (n + L.length) (xs ++ L.flatten) → w.grownBy w' v.ownBlock → wpList P ops Q rest (a.put o.dst v') w') : wpList P ops Q (o :: rest) a w := by
  obtain ⟨i0, hi, hz0, hz1, hz2⟩ : ∃ i, P.info? e = some i ∧ i.zero = some z ∧ i.size = size ∧ i.bytes = bytes := by
    cases hq : P.info? e with
    | none => rw [hq] at hinfo; cases hinfo
    | some i => rw [hq] at hinfo; simp at hinfo; exact ⟨i, rfl, hinfo⟩
  refine wpList_step fun K hK => ?_
  rw [if_pos hgd]
  obtain ⟨ao, c, rfl, h1, h2, h3, h5, h4⟩ := hr
  cases ao with
  | some ad =>
    exact wp_append_own w s x t ho base e i0 z size bytes ht hi hz0 hz1 hz2 hzs hsz v n xs hs hown ad L.length c L.flatten hx h5.len (h4 ad rfl) h5.one
      hm hn hbase fun v' w' a1 a2 _ => hK _ _ (h v' w' a1 a2)
  | none =>
    have hc := h3 rfl
    obtain rfl : L = [] := List.eq_nil_of_length_eq_zero (by omega)
    subst hc
    have hrun := run_append_owned_none (P := P) (w := w) base t o.type e i0 size ht hi v n xs hown
    unfold Oper.wp execOp
    simp only [List.length_nil] at hx
    simp only [ho, resolve, invoke, builtin, Sem.run_bind, Sem.run_pure, Result.andThen_ok, List.map_toArray, List.map_cons, List.map_nil, hs, hx, hrun]
    exact hK _ _ (h v w (by simpa using hown) (World.grownBy.refl _ _))

/-- A row that was laid out by 'buildSlice' or stored whole: one row. -/
theorem Rws.one {w : World} {n size : Nat} {r : List Value} {t : TypeId} (h : n = w.heap.size) (hr : r.length = size ∧ ∀ u ∈ r, u.oneCell' = true) : Rws size (w.alloc (.cells r.toArray t)) (.slice (some ⟨n, 0, none⟩) 1 1) [r] := by
  subst h
  refine ⟨some ⟨w.heap.size, 0, none⟩, 1, rfl, by simp, by unfold maxLen; simp, (fun h => by cases h), (fun q hq => by simp at hq; subst hq; exact hr), fun a ha j u hu => ?_⟩
  cases ha
  rw [WideShapes.add_plain, Nat.zero_add, cell_of_row _ w.heap.size j r.toArray t (0, 0) (heap_alloc_new w _)]
  simpa using hu
end Go.Proofs.YtddnleofflobhaaGreatDoor

set_option linter.unusedVariables false
namespace Go.Proofs.YtddnleofflobhaaGreatDoor
open Go.RowKit

theorem one_rd {w : World} {x : Value} {l : List UInt8} (h : Rd w x l) : x.oneCell' = true := by
  obtain ⟨_, _, rfl, _⟩ := h; rfl

theorem lt_of_block {w : World} {b : Nat} {o : Obj} (h : w.heap[b]? = some o) : b < w.heap.size := (Array.getElem?_eq_some_iff.1 h).1

/-- One write that waits. -/
structure Wr where
  at' : Nat
  was : List UInt8
  now : List UInt8

def rowW (x : Wr) : List Value := .int .i64 x.at' :: (x.was.map bv ++ x.now.map bv)

/-- A disk of n sectors: its block, its sectors' block (of which S says all, spare room too), what waits (a row of its own). -/
structure Dk (base : Nat) (w : World) (db sb n : Nat) (vw : Value) (S : List (List UInt8)) (Q : List Wr) (dn : Bool) (lf : Nat) : Prop where
  lo : base ≤ db ∧ base ≤ sb
  hd : w.heap[db]? = some (.cells #[.slice (some ⟨sb, 0, none⟩) n S.length, vw, .bool dn, .int .i64 (lf : Int)] 72 (0, 0))
  sh : w.heap[sb]? = some (.cells (S.flatten.map bv).toArray 108 (0, 0))
  wa : w.ownsRow base 110 129 vw Q.length (Q.map rowW).flatten
  len : ∀ s ∈ S, s.length = 64
  ok : ∀ x ∈ Q, x.at' < n ∧ x.was.length = 64 ∧ x.now.length = 64
  few : n ≤ S.length ∧ n ≤ 65536 ∧ S.length ≤ maxLen

theorem Dk.old {base : Nat} {w w' : World} {db sb n : Nat} {vw : Value} {S : List (List UInt8)} {Q : List Wr} {dn : Bool} {lf : Nat} (h : Dk base w db sb n vw S Q dn lf) (hb : Below w.heap.size w w') : Dk base w' db sb n vw S Q dn lf :=
  ⟨h.lo, (hb.block _ (lt_of_block h.hd)).trans h.hd, (hb.block _ (lt_of_block h.sh)).trans h.sh, own_old h.wa hb, h.len, h.ok, h.few⟩

theorem four_cells {w : World} {b : Nat} {x y z u : Value} {t : TypeId} (h : w.heap[b]? = some (.cells #[x, y, z, u] t (0, 0))) :
    w.cell? ⟨b, 0, none⟩ = some x ∧ w.cell? ⟨b, 1, none⟩ = some y ∧ w.cell? ⟨b, 2, none⟩ = some z ∧ w.cell? ⟨b, 3, none⟩ = some u ∧ w.frozen? ⟨b, 0, none⟩ = false ∧ w.frozen? ⟨b, 1, none⟩ = false ∧ w.frozen? ⟨b, 2, none⟩ = false ∧ w.frozen? ⟨b, 3, none⟩ = false := by
  simp [World.cell?, World.frozen?, h]

theorem set_at {w : World} {b k : Nat} {c : Array Value} {t : TypeId} (x : Value) (h : w.heap[b]? = some (.cells c t (0, 0))) : (w.setCell ⟨b, k, none⟩ x).heap[b]? = some (.cells (c.setIfInBounds k x) t (0, 0)) := by
  have hlt := lt_of_block h
  have h' : w.heap[b] = .cells c t (0, 0) := by simpa [Array.getElem?_eq_getElem hlt] using h
  show (w.heap.modify b _)[b]? = _
  rw [Array.getElem?_eq_getElem (by simpa using hlt), Array.getElem_modify_self, h']
  rfl

/-- The n-th of lists of 64. -/
theorem flat_at {S : List (List UInt8)} (h : ∀ s ∈ S, s.length = 64) : ∀ {k : Nat} {s : List UInt8}, S[k]? = some s → ∀ j, j < 64 → S.flatten[k * 64 + j]? = s[j]? := by
  induction S with
  | nil => intro k s hk; simp at hk
  | cons q S ih =>
    intro k s hk j hj
    have hq := h q (by simp)
    cases k with
    | zero =>
      simp at hk
      subst hk
      rw [List.flatten_cons, List.getElem?_append_left (by omega), Nat.zero_mul, Nat.zero_add]
    | succ k =>
      have hk' : S[k]? = some s := by simpa using hk
      rw [List.flatten_cons, List.getElem?_append_right (by omega)]
      have e : (k + 1) * 64 + j - q.length = k * 64 + j := by omega
      rw [e]
      exact ih (fun x hx => h x (by simp [hx])) hk' j hj

theorem flat_len {S : List (List UInt8)} (h : ∀ s ∈ S, s.length = 64) : S.flatten.length = S.length * 64 := by
  induction S with
  | nil => rfl
  | cons q S ih =>
    rw [List.flatten_cons, List.length_append, h q (by simp), ih (fun x hx => h x (by simp [hx])), List.length_cons]
    omega

section
variable {base : Nat} {w : World} {db sb n : Nat} {vw : Value} {S : List (List UInt8)} {Q : List Wr} {dn : Bool} {lf : Nat}

/-- A sector's cells. -/
theorem Dk.sec (h : Dk base w db sb n vw S Q dn lf) {k : Nat} {s : List UInt8} (hk : S[k]? = some s) : w.rangeAt sb (k * 64) (s.map bv) := fun j v hv => by
  have hs := h.len s (List.mem_of_getElem? hk)
  have hj : j < 64 := by have := (List.getElem?_eq_some_iff.1 hv).1; simpa [hs] using this
  rw [List.getElem?_map, ← flat_at h.len hk j hj, ← List.getElem?_map] at hv
  unfold World.cell?
  rw [h.sh]
  show ((S.flatten.map bv).toArray)[k * 64 + j]? = some v
  rw [List.getElem?_toArray]
  exact hv

theorem Dk.rd (h : Dk base w db sb n vw S Q dn lf) {k : Nat} {s : List UInt8} (hk : S[k]? = some s) : Rd w (.slice (some ⟨sb, k * 64, none⟩) 64 64) s := by
  have hs := h.len s (List.mem_of_getElem? hk)
  refine ⟨_, _, by rw [hs], by omega, by decide, (fun e => by cases e), fun a ha j u hu => ?_⟩
  cases ha
  rw [WideShapes.add_plain]
  exact h.sec hk j u hu

theorem Dk.there (h : Dk base w db sb n vw S Q dn lf) {k : Nat} (hk : k < S.length) : w.there sb (k * 64) 64 := fun j hj => by
  have hl := flat_len h.len
  have h2 : k * 64 + j < (S.flatten.map bv).length := by rw [List.length_map, hl]; omega
  refine ⟨?_, ?_⟩
  · unfold World.cell?
    rw [h.sh]
    show (((S.flatten.map bv).toArray)[k * 64 + j]?).isSome = true
    rw [List.getElem?_toArray, List.getElem?_eq_getElem h2]
    rfl
  · simp [World.frozen?, h.sh]

/-- The blocks are three. -/
theorem Dk.apart (h : Dk base w db sb n vw S Q dn lf) : db ≠ sb ∧ vw.ownBlock ≠ some db ∧ vw.ownBlock ≠ some sb := by
  refine ⟨fun e => ?_, fun e => ?_, fun e => ?_⟩
  · have h1 := h.hd
    rw [e, h.sh] at h1
    simp at h1
  · rcases h.wa.2 with ⟨rfl, _⟩ | ⟨g, cap, cur, rfl, _, hg, _⟩
    · cases e
    · have : g = db := by simpa [Value.ownBlock] using e
      subst this
      rw [h.hd] at hg
      simp at hg
  · rcases h.wa.2 with ⟨rfl, _⟩ | ⟨g, cap, cur, rfl, _, hg, _⟩
    · cases e
    · have : g = sb := by simpa [Value.ownBlock] using e
      subst this
      rw [h.sh] at hg
      simp at hg
end
end Go.Proofs.YtddnleofflobhaaGreatDoor

