import Derived.Test.YtiblambiebojmaaRows
import Derived.WalkKit
import Derived.WalkSpells
import Derived.WalkLawsBesides
import Derived.Laws.AppendOwnNone
import Derived.OpenShut
import Derived.Deep.Slices
import Derived.Deep.AppendLies
import Derived.ProofKit
import Derived.ShutString
import Derived.ChangeOld
import Derived.Below
import Derived.SizedLaws
set_option linter.unusedVariables false
set_option linter.unusedSimpArgs false
namespace Go.Proofs.Ytiblambiebojmaa

/-- A byte that is not a number's last one, and one that is. -/
def moreB (n : Nat) : UInt8 := UInt8.ofNat (n % 128 + 128)
def lastB (n : Nat) : UInt8 := UInt8.ofNat n

/-- The bytes of a number: seven bits a byte, the lowest first. -/
def numL (v : Nat) : List UInt8 :=
  if v < 128 then [lastB v] else moreB v :: numL (v / 128)
termination_by v
decreasing_by omega

theorem numL_lt {v : Nat} (h : v < 128) : numL v = [lastB v] := by
  rw [numL, if_pos h]

theorem numL_ge {v : Nat} (h : 128 ≤ v) : numL v = moreB v :: numL (v / 128) := by
  rw [numL, if_neg (by omega)]

theorem numL_pos (v : Nat) : 1 ≤ (numL v).length := by
  by_cases h : v < 128
  · rw [numL_lt h]; simp
  · rw [numL_ge (by omega)]; simp

theorem numL_len (k : Nat) : ∀ v, v < 128 * 128 ^ k → (numL v).length ≤ k + 1 := by
  induction k with
  | zero => intro v h; rw [numL_lt (by omega)]; simp
  | succ k ih =>
    intro v h
    by_cases h1 : v < 128
    · rw [numL_lt h1]; simp
    · rw [numL_ge (by omega)]
      have := ih (v / 128) (by rw [Nat.pow_succ] at h; omega)
      simp; omega

theorem numL_len10 {v : Nat} (h : v < 2 ^ 64) : (numL v).length ≤ 10 := numL_len 9 v (by omega)

theorem moreB_toNat (n : Nat) : (moreB n).toNat = n % 128 + 128 := by
  unfold moreB
  rw [UInt8.toNat_ofNat']; omega

theorem lastB_toNat {n : Nat} (h : n < 128) : (lastB n).toNat = n := by
  unfold lastB
  rw [UInt8.toNat_ofNat']; omega

/-- The number that a signed one is written as. -/
def zig (i : Int) : Nat := if i < 0 then (-2 * i - 1).toNat else (2 * i).toNat

def rdN : Nat → Nat → List UInt8 → Nat × Nat × Int
  | _, _, [] => (0, 0, 8)
  | i, v, c :: r =>
    if i = 9 ∧ 1 < c.toNat then (0, 0, 9)
    else if 128 ≤ c.toNat then rdN (i + 1) (v + c.toNat % 128 * 128 ^ i) r
    else if c.toNat = 0 ∧ 0 < i then (0, 0, 9)
    else (v + c.toNat % 128 * 128 ^ i, i + 1, 0)

theorem rdN_form {i v : Nat} {c : UInt8} {r : List UInt8} (h : i = 9 ∧ 1 < c.toNat) : rdN i v (c :: r) = (0, 0, 9) := by rw [rdN, if_pos h]
theorem rdN_more {i v : Nat} {c : UInt8} {r : List UInt8} (h : ¬ (i = 9 ∧ 1 < c.toNat)) (h1 : 128 ≤ c.toNat) : rdN i v (c :: r) = rdN (i + 1) (v + c.toNat % 128 * 128 ^ i) r := by rw [rdN, if_neg h, if_pos h1]
theorem rdN_zero {i v : Nat} {c : UInt8} {r : List UInt8} (h : ¬ (i = 9 ∧ 1 < c.toNat)) (h1 : ¬ 128 ≤ c.toNat) (h2 : c.toNat = 0 ∧ 0 < i) : rdN i v (c :: r) = (0, 0, 9) := by rw [rdN, if_neg h, if_neg h1, if_pos h2]
theorem rdN_last {i v : Nat} {c : UInt8} {r : List UInt8} (h : ¬ (i = 9 ∧ 1 < c.toNat)) (h1 : ¬ 128 ≤ c.toNat) (h2 : ¬ (c.toNat = 0 ∧ 0 < i)) : rdN i v (c :: r) = (v + c.toNat % 128 * 128 ^ i, i + 1, 0) := by rw [rdN, if_neg h, if_neg h1, if_neg h2]

/-- What is written is read. -/
theorem rdN_numL : ∀ (k i v n : Nat) (r : List UInt8), i + k = 9 → n < 2 * 128 ^ k → (i = 0 ∨ 0 < n) → rdN i v (numL n ++ r) = (v + n * 128 ^ i, i + (numL n).length, 0) := by
  intro k
  induction k with
  | zero =>
    intro i v n r hi hn h0
    rw [numL_lt (by omega), List.singleton_append, rdN_last]
    · rw [lastB_toNat (by omega), Nat.mod_eq_of_lt (by omega)]; rfl
    · rw [lastB_toNat (by omega)]; omega
    · rw [lastB_toNat (by omega)]; omega
    · rw [lastB_toNat (by omega)]; omega
  | succ k ih =>
    intro i v n r hi hn h0
    by_cases h : n < 128
    · rw [numL_lt h, List.singleton_append, rdN_last]
      · rw [lastB_toNat h, Nat.mod_eq_of_lt h]; rfl
      · rw [lastB_toNat (by omega)]; omega
      · rw [lastB_toNat (by omega)]; omega
      · rw [lastB_toNat (by omega)]; omega
    · rw [numL_ge (by omega), List.cons_append, rdN_more]
      · rw [ih (i + 1) _ (n / 128) r (by omega) (by rw [Nat.pow_succ] at hn; omega) (by right; omega)]
        rw [moreB_toNat]
        have e1 : v + (n % 128 + 128) % 128 * 128 ^ i + n / 128 * 128 ^ (i + 1) = v + n * 128 ^ i := by
          rw [Nat.add_mod_right, Nat.mod_mod, Nat.pow_succ]
          have : n * 128 ^ i = (n % 128 + n / 128 * 128) * 128 ^ i := by congr 1; omega
          rw [this, Nat.add_mul, Nat.mul_assoc, Nat.mul_comm 128 (128 ^ i)]
          omega
        rw [e1]
        congr 2
        simp; omega
      · omega
      · rw [moreB_toNat]; omega

theorem rdN_back {n : Nat} (h : n < 2 ^ 64) (r : List UInt8) : rdN 0 0 (numL n ++ r) = (n, (numL n).length, 0) := by
  have := rdN_numL 9 0 0 n r rfl (by omega) (by left; rfl)
  simpa using this

/-- What is read, written again, is the same bytes. -/
theorem rdN_inv : ∀ (l : List UInt8) (i v a n : Nat), i ≤ 9 → rdN i v l = (a, n, 0) → ∃ x, a = v + x * 128 ^ i ∧ n = i + (numL x).length ∧ numL x = l.take (numL x).length ∧ (0 < i → 0 < x) := by
  intro l
  induction l with
  | nil => intro i v a n _ h; simp [rdN] at h
  | cons c r ih =>
    intro i v a n hi h
    have hc : c.toNat < 256 := c.toNat_lt
    by_cases h1 : i = 9 ∧ 1 < c.toNat
    · rw [rdN_form h1] at h; simp at h
    · by_cases h2 : 128 ≤ c.toNat
      · rw [rdN_more h1 h2] at h
        obtain ⟨x, e1, e2, e3, e4⟩ := ih (i + 1) _ a n (by omega) h
        have hx := e4 (by omega)
        have hm : (c.toNat % 128 + 128 * x) % 128 = c.toNat % 128 := by omega
        have hd : (c.toNat % 128 + 128 * x) / 128 = x := by omega
        have hg : numL (c.toNat % 128 + 128 * x) = c :: numL x := by
          rw [numL_ge (by omega), hd]
          congr 1
          apply UInt8.toNat_inj.1
          rw [moreB_toNat, hm]; omega
        refine ⟨c.toNat % 128 + 128 * x, ?_, ?_, ?_, fun _ => by omega⟩
        · rw [e1, Nat.pow_succ, Nat.add_mul, Nat.mul_comm 128 x, Nat.mul_assoc, Nat.mul_comm 128 (128 ^ i)]; omega
        · rw [e2, hg]; simp; omega
        · rw [hg]; simp [← e3]
      · by_cases h3 : c.toNat = 0 ∧ 0 < i
        · rw [rdN_zero h1 h2 h3] at h; simp at h
        · rw [rdN_last h1 h2 h3] at h
          simp only [Prod.mk.injEq, and_true] at h
          have hg : numL c.toNat = [c] := by
            rw [numL_lt (by omega)]
            congr 1
            apply UInt8.toNat_inj.1
            rw [lastB_toNat (by omega)]
          refine ⟨c.toNat, ?_, ?_, ?_, fun _ => by omega⟩
          · rw [← h.1, Nat.mod_eq_of_lt (by omega)]
          · rw [hg, ← h.2]; rfl
          · rw [hg]; rfl

theorem step_lt {V k c : Nat} (hV : V < 128 ^ k) : V + c % 128 * 128 ^ k < 128 ^ (k + 1) := by
  rw [Nat.pow_succ]
  have : c % 128 * 128 ^ k ≤ 127 * 128 ^ k := Nat.mul_le_mul_right _ (by omega)
  omega

/-- The size is within the bytes; a fault has no size, and no value. -/
theorem rdN_bounds : ∀ (l : List UInt8) (i v : Nat), v < 128 ^ i → i ≤ 9 → (rdN i v l).1 < 2 ^ 64 ∧ ((rdN i v l).2.2 = 0 ∧ i < (rdN i v l).2.1 ∧ (rdN i v l).2.1 ≤ i + l.length ∧ (rdN i v l).2.1 ≤ 10 ∨ (rdN i v l).1 = 0 ∧ (rdN i v l).2.1 = 0 ∧ ((rdN i v l).2.2 = 8 ∨ (rdN i v l).2.2 = 9)) := by
  intro l
  induction l with
  | nil => intro i v _ _; simp [rdN]
  | cons c r ih =>
    intro i v hv hi
    have hc : c.toNat < 256 := c.toNat_lt
    by_cases h1 : i = 9 ∧ 1 < c.toNat
    · rw [rdN_form h1]; simp
    · by_cases h2 : 128 ≤ c.toNat
      · rw [rdN_more h1 h2]
        have h9 : i < 9 := by omega
        have hv' : v + c.toNat % 128 * 128 ^ i < 128 ^ (i + 1) := by
          rw [Nat.pow_succ]
          have : c.toNat % 128 * 128 ^ i ≤ 127 * 128 ^ i := Nat.mul_le_mul_right _ (by omega)
          omega
        have := ih (i + 1) _ hv' (by omega)
        simp only [List.length_cons]
        omega
      · by_cases h3 : c.toNat = 0 ∧ 0 < i
        · rw [rdN_zero h1 h2 h3]; simp
        · rw [rdN_last h1 h2 h3]
          simp only [List.length_cons]
          refine ⟨?_, .inl ⟨trivial, by omega, by omega, by omega⟩⟩
          have hp : i ≤ 8 ∨ i = 9 := by omega
          rcases hp with hp | rfl
          · have h8 : 128 ^ i ≤ 128 ^ 8 := Nat.pow_le_pow_right (by omega) hp
            have h7 : c.toNat % 128 * 128 ^ i ≤ 127 * 128 ^ i := Nat.mul_le_mul_right _ (by omega)
            generalize c.toNat % 128 * 128 ^ i = q at *
            generalize 128 ^ i = p at *
            have h8' : p ≤ 72057594037927936 := h8
            omega
          · have hc1 : c.toNat ≤ 1 := by omega
            have h8 : c.toNat % 128 * 128 ^ 9 ≤ 1 * 128 ^ 9 := Nat.mul_le_mul_right _ (by omega)
            omega

end Go.Proofs.Ytiblambiebojmaa

namespace Go.Proofs.Ytiblambiebojmaa
open Go.RowKit

theorem hid {p : Prop} (h : p) : Hid p := h

/-- A byte's cell. -/
def bv (c : UInt8) : Value := .int .u8 (c.toNat : Int)

theorem bv_one (l : List UInt8) : ∀ u ∈ l.map bv, u.oneCell' = true := by
  intro u hu
  obtain ⟨_, _, rfl⟩ := List.mem_map.1 hu
  rfl

/-- The block that a slice lies in. -/
def blk : Value → Option Nat
  | .slice (some a) _ _ => some a.block
  | _ => none

/-- The slice x reads as the bytes l. -/
def Rd (w : World) (x : Value) (l : List UInt8) : Prop :=
  ∃ (ao : Option Addr) (c : Nat), x = .slice ao l.length c ∧ l.length ≤ c ∧ c ≤ maxLen ∧ (ao = none → c = 0) ∧
    ∀ a, ao = some a → ∀ (j : Nat) u, (l.map bv)[j]? = some u → w.cell? (a.add j) = some u

theorem Rd.nil (w : World) : Rd w (.slice none 0 0) [] := ⟨none, 0, rfl, by simp, by simp, fun _ => rfl, fun a h => by cases h⟩

theorem add_block (a : Addr) (j : Nat) : (a.add j).block = a.block := by unfold Addr.add; split <;> rfl

/-- What is read stays read, where its block is left alone. -/
theorem Rd.kept {w w' : World} {x : Value} {l : List UInt8} {row : Option Nat} (h : Rd w x l) (hg : w.grownBy w' row) (hne : blk x = none ∨ blk x ≠ row) : Rd w' x l := by
  obtain ⟨ao, c, rfl, h1, h2, h3, h4⟩ := h
  refine ⟨ao, c, rfl, h1, h2, h3, fun a ha j u hu => ?_⟩
  subst ha
  have h6 := h4 a rfl j u hu
  have hlt := World.block_lt_of_cell? w _ h6
  rw [World.cell?_of_block (w := w) (a := a.add j) (hg.block _ hlt (by rw [add_block]; simpa [blk] using hne))]
  exact h6

/-- Behind a call that leaves all that was there. -/
theorem Rd.old {w w' : World} {x : Value} {l : List UInt8} (h : Rd w x l) (hb : Below w.heap.size w w') : Rd w' x l := by
  obtain ⟨ao, c, rfl, h1, h2, h3, h4⟩ := h
  refine ⟨ao, c, rfl, h1, h2, h3, fun a ha j u hu => ?_⟩
  subst ha
  have h6 := h4 a rfl j u hu
  rw [hb.cell (p := a.add j) (World.block_lt_of_cell? w _ h6)]
  exact h6

theorem Rd.below {w0 w w' : World} {x : Value} {l : List UInt8} (h : Rd w0 x l) (hb0 : Below w0.heap.size w0 w) (hb : Below w0.heap.size w w') : Rd w' x l := h.old (hb0.trans hb)

theorem Rd.alloc {w : World} {x : Value} {l : List UInt8} (h : Rd w x l) (o : Obj) : Rd (w.alloc o) x l := h.old ((Below.refl _ _).alloc (Nat.le_refl _) o)

/-- What the call itself made. -/
theorem Rd.own {w : World} {base : Nat} {e : TypeId} {x : Value} {l : List UInt8} (h : w.ownsRow base e 1 x l.length (l.map bv)) : Rd w x l := by
  obtain ⟨h1, h2⟩ := h
  rcases h2 with ⟨rfl, hn⟩ | ⟨g, cap, cur, rfl, hb, hg, hn, hc, hs, ht⟩
  · obtain rfl : l = [] := List.eq_nil_of_length_eq_zero hn
    exact Rd.nil w
  · refine ⟨some ⟨g, 0, none⟩, cap, rfl, hn, hc, (fun h => by cases h), fun a ha => ?_⟩
    cases ha
    intro j u hu
    rw [WideShapes.add_plain, Nat.zero_add, cell_of_row w g j cur e (0, 0) hg]
    rw [← ht, List.getElem?_take] at hu
    split at hu
    · simpa using hu
    · cases hu

/-- 'string(x)'. -/
theorem Rd.conv {P : Program} {w : World} {x : Value} {l : List UInt8} (h : Rd w x l) (src dst e : TypeId) (hs : P.underlying src = some (.slice e)) (he : P.underlying e = some (.int .u8)) (hd : P.underlying dst = some .string) :
    (convert src dst x).run P w = .ok (.string ⟨l.toArray⟩) w := by
  obtain ⟨ao, c, rfl, h1, h2, h3, h4⟩ := h
  cases ao with
  | none =>
    obtain rfl : l = [] := List.eq_nil_of_length_eq_zero (by have := h3 rfl; omega)
    rw [run_convert_bytes_nil w src e hs he _ _ dst hd]
    rfl
  | some a =>
    rw [run_convert_bytes_string w src dst e _ _ _ hs he hd]
    have hl : (loadCells a l.length).run P w = .ok ((l.map fun x => (x.toNat : Int)).map (Value.int .u8)).toArray w := by
      have := run_loadCells_list (P := P) w a (l.map bv) (h4 a rfl)
      have e1 : (l.map fun x => (x.toNat : Int)).map (Value.int .u8) = l.map bv := by rw [List.map_map]; rfl
      rw [e1]
      simpa using this
    rw [run_bytesToString w a l.length c (l.map fun x => (x.toNat : Int)) hl, foldl_push_bytes]
    congr 2
    simp [ByteArray.empty, ByteArray.emptyWithCapacity, Function.comp_def]
    rfl

/-- 'append(v, x...)', v the call's own, x whatever. -/
theorem wp_app {P : Program} {w : World} {ops : Array Oper} {rest : List Oper} {o : Oper} {a : Act} {Q : Exit → Act → World → Prop} (hgd : o.guard = none) (s x : Operand) (t : TypeId)
    (ho : o.op = .call { callee := .builtin .append, args := #[s, x], argTypes := #[t, t] })
    (base : Nat) (e : TypeId) (ht : P.underlying t = some (.slice e)) (hinfo : (P.info? e).map (fun i => (i.zero, i.size, i.bytes)) = some (some (.int .u8 0), 1, 1))
    (v : Value) (n : Nat) (xs : List Value) (hs : a.eval s = v) (hown : w.ownsRow base e 1 v n xs)
    (y : Value) (l : List UInt8) (hx : a.eval x = y) (hr : Rd w y l) (hn : n + l.length ≤ 140737488355328) (hbase : base ≤ w.heap.size)
    (h : ∀ v' w', w'.ownsRow base e 1 v' (n + l.length) (xs ++ l.map bv) → w.grownBy w' v.ownBlock → wpList P ops Q rest (a.put o.dst v') w') : wpList P ops Q (o :: rest) a w := by
  obtain ⟨i0, hi, hz0, hz1, hz2⟩ := info_parts hinfo
  obtain ⟨ao, c, rfl, h1, h2, h3, h4⟩ := hr
  cases ao with
  | some ad =>
    exact wpList_append_own w hgd s x t ho base e i0 (.int .u8 0) 1 1 ht hi hz0 hz1 hz2 rfl (by decide) v n xs hs hown ad l.length c (l.map bv) hx (by simp) (h4 ad rfl) (bv_one l)
      (by unfold maxLen; omega) (by omega) hbase fun v' w' a1 a2 _ => h v' w' a1 a2
  | none =>
    have hc := h3 rfl
    obtain rfl : l = [] := List.eq_nil_of_length_eq_zero (by omega)
    subst hc
    exact wpList_append_own_none hgd s x t ho base e i0 1 ht hi v n xs hs hown hx (h v w (by simpa using hown) (World.grownBy.refl _ _))

/-- What is owned from a later block on is owned from an earlier one on. -/
theorem ownsRow_base {w : World} {base base' : Nat} {e : TypeId} {size : Nat} {v : Value} {n : Nat} {xs : List Value} (h : w.ownsRow base e size v n xs) (hb : base' ≤ base) : w.ownsRow base' e size v n xs := by
  obtain ⟨h1, h2⟩ := h
  rcases h2 with h2 | ⟨g, cap, cur, hv, hg, r⟩
  · exact ⟨h1, .inl h2⟩
  · exact ⟨h1, .inr ⟨g, cap, cur, hv, Nat.le_trans hb hg, r⟩⟩

theorem grown_below {w w' : World} (h : Below w.heap.size w w') (row : Option Nat) : w.grownBy w' row := ⟨h.os, h.tape, h.output, h.size, fun k hk _ => h.block k hk⟩

theorem grown_set (w : World) (a : Addr) (v : Value) : w.grownBy (w.setCell a v) (some a.block) :=
  ⟨rfl, rfl, rfl, by simp [World.setCell], fun k _ hne => Below.heap_setCell _ _ _ _ (fun e => hne (by rw [e]))⟩

theorem grown_trans {a b c : World} {row : Option Nat} (h : a.grownBy b row) (k : b.grownBy c row) : a.grownBy c row :=
  ⟨k.os.trans h.os, k.tape.trans h.tape, k.output.trans h.output, Nat.le_trans h.size k.size, fun i hi hne => (k.block i (Nat.lt_of_lt_of_le hi h.size) hne).trans (h.block i hi hne)⟩

/-- What is owned stays owned behind a call that leaves all that was there. -/
theorem own_old {w w' : World} {base : Nat} {e : TypeId} {size : Nat} {v : Value} {n : Nat} {xs : List Value} (h : w.ownsRow base e size v n xs) (hb : Below w.heap.size w w') : w'.ownsRow base e size v n xs :=
  h.kept (grown_below hb none) (by cases v.ownBlock <;> simp)

theorem heap_kept {w w' : World} {row : Option Nat} (h : w.grownBy w' row) {k : Nat} {o : Obj} (hk : w.heap[k]? = some o) (hne : some k ≠ row) : w'.heap[k]? = some o := by
  rw [h.block k (lt_of_block hk) hne]; exact hk

/-- A block of two cells. -/
theorem two_set0 {w : World} {b : Nat} {u v x : Value} {t : TypeId} (h : w.heap[b]? = some (.cells #[u, v] t (0, 0))) : (w.setCell ⟨b, 0, none⟩ x).heap[b]? = some (.cells #[x, v] t (0, 0)) := by
  have hlt := lt_of_block h
  have h' : w.heap[b] = .cells #[u, v] t (0, 0) := by simpa [Array.getElem?_eq_getElem hlt] using h
  show (w.heap.modify b _)[b]? = _
  rw [Array.getElem?_eq_getElem (by simpa using hlt), Array.getElem_modify_self, h']
  rfl
theorem two_set1 {w : World} {b : Nat} {u v x : Value} {t : TypeId} (h : w.heap[b]? = some (.cells #[u, v] t (0, 0))) : (w.setCell ⟨b, 1, none⟩ x).heap[b]? = some (.cells #[u, x] t (0, 0)) := by
  have hlt := lt_of_block h
  have h' : w.heap[b] = .cells #[u, v] t (0, 0) := by simpa [Array.getElem?_eq_getElem hlt] using h
  show (w.heap.modify b _)[b]? = _
  rw [Array.getElem?_eq_getElem (by simpa using hlt), Array.getElem_modify_self, h']
  rfl
theorem two_cells {w : World} {b : Nat} {u v : Value} {t : TypeId} (h : w.heap[b]? = some (.cells #[u, v] t (0, 0))) :
    w.cell? ⟨b, 0, none⟩ = some u ∧ w.cell? ⟨b, 1, none⟩ = some v ∧ w.frozen? ⟨b, 0, none⟩ = false ∧ w.frozen? ⟨b, 1, none⟩ = false := by
  simp [World.cell?, World.frozen?, h]

/-- 'x[n:]'. -/
theorem Rd.cut {P : Program} {w : World} {x : Value} {l : List UInt8} (h : Rd w x l) (t e : TypeId) (ht : P.underlying t = some (.slice e)) (hinfo : (P.info? e).map (fun i => (i.zero, i.size, i.bytes)) = some (some (.int .u8 0), 1, 1)) (n : Nat) (hn : n ≤ l.length) :
    ∃ (ao : Option Addr) (c : Nat), (∀ W, (Instr.slice t x (some (.int .i64 (n : Int))) none none).run P W = .ok (.slice ao (l.length - n) c) W) ∧ Rd w (.slice ao (l.length - n) c) (l.drop n) ∧ (∀ k, blk (.slice ao (l.length - n) c) = some k → blk x = some k) := by
  obtain ⟨i0, hi, hz0, hz1, hz2⟩ := info_parts hinfo
  obtain ⟨ao, c, rfl, h1, h2, h3, h4⟩ := h
  have ht' : P.underlying t = some (.slice (P.elem t)) := by simp [Program.elem, ht]
  have he : P.elem t = e := by simp [Program.elem, ht]
  have hs : ∀ W, (sizeOf e).run P W = .ok 1 W := fun W => by simp [sizeOf, typeInfo, hi, hz1]
  have hlen : (l.drop n).length = l.length - n := List.length_drop
  refine ⟨if c = n then ao else ao.map (·.add (n * 1)), c - n, fun W => ?_, ?_, ?_⟩
  · rw [run_slice_l W t _ _ _ ht' .i64 _ (by omega) (by omega), he, hs]
    simp [Result.andThen, sliced]
  · refine ⟨_, _, by rw [hlen], by rw [hlen]; omega, by omega, ?_, ?_⟩
    · intro hne
      split at hne
      · omega
      · cases ao with
        | none => have := h3 rfl; omega
        | some a => simp at hne
    · intro a ha j u hu
      have hj : j < l.length - n := by
        have := (List.getElem?_eq_some_iff.1 hu).1
        simpa using this
      rw [if_neg (by omega)] at ha
      cases ao with
      | none => simp at ha
      | some a0 =>
        simp at ha
        subst ha
        rw [List.map_drop, List.getElem?_drop] at hu
        have := h4 a0 rfl (n + j) u hu
        have e2 : (a0.add n).add j = a0.add (n + j) := by
          unfold Addr.add
          by_cases hn0 : n = 0
          · subst hn0; simp
          · by_cases hj0 : j = 0
            · subst hj0; simp
            · simp [hn0, hj0]; omega
        rw [e2]
        exact this
  · intro k hk
    split at hk
    · cases ao with
      | none => simp [blk] at hk
      | some a => simpa [blk] using hk
    · cases ao with
      | none => simp [blk] at hk
      | some a => simpa [blk, add_block] using hk

theorem Rd.take {w : World} {ao : Option Addr} {m c : Nat} {l : List UInt8} (h : Rd w (.slice ao m c) l) (n : Nat) (hn : n ≤ l.length) : Rd w (.slice ao n c) (l.take n) := by
  obtain ⟨ao', c', he, h1, h2, h3, h4⟩ := h
  simp only [Value.slice.injEq] at he
  obtain ⟨rfl, rfl, rfl⟩ := he
  have hlen : (l.take n).length = n := by rw [List.length_take]; omega
  refine ⟨ao, c, by rw [hlen], by rw [hlen]; omega, h2, h3, fun a ha j u hu => h4 a ha j u ?_⟩
  rw [List.map_take, List.getElem?_take] at hu
  split at hu
  · exact hu
  · cases hu

theorem Rd.len {P : Program} {w : World} {x : Value} {l : List UInt8} (h : Rd w x l) (t e ty : TypeId) (ht : P.underlying t = some (.slice e)) :
    ∀ W, (Builtin.len_ #[t] ty #[x]).run P W = .ok (goInt l.length) W := by
  obtain ⟨ao, c, rfl, h1, h2, h3, h4⟩ := h
  have ht' : P.underlying t = some (.slice (P.elem t)) := by simp [Program.elem, ht]
  exact fun W => run_len_slice W t ty _ _ _ ht'

/-- The bytes that one value makes: what a call gives back, in new memory. -/
def Gives (e8 : TypeId) (w : World) (l : List UInt8) (e : Ending) (w' : World) : Prop :=
  ∃ x, e = .returned x ∧ w'.ownsRow w.heap.size e8 1 x l.length (l.map bv) ∧ Below w.heap.size w w'

/-- The value's shape, for the walk. -/
theorem Gives.elim {e8 : TypeId} {w : World} {l : List UInt8} {e : Ending} {w' : World} (h : Gives e8 w l e w') :
    ∃ (ao : Option Addr) (c : Nat), e = .returned (.slice ao l.length c) ∧ w'.ownsRow w.heap.size e8 1 (.slice ao l.length c) l.length (l.map bv) ∧ Below w.heap.size w w' := by
  obtain ⟨x, rfl, h1, h2⟩ := h
  obtain ⟨ao, c, rfl, _⟩ := Rd.own h1
  exact ⟨ao, c, rfl, h1, h2⟩

end Go.Proofs.Ytiblambiebojmaa

namespace Go.Proofs.Ytiblambiebojmaa
open Go.RowKit

theorem Try.info_u8 : (Try.prog.info? 5).map (fun i => (i.zero, i.size, i.bytes)) = some (some (.int .u8 0), 1, 1) := by kernel_rfl
theorem or128 (n : Nat) : bits BinOp.or IntKind.u8 ((n : Int) % 256) 128 = ((n % 128 + 128 : Nat) : Int) := by
  have h := u8_or ((n : Int) % 256) 128 (by omega) (by omega) (by omega) (by omega)
  rw [h]
  have e : ((n : Int) % 256).toNat = n % 256 := by omega
  rw [e]
  have e2 : n % 256 ||| (128 : Int).toNat = n % 128 + 128 := by
    show n % 256 ||| 128 = n % 128 + 128
    have hc : n % 256 = n % 128 ∨ n % 256 = n % 128 + 128 := by omega
    have hj : 128 ||| n % 128 = 128 + n % 128 := nat_join 7 128 (n % 128) (by decide) (by omega)
    rcases hc with hc | hc
    · rw [hc, Nat.or_comm, hj]; omega
    · rw [hc, Nat.add_comm (n % 128) 128, ← hj, Nat.or_comm 128 (n % 128), Nat.or_assoc, Nat.or_self]
  rw [e2]

theorem bv_more (n : Nat) : Value.int IntKind.u8 (bits BinOp.or IntKind.u8 ((n : Int) % 256) 128) = bv (moreB n) := by
  rw [or128]
  unfold bv
  rw [moreB_toNat]

theorem bv_last {n : Nat} (h : n < 128) : Value.int IntKind.u8 ((n : Int)) = bv (lastB n) := by
  unfold bv
  rw [lastB_toNat h]

theorem num_step {w wr w1 : World} {v n : Nat} {pre : List UInt8} {x x' : Value} {o : Obj} (hge : 128 ≤ n) (Hpre : Hid (pre ++ numL n = numL v)) (hown : wr.ownsRow w.heap.size 5 1 x pre.length (pre.map bv)) (hb : Below w.heap.size w wr)
    (hown' : w1.ownsRow w.heap.size 5 1 x' (pre.length + 1) (pre.map bv ++ [bv (moreB n)])) (hg : (wr.alloc o).grownBy w1 x.ownBlock) :
    (pre ++ [moreB n]) ++ numL (n / 128) = numL v ∧ w1.ownsRow w.heap.size 5 1 x' (pre ++ [moreB n]).length ((pre ++ [moreB n]).map bv) ∧ Below w.heap.size w w1 := by
  refine ⟨?_, by simpa using hown', ?_⟩
  · rw [← Hpre.out, numL_ge hge]; simp
  · exact (hb.alloc hb.size _).grown hg (by have := hb.size; simp; omega) (fun k hk => (hown.lt k hk).1)

theorem num_end {w wr w1 : World} {v n : Nat} {pre : List UInt8} {x x' : Value} {o : Obj} (hlt : n < 128) (Hpre : Hid (pre ++ numL n = numL v)) (hown : wr.ownsRow w.heap.size 5 1 x pre.length (pre.map bv)) (hb : Below w.heap.size w wr)
    (hown' : w1.ownsRow w.heap.size 5 1 x' (pre.length + 1) (pre.map bv ++ [bv (lastB n)])) (hg : (wr.alloc o).grownBy w1 x.ownBlock) :
    w1.ownsRow w.heap.size 5 1 x' (numL v).length ((numL v).map bv) ∧ Below w.heap.size w w1 := by
  refine ⟨?_, (hb.alloc hb.size _).grown hg (by have := hb.size; simp; omega) (fun k hk => (hown.lt k hk).1)⟩
  rw [← Hpre.out, numL_lt hlt]
  simpa using hown'

set_option maxHeartbeats 400000 in
set_option maxRecDepth 100000 in
theorem num_any (v : Nat) (w : World) (hl : (numL v).length ≤ 10) :
    Calls Try.prog 86 #[.int .u64 (v : Int)] w (Gives 5 w (numL v)) := by
  obtain ⟨i0, hi, hz0, hz1, hz2⟩ := info_parts Try.info_u8
  go_enter Try.func86, Try.ntmps86
  go_wp2
  go_loopw [0, 3] (fun a x wr => ∃ (n : Nat) (pre : List UInt8), a = .int .u64 (n : Int) ∧ pre ++ numL n = numL v ∧ wr.ownsRow w.heap.size 5 1 x pre.length (pre.map bv) ∧ Below w.heap.size w wr)
    (fun a _ _ => (intOf a).toNat)
  case atStart => exact ⟨v, [], rfl, rfl, World.ownsRow_nil _ _ _ _, Below.refl _ _⟩
  case round =>
    obtain ⟨n, pre, rfl, hpre, hown, hb⟩ := hrel
    have Hpre := hid hpre
    have hpl : pre.length + 1 ≤ 10 := by
      have := congrArg List.length hpre
      have h2 := numL_pos n
      simp at this; omega
    clear hpre
    have hone : ∀ c, ∀ u ∈ [bv c], u.oneCell' = true := fun c => bv_one [c]
    by_cases hge : 128 ≤ n
    · go_wp2_with (first
        | (at_builtin; refine wpList_append_own _ rfl _ _ 23 rfl w.heap.size 5 i0 (.int .u8 0) 1 1 Try.underlying23 hi hz0 hz1 hz2 rfl (by decide) _ _ _ rfl (hown.alloc _) ⟨wr.heap.size, 0, none⟩ 1 1 [bv (moreB n)] rfl rfl ?c1 ?c2 ?c3 ?c4 ?c5 ?_))
      case c1 => rw [bv_more]; exact (cell_one_new _ _ _)
      case c2 => exact hone _
      case c3 => unfold maxLen; simp; omega
      case c4 => simp; omega
      case c5 => have := hb.size; simp; omega
      intro x' w1 hown' hgrow _
      have R := num_step hge Hpre hown hb hown' hgrow
      clear hown' hgrow hown hb
      go_wp2
      go_roundw
      case rel => exact ⟨n / 128, _, by go_num, R⟩
      case measure => simp [intOf]; omega
    · have hlt : n < 128 := by omega
      clear hge
      go_wp2_with (first
        | (at_builtin; refine wpList_append_own _ rfl _ _ 23 rfl w.heap.size 5 i0 (.int .u8 0) 1 1 Try.underlying23 hi hz0 hz1 hz2 rfl (by decide) _ _ _ rfl (hown.alloc _) ⟨wr.heap.size, 0, none⟩ 1 1 [bv (lastB n)] rfl rfl ?d1 ?d2 ?d3 ?d4 ?d5 ?_))
      case d1 => rw [← bv_last hlt]; exact (cell_one_new _ _ _)
      case d2 => exact hone _
      case d3 => unfold maxLen; simp; omega
      case d4 => simp; omega
      case d5 => have := hb.size; simp; omega
      intro x' w1 hown' hgrow _
      have R := num_end hlt Hpre hown hb hown' hgrow
      clear hown' hgrow hown hb
      go_wp2
      go_ret
      exact ⟨_, rfl, R⟩
end Go.Proofs.Ytiblambiebojmaa

namespace Go.Proofs.Ytiblambiebojmaa

theorem i64_not {v : Int} (h : -9223372036854775808 ≤ v ∧ v ≤ 9223372036854775807) : bits .xor .i64 (-1) v = -1 - v := by
  unfold bits
  have e1 : (BitVec.ofInt 64 (-1)) ^^^ (BitVec.ofInt 64 v) = ~~~ (BitVec.ofInt 64 v) := by
    rw [show (BitVec.ofInt 64 (-1)) = BitVec.allOnes 64 from by decide]
    exact BitVec.allOnes_xor
  show IntKind.i64.wrap (((BitVec.ofInt 64 (-1)) ^^^ (BitVec.ofInt 64 v)).toNat : Int) = -1 - v
  rw [e1, BitVec.toNat_not, IntKind.wrap_i64]
  have e2 : (BitVec.ofInt 64 v).toNat = (v % 18446744073709551616).toNat := by
    rw [BitVec.toNat_ofInt]; rfl
  rw [e2]
  omega

theorem u64_or1 {n : Nat} (h : n < 9223372036854775808) : bits .or .u64 (2 * (n : Int)) 1 = ((2 * n + 1 : Nat) : Int) := by
  have h1 := u64_or_nat (2 * n) 1 (by omega) (by omega)
  have e : 2 * n ||| 1 = 2 * n + 1 := nat_join 1 (2 * n) 1 (by omega) (by omega)
  rw [e] at h1
  simpa using h1

theorem wrap_u64 (n : Int) : IntKind.u64.wrap n = n % 18446744073709551616 := by simp [IntKind.wrap, IntKind.bits, IntKind.signed]

/-- What 'uint64(^v)<<1 | 1' is, v below 0. -/
theorem zig_neg {v : Int} (hv : (Lit.int .i64 v).wf = true) (hn : v < 0) :
    bits BinOp.or IntKind.u64 (IntKind.u64.wrap (IntKind.u64.wrap (bits BinOp.xor IntKind.i64 (-1) v) * 2)) 1 = ((zig v : Nat) : Int) := by
  have hb := bounds_i64 hv
  rw [i64_not hb, wrap_u64, wrap_u64]
  obtain ⟨n, hn2⟩ : ∃ n : Nat, v = -1 - (n : Int) := ⟨(-1 - v).toNat, by omega⟩
  subst hn2
  have e : ((-1 - (-1 - (n : Int))) % 18446744073709551616 * 2) % 18446744073709551616 = 2 * (n : Int) := by omega
  rw [e, u64_or1 (by omega)]
  unfold zig
  rw [if_pos hn]
  omega

/-- What 'uint64(v)<<1' is, v not below 0. -/
theorem zig_pos {v : Int} (hv : (Lit.int .i64 v).wf = true) (hn : 0 ≤ v) :
    IntKind.u64.wrap (IntKind.u64.wrap v * 2) = ((zig v : Nat) : Int) := by
  have hb := bounds_i64 hv
  rw [wrap_u64, wrap_u64]
  unfold zig
  rw [if_neg (by omega)]
  omega

theorem u8_low (c : Nat) (h : c < 256) : bits BinOp.andNot IntKind.u8 (c : Int) 128 = ((c % 128 : Nat) : Int) := by
  have h1 := u8_andNot_nat c 128 h (by omega)
  have e : c &&& (255 - 128) = c % 128 := Nat.and_two_pow_sub_one_eq_mod c 7
  rw [e] at h1
  exact h1

theorem pow7 (k : Nat) : 2 ^ (7 * k) = 128 ^ k := by rw [Nat.pow_mul]

/-- What 'v |= uint64(c&^128) << (7*k)' is. -/
theorem or_step {V k c : Nat} (hV : V < 128 ^ k) (hk : k ≤ 9) (hc : c < 256) (h9 : ¬ (k = 9 ∧ 1 < c)) :
    bits BinOp.or IntKind.u64 (V : Int) (IntKind.u64.wrap (IntKind.u64.wrap (bits BinOp.andNot IntKind.u8 (c : Int) 128) * 2 ^ (7 * k))) = ((V + c % 128 * 128 ^ k : Nat) : Int) := by
  rw [u8_low c hc, wrap_u64, wrap_u64]
  have e0 : ((c % 128 : Nat) : Int) % 18446744073709551616 = ((c % 128 : Nat) : Int) := by omega
  have e1 : ((c % 128 : Nat) : Int) * 2 ^ (7 * k) = ((c % 128 * 128 ^ k : Nat) : Int) := by
    rw [← pow7]; simp
  have hb : c % 128 * 128 ^ k < 18446744073709551616 ∧ 128 ^ k ≤ 9223372036854775808 := by
    have hp : k ≤ 8 ∨ k = 9 := by omega
    rcases hp with hp | rfl
    · have h8 : 128 ^ k ≤ 128 ^ 8 := Nat.pow_le_pow_right (by omega) hp
      have h7 : c % 128 * 128 ^ k ≤ 127 * 128 ^ k := Nat.mul_le_mul_right _ (by omega)
      generalize c % 128 * 128 ^ k = q at *
      generalize 128 ^ k = p at *
      have h8' : p ≤ 72057594037927936 := h8
      omega
    · have h8 : c % 128 * 128 ^ 9 ≤ 1 * 128 ^ 9 := Nat.mul_le_mul_right _ (by omega)
      omega
  rw [e0, e1]
  have e2 : ((c % 128 * 128 ^ k : Nat) : Int) % 18446744073709551616 = ((c % 128 * 128 ^ k : Nat) : Int) := by omega
  rw [e2, u64_or_nat V _ (by omega) hb.1]
  have e3 : V ||| c % 128 * 128 ^ k = V + c % 128 * 128 ^ k := by
    have := nat_join (7 * k) (c % 128 * 128 ^ k) V (by rw [pow7]; exact Nat.mul_mod_left _ _) (by rw [pow7]; exact hV)
    rw [Nat.or_comm, this]; omega
  rw [e3]

theorem zig_lt {v : Int} (hv : (Lit.int .i64 v).wf = true) : zig v < 2 ^ 64 := by
  have hb := bounds_i64 hv
  unfold zig
  split <;> omega

theorem numL_zig {v : Int} (hv : (Lit.int .i64 v).wf = true) : (numL (zig v)).length ≤ 10 := numL_len10 (zig_lt hv)

end Go.Proofs.Ytiblambiebojmaa

namespace Go.Proofs.Ytiblambiebojmaa
open Go.RowKit

set_option maxHeartbeats 400000 in
set_option maxRecDepth 100000 in
theorem int_any (v : Int) (w : World) (hv : (Lit.int .i64 v).wf = true) :
    Calls Try.prog 115 #[.int .i64 v] w (Gives 5 w (numL (zig v))) := by
  have Hl := numL_zig hv
  by_cases hn : v < 0
  · have Hz := hid (zig_neg hv hn)
    clear hv
    go_enter Try.func115, Try.ntmps115
    go_wp2_with fail
    rw [Hz.out]
    refine (num_any _ _ Hl).mono ?_
    rintro e w' ⟨x, rfl, hx⟩
    go_wp2
    go_ret
    exact ⟨_, rfl, hx⟩
  · have Hz := hid (zig_pos hv (by omega))
    clear hv
    go_enter Try.func115, Try.ntmps115
    go_wp2_with fail
    rw [Hz.out]
    refine (num_any _ _ Hl).mono ?_
    rintro e w' ⟨x, rfl, hx⟩
    go_wp2
    go_ret
    exact ⟨_, rfl, hx⟩

end Go.Proofs.Ytiblambiebojmaa

namespace Go.Proofs.Ytiblambiebojmaa
open Go.RowKit

set_option maxHeartbeats 1000000 in
set_option maxRecDepth 100000 in
theorem bytes_any (x y : Value) (l m : List UInt8) (w : World) (hx : Rd w x l) (hy : Rd w y m) :
    Calls Try.prog 8 #[x, y] w fun e w' => e = .returned (.bool (l == m)) ∧ w = w' := by
  have h1 := fun W (h : Rd W x l) => h.conv (P := Try.prog) 23 9 5 Try.underlying23 Try.underlying5 Try.underlying9
  have c1 := h1 w hx
  have c2 := hy.conv (P := Try.prog) 23 9 5 Try.underlying23 Try.underlying5 Try.underlying9
  clear h1 hx hy
  go_enter Try.func8, Try.ntmps8
  go_wp2_with fail
  go_ret
  exact ⟨rfl, rfl⟩

/-- The bytes of a text. -/
def textL (l : List UInt8) : List UInt8 := numL l.length ++ l

set_option maxHeartbeats 1000000 in
set_option maxRecDepth 100000 in
theorem text_any (x : Value) (l : List UInt8) (w : World) (hx : Rd w x l) (hl : l.length ≤ 140737488355300) :
    Calls Try.prog 87 #[x] w (Gives 5 w (textL l)) := by
  have hn := numL_len10 (v := l.length) (by omega)
  have hw : IntKind.u64.wrap (l.length : Int) = (l.length : Int) := by rw [wrap_u64]; omega
  have hlen := hx.len (P := Try.prog) 23 5
  go_enter Try.func87, Try.ntmps87
  go_wp2_with fail
  refine (num_any _ _ hn).mono ?_
  rintro e w1 h1
  obtain ⟨ao, c, rfl, h2, h3⟩ := h1.elim
  have hx1 := hx.old h3
  clear h1 hlen hw
  go_wp2_with (first
      | (at_builtin; refine wp_app rfl _ _ 23 rfl w.heap.size 5 Try.underlying23 (by kernel_rfl) _ _ _ rfl h2 _ l rfl hx1 ?c1 ?c2 ?_))
  case c1 => omega
  case c2 => exact h3.size
  intro v' w2 hown' hgrow
  have hb : Below w.heap.size w w2 := h3.grown hgrow h3.size (fun k hk => (h2.lt k hk).1)
  clear hgrow h2 hx1
  go_wp2_with fail
  go_ret
  exact ⟨_, rfl, by simpa [textL] using hown', hb⟩
end Go.Proofs.Ytiblambiebojmaa

namespace Go.Proofs.Ytiblambiebojmaa
open Go.RowKit

/-- Rows of that many cells. -/
def Wide (size : Nat) (L : List (List Value)) : Prop := ∀ r ∈ L, r.length = size ∧ ∀ u ∈ r, u.oneCell' = true

theorem Wide.sub {size : Nat} {a b : List (List Value)} (h : Wide size a) (k : ∀ r ∈ b, r ∈ a) : Wide size b := fun r hr => h r (k r hr)

theorem Wide.one {size : Nat} {L : List (List Value)} (h : Wide size L) : ∀ u ∈ L.flatten, u.oneCell' = true := fun u hu => by
  obtain ⟨r, hr, hu⟩ := List.mem_flatten.1 hu
  exact (h r hr).2 u hu

theorem Wide.len {size : Nat} {L : List (List Value)} (h : Wide size L) : L.flatten.length = L.length * size := by
  induction L with
  | nil => simp
  | cons r L ih =>
    have h1 := (h r (by simp)).1
    have h2 := ih (h.sub fun x hx => by simp [hx])
    rw [List.flatten_cons, List.length_append, h1, h2, List.length_cons, Nat.add_mul]
    omega

theorem Wide.at {size : Nat} {L : List (List Value)} (h : Wide size L) : ∀ {k : Nat} {r : List Value}, L[k]? = some r → ∀ {j : Nat} {u : Value}, r[j]? = some u → L.flatten[k * size + j]? = some u := by
  induction L with
  | nil => intro k r hk; simp at hk
  | cons q L ih =>
    intro k r hk j u hj
    have hq := (h q (by simp)).1
    cases k with
    | zero =>
      simp at hk
      subst hk
      have hjl : j < q.length := (List.getElem?_eq_some_iff.1 hj).1
      rw [Nat.zero_mul, Nat.zero_add, List.flatten_cons, List.getElem?_append_left hjl]
      exact hj
    | succ k =>
      have hk' : L[k]? = some r := by simpa using hk
      have h3 := ih (h.sub fun x hx => by simp [hx]) hk' hj
      rw [List.flatten_cons, List.getElem?_append_right (by rw [hq, Nat.add_mul]; omega)]
      have e : (k + 1) * size + j - q.length = k * size + j := by rw [hq, Nat.add_mul]; omega
      rw [e]
      exact h3

/-- The slice x reads as the rows L. -/
def Rws (size : Nat) (w : World) (x : Value) (L : List (List Value)) : Prop :=
  ∃ (ao : Option Addr) (c : Nat), x = .slice ao L.length c ∧ L.length ≤ c ∧ c ≤ maxLen ∧ (ao = none → c = 0) ∧ Wide size L ∧
    ∀ a, ao = some a → ∀ (j : Nat) u, L.flatten[j]? = some u → w.cell? (a.add j) = some u

theorem Rws.nil (size : Nat) (w : World) : Rws size w (.slice none 0 0) [] := ⟨none, 0, rfl, by simp, by simp, (fun _ => rfl), (fun r hr => by cases hr), (fun a h => by cases h)⟩

theorem Rws.wide {size : Nat} {w : World} {x : Value} {L : List (List Value)} (h : Rws size w x L) : Wide size L := by
  obtain ⟨_, _, _, _, _, _, h5, _⟩ := h
  exact h5

theorem Rws.kept {size : Nat} {w w' : World} {x : Value} {L : List (List Value)} {row : Option Nat} (h : Rws size w x L) (hg : w.grownBy w' row) (hne : blk x = none ∨ blk x ≠ row) : Rws size w' x L := by
  obtain ⟨ao, c, rfl, h1, h2, h3, h5, h4⟩ := h
  refine ⟨ao, c, rfl, h1, h2, h3, h5, fun a ha j u hu => ?_⟩
  subst ha
  have h6 := h4 a rfl j u hu
  have hlt := World.block_lt_of_cell? w _ h6
  rw [World.cell?_of_block (w := w) (a := a.add j) (hg.block _ hlt (by rw [add_block]; simpa [blk] using hne))]
  exact h6

theorem Rws.old {size : Nat} {w w' : World} {x : Value} {L : List (List Value)} (h : Rws size w x L) (hb : Below w.heap.size w w') : Rws size w' x L := by
  obtain ⟨ao, c, rfl, h1, h2, h3, h5, h4⟩ := h
  refine ⟨ao, c, rfl, h1, h2, h3, h5, fun a ha j u hu => ?_⟩
  subst ha
  have h6 := h4 a rfl j u hu
  rw [hb.cell (p := a.add j) (World.block_lt_of_cell? w _ h6)]
  exact h6

theorem Rws.len {P : Program} {size : Nat} {w : World} {x : Value} {L : List (List Value)} (h : Rws size w x L) (t e ty : TypeId) (ht : P.underlying t = some (.slice e)) :
    ∀ W, (Builtin.len_ #[t] ty #[x]).run P W = .ok (goInt L.length) W := by
  obtain ⟨ao, c, rfl, h1, h2, h3, _⟩ := h
  have ht' : P.underlying t = some (.slice (P.elem t)) := by simp [Program.elem, ht]
  exact fun W => run_len_slice W t ty _ _ _ ht'

theorem Rws.form {size : Nat} {w : World} {x : Value} {L : List (List Value)} (h : Rws size w x L) : ∃ ao c, x = .slice ao L.length c ∧ L.length ≤ c ∧ c ≤ maxLen := by
  obtain ⟨ao, c, rfl, h1, h2, h3, _⟩ := h
  exact ⟨ao, c, rfl, h1, h2⟩

/-- One row's cells. -/
theorem Rws.get {size : Nat} {w : World} {ao : Option Addr} {n c : Nat} {L : List (List Value)} (h : Rws size w (.slice ao n c) L) (hs : 0 < size) {k : Nat} {r : List Value} (hk : L[k]? = some r) :
    ∃ b off, ao = some ⟨b, off, none⟩ ∧ ∀ (j : Nat) u, r[j]? = some u → w.cell? ⟨b, off + k * size + j, none⟩ = some u := by
  obtain ⟨ao', c', he, h1, h2, h3, h5, h4⟩ := h
  simp only [Value.slice.injEq] at he
  obtain ⟨rfl, rfl, rfl⟩ := he
  have hkl : k < L.length := (List.getElem?_eq_some_iff.1 hk).1
  have hr := h5 r (List.mem_of_getElem? hk)
  cases ao with
  | none => have := h3 rfl; omega
  | some a =>
    obtain ⟨b, off, spot⟩ := a
    have hL0 : L[0]? = some (L[0]'(by omega)) := List.getElem?_eq_getElem (by omega)
    have hr0 := h5 _ (List.mem_of_getElem? hL0)
    have hu0 : (L[0]'(by omega))[0]? = some ((L[0]'(by omega))[0]'(by omega)) := List.getElem?_eq_getElem (by omega)
    have h0 := h4 _ rfl _ _ (h5.at hL0 hu0)
    have hspot : spot = none := by
      rw [Nat.zero_mul, Nat.zero_add] at h0
      simpa [Addr.add] using World.cell?_spot h0
    subst hspot
    refine ⟨b, off, rfl, fun j u hj => ?_⟩
    have := h4 _ rfl _ _ (h5.at hk hj)
    rw [WideShapes.add_plain, ← Nat.add_assoc] at this
    exact this

/-- What the call itself made. -/
theorem Rws.own {size : Nat} {w : World} {base : Nat} {e : TypeId} {x : Value} {L : List (List Value)} (h : w.ownsRow base e size x L.length L.flatten) (hw : Wide size L) : Rws size w x L := by
  obtain ⟨h1, h2⟩ := h
  rcases h2 with ⟨rfl, hn⟩ | ⟨g, cap, cur, rfl, hb, hg, hn, hc, hs, ht⟩
  · obtain rfl : L = [] := List.eq_nil_of_length_eq_zero hn
    exact Rws.nil size w
  · refine ⟨some ⟨g, 0, none⟩, cap, rfl, hn, hc, (fun h => by cases h), hw, fun a ha => ?_⟩
    cases ha
    intro j u hu
    rw [WideShapes.add_plain, Nat.zero_add, cell_of_row w g j cur e (0, 0) hg]
    rw [← ht, List.getElem?_take] at hu
    split at hu
    · simpa using hu
    · cases hu

theorem Rws.take {size : Nat} {w : World} {ao : Option Addr} {m c : Nat} {L : List (List Value)} (h : Rws size w (.slice ao m c) L) (n : Nat) (hn : n ≤ L.length) : Rws size w (.slice ao n c) (L.take n) := by
  obtain ⟨ao', c', he, h1, h2, h3, h5, h4⟩ := h
  simp only [Value.slice.injEq] at he
  obtain ⟨rfl, rfl, rfl⟩ := he
  have hlen : (L.take n).length = n := by rw [List.length_take]; omega
  refine ⟨ao, c, by rw [hlen], by rw [hlen]; omega, h2, h3, h5.sub fun r hr => List.mem_of_mem_take hr, fun a ha j u hu => h4 a ha j u ?_⟩
  have e : L.flatten = (L.take n).flatten ++ (L.drop n).flatten := by rw [← List.flatten_append, List.take_append_drop]
  rw [e, List.getElem?_append_left]
  · exact hu
  · exact (List.getElem?_eq_some_iff.1 hu).1

/-- 'x[n:]'. -/
theorem Rws.cut {P : Program} {size : Nat} {w : World} {x : Value} {L : List (List Value)} (h : Rws size w x L) (hsz : 0 < size) (t e : TypeId) (ht : P.underlying t = some (.slice e)) (hinfo : (P.info? e).map (fun i => i.size) = some size) (n : Nat) (hn : n ≤ L.length) :
    ∃ (ao : Option Addr) (c : Nat), (∀ W, (Instr.slice t x (some (.int .i64 (n : Int))) none none).run P W = .ok (.slice ao (L.length - n) c) W) ∧ Rws size w (.slice ao (L.length - n) c) (L.drop n) ∧ (∀ k, blk (.slice ao (L.length - n) c) = some k → blk x = some k) := by
  obtain ⟨i0, hi, hz1⟩ : ∃ i, P.info? e = some i ∧ i.size = size := by
    cases hq : P.info? e with
    | none => rw [hq] at hinfo; cases hinfo
    | some i => rw [hq] at hinfo; exact ⟨i, rfl, by simpa using hinfo⟩
  have h0 := h
  obtain ⟨ao, c, rfl, h1, h2, h3, h5, h4⟩ := h
  have ht' : P.underlying t = some (.slice (P.elem t)) := by simp [Program.elem, ht]
  have he : P.elem t = e := by simp [Program.elem, ht]
  have hs : ∀ W, (sizeOf e).run P W = .ok size W := fun W => by simp [sizeOf, typeInfo, hi, hz1]
  have hlen : (L.drop n).length = L.length - n := List.length_drop
  refine ⟨if c = n then ao else ao.map (·.add (n * size)), c - n, fun W => ?_, ?_, ?_⟩
  · rw [run_slice_l W t _ _ _ ht' .i64 _ (by omega) (by omega), he, hs]
    simp [Result.andThen, sliced]
  · refine ⟨_, _, by rw [hlen], by rw [hlen]; omega, by omega, ?_, h5.sub fun r hr => List.mem_of_mem_drop hr, ?_⟩
    · intro hne
      split at hne
      · omega
      · cases ao with
        | none => have := h3 rfl; omega
        | some a => simp at hne
    · intro a ha j u hu
      have hjl : j < (L.drop n).flatten.length := (List.getElem?_eq_some_iff.1 hu).1
      have hwd : Wide size (L.drop n) := h5.sub fun r hr => List.mem_of_mem_drop hr
      have hpos : 0 < (L.drop n).length := by
        rcases Nat.eq_zero_or_pos (L.drop n).length with h | h
        · rw [List.eq_nil_of_length_eq_zero h] at hjl; simp at hjl
        · exact h
      rw [if_neg (by omega)] at ha
      cases ao with
      | none => simp at ha
      | some a0 =>
        simp at ha
        subst ha
        have e : L.flatten = (L.take n).flatten ++ (L.drop n).flatten := by rw [← List.flatten_append, List.take_append_drop]
        have hwt : Wide size (L.take n) := h5.sub fun r hr => List.mem_of_mem_take hr
        have hlt : (L.take n).flatten.length = n * size := by rw [hwt.len, List.length_take]; congr 1; omega
        have h7 : L.flatten[n * size + j]? = some u := by
          rw [e, List.getElem?_append_right (by omega), hlt]
          rw [show n * size + j - n * size = j by omega]
          exact hu
        have h6 := h4 a0 rfl _ _ h7
        rw [Deep.add_add]
        exact h6
  · intro k hk
    split at hk
    · cases ao with
      | none => simp [blk] at hk
      | some a => simpa [blk] using hk
    · cases ao with
      | none => simp [blk] at hk
      | some a => simpa [blk, add_block] using hk

/-- A row that was laid out by 'buildSlice' or stored whole: one row. -/
theorem Rws.one {w : World} {n size : Nat} {r : List Value} {t : TypeId} (h : n = w.heap.size) (hr : r.length = size ∧ ∀ u ∈ r, u.oneCell' = true) : Rws size (w.alloc (.cells r.toArray t)) (.slice (some ⟨n, 0, none⟩) 1 1) [r] := by
  subst h
  refine ⟨some ⟨w.heap.size, 0, none⟩, 1, rfl, by simp, by unfold maxLen; simp, (fun h => by cases h), (fun q hq => by simp at hq; subst hq; exact hr), fun a ha j u hu => ?_⟩
  cases ha
  rw [WideShapes.add_plain, Nat.zero_add, cell_of_row _ w.heap.size j r.toArray t (0, 0) (heap_alloc_new w _)]
  simpa using hu
end Go.Proofs.Ytiblambiebojmaa

namespace Go.Proofs.Ytiblambiebojmaa
open Go.ChangeShapes Go.WideShapes Go.ChangeAt Go.RowKit

/-- A slice of integers that came in: it is nil; or it leads to a row of 'cap' cells, the numbers 'zs' (the first 'len' are its elements, the rest its spare room), each fitting its kind. -/
def IsRow (k : IntKind) (w : World) (a : Option Addr) (len cap : Nat) (zs : List Int) : Prop :=
  (a = none ∧ len = 0 ∧ cap = 0 ∧ zs = []) ∨
  ∃ x, a = some x ∧ len ≤ cap ∧ cap ≤ maxLen ∧ zs.length = cap ∧ (∀ i, i < zs.length → w.cell? (x.add i) = some (.int k (zs.getD i 0))) ∧ ∀ n ∈ zs, (Lit.int k n).wf = true

/-- Bytes that came in read as bytes. -/
theorem rd_of_row {w : World} {a : Option Addr} {len cap : Nat} {zs : List Int} (h : IsRow .u8 w a len cap zs) : ∃ l : List UInt8, l.length = len ∧ Rd w (.slice a len cap) l := by
  rcases h with ⟨rfl, rfl, rfl, rfl⟩ | ⟨x, rfl, hl, hm, hz, hc, hw⟩
  · exact ⟨[], rfl, Rd.nil w⟩
  · have hlen : ((zs.take len).map fun n => UInt8.ofNat n.toNat).length = len := by simp; omega
    refine ⟨(zs.take len).map fun n => UInt8.ofNat n.toNat, hlen, some x, cap, by rw [hlen], by rw [hlen]; exact hl, hm, (fun h => by cases h), fun a ha j u hu => ?_⟩
    cases ha
    have hj : j < len := by
      have := (List.getElem?_eq_some_iff.1 hu).1
      rw [List.length_map] at this
      omega
    have hjz : j < zs.length := by omega
    rw [hc j hjz]
    have hwj := hw zs[j] (List.getElem_mem hjz)
    have hb := bounds_u8 hwj
    rw [List.map_map, List.getElem?_map, List.getElem?_take_of_lt hj, List.getElem?_eq_getElem hjz] at hu
    simp only [Option.map_some, Option.some.injEq, Function.comp_apply] at hu
    rw [← hu, List.getD_eq_getElem?_getD, List.getElem?_eq_getElem hjz, Option.getD_some]
    unfold bv
    rw [UInt8.toNat_ofNat']
    have e : zs[j] = ((zs[j].toNat % 2 ^ 8 : Nat) : Int) := by omega
    rw [← e]

end Go.Proofs.Ytiblambiebojmaa

