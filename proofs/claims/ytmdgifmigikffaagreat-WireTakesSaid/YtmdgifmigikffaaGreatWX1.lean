import Derived.WalkKit
import Derived.OpenShut
import Derived.Test.YtmdgifmigikffaaGreatRows
import Derived.WalkSpells
import Derived.WalkLawsBesides
import Derived.Laws.AppendOwnNone
set_option linter.unusedVariables false
set_option linter.unusedSimpArgs false
namespace Go.Proofs.YtmdgifmigikffaaGreat
def moreB (n : Nat) : UInt8 := UInt8.ofNat (n % 128 + 128)
def lastB (n : Nat) : UInt8 := UInt8.ofNat n
def numL (v : Nat) : List UInt8 :=
 if v < 128 then [lastB v] else moreB v :: numL (v / 128)
termination_by v
decreasing_by omega
theorem numL_lt {v : Nat} (h : v < 128) : numL v = [lastB v] := by
 rw [numL, if_pos h]
theorem numL_ge {v : Nat} (h : 128 ≤ v) : numL v = moreB v :: numL (v / 128) := by
 rw [numL, if_neg (by omega)]
theorem numL_pos (v : Nat) : 1 ≤ (numL v).length := by
 by_cases h : v < 128
 · rw [numL_lt h]; simp
 · rw [numL_ge (by omega)]; simp
theorem numL_len (k : Nat) : ∀ v, v < 128 * 128 ^ k → (numL v).length ≤ k + 1 := by
 induction k with
 | zero => intro v h; rw [numL_lt (by omega)]; simp
 | succ k ih =>
  intro v h
  by_cases h1 : v < 128
  · rw [numL_lt h1]; simp
  · rw [numL_ge (by omega)]
    have := ih (v / 128) (by rw [Nat.pow_succ] at h; omega)
    simp; omega
theorem numL_len10 {v : Nat} (h : v < 2 ^ 64) : (numL v).length ≤ 10 := numL_len 9 v (by omega)
theorem moreB_toNat (n : Nat) : (moreB n).toNat = n % 128 + 128 := by
 unfold moreB
 rw [UInt8.toNat_ofNat']; omega
theorem lastB_toNat {n : Nat} (h : n < 128) : (lastB n).toNat = n := by
 unfold lastB
 rw [UInt8.toNat_ofNat']; omega
def zig (i : Int) : Nat := if i < 0 then (-2 * i - 1).toNat else (2 * i).toNat
def rdN : Nat → Nat → List UInt8 → Nat × Nat × Int
 | _, _, [] => (0, 0, 8)
 | i, v, c :: r =>
  if i = 9 ∧ 1 < c.toNat then (0, 0, 9)
  else if 128 ≤ c.toNat then rdN (i + 1) (v + c.toNat % 128 * 128 ^ i) r
  else if c.toNat = 0 ∧ 0 < i then (0, 0, 9)
  else (v + c.toNat % 128 * 128 ^ i, i + 1, 0)
theorem rdN_form {i v : Nat} {c : UInt8} {r : List UInt8} (h : i = 9 ∧ 1 < c.toNat) : rdN i v (c :: r) = (0, 0, 9) := by rw [rdN, if_pos h]
theorem rdN_more {i v : Nat} {c : UInt8} {r : List UInt8} (h : ¬ (i = 9 ∧ 1 < c.toNat)) (h1 : 128 ≤ c.toNat) : rdN i v (c :: r) = rdN (i + 1) (v + c.toNat % 128 * 128 ^ i) r := by rw [rdN, if_neg h, if_pos h1]
theorem rdN_zero {i v : Nat} {c : UInt8} {r : List UInt8} (h : ¬ (i = 9 ∧ 1 < c.toNat)) (h1 : ¬ 128 ≤ c.toNat) (h2 : c.toNat = 0 ∧ 0 < i) : rdN i v (c :: r) = (0, 0, 9) := by rw [rdN, if_neg h, if_neg h1, if_pos h2]
theorem rdN_last {i v : Nat} {c : UInt8} {r : List UInt8} (h : ¬ (i = 9 ∧ 1 < c.toNat)) (h1 : ¬ 128 ≤ c.toNat) (h2 : ¬ (c.toNat = 0 ∧ 0 < i)) : rdN i v (c :: r) = (v + c.toNat % 128 * 128 ^ i, i + 1, 0) := by rw [rdN, if_neg h, if_neg h1, if_neg h2]
theorem rdN_numL : ∀ (k i v n : Nat) (r : List UInt8), i + k = 9 → n < 2 * 128 ^ k → (i = 0 ∨ 0 < n) → rdN i v (numL n ++ r) = (v + n * 128 ^ i, i + (numL n).length, 0) := by
 intro k
 induction k with
 | zero =>
  intro i v n r hi hn h0
  rw [numL_lt (by omega), List.singleton_append, rdN_last]
  · rw [lastB_toNat (by omega), Nat.mod_eq_of_lt (by omega)]; rfl
  · rw [lastB_toNat (by omega)]; omega
  · rw [lastB_toNat (by omega)]; omega
  · rw [lastB_toNat (by omega)]; omega
 | succ k ih =>
  intro i v n r hi hn h0
  by_cases h : n < 128
  · rw [numL_lt h, List.singleton_append, rdN_last]
    · rw [lastB_toNat h, Nat.mod_eq_of_lt h]; rfl
    · rw [lastB_toNat (by omega)]; omega
    · rw [lastB_toNat (by omega)]; omega
    · rw [lastB_toNat (by omega)]; omega
  · rw [numL_ge (by omega), List.cons_append, rdN_more]
    · rw [ih (i + 1) _ (n / 128) r (by omega) (by rw [Nat.pow_succ] at hn; omega) (by right; omega)]
      rw [moreB_toNat]
      have e1 : v + (n % 128 + 128) % 128 * 128 ^ i + n / 128 * 128 ^ (i + 1) = v + n * 128 ^ i := by
       rw [Nat.add_mod_right, Nat.mod_mod, Nat.pow_succ]
       have : n * 128 ^ i = (n % 128 + n / 128 * 128) * 128 ^ i := by congr 1; omega
       rw [this, Nat.add_mul, Nat.mul_assoc, Nat.mul_comm 128 (128 ^ i)]
       omega
      rw [e1]
      congr 2
      simp; omega
    · omega
    · rw [moreB_toNat]; omega
theorem rdN_back {n : Nat} (h : n < 2 ^ 64) (r : List UInt8) : rdN 0 0 (numL n ++ r) = (n, (numL n).length, 0) := by
 have := rdN_numL 9 0 0 n r rfl (by omega) (by left; rfl)
 simpa using this
theorem step_lt {V k c : Nat} (hV : V < 128 ^ k) : V + c % 128 * 128 ^ k < 128 ^ (k + 1) := by
 rw [Nat.pow_succ]
 have : c % 128 * 128 ^ k ≤ 127 * 128 ^ k := Nat.mul_le_mul_right _ (by omega)
 omega
theorem rdN_bounds : ∀ (l : List UInt8) (i v : Nat), v < 128 ^ i → i ≤ 9 → (rdN i v l).1 < 2 ^ 64 ∧ ((rdN i v l).2.2 = 0 ∧ i < (rdN i v l).2.1 ∧ (rdN i v l).2.1 ≤ i + l.length ∧ (rdN i v l).2.1 ≤ 10 ∨ (rdN i v l).1 = 0 ∧ (rdN i v l).2.1 = 0 ∧ ((rdN i v l).2.2 = 8 ∨ (rdN i v l).2.2 = 9)) := by
 intro l
 induction l with
 | nil => intro i v _ _; simp [rdN]
 | cons c r ih =>
  intro i v hv hi
  have hc : c.toNat < 256 := c.toNat_lt
  by_cases h1 : i = 9 ∧ 1 < c.toNat
  · rw [rdN_form h1]; simp
  · by_cases h2 : 128 ≤ c.toNat
    · rw [rdN_more h1 h2]
      have h9 : i < 9 := by omega
      have hv' : v + c.toNat % 128 * 128 ^ i < 128 ^ (i + 1) := by
       rw [Nat.pow_succ]
       have : c.toNat % 128 * 128 ^ i ≤ 127 * 128 ^ i := Nat.mul_le_mul_right _ (by omega)
       omega
      have := ih (i + 1) _ hv' (by omega)
      simp only [List.length_cons]
      omega
    · by_cases h3 : c.toNat = 0 ∧ 0 < i
      · rw [rdN_zero h1 h2 h3]; simp
      · rw [rdN_last h1 h2 h3]
        simp only [List.length_cons]
        refine ⟨?_, .inl ⟨trivial, by omega, by omega, by omega⟩⟩
        have hp : i ≤ 8 ∨ i = 9 := by omega
        rcases hp with hp | rfl
        · have h8 : 128 ^ i ≤ 128 ^ 8 := Nat.pow_le_pow_right (by omega) hp
          have h7 : c.toNat % 128 * 128 ^ i ≤ 127 * 128 ^ i := Nat.mul_le_mul_right _ (by omega)
          generalize c.toNat % 128 * 128 ^ i = q at *
          generalize 128 ^ i = p at *
          have h8' : p ≤ 72057594037927936 := h8
          omega
        · have hc1 : c.toNat ≤ 1 := by omega
          have h8 : c.toNat % 128 * 128 ^ 9 ≤ 1 * 128 ^ 9 := Nat.mul_le_mul_right _ (by omega)
          omega
end Go.Proofs.YtmdgifmigikffaaGreat
namespace Go.Proofs.YtmdgifmigikffaaGreat
theorem i64_not {v : Int} (h : -9223372036854775808 ≤ v ∧ v ≤ 9223372036854775807) : bits .xor .i64 (-1) v = -1 - v := by
 unfold bits
 have e1 : (BitVec.ofInt 64 (-1)) ^^^ (BitVec.ofInt 64 v) = ~~~ (BitVec.ofInt 64 v) := by
  rw [show (BitVec.ofInt 64 (-1)) = BitVec.allOnes 64 from by decide]
  exact BitVec.allOnes_xor
 show IntKind.i64.wrap (((BitVec.ofInt 64 (-1)) ^^^ (BitVec.ofInt 64 v)).toNat : Int) = -1 - v
 rw [e1, BitVec.toNat_not, IntKind.wrap_i64]
 have e2 : (BitVec.ofInt 64 v).toNat = (v % 18446744073709551616).toNat := by
  rw [BitVec.toNat_ofInt]; rfl
 rw [e2]
 omega
theorem wrap_u64 (n : Int) : IntKind.u64.wrap n = n % 18446744073709551616 := by simp [IntKind.wrap, IntKind.bits, IntKind.signed]
theorem u8_low (c : Nat) (h : c < 256) : bits BinOp.andNot IntKind.u8 (c : Int) 128 = ((c % 128 : Nat) : Int) := by
 have h1 := u8_andNot_nat c 128 h (by omega)
 have e : c &&& (255 - 128) = c % 128 := Nat.and_two_pow_sub_one_eq_mod c 7
 rw [e] at h1
 exact h1
theorem pow7 (k : Nat) : 2 ^ (7 * k) = 128 ^ k := by rw [Nat.pow_mul]
theorem or_step {V k c : Nat} (hV : V < 128 ^ k) (hk : k ≤ 9) (hc : c < 256) (h9 : ¬ (k = 9 ∧ 1 < c)) :
 bits BinOp.or IntKind.u64 (V : Int) (IntKind.u64.wrap (IntKind.u64.wrap (bits BinOp.andNot IntKind.u8 (c : Int) 128) * 2 ^ (7 * k))) = ((V + c % 128 * 128 ^ k : Nat) : Int) := by
 rw [u8_low c hc, wrap_u64, wrap_u64]
 have e0 : ((c % 128 : Nat) : Int) % 18446744073709551616 = ((c % 128 : Nat) : Int) := by omega
 have e1 : ((c % 128 : Nat) : Int) * 2 ^ (7 * k) = ((c % 128 * 128 ^ k : Nat) : Int) := by
  rw [← pow7]; simp
 have hb : c % 128 * 128 ^ k < 18446744073709551616 ∧ 128 ^ k ≤ 9223372036854775808 := by
  have hp : k ≤ 8 ∨ k = 9 := by omega
  rcases hp with hp | rfl
  · have h8 : 128 ^ k ≤ 128 ^ 8 := Nat.pow_le_pow_right (by omega) hp
    have h7 : c % 128 * 128 ^ k ≤ 127 * 128 ^ k := Nat.mul_le_mul_right _ (by omega)
    generalize c % 128 * 128 ^ k = q at *
    generalize 128 ^ k = p at *
    have h8' : p ≤ 72057594037927936 := h8
    omega
  · have h8 : c % 128 * 128 ^ 9 ≤ 1 * 128 ^ 9 := Nat.mul_le_mul_right _ (by omega)
    omega
 rw [e0, e1]
 have e2 : ((c % 128 * 128 ^ k : Nat) : Int) % 18446744073709551616 = ((c % 128 * 128 ^ k : Nat) : Int) := by omega
 rw [e2, u64_or_nat V _ (by omega) hb.1]
 have e3 : V ||| c % 128 * 128 ^ k = V + c % 128 * 128 ^ k := by
  have := nat_join (7 * k) (c % 128 * 128 ^ k) V (by rw [pow7]; exact Nat.mul_mod_left _ _) (by rw [pow7]; exact hV)
  rw [Nat.or_comm, this]; omega
 rw [e3]
theorem or_step2 {V k c : Nat} (hV : V < 128 ^ k) (hk : k ≤ 9) (hc : c < 256) (h9 : ¬ (k = 9 ∧ 1 < c)) :
 bits BinOp.or IntKind.u64 (V : Int) (IntKind.u64.wrap ((c : Int) % 128 * 2 ^ (7 * k))) = ((V + c % 128 * 128 ^ k : Nat) : Int) := by
 have h := or_step hV hk hc h9
 rw [u8_low c hc] at h
 have e0 : IntKind.u64.wrap ((c % 128 : Nat) : Int) = (c : Int) % 128 := by rw [wrap_u64]; omega
 rw [e0] at h
 exact h
theorem zig_lt {v : Int} (hv : (Lit.int .i64 v).wf = true) : zig v < 2 ^ 64 := by
 have hb := bounds_i64 hv
 unfold zig
 split <;> omega
end Go.Proofs.YtmdgifmigikffaaGreat
namespace Go.Proofs.YtmdgifmigikffaaGreat
open Go.RowKit
theorem hid {p : Prop} (h : p) : Hid p := h
def bv (c : UInt8) : Value := .int .u8 (c.toNat : Int)
theorem bv_one (l : List UInt8) : ∀ u ∈ l.map bv, u.oneCell' = true := by
 intro u hu
 obtain ⟨_, _, rfl⟩ := List.mem_map.1 hu
 rfl
def blk : Value → Option Nat
 | .slice (some a) _ _ => some a.block
 | _ => none
def Rd (w : World) (x : Value) (l : List UInt8) : Prop :=
 ∃ (ao : Option Addr) (c : Nat), x = .slice ao l.length c ∧ l.length ≤ c ∧ c ≤ maxLen ∧ (ao = none → c = 0) ∧
  ∀ a, ao = some a → ∀ (j : Nat) u, (l.map bv)[j]? = some u → w.cell? (a.add j) = some u
theorem Rd.nil (w : World) : Rd w (.slice none 0 0) [] := ⟨none, 0, rfl, by simp, by simp, fun _ => rfl, fun a h => by cases h⟩
theorem add_block (a : Addr) (j : Nat) : (a.add j).block = a.block := by unfold Addr.add; split <;> rfl
theorem Rd.kept {w w' : World} {x : Value} {l : List UInt8} {row : Option Nat} (h : Rd w x l) (hg : w.grownBy w' row) (hne : blk x = none ∨ blk x ≠ row) : Rd w' x l := by
 obtain ⟨ao, c, rfl, h1, h2, h3, h4⟩ := h
 refine ⟨ao, c, rfl, h1, h2, h3, fun a ha j u hu => ?_⟩
 subst ha
 have h6 := h4 a rfl j u hu
 have hlt := World.block_lt_of_cell? w _ h6
 rw [World.cell?_of_block (w := w) (a := a.add j) (hg.block _ hlt (by rw [add_block]; simpa [blk] using hne))]
 exact h6
theorem Rd.old {w w' : World} {x : Value} {l : List UInt8} (h : Rd w x l) (hb : Below w.heap.size w w') : Rd w' x l := by
 obtain ⟨ao, c, rfl, h1, h2, h3, h4⟩ := h
 refine ⟨ao, c, rfl, h1, h2, h3, fun a ha j u hu => ?_⟩
 subst ha
 have h6 := h4 a rfl j u hu
 rw [hb.cell (p := a.add j) (World.block_lt_of_cell? w _ h6)]
 exact h6
theorem Rd.below {w0 w w' : World} {x : Value} {l : List UInt8} (h : Rd w0 x l) (hb0 : Below w0.heap.size w0 w) (hb : Below w0.heap.size w w') : Rd w' x l := h.old (hb0.trans hb)
theorem Rd.alloc {w : World} {x : Value} {l : List UInt8} (h : Rd w x l) (o : Obj) : Rd (w.alloc o) x l := h.old ((Below.refl _ _).alloc (Nat.le_refl _) o)
theorem Rd.own {w : World} {base : Nat} {e : TypeId} {x : Value} {l : List UInt8} (h : w.ownsRow base e 1 x l.length (l.map bv)) : Rd w x l := by
 obtain ⟨h1, h2⟩ := h
 rcases h2 with ⟨rfl, hn⟩ | ⟨g, cap, cur, rfl, hb, hg, hn, hc, hs, ht⟩
 · obtain rfl : l = [] := List.eq_nil_of_length_eq_zero hn
   exact Rd.nil w
 · refine ⟨some ⟨g, 0, none⟩, cap, rfl, hn, hc, (fun h => by cases h), fun a ha => ?_⟩
   cases ha
   intro j u hu
   rw [WideShapes.add_plain, Nat.zero_add, cell_of_row w g j cur e (0, 0) hg]
   rw [← ht, List.getElem?_take] at hu
   split at hu
   · simpa using hu
   · cases hu
theorem Rd.conv {P : Program} {w : World} {x : Value} {l : List UInt8} (h : Rd w x l) (src dst e : TypeId) (hs : P.underlying src = some (.slice e)) (he : P.underlying e = some (.int .u8)) (hd : P.underlying dst = some .string) :
 (convert src dst x).run P w = .ok (.string ⟨l.toArray⟩) w := by
 obtain ⟨ao, c, rfl, h1, h2, h3, h4⟩ := h
 cases ao with
 | none =>
  obtain rfl : l = [] := List.eq_nil_of_length_eq_zero (by have := h3 rfl; omega)
  rw [run_convert_bytes_nil w src e hs he _ _ dst hd]
  rfl
 | some a =>
  rw [run_convert_bytes_string w src dst e _ _ _ hs he hd]
  have hl : (loadCells a l.length).run P w = .ok ((l.map fun x => (x.toNat : Int)).map (Value.int .u8)).toArray w := by
   have := run_loadCells_list (P := P) w a (l.map bv) (h4 a rfl)
   have e1 : (l.map fun x => (x.toNat : Int)).map (Value.int .u8) = l.map bv := by rw [List.map_map]; rfl
   rw [e1]
   simpa using this
  rw [run_bytesToString w a l.length c (l.map fun x => (x.toNat : Int)) hl, foldl_push_bytes]
  congr 2
  simp [ByteArray.empty, ByteArray.emptyWithCapacity, Function.comp_def]
  rfl
theorem wp_app {P : Program} {w : World} {ops : Array Oper} {rest : List Oper} {o : Oper} {a : Act} {Q : Exit → Act → World → Prop} (hgd : o.guard = none) (s x : Operand) (t : TypeId)
 (ho : o.op = .call { callee := .builtin .append, args := #[s, x], argTypes := #[t, t] })
 (base : Nat) (e : TypeId) (ht : P.underlying t = some (.slice e)) (hinfo : (P.info? e).map (fun i => (i.zero, i.size, i.bytes)) = some (some (.int .u8 0), 1, 1))
 (v : Value) (n : Nat) (xs : List Value) (hs : a.eval s = v) (hown : w.ownsRow base e 1 v n xs)
 (y : Value) (l : List UInt8) (hx : a.eval x = y) (hr : Rd w y l) (hn : n + l.length ≤ 140737488355328) (hbase : base ≤ w.heap.size)
 (h : ∀ v' w', w'.ownsRow base e 1 v' (n + l.length) (xs ++ l.map bv) → w.grownBy w' v.ownBlock → wpList P ops Q rest (a.put o.dst v') w') : wpList P ops Q (o :: rest) a w := by
 obtain ⟨i0, hi, hz0, hz1, hz2⟩ := info_parts hinfo
 obtain ⟨ao, c, rfl, h1, h2, h3, h4⟩ := hr
 cases ao with
 | some ad =>
  exact wpList_append_own w hgd s x t ho base e i0 (.int .u8 0) 1 1 ht hi hz0 hz1 hz2 rfl (by decide) v n xs hs hown ad l.length c (l.map bv) hx (by simp) (h4 ad rfl) (bv_one l)
   (by unfold maxLen; omega) (by omega) hbase fun v' w' a1 a2 _ => h v' w' a1 a2
 | none =>
  have hc := h3 rfl
  obtain rfl : l = [] := List.eq_nil_of_length_eq_zero (by omega)
  subst hc
  exact wpList_append_own_none hgd s x t ho base e i0 1 ht hi v n xs hs hown hx (h v w (by simpa using hown) (World.grownBy.refl _ _))
theorem ownsRow_base {w : World} {base base' : Nat} {e : TypeId} {size : Nat} {v : Value} {n : Nat} {xs : List Value} (h : w.ownsRow base e size v n xs) (hb : base' ≤ base) : w.ownsRow base' e size v n xs := by
 obtain ⟨h1, h2⟩ := h
 rcases h2 with h2 | ⟨g, cap, cur, hv, hg, r⟩
 · exact ⟨h1, .inl h2⟩
 · exact ⟨h1, .inr ⟨g, cap, cur, hv, Nat.le_trans hb hg, r⟩⟩
theorem grown_below {w w' : World} (h : Below w.heap.size w w') (row : Option Nat) : w.grownBy w' row := ⟨h.os, h.tape, h.output, h.size, fun k hk _ => h.block k hk⟩
theorem grown_set (w : World) (a : Addr) (v : Value) : w.grownBy (w.setCell a v) (some a.block) :=
 ⟨rfl, rfl, rfl, by simp [World.setCell], fun k _ hne => Below.heap_setCell _ _ _ _ (fun e => hne (by rw [e]))⟩
theorem grown_trans {a b c : World} {row : Option Nat} (h : a.grownBy b row) (k : b.grownBy c row) : a.grownBy c row :=
 ⟨k.os.trans h.os, k.tape.trans h.tape, k.output.trans h.output, Nat.le_trans h.size k.size, fun i hi hne => (k.block i (Nat.lt_of_lt_of_le hi h.size) hne).trans (h.block i hi hne)⟩
theorem own_old {w w' : World} {base : Nat} {e : TypeId} {size : Nat} {v : Value} {n : Nat} {xs : List Value} (h : w.ownsRow base e size v n xs) (hb : Below w.heap.size w w') : w'.ownsRow base e size v n xs :=
 h.kept (grown_below hb none) (by cases v.ownBlock <;> simp)
theorem below_grown {B : Nat} {w w' : World} {row : Option Nat} (h : w.grownBy w' row) (hB : B ≤ w.heap.size) (hr : ∀ k, row = some k → B ≤ k) : Below B w w' := (Below.refl _ _).grown h hB hr
theorem heap_kept {w w' : World} {row : Option Nat} (h : w.grownBy w' row) {k : Nat} {o : Obj} (hk : w.heap[k]? = some o) (hne : some k ≠ row) : w'.heap[k]? = some o := by
 rw [h.block k (lt_of_block hk) hne]; exact hk
theorem two_set0 {w : World} {b : Nat} {u v x : Value} {t : TypeId} (h : w.heap[b]? = some (.cells #[u, v] t (0, 0))) : (w.setCell ⟨b, 0, none⟩ x).heap[b]? = some (.cells #[x, v] t (0, 0)) := by
 have hlt := lt_of_block h
 have h' : w.heap[b] = .cells #[u, v] t (0, 0) := by simpa [Array.getElem?_eq_getElem hlt] using h
 show (w.heap.modify b _)[b]? = _
 rw [Array.getElem?_eq_getElem (by simpa using hlt), Array.getElem_modify_self, h']
 rfl
theorem two_set1 {w : World} {b : Nat} {u v x : Value} {t : TypeId} (h : w.heap[b]? = some (.cells #[u, v] t (0, 0))) : (w.setCell ⟨b, 1, none⟩ x).heap[b]? = some (.cells #[u, x] t (0, 0)) := by
 have hlt := lt_of_block h
 have h' : w.heap[b] = .cells #[u, v] t (0, 0) := by simpa [Array.getElem?_eq_getElem hlt] using h
 show (w.heap.modify b _)[b]? = _
 rw [Array.getElem?_eq_getElem (by simpa using hlt), Array.getElem_modify_self, h']
 rfl
theorem two_cells {w : World} {b : Nat} {u v : Value} {t : TypeId} (h : w.heap[b]? = some (.cells #[u, v] t (0, 0))) :
 w.cell? ⟨b, 0, none⟩ = some u ∧ w.cell? ⟨b, 1, none⟩ = some v ∧ w.frozen? ⟨b, 0, none⟩ = false ∧ w.frozen? ⟨b, 1, none⟩ = false := by
 simp [World.cell?, World.frozen?, h]
theorem Rd.cut {P : Program} {w : World} {x : Value} {l : List UInt8} (h : Rd w x l) (t e : TypeId) (ht : P.underlying t = some (.slice e)) (hinfo : (P.info? e).map (fun i => (i.zero, i.size, i.bytes)) = some (some (.int .u8 0), 1, 1)) (n : Nat) (hn : n ≤ l.length) :
 ∃ (ao : Option Addr) (c : Nat), (∀ W, (Instr.slice t x (some (.int .i64 (n : Int))) none none).run P W = .ok (.slice ao (l.length - n) c) W) ∧ Rd w (.slice ao (l.length - n) c) (l.drop n) ∧ (∀ k, blk (.slice ao (l.length - n) c) = some k → blk x = some k) := by
 obtain ⟨i0, hi, hz0, hz1, hz2⟩ := info_parts hinfo
 obtain ⟨ao, c, rfl, h1, h2, h3, h4⟩ := h
 have ht' : P.underlying t = some (.slice (P.elem t)) := by simp [Program.elem, ht]
 have he : P.elem t = e := by simp [Program.elem, ht]
 have hs : ∀ W, (sizeOf e).run P W = .ok 1 W := fun W => by simp [sizeOf, typeInfo, hi, hz1]
 have hlen : (l.drop n).length = l.length - n := List.length_drop
 refine ⟨if c = n then ao else ao.map (·.add (n * 1)), c - n, fun W => ?_, ?_, ?_⟩
 · rw [run_slice_l W t _ _ _ ht' .i64 _ (by omega) (by omega), he, hs]
   simp [Result.andThen, sliced]
 · refine ⟨_, _, by rw [hlen], by rw [hlen]; omega, by omega, ?_, ?_⟩
   · intro hne
     split at hne
     · omega
     · cases ao with
       | none => have := h3 rfl; omega
       | some a => simp at hne
   · intro a ha j u hu
     have hj : j < l.length - n := by
      have := (List.getElem?_eq_some_iff.1 hu).1
      simpa using this
     rw [if_neg (by omega)] at ha
     cases ao with
     | none => simp at ha
     | some a0 =>
      simp at ha
      subst ha
      rw [List.map_drop, List.getElem?_drop] at hu
      have := h4 a0 rfl (n + j) u hu
      have e2 : (a0.add n).add j = a0.add (n + j) := by
       unfold Addr.add
       by_cases hn0 : n = 0
       · subst hn0; simp
       · by_cases hj0 : j = 0
         · subst hj0; simp
         · simp [hn0, hj0]; omega
      rw [e2]
      exact this
 · intro k hk
   split at hk
   · cases ao with
     | none => simp [blk] at hk
     | some a => simpa [blk] using hk
   · cases ao with
     | none => simp [blk] at hk
     | some a => simpa [blk, add_block] using hk
theorem Rd.head {P : Program} {w : World} {x : Value} {l : List UInt8} (h : Rd w x l) (t e : TypeId) (ht : P.underlying t = some (.slice e)) (hinfo : (P.info? e).map (fun i => (i.zero, i.size, i.bytes)) = some (some (.int .u8 0), 1, 1)) (n : Nat) (hn : n ≤ l.length) :
 ∃ (ao : Option Addr) (c : Nat), (∀ k W, (Instr.slice t x none (some (.int k (n : Int))) none).run P W = .ok (.slice ao n c) W) ∧ Rd w (.slice ao n c) (l.take n) ∧ (∀ k, blk (.slice ao n c) = some k → blk x = some k) := by
 obtain ⟨i0, hi, hz0, hz1, hz2⟩ := info_parts hinfo
 obtain ⟨ao, c, rfl, h1, h2, h3, h4⟩ := h
 have ht' : P.underlying t = some (.slice (P.elem t)) := by simp [Program.elem, ht]
 have he : P.elem t = e := by simp [Program.elem, ht]
 have hs : ∀ W, (sizeOf e).run P W = .ok 1 W := fun W => by simp [sizeOf, typeInfo, hi, hz1]
 have hlen : (l.take n).length = n := by rw [List.length_take]; omega
 have hsame : (if c = 0 then ao else ao.map (·.add (0 * 1))) = ao := by
  split
  · rfl
  · cases ao <;> simp [Addr.add]
 refine ⟨ao, c, fun k W => ?_, ⟨ao, c, by rw [hlen], by rw [hlen]; omega, h2, h3, fun a ha j u hu => ?_⟩, fun k hk => by cases ao with | none => simp [blk] at hk | some a => simpa [blk] using hk⟩
 · rw [run_slice_h W t _ _ _ ht' k _ (by omega) (by omega), he, hs]
   simp only [Result.andThen, sliced]
   rw [hsame]
   simp
 · refine h4 a ha j u ?_
   rw [List.map_take, List.getElem?_take] at hu
   split at hu
   · exact hu
   · cases hu
theorem Rd.take {w : World} {ao : Option Addr} {m c : Nat} {l : List UInt8} (h : Rd w (.slice ao m c) l) (n : Nat) (hn : n ≤ l.length) : Rd w (.slice ao n c) (l.take n) := by
 obtain ⟨ao', c', he, h1, h2, h3, h4⟩ := h
 simp only [Value.slice.injEq] at he
 obtain ⟨rfl, rfl, rfl⟩ := he
 have hlen : (l.take n).length = n := by rw [List.length_take]; omega
 refine ⟨ao, c, by rw [hlen], by rw [hlen]; omega, h2, h3, fun a ha j u hu => h4 a ha j u ?_⟩
 rw [List.map_take, List.getElem?_take] at hu
 split at hu
 · exact hu
 · cases hu
theorem Rd.mid {P : Program} {w : World} {x : Value} {l : List UInt8} (h : Rd w x l) (t e : TypeId) (ht : P.underlying t = some (.slice e)) (hinfo : (P.info? e).map (fun i => (i.zero, i.size, i.bytes)) = some (some (.int .u8 0), 1, 1)) (lo hi : Nat) (hlo : lo ≤ hi) (hhi : hi ≤ l.length) :
 ∃ (ao : Option Addr) (c : Nat), (∀ W, (Instr.slice t x (some (.int .i64 (lo : Int))) (some (.int .i64 (hi : Int))) none).run P W = .ok (.slice ao (hi - lo) c) W) ∧ Rd w (.slice ao (hi - lo) c) ((l.drop lo).take (hi - lo)) ∧ (∀ k, blk (.slice ao (hi - lo) c) = some k → blk x = some k) := by
 obtain ⟨i0, hi0, hz0, hz1, hz2⟩ := info_parts hinfo
 obtain ⟨ao1, c1, hs1, h5, h6⟩ := h.cut t e ht hinfo lo (by omega)
 obtain ⟨ao, c, rfl, h1, h2, h3, h4⟩ := h
 have ht' : P.underlying t = some (.slice (P.elem t)) := by simp [Program.elem, ht]
 have he : P.elem t = e := by simp [Program.elem, ht]
 have hs : ∀ W, (sizeOf e).run P W = .ok 1 W := fun W => by simp [sizeOf, typeInfo, hi0, hz1]
 have key : ∀ W : World, (Value.slice (if c = lo then ao else ao.map (·.add (lo * 1))) (l.length - lo) (c - lo)) = .slice ao1 (l.length - lo) c1 := fun W => by
  have := hs1 W
  rw [run_slice_l W t _ _ _ ht' .i64 _ (by omega) (by omega), he, hs] at this
  simp only [Result.andThen, sliced, Int.toNat_natCast, Result.ok.injEq, and_true] at this
  exact this
 have hk := key w
 simp only [Value.slice.injEq, true_and] at hk
 refine ⟨ao1, c1, fun W => ?_, ?_, ?_⟩
 · rw [run_slice_lh W t _ _ _ ht' .i64 .i64 _ _ (by omega) (by omega) (by omega), he, hs]
   simp only [Result.andThen, sliced, Int.toNat_natCast]
   rw [hk.1, hk.2]
 · exact h5.take (hi - lo) (by rw [List.length_drop]; omega)
 · intro k hk2
   apply h6 k
   cases ao1 with
   | none => simp [blk] at hk2
   | some a => simpa [blk] using hk2
theorem Rd.len {P : Program} {w : World} {x : Value} {l : List UInt8} (h : Rd w x l) (t e ty : TypeId) (ht : P.underlying t = some (.slice e)) :
 ∀ W, (Builtin.len_ #[t] ty #[x]).run P W = .ok (goInt l.length) W := by
 obtain ⟨ao, c, rfl, h1, h2, h3, h4⟩ := h
 have ht' : P.underlying t = some (.slice (P.elem t)) := by simp [Program.elem, ht]
 exact fun W => run_len_slice W t ty _ _ _ ht'
def Gives (e8 : TypeId) (w : World) (l : List UInt8) (e : Ending) (w' : World) : Prop :=
 ∃ x, e = .returned x ∧ w'.ownsRow w.heap.size e8 1 x l.length (l.map bv) ∧ Below w.heap.size w w'
theorem Gives.elim {e8 : TypeId} {w : World} {l : List UInt8} {e : Ending} {w' : World} (h : Gives e8 w l e w') :
 ∃ (ao : Option Addr) (c : Nat), e = .returned (.slice ao l.length c) ∧ w'.ownsRow w.heap.size e8 1 (.slice ao l.length c) l.length (l.map bv) ∧ Below w.heap.size w w' := by
 obtain ⟨x, rfl, h1, h2⟩ := h
 obtain ⟨ao, c, rfl, _⟩ := Rd.own h1
 exact ⟨ao, c, rfl, h1, h2⟩
end Go.Proofs.YtmdgifmigikffaaGreat
namespace Go.Proofs.YtmdgifmigikffaaGreat
open Go.RowKit
theorem Rd.at {w : World} {x : Value} {l : List UInt8} (h : Rd w x l) (hl : 0 < l.length) :
 ∃ b off c, x = .slice (some ⟨b, off, none⟩) l.length c ∧ l.length ≤ c ∧ c ≤ maxLen ∧ ∀ j (hj : j < l.length), w.cell? ⟨b, off + j, none⟩ = some (.int .u8 ((l[j]).toNat : Int)) := by
 obtain ⟨ao, c, rfl, h1, h2, h3, h4⟩ := h
 cases ao with
 | none => have := h3 rfl; omega
 | some a =>
  obtain ⟨b, off, spot⟩ := a
  have h0 := h4 _ rfl 0 (bv l[0]) (by simp [List.getElem?_eq_getElem hl])
  have hspot : spot = none := by simpa [Addr.add] using World.cell?_spot h0
  subst hspot
  refine ⟨b, off, c, rfl, h1, h2, fun j hj => ?_⟩
  have hj' := h4 _ rfl j (bv l[j]) (by simp [List.getElem?_eq_getElem hj])
  rw [WideShapes.add_plain] at hj'
  exact hj'
set_option maxHeartbeats 1000000 in
set_option maxRecDepth 100000 in
theorem first_any (x : Value) (l : List UInt8) (w : World) (hr : Rd w x l) :
 Calls Tryz.prog 167 #[x] w fun e w' => e = .returned (.tuple #[.int .u64 ((rdN 0 0 l).1 : Nat), .int .i64 ((rdN 0 0 l).2.1 : Nat), .int .i64 (rdN 0 0 l).2.2]) ∧ w = w' := by
 by_cases hl : l = []
 · subst hl
   obtain ⟨ao, c, rfl, -⟩ := hr
   have e : rdN 0 0 [] = (0, 0, 8) := rfl
   rw [e]
   go_enter Tryz.func167, Tryz.ntmps167
   go_wp2
   refine wp_loop_rounds 1 ?_
   rw [rounds_succ]
   go_wp2
   go_ret3
   exact ⟨rfl, rfl⟩
 · have hlen : 0 < l.length := List.length_pos_iff.2 hl
   obtain ⟨b, off, cp, rfl, h1, h2, hc⟩ := hr.at hlen
   unfold maxLen at h2
   go_enter Tryz.func167, Tryz.ntmps167
   go_wp2
   go_loop [5, 10] (fun v i => ∃ (k V : Nat), k ≤ l.length ∧ i = .int .i64 k ∧ v = .int .u64 V ∧ V < 128 ^ k ∧ k ≤ 9 ∧ rdN k V (l.drop k) = rdN 0 0 l) (fun _ i => l.length - (intOf i).toNat)
   case atStart => exact ⟨0, 0, Nat.zero_le _, rfl, rfl, by decide, by omega, rfl⟩
   case round =>
    obtain ⟨k, V, hk, rfl, rfl, hV, hk9, hrec⟩ := hrel
    by_cases hlt : k < l.length
    · have hck := hc k hlt
      have hd : l.drop k = l[k] :: l.drop (k + 1) := List.drop_eq_getElem_cons hlt
      rw [hd] at hrec
      have hc256 : (l[k]).toNat < 256 := UInt8.toNat_lt _
      generalize l[k] = c at *
      have Hrec := hid hrec
      have HV := hid hV
      have Hd := hid hd
      clear hrec hd hc hV
      have HO : ¬ (k = 9 ∧ 1 < c.toNat) → Hid (bits BinOp.or IntKind.u64 (V : Int) (IntKind.u64.wrap (IntKind.u64.wrap (bits BinOp.andNot IntKind.u8 (c.toNat : Int) 128) * 2 ^ (7 * k))) = ((V + c.toNat % 128 * 128 ^ k : Nat) : Int)) := fun h => or_step HV.out hk9 hc256 h
      have HS := hid (step_lt (c := c.toNat) HV.out)
      by_cases t1 : k = 9 ∧ 1 < c.toNat
      · have HF : Hid (rdN 0 0 l = (0, 0, 9)) := by rw [← Hrec.out]; exact rdN_form t1
        obtain ⟨rfl, t1b⟩ := t1
        clear HO HS Hrec Hd
        go_wp2
        go_ret3
        rw [HF.out]
        exact ⟨rfl, rfl⟩
      · have HO' := HO t1
        clear HO
        by_cases t2 : 128 ≤ c.toNat
        · have HF : Hid (rdN (k + 1) (V + c.toNat % 128 * 128 ^ k) (l.drop (k + 1)) = rdN 0 0 l) := by rw [← Hrec.out]; exact (rdN_more t1 t2).symm
          have hk9' : k ≠ 9 := by omega
          clear Hrec Hd t1
          go_wp2
          go_round
          case rel => exact ⟨k + 1, _, by omega, by go_num, by rw [HO'.out], HS.out, by omega, HF.out⟩
          case measure => simp [intOf]; omega
        · by_cases t3 : c.toNat = 0 ∧ 0 < k
          · have HF : Hid (rdN 0 0 l = (0, 0, 9)) := by rw [← Hrec.out]; exact rdN_zero t1 t2 t3
            clear Hrec Hd HS
            obtain ⟨t3a, t3b⟩ := t3
            clear HO'
            go_wp2
            all_goals (go_ret3; rw [HF.out]; exact ⟨rfl, rfl⟩)
          · have HF : Hid (rdN 0 0 l = (V + c.toNat % 128 * 128 ^ k, k + 1, 0)) := by rw [← Hrec.out]; exact rdN_last t1 t2 t3
            clear Hrec Hd HS
            by_cases t4 : k = 9
            · subst t4
              have ev := HO'.out
              rw [show (2 : Int) ^ (7 * 9) = 9223372036854775808 from by decide] at ev
              have HE := hid ev
              have d1 : decide ((1 : Int) < (c.toNat : Int)) = false := by simp; omega
              have t5 : ¬ (c.toNat : Int) = 0 := by omega
              clear ev HO'
              go_wp2
              go_ret3
              rw [HF.out, HE.out]
              exact ⟨rfl, rfl⟩
            · by_cases t5 : c.toNat = 0
              · have t6 : ¬ (0 : Int) < (k : Int) := by omega
                have t4' : ¬ (k : Int) = 9 := by omega
                have t5' : (c.toNat : Int) = 0 := by omega
                have ev := HO'.out
                rw [t5'] at ev
                have HE := hid ev
                clear ev HO'
                go_wp2
                go_ret3
                rw [HF.out, HE.out]
                exact ⟨rfl, rfl⟩
              · have HE := HO'
                have t4' : ¬ (k : Int) = 9 := by omega
                have t5' : ¬ (c.toNat : Int) = 0 := by omega
                clear HO'
                go_wp2
                go_ret3
                rw [HF.out, HE.out]
                exact ⟨rfl, rfl⟩
    · obtain rfl : k = l.length := by omega
      have HF : Hid (rdN 0 0 l = (0, 0, 8)) := by rw [← hrec, List.drop_length]; rfl
      clear hrec hV
      go_wp2
      go_ret3
      rw [HF.out]
      exact ⟨rfl, rfl⟩
end Go.Proofs.YtmdgifmigikffaaGreat
namespace Go.Proofs.YtmdgifmigikffaaGreat
open Go.RowKit
theorem Tryz.info_u8 : (Tryz.prog.info? 5).map (fun i => (i.zero, i.size, i.bytes)) = some (some (.int .u8 0), 1, 1) := by kernel_rfl
theorem or128 (n : Nat) : bits BinOp.or IntKind.u8 ((n : Int) % 256) 128 = ((n % 128 + 128 : Nat) : Int) := by
 have h := u8_or ((n : Int) % 256) 128 (by omega) (by omega) (by omega) (by omega)
 rw [h]
 have e : ((n : Int) % 256).toNat = n % 256 := by omega
 rw [e]
 have e2 : n % 256 ||| (128 : Int).toNat = n % 128 + 128 := by
  show n % 256 ||| 128 = n % 128 + 128
  have hc : n % 256 = n % 128 ∨ n % 256 = n % 128 + 128 := by omega
  have hj : 128 ||| n % 128 = 128 + n % 128 := nat_join 7 128 (n % 128) (by decide) (by omega)
  rcases hc with hc | hc
  · rw [hc, Nat.or_comm, hj]; omega
  · rw [hc, Nat.add_comm (n % 128) 128, ← hj, Nat.or_comm 128 (n % 128), Nat.or_assoc, Nat.or_self]
 rw [e2]
theorem bv_more (n : Nat) : Value.int IntKind.u8 (bits BinOp.or IntKind.u8 ((n : Int) % 256) 128) = bv (moreB n) := by
 rw [or128]
 unfold bv
 rw [moreB_toNat]
theorem bv_last {n : Nat} (h : n < 128) : Value.int IntKind.u8 ((n : Int)) = bv (lastB n) := by
 unfold bv
 rw [lastB_toNat h]
theorem num_step {w wr w1 : World} {v n : Nat} {pre : List UInt8} {x x' : Value} {o : Obj} (hge : 128 ≤ n) (Hpre : Hid (pre ++ numL n = numL v)) (hown : wr.ownsRow w.heap.size 5 1 x pre.length (pre.map bv)) (hb : Below w.heap.size w wr)
 (hown' : w1.ownsRow w.heap.size 5 1 x' (pre.length + 1) (pre.map bv ++ [bv (moreB n)])) (hg : (wr.alloc o).grownBy w1 x.ownBlock) :
 (pre ++ [moreB n]) ++ numL (n / 128) = numL v ∧ w1.ownsRow w.heap.size 5 1 x' (pre ++ [moreB n]).length ((pre ++ [moreB n]).map bv) ∧ Below w.heap.size w w1 := by
 refine ⟨?_, by simpa using hown', ?_⟩
 · rw [← Hpre.out, numL_ge hge]; simp
 · exact (hb.alloc hb.size _).grown hg (by have := hb.size; simp; omega) (fun k hk => (hown.lt k hk).1)
theorem num_end {w wr w1 : World} {v n : Nat} {pre : List UInt8} {x x' : Value} {o : Obj} (hlt : n < 128) (Hpre : Hid (pre ++ numL n = numL v)) (hown : wr.ownsRow w.heap.size 5 1 x pre.length (pre.map bv)) (hb : Below w.heap.size w wr)
 (hown' : w1.ownsRow w.heap.size 5 1 x' (pre.length + 1) (pre.map bv ++ [bv (lastB n)])) (hg : (wr.alloc o).grownBy w1 x.ownBlock) :
 w1.ownsRow w.heap.size 5 1 x' (numL v).length ((numL v).map bv) ∧ Below w.heap.size w w1 := by
 refine ⟨?_, (hb.alloc hb.size _).grown hg (by have := hb.size; simp; omega) (fun k hk => (hown.lt k hk).1)⟩
 rw [← Hpre.out, numL_lt hlt]
 simpa using hown'
set_option maxHeartbeats 400000 in
set_option maxRecDepth 100000 in
theorem num_any (v : Nat) (w : World) (hl : (numL v).length ≤ 10) :
 Calls Tryz.prog 165 #[.int .u64 (v : Int)] w (Gives 5 w (numL v)) := by
 obtain ⟨i0, hi, hz0, hz1, hz2⟩ := info_parts Tryz.info_u8
 go_enter Tryz.func165, Tryz.ntmps165
 go_wp2
 go_loopw [0, 3] (fun a x wr => ∃ (n : Nat) (pre : List UInt8), a = .int .u64 (n : Int) ∧ pre ++ numL n = numL v ∧ wr.ownsRow w.heap.size 5 1 x pre.length (pre.map bv) ∧ Below w.heap.size w wr)
  (fun a _ _ => (intOf a).toNat)
 case atStart => exact ⟨v, [], rfl, rfl, World.ownsRow_nil _ _ _ _, Below.refl _ _⟩
 case round =>
  obtain ⟨n, pre, rfl, hpre, hown, hb⟩ := hrel
  have Hpre := hid hpre
  have hpl : pre.length + 1 ≤ 10 := by
   have := congrArg List.length hpre
   have h2 := numL_pos n
   simp at this; omega
  clear hpre
  have hone : ∀ c, ∀ u ∈ [bv c], u.oneCell' = true := fun c => bv_one [c]
  by_cases hge : 128 ≤ n
  · go_wp2_with (first
     | (at_builtin; refine wpList_append_own _ rfl _ _ 22 rfl w.heap.size 5 i0 (.int .u8 0) 1 1 Tryz.underlying22 hi hz0 hz1 hz2 rfl (by decide) _ _ _ rfl (hown.alloc _) ⟨wr.heap.size, 0, none⟩ 1 1 [bv (moreB n)] rfl rfl ?c1 ?c2 ?c3 ?c4 ?c5 ?_))
    case c1 => rw [bv_more]; exact (cell_one_new _ _ _)
    case c2 => exact hone _
    case c3 => unfold maxLen; simp; omega
    case c4 => simp; omega
    case c5 => have := hb.size; simp; omega
    intro x' w1 hown' hgrow _
    have R := num_step hge Hpre hown hb hown' hgrow
    clear hown' hgrow hown hb
    go_wp2
    go_roundw
    case rel => exact ⟨n / 128, _, by go_num, R⟩
    case measure => simp [intOf]; omega
  · have hlt : n < 128 := by omega
    clear hge
    go_wp2_with (first
     | (at_builtin; refine wpList_append_own _ rfl _ _ 22 rfl w.heap.size 5 i0 (.int .u8 0) 1 1 Tryz.underlying22 hi hz0 hz1 hz2 rfl (by decide) _ _ _ rfl (hown.alloc _) ⟨wr.heap.size, 0, none⟩ 1 1 [bv (lastB n)] rfl rfl ?d1 ?d2 ?d3 ?d4 ?d5 ?_))
    case d1 => rw [← bv_last hlt]; exact (cell_one_new _ _ _)
    case d2 => exact hone _
    case d3 => unfold maxLen; simp; omega
    case d4 => simp; omega
    case d5 => have := hb.size; simp; omega
    intro x' w1 hown' hgrow _
    have R := num_end hlt Hpre hown hb hown' hgrow
    clear hown' hgrow hown hb
    go_wp2
    go_ret
    exact ⟨_, rfl, R⟩
end Go.Proofs.YtmdgifmigikffaaGreat
namespace Go.Proofs.YtmdgifmigikffaaGreat
open Go.RowKit
def RAt (w : World) (R : Nat) (l : List UInt8) (e : Int) : Prop :=
 ∃ (ao : Option Addr) (c : Nat), w.heap[R]? = some (.cells #[.slice ao l.length c, .int .i64 e] 136 (0, 0)) ∧ Rd w (.slice ao l.length c) l ∧ ∀ k, blk (.slice ao l.length c) = some k → k < R
theorem RAt.kept {w w' : World} {R : Nat} {l : List UInt8} {e : Int} {row : Option Nat} (h : RAt w R l e) (hg : w.grownBy w' row) (hne : ∀ k, row = some k → R < k) : RAt w' R l e := by
 obtain ⟨ao, c, h1, h2, h3⟩ := h
 refine ⟨ao, c, heap_kept hg h1 (fun h => by have := hne R h.symm; omega), h2.kept hg ?_, h3⟩
 cases hb : blk (.slice ao l.length c) with
 | none => exact .inl rfl
 | some k =>
  right
  intro hk
  have h5 := h3 k hb
  have h6 := hne k hk.symm
  omega
theorem RAt.old {w w' : World} {R : Nat} {l : List UInt8} {e : Int} (h : RAt w R l e) (hb : Below w.heap.size w w') : RAt w' R l e :=
 h.kept (grown_below hb none) (fun k hk => by cases hk)
theorem RAt.lt {w : World} {R : Nat} {l : List UInt8} {e : Int} (h : RAt w R l e) : R < w.heap.size := by
 obtain ⟨ao, c, h1, _⟩ := h
 exact lt_of_block h1
theorem RAt.fault {w : World} {R : Nat} {l : List UInt8} {e : Int} (h : RAt w R l e) (e' : Int) : RAt (w.setCell ⟨R, 1, none⟩ (.int .i64 e')) R l e' ∧ w.grownBy (w.setCell ⟨R, 1, none⟩ (.int .i64 e')) (some R) := by
 obtain ⟨ao, c, h1, h2, h3⟩ := h
 have hg := grown_set w ⟨R, 1, none⟩ (.int .i64 e')
 exact ⟨⟨ao, c, two_set1 h1, h2.kept hg (.inr (fun hk => by have := h3 R hk; omega)), h3⟩, hg⟩
theorem RAt.step {w : World} {R n : Nat} {l : List UInt8} {e : Int} {ao ao' : Option Addr} {c c' : Nat} (h1 : w.heap[R]? = some (.cells #[.slice ao l.length c, .int .i64 e] 136 (0, 0))) (h3 : ∀ k, blk (.slice ao l.length c) = some k → k < R)
 (h2 : Rd w (.slice ao' (l.length - n) c') (l.drop n)) (h4 : ∀ k, blk (.slice ao' (l.length - n) c') = some k → blk (.slice ao l.length c) = some k) :
 RAt (w.setCell ⟨R, 0, none⟩ (.slice ao' (l.length - n) c')) R (l.drop n) e ∧ w.grownBy (w.setCell ⟨R, 0, none⟩ (.slice ao' (l.length - n) c')) (some R) := by
 have hg := grown_set w ⟨R, 0, none⟩ (.slice ao' (l.length - n) c')
 have hlen : (l.drop n).length = l.length - n := List.length_drop
 have hne : blk (.slice ao' (l.length - n) c') ≠ some R := fun hk => by have := h3 R (h4 R hk); omega
 refine ⟨⟨ao', c', ?_, ?_, ?_⟩, hg⟩
 · rw [hlen]; exact two_set0 h1
 · rw [hlen]; exact h2.kept hg (.inr hne)
 · rw [hlen]; exact fun k hk => h3 k (h4 k hk)
def lookS (m : Nat) (l : List UInt8) (e : Int) : Nat × Nat × Int :=
 if e ≠ 0 then (0, 0, e) else if (rdN 0 0 l).2.2 = 0 ∧ m < (rdN 0 0 l).1 then (0, 0, 9) else rdN 0 0 l
def LookIs (w : World) (R : Nat) (m : Nat) (l : List UInt8) (e : Int) (en : Ending) (w' : World) : Prop :=
 en = .returned (.tuple #[.int .u64 ((lookS m l e).1 : Nat), .int .i64 ((lookS m l e).2.1 : Nat)]) ∧ RAt w' R l (lookS m l e).2.2 ∧ w.grownBy w' (some R)
set_option maxHeartbeats 1000000 in
set_option maxRecDepth 100000 in
theorem err_any (w : World) (R : Nat) (l : List UInt8) (e : Int) (h : RAt w R l e) :
 Calls Tryz.prog 132 #[.pointer (some ⟨R, 0, none⟩)] w fun en w' => en = .returned (.int .i64 e) ∧ w = w' := by
 obtain ⟨ao, c, h1, h2, h3⟩ := h
 obtain ⟨c0, c1, f0, f1⟩ := two_cells h1
 clear h1 h2 h3
 go_enter Tryz.func132, Tryz.ntmps132
 go_wp2
 go_ret
 exact ⟨rfl, rfl⟩
set_option maxHeartbeats 1000000 in
set_option maxRecDepth 100000 in
theorem left_any (w : World) (R : Nat) (l : List UInt8) (e : Int) (h : RAt w R l e) :
 Calls Tryz.prog 133 #[.pointer (some ⟨R, 0, none⟩)] w fun en w' => en = .returned (.int .i64 (l.length : Nat)) ∧ w = w' := by
 obtain ⟨ao, c, h1, h2, h3⟩ := h
 obtain ⟨c0, c1, f0, f1⟩ := two_cells h1
 clear h1 h2 h3
 go_enter Tryz.func133, Tryz.ntmps133
 go_wp2
 go_ret
 exact ⟨rfl, rfl⟩
set_option maxHeartbeats 1000000 in
set_option maxRecDepth 100000 in
theorem look_any (w : World) (R : Nat) (m : Nat) (l : List UInt8) (e : Int) (h : RAt w R l e) :
 Calls Tryz.prog 134 #[.pointer (some ⟨R, 0, none⟩), .int .u64 (m : Int)] w (LookIs w R m l e) := by
 have h' := hid h
 obtain ⟨ao, c, h1, h2, h3⟩ := h
 obtain ⟨c0, c1, f0, f1⟩ := two_cells h1
 clear h1 h3
 go_enter Tryz.func134, Tryz.ntmps134
 go_wp2_with fail
 refine (err_any w R l e h'.out).mono ?_
 rintro en w1 ⟨rfl, rfl⟩
 by_cases he : e = 0
 · subst he
   go_wp2_with fail
   refine (first_any _ l w h2).mono ?_
   rintro en w1 ⟨rfl, rfl⟩
   have HS : Hid (lookS m l 0 = if (rdN 0 0 l).2.2 = 0 ∧ m < (rdN 0 0 l).1 then (0, 0, 9) else rdN 0 0 l) := by unfold lookS; rw [if_neg (by simp)]; exact rfl
   have hb := (rdN_bounds l 0 0 (by decide) (by omega)).2
   generalize rdN 0 0 l = t at *
   obtain ⟨v, n, er⟩ := t
   simp only at *
   have HF1 := fun e' => hid (h'.out.fault e')
   by_cases t1 : er = 0 ∧ m < v
   · have HL : Hid (lookS m l 0 = (0, 0, 9)) := by rw [HS.out, if_pos t1]; exact rfl
     obtain ⟨rfl, t1b⟩ := t1
     clear HS hb
     go_wp2
     go_ret2
     exact ⟨by rw [HL.out]; rfl, by rw [HL.out]; exact (HF1 9).out⟩
   · have HL : Hid (lookS m l 0 = (v, n, er)) := by rw [HS.out, if_neg t1]; exact rfl
     by_cases t2 : er = 0
     · subst t2
       have t3 : ¬ m < v := by omega
       clear HS hb HF1
       go_wp2
       go_ret2
       exact ⟨by rw [HL.out]; rfl, by rw [HL.out]; exact h'.out, World.grownBy.refl _ _⟩
     · obtain ⟨rfl, rfl⟩ : v = 0 ∧ n = 0 := by omega
       have HF := HF1 er
       clear HS hb HF1
       go_wp2
       go_ret2
       exact ⟨by rw [HL.out]; rfl, by rw [HL.out]; exact HF.out⟩
 · have HL : Hid (lookS m l e = (0, 0, e)) := by unfold lookS; rw [if_pos he]; exact rfl
   go_wp2_with fail
   go_ret2
   exact ⟨by rw [HL.out]; rfl, by rw [HL.out]; exact h'.out, World.grownBy.refl _ _⟩
def Passed (w : World) (R n : Nat) (l : List UInt8) (e : Int) (en : Ending) (w' : World) : Prop :=
 en = .returned (.tuple #[]) ∧ RAt w' R (l.drop n) e ∧ w.grownBy w' (some R)
set_option maxHeartbeats 1000000 in
set_option maxRecDepth 100000 in
theorem pass_any (w : World) (R n : Nat) (l : List UInt8) (e : Int) (h : RAt w R l e) (hn : n ≤ l.length) :
 Calls Tryz.prog 135 #[.pointer (some ⟨R, 0, none⟩), .int .i64 (n : Int)] w (Passed w R n l e) := by
 by_cases h0 : n = 0
 · subst h0
   go_enter Tryz.func135, Tryz.ntmps135
   go_wp2
   go_end0
   exact ⟨rfl, by simpa using h, World.grownBy.refl _ _⟩
 · have hpos : (0 : Int) < (n : Int) := by omega
   obtain ⟨ao, c, h1, h2, h3⟩ := h
   obtain ⟨c0, c1, f0, f1⟩ := two_cells h1
   obtain ⟨ao', c', hs, h5, h6⟩ := h2.cut 22 5 Tryz.underlying22 (by kernel_rfl) n hn
   have HS := hid (RAt.step h1 h3 h5 h6)
   clear h1 h2 h3 h5 h6 h0
   go_enter Tryz.func135, Tryz.ntmps135
   go_wp2
   go_end0
   exact ⟨rfl, HS.out⟩
theorem lookS_le (m : Nat) (l : List UInt8) (e : Int) : (lookS m l e).2.1 ≤ l.length := by
 have hb := (rdN_bounds l 0 0 (by decide) (by omega)).2
 unfold lookS
 split
 · exact Nat.zero_le _
 · split
   · exact Nat.zero_le _
   · omega
theorem lookS_lt (m : Nat) (l : List UInt8) (e : Int) : (lookS m l e).1 < 2 ^ 64 := by
 have hb := (rdN_bounds l 0 0 (by decide) (by omega)).1
 unfold lookS
 split
 · exact Nat.two_pow_pos 64
 · split
   · exact Nat.two_pow_pos 64
   · exact hb
theorem lookS_most (m : Nat) (l : List UInt8) (e : Int) : (lookS m l e).1 ≤ m := by
 have hb := (rdN_bounds l 0 0 (by decide) (by omega)).2
 unfold lookS
 split
 · exact Nat.zero_le _
 · split
   · exact Nat.zero_le _
   · omega
def maxU : Nat := 18446744073709551615
theorem maxU_eq : (18446744073709551615 : Int) = ((maxU : Nat) : Int) := rfl
def NumIs (w : World) (R : Nat) (t : Nat × Nat × Int) (v : Value) (l : List UInt8) (en : Ending) (w' : World) : Prop :=
 en = .returned v ∧ RAt w' R (l.drop t.2.1) t.2.2 ∧ w.grownBy w' (some R)
set_option maxHeartbeats 1000000 in
set_option maxRecDepth 100000 in
theorem numR_any (w : World) (R : Nat) (l : List UInt8) (e : Int) (h : RAt w R l e) :
 Calls Tryz.prog 73 #[.pointer (some ⟨R, 0, none⟩)] w (NumIs w R (lookS maxU l e) (.int .u64 ((lookS maxU l e).1 : Nat)) l) := by
 go_enter Tryz.func73, Tryz.ntmps73
 go_wp2_with fail
 rw [maxU_eq]
 refine (look_any w R maxU l e h).mono ?_
 rintro en w1 ⟨rfl, h1, g1⟩
 go_wp2_with fail
 refine (pass_any w1 R _ l _ h1 (lookS_le _ _ _)).mono ?_
 rintro en w2 ⟨rfl, h2, g2⟩
 go_wp2_with fail
 go_ret
 exact ⟨rfl, h2, grown_trans g1 g2⟩
def unzig (v : Nat) : Int := if v % 2 = 1 then -1 - (v / 2 : Nat) else (v / 2 : Nat)
end Go.Proofs.YtmdgifmigikffaaGreat
namespace Go.Proofs.YtmdgifmigikffaaGreat
open Go.RowKit
set_option maxHeartbeats 1000000 in
set_option maxRecDepth 100000 in
theorem clone_any (w : World) (x : Value) (l : List UInt8) (h : Rd w x l) (hl : l.length ≤ 140737488355328) :
 Calls Tryz.prog 70 #[x] w (Gives 5 w l) := by
 obtain ⟨ao, c, rfl, h1, h2, h3, h4⟩ := h
 cases ao with
 | none =>
  have hc := h3 rfl
  obtain rfl : l = [] := List.eq_nil_of_length_eq_zero (by omega)
  subst hc
  have heq := fun W => Lib.run_eql_slice_nil (P := Tryz.prog) W 22 5 none 0 0 0 0 Tryz.underlying22
  go_enter Tryz.func70, Tryz.ntmps70
  go_wp2_with fail
  go_ret
  exact ⟨_, rfl, World.ownsRow_nil _ _ _ _, Below.refl _ _⟩
 | some a =>
  have HR : Hid (Rd w (.slice (some a) l.length c) l) := ⟨some a, c, rfl, h1, h2, h3, h4⟩
  have heq := fun W => Lib.run_eql_slice_nil (P := Tryz.prog) W 22 5 (some a) l.length c 0 0 Tryz.underlying22
  have hown : (w.alloc (.cells #[] 5)).ownsRow w.heap.size 5 1 (.slice (some ⟨w.heap.size, 0, none⟩) 0 0) 0 [] := World.ownsRow_made w #[] 0 (Nat.le_refl _) (by decide) rfl
  have HR2 := HR.out.alloc (.cells #[] 5)
  clear h3 h4
  go_enter Tryz.func70, Tryz.ntmps70
  go_wp2_with (first
   | (at_builtin; refine wp_app rfl _ _ 22 rfl w.heap.size 5 Tryz.underlying22 (by kernel_rfl) _ _ _ rfl hown _ l rfl HR2 ?c1 ?c2 ?_))
  case c1 => omega
  case c2 => simp
  intro v' w1 hown' hgrow
  have hb : Below w.heap.size w w1 := ((Below.refl _ _).alloc (Nat.le_refl _) _).grown hgrow (by simp) (fun k hk => by simp [Value.ownBlock] at hk; omega)
  clear hgrow hown HR2
  go_wp2
  go_ret
  exact ⟨_, rfl, by simpa using hown', hb⟩
def RLo (w : World) (R lo : Nat) (l : List UInt8) (e : Int) : Prop :=
 ∃ (ao : Option Addr) (c : Nat), w.heap[R]? = some (.cells #[.slice ao l.length c, .int .i64 e] 136 (0, 0)) ∧ Rd w (.slice ao l.length c) l ∧ ∀ k, blk (.slice ao l.length c) = some k → lo ≤ k ∧ k < R
theorem RLo.rat {w : World} {R lo : Nat} {l : List UInt8} {e : Int} (h : RLo w R lo l e) : RAt w R l e := by
 obtain ⟨ao, c, h1, h2, h3⟩ := h
 exact ⟨ao, c, h1, h2, fun k hk => (h3 k hk).2⟩
theorem RLo.kept {w w' : World} {R lo : Nat} {l : List UInt8} {e : Int} {row : Option Nat} (h : RLo w R lo l e) (hg : w.grownBy w' row) (hne : ∀ k, row = some k → k < lo ∧ k < R) : RLo w' R lo l e := by
 obtain ⟨ao, c, h1, h2, h3⟩ := h
 refine ⟨ao, c, heap_kept hg h1 (fun h => by have := hne R h.symm; omega), h2.kept hg ?_, h3⟩
 cases hb : blk (.slice ao l.length c) with
 | none => exact .inl rfl
 | some k =>
  right
  intro hk
  have h5 := h3 k hb
  have h6 := hne k hk.symm
  omega
theorem RLo.old {w w' : World} {R lo : Nat} {l : List UInt8} {e : Int} (h : RLo w R lo l e) (hb : Below w.heap.size w w') : RLo w' R lo l e :=
 h.kept (grown_below hb none) (fun k hk => by cases hk)
set_option maxHeartbeats 1000000 in
set_option maxRecDepth 100000 in
theorem new_lo (w : World) (x : Value) (l : List UInt8) (h : Rd w x l) (hl : l.length ≤ 140737488355328) :
 Calls Tryz.prog 24 #[x] w fun en w' => ∃ R, en = .returned (.pointer (some ⟨R, 0, none⟩)) ∧ w.heap.size ≤ R ∧ RLo w' R w.heap.size l 0 ∧ Below w.heap.size w w' := by
 go_enter Tryz.func24, Tryz.ntmps24
 go_wp2_with fail
 refine (clone_any w x l h hl).mono ?_
 rintro en w1 hg
 obtain ⟨ao, c, rfl, h1, h2⟩ := hg.elim
 have h3 := Rd.own h1
 have h4 := h1.lt
 clear hg h1
 go_wp2_with fail
 go_ret
 refine ⟨w1.heap.size, rfl, h2.size, ⟨ao, c, heap_alloc_new _ _, h3.alloc _, ?_⟩, h2.alloc h2.size _⟩
 intro k hk
 cases ao with
 | none => simp [blk] at hk
 | some a =>
  simp only [blk, Option.some.injEq] at hk
  have := h4 a.block rfl
  omega
theorem new_any (w : World) (x : Value) (l : List UInt8) (h : Rd w x l) (hl : l.length ≤ 140737488355328) :
 Calls Tryz.prog 24 #[x] w fun en w' => ∃ R, en = .returned (.pointer (some ⟨R, 0, none⟩)) ∧ w.heap.size ≤ R ∧ RAt w' R l 0 ∧ Below w.heap.size w w' :=
 (new_lo w x l h hl).mono fun _ _ ⟨R, h1, h2, h3, h4⟩ => ⟨R, h1, h2, h3.rat, h4⟩
def nn (z : Int) : Nat := z.toNat
set_option maxHeartbeats 1000000 in
set_option maxRecDepth 100000 in
theorem bound_any (w : World) (z : Int) (hz : (Lit.int .i64 z).wf = true) :
 Calls Tryz.prog 168 #[.int .i64 z] w fun en w' => en = .returned (.int .u64 (nn z : Int)) ∧ w = w' := by
 have hb := bounds_i64 hz
 by_cases h : z < 0
 · have HW : Hid (IntKind.u64.wrap 0 = (nn z : Int)) := by unfold nn; rw [wrap_u64]; show (0 : Int) % _ = _; omega
   clear hb
   go_enter Tryz.func168, Tryz.ntmps168
   go_wp2
   go_ret
   exact ⟨by rw [← HW.out]; rfl, rfl⟩
 · have HW : Hid (IntKind.u64.wrap z = (nn z : Int)) := by unfold nn; rw [wrap_u64]; show _ = _; omega
   clear hb
   go_enter Tryz.func168, Tryz.ntmps168
   go_wp2
   go_ret
   exact ⟨by rw [← HW.out]; rfl, rfl⟩
end Go.Proofs.YtmdgifmigikffaaGreat
namespace Go.Proofs.YtmdgifmigikffaaGreat
open Go.RowKit
theorem unzig_facts {v : Nat} (h : v < 2 ^ 64) :
 IntKind.i64.wrap ((v : Int) / 2) = (v : Int) / 2 ∧ bits BinOp.and IntKind.u64 (v : Int) 1 = ((v % 2 : Nat) : Int) ∧ bits BinOp.xor IntKind.i64 (-1) ((v : Int) / 2) = -1 - (v : Int) / 2 := by
 refine ⟨?_, ?_, i64_not (by omega)⟩
 · rw [IntKind.wrap_i64]; omega
 · have h1 := u64_and_nat v 1 (by omega) (by omega)
   rw [nat_mask1] at h1
   exact h1
set_option maxHeartbeats 1000000 in
set_option maxRecDepth 100000 in
theorem intR_any (w : World) (R : Nat) (l : List UInt8) (e : Int) (h : RAt w R l e) :
 Calls Tryz.prog 139 #[.pointer (some ⟨R, 0, none⟩)] w (NumIs w R (lookS maxU l e) (.int .i64 (unzig (lookS maxU l e).1)) l) := by
 have hlt := lookS_lt maxU l e
 obtain ⟨f1, f2, f3⟩ := unzig_facts hlt
 go_enter Tryz.func139, Tryz.ntmps139
 go_wp2_with fail
 refine (numR_any w R l e h).mono ?_
 rintro en w1 ⟨rfl, h1, g1⟩
 have HE := hid (And.intro h1 g1)
 clear h1 g1 h hlt
 have hu : Hid (unzig (lookS maxU l e).1 = if (lookS maxU l e).1 % 2 = 1 then -1 - ((lookS maxU l e).1 : Int) / 2 else ((lookS maxU l e).1 : Int) / 2) := by unfold unzig; split <;> (show _ = _) <;> omega
 generalize lookS maxU l e = t at *
 obtain ⟨v, n, er⟩ := t
 simp only at *
 by_cases t1 : v % 2 = 1
 · have t2 : ((v % 2 : Nat) : Int) = 1 := by omega
   rw [t2] at f2
   have hv : Hid (-1 - (v : Int) / 2 = unzig v) := by rw [hu.out, if_pos t1]; exact rfl
   clear hu t1 t2
   go_wp2_with fail
   go_ret
   exact ⟨by rw [← hv.out]; rfl, HE.out⟩
 · have t2 : ((v % 2 : Nat) : Int) = 0 := by omega
   rw [t2] at f2
   have hv : Hid ((v : Int) / 2 = unzig v) := by rw [hu.out, if_neg t1]; exact rfl
   clear hu t1 t2
   go_wp2_with fail
   go_ret
   exact ⟨by rw [← hv.out]; rfl, HE.out⟩
set_option maxHeartbeats 1000000 in
set_option maxRecDepth 100000 in
theorem smallR_any (w : World) (R : Nat) (l : List UInt8) (e : Int) (z : Int) (hz : (Lit.int .i64 z).wf = true) (h : RAt w R l e) :
 Calls Tryz.prog 140 #[.pointer (some ⟨R, 0, none⟩), .int .i64 z] w (NumIs w R (lookS (nn z) l e) (.int .i64 ((lookS (nn z) l e).1 : Nat)) l) := by
 have hm := lookS_most (nn z) l e
 have hle := hid (lookS_le (nn z) l e)
 have hb := bounds_i64 hz
 have hw : IntKind.i64.wrap ((lookS (nn z) l e).1 : Int) = ((lookS (nn z) l e).1 : Int) := by
  rw [IntKind.wrap_i64]; unfold nn at *; omega
 have HW := hid hw
 clear hw hb hm
 go_enter Tryz.func140, Tryz.ntmps140
 go_wp2_with fail
 refine (bound_any _ z hz).mono ?_
 rintro en w1 ⟨rfl, rfl⟩
 go_wp2_with fail
 refine (look_any w R (nn z) l e h).mono ?_
 rintro en w1 ⟨rfl, h1, g1⟩
 go_wp2_with fail
 refine (pass_any w1 R _ l _ h1 hle.out).mono ?_
 rintro en w2 ⟨rfl, h2, g2⟩
 have HE := hid (And.intro h2 (grown_trans g1 g2))
 clear h1 g1 h2 g2
 have hw := HW.out
 go_wp2_with fail
 go_ret
 exact ⟨rfl, HE.out⟩
theorem lookS_num' {l : List UInt8} : lookS maxU l 0 = rdN 0 0 l := by
 have hb := (rdN_bounds l 0 0 (by decide) (by omega)).1
 unfold lookS
 rw [if_neg (by simp), if_neg (by unfold maxU; omega)]
def textS (m : Nat) (l : List UInt8) (e : Int) : List UInt8 × Nat × Int :=
 if (lookS m l e).2.1 = 0 then ([], 0, (lookS m l e).2.2)
 else if l.length - (lookS m l e).2.1 < (lookS m l e).1 then ([], 0, 8)
 else ((l.drop (lookS m l e).2.1).take (lookS m l e).1, (lookS m l e).2.1 + (lookS m l e).1, (lookS m l e).2.2)
def TextIs (w : World) (R : Nat) (t : List UInt8 × Nat × Int) (l : List UInt8) (en : Ending) (w' : World) : Prop :=
 ∃ (ao : Option Addr) (c : Nat), en = .returned (.slice ao t.1.length c) ∧ w'.ownsRow w.heap.size 5 1 (.slice ao t.1.length c) t.1.length (t.1.map bv) ∧ RAt w' R (l.drop t.2.1) t.2.2 ∧ w.grownBy w' (some R)
set_option maxHeartbeats 1000000 in
set_option maxRecDepth 100000 in
theorem textR_any (w : World) (R : Nat) (l : List UInt8) (e : Int) (z : Int) (hz : (Lit.int .i64 z).wf = true) (h : RAt w R l e) (hl : l.length ≤ 140737488355328) :
 Calls Tryz.prog 136 #[.pointer (some ⟨R, 0, none⟩), .int .i64 z] w (TextIs w R (textS (nn z) l e) l) := by
 have hm := lookS_most (nn z) l e
 have hle := lookS_le (nn z) l e
 have HT : Hid (textS (nn z) l e = if (lookS (nn z) l e).2.1 = 0 then ([], 0, (lookS (nn z) l e).2.2)
  else if l.length - (lookS (nn z) l e).2.1 < (lookS (nn z) l e).1 then ([], 0, 8)
  else ((l.drop (lookS (nn z) l e).2.1).take (lookS (nn z) l e).1, (lookS (nn z) l e).2.1 + (lookS (nn z) l e).1, (lookS (nn z) l e).2.2)) := rfl
 go_enter Tryz.func136, Tryz.ntmps136
 go_wp2_with fail
 refine (bound_any _ z hz).mono ?_
 rintro en w1 ⟨rfl, rfl⟩
 go_wp2_with fail
 refine (look_any w R (nn z) l e h).mono ?_
 rintro en w1 ⟨rfl, h1, g1⟩
 generalize lookS (nn z) l e = t at *
 obtain ⟨v, n, er⟩ := t
 simp only at *
 by_cases t1 : n = 0
 · have HF : Hid (textS (nn z) l e = ([], 0, er)) := by rw [HT.out, if_pos t1]; exact rfl
   have t1' : (n : Int) = 0 := by omega
   have HE := hid (And.intro h1 g1)
   clear HT h1 g1 h t1
   go_wp2_with fail
   go_ret
   refine ⟨none, 0, ?_, ?_, ?_⟩
   · rw [HF.out]; rfl
   · rw [HF.out]; exact World.ownsRow_nil _ _ _ _
   · rw [HF.out]; exact HE.out
 · have t1' : ¬ (n : Int) = 0 := by omega
   have hq : IntKind.u64.wrap ((l.length : Int) - (n : Int)) = (l.length : Int) - (n : Int) := by rw [wrap_u64]; omega
   by_cases t2 : l.length - n < v
   · have HF : Hid (textS (nn z) l e = ([], 0, 8)) := by rw [HT.out, if_neg t1, if_pos t2]; exact rfl
     have HE := hid (h1.fault 8)
     have Hg := hid g1
     obtain ⟨ao, c, a1, a2, a3⟩ := h1
     obtain ⟨c0, c1, f0, f1⟩ := two_cells a1
     have t2' : (l.length : Int) - (n : Int) < (v : Int) := by omega
     clear HT h t1 g1 a1 a2 a3 t2
     go_wp2_with fail
     go_ret
     refine ⟨none, 0, ?_, ?_, ?_⟩
     · rw [HF.out]; rfl
     · rw [HF.out]; exact World.ownsRow_nil _ _ _ _
     · rw [HF.out]; exact ⟨HE.out.1, grown_trans Hg.out HE.out.2⟩
   · have HF : Hid (textS (nn z) l e = ((l.drop n).take v, n + v, er)) := by rw [HT.out, if_neg t1, if_neg t2]; exact rfl
     have H1 := hid h1
     have Hg := hid g1
     obtain ⟨ao, c, a1, a2, a3⟩ := h1
     obtain ⟨c0, c1, f0, f1⟩ := two_cells a1
     have t2' : ¬ (l.length : Int) - (n : Int) < (v : Int) := by omega
     have hdl : (l.drop n).length = l.length - n := List.length_drop
     have htl : ((l.drop n).take v).length = v := by rw [List.length_take]; omega
     have Hdl := hid hdl
     have Htl := hid htl
     clear HT h t1 g1 a1 a2 a3 hdl htl
     go_wp2_with fail
     refine (pass_any w1 R _ l _ H1.out hle).mono ?_
     rintro en w2 ⟨rfl, h2, g2⟩
     have H2 := hid h2
     have Hg2 := hid g2
     clear c0 c1 f0 f1 hq H1
     obtain ⟨ao2, c2, a1, a2, a3⟩ := h2
     obtain ⟨c0, c1, f0, f1⟩ := two_cells a1
     have a5 := hid (a2.take v (by rw [Hdl.out]; omega))
     have hv2 : (v : Int) ≤ (c2 : Int) := by obtain ⟨_, _, hx, hx1, _⟩ := a2; simp only [Value.slice.injEq] at hx; have := Hdl.out; omega
     clear g2 a1 a2 a3
     go_wp2_with fail
     refine (clone_any w2 _ _ a5.out (by rw [Htl.out]; omega)).mono ?_
     rintro en w3 h3
     obtain ⟨ao4, c4, rfl, h4, h5⟩ := h3.elim
     rw [Htl.out]
     have H6 := hid (H2.out.old h5)
     have HO := hid h4
     have Hb := hid h5
     clear h3 h4 h5 a5 c0 c1 f0 f1
     go_wp2_with fail
     refine (pass_any w3 R v (l.drop n) er H6.out (by rw [Hdl.out]; omega)).mono ?_
     rintro en w4 ⟨rfl, h7, g7⟩
     have HE := hid (And.intro h7 g7)
     clear h7 g7
     go_wp2_with fail
     go_ret
     have hne : ∀ k, (Value.slice ao4 ((l.drop n).take v).length c4).ownBlock = some k → w2.heap.size ≤ k := fun k hk => (HO.out.lt k hk).1
     have hs1 := Hg.out.size
     have hs2 := Hg2.out.size
     have hs3 := Hb.out.size
     have hR := H2.out.lt
     refine ⟨ao4, c4, ?_, ?_, ?_, ?_⟩
     · rw [HF.out]; simp only [Htl.out]; rfl
     · rw [HF.out]
       have h8 := HO.out.kept HE.out.2 (by
        cases ho : (Value.slice ao4 ((l.drop n).take v).length c4).ownBlock with
        | none => exact .inl rfl
        | some k => right; intro hk; have := hne k ho; simp at hk; omega)
       exact ownsRow_base h8 (by omega)
     · rw [HF.out]
       have := HE.out.1
       rw [List.drop_drop] at this
       exact this
     · exact grown_trans (grown_trans (grown_trans Hg.out Hg2.out) (grown_below Hb.out _)) HE.out.2
def endS (l : List UInt8) (e : Int) : Int := if e ≠ 0 then e else if 0 < l.length then 9 else 0
set_option maxHeartbeats 1000000 in
set_option maxRecDepth 100000 in
theorem endR_any (w : World) (R : Nat) (l : List UInt8) (e : Int) (h : RAt w R l e) :
 Calls Tryz.prog 71 #[.pointer (some ⟨R, 0, none⟩)] w fun en w' => en = .returned (.int .i64 (endS l e)) ∧ w = w' := by
 have HE : Hid (endS l e = if e ≠ 0 then e else if 0 < l.length then 9 else 0) := rfl
 go_enter Tryz.func71, Tryz.ntmps71
 go_wp2_with fail
 refine (err_any w R l e h).mono ?_
 rintro en w1 ⟨rfl, rfl⟩
 by_cases t1 : e = 0
 · by_cases t2 : 0 < l.length
   · have HF : Hid (endS l e = 9) := by rw [HE.out, if_neg (by simpa using t1), if_pos t2]; exact rfl
     have hh := hid h
     subst t1
     clear h HE
     go_wp2_with fail
     refine (left_any w R l 0 hh.out).mono ?_
     rintro en w1 ⟨rfl, rfl⟩
     go_wp2_with fail
     go_ret
     exact ⟨by rw [HF.out]; rfl, rfl⟩
   · have HF : Hid (endS l e = 0) := by rw [HE.out, if_neg (by simpa using t1), if_neg t2]; exact rfl
     have hh := hid h
     subst t1
     clear h HE
     go_wp2_with fail
     refine (left_any w R l 0 hh.out).mono ?_
     rintro en w1 ⟨rfl, rfl⟩
     go_wp2_with fail
     go_ret
     exact ⟨by rw [HF.out]; rfl, rfl⟩
 · have HF : Hid (endS l e = e) := by rw [HE.out, if_pos t1]; exact rfl
   clear h HE
   go_wp2_with fail
   go_ret
   exact ⟨by rw [HF.out]; rfl, rfl⟩
end Go.Proofs.YtmdgifmigikffaaGreat
