import Derived.Test.YtiblambiebojmaaRows
import Derived.WalkKit
import Derived.WalkSpells
import Derived.WalkLawsBesides
import Derived.Laws.AppendOwnNone
import Derived.OpenShut
import Derived.Deep.Slices
import Derived.Deep.AppendLies
import Derived.ProofKit
import Derived.ShutString
import Derived.ChangeOld
import Derived.Below
import Derived.SizedLaws
import Derived.Deep.Strs
set_option linter.unusedVariables false
set_option linter.unusedSimpArgs false
namespace Go.Proofs.Ytiblambiebojmaa

/-- A byte that is not a number's last one, and one that is. -/
def moreB (n : Nat) : UInt8 := UInt8.ofNat (n % 128 + 128)
def lastB (n : Nat) : UInt8 := UInt8.ofNat n

/-- The bytes of a number: seven bits a byte, the lowest first. -/
def numL (v : Nat) : List UInt8 :=
  if v < 128 then [lastB v] else moreB v :: numL (v / 128)
termination_by v
decreasing_by omega

theorem numL_lt {v : Nat} (h : v < 128) : numL v = [lastB v] := by
  rw [numL, if_pos h]

theorem numL_ge {v : Nat} (h : 128 ≤ v) : numL v = moreB v :: numL (v / 128) := by
  rw [numL, if_neg (by omega)]

theorem numL_pos (v : Nat) : 1 ≤ (numL v).length := by
  by_cases h : v < 128
  · rw [numL_lt h]; simp
  · rw [numL_ge (by omega)]; simp

theorem numL_len (k : Nat) : ∀ v, v < 128 * 128 ^ k → (numL v).length ≤ k + 1 := by
  induction k with
  | zero => intro v h; rw [numL_lt (by omega)]; simp
  | succ k ih =>
    intro v h
    by_cases h1 : v < 128
    · rw [numL_lt h1]; simp
    · rw [numL_ge (by omega)]
      have := ih (v / 128) (by rw [Nat.pow_succ] at h; omega)
      simp; omega

theorem numL_len10 {v : Nat} (h : v < 2 ^ 64) : (numL v).length ≤ 10 := numL_len 9 v (by omega)

theorem moreB_toNat (n : Nat) : (moreB n).toNat = n % 128 + 128 := by
  unfold moreB
  rw [UInt8.toNat_ofNat']; omega

theorem lastB_toNat {n : Nat} (h : n < 128) : (lastB n).toNat = n := by
  unfold lastB
  rw [UInt8.toNat_ofNat']; omega

/-- The number that a signed one is written as. -/
def zig (i : Int) : Nat := if i < 0 then (-2 * i - 1).toNat else (2 * i).toNat

end Go.Proofs.Ytiblambiebojmaa

namespace Go.Proofs.Ytiblambiebojmaa
open Go.RowKit

theorem hid {p : Prop} (h : p) : Hid p := h

/-- A byte's cell. -/
def bv (c : UInt8) : Value := .int .u8 (c.toNat : Int)

theorem bv_one (l : List UInt8) : ∀ u ∈ l.map bv, u.oneCell' = true := by
  intro u hu
  obtain ⟨_, _, rfl⟩ := List.mem_map.1 hu
  rfl

/-- The block that a slice lies in. -/
def blk : Value → Option Nat
  | .slice (some a) _ _ => some a.block
  | _ => none

/-- The slice x reads as the bytes l. -/
def Rd (w : World) (x : Value) (l : List UInt8) : Prop :=
  ∃ (ao : Option Addr) (c : Nat), x = .slice ao l.length c ∧ l.length ≤ c ∧ c ≤ maxLen ∧ (ao = none → c = 0) ∧
    ∀ a, ao = some a → ∀ (j : Nat) u, (l.map bv)[j]? = some u → w.cell? (a.add j) = some u

theorem Rd.nil (w : World) : Rd w (.slice none 0 0) [] := ⟨none, 0, rfl, by simp, by simp, fun _ => rfl, fun a h => by cases h⟩

theorem add_block (a : Addr) (j : Nat) : (a.add j).block = a.block := by unfold Addr.add; split <;> rfl

/-- What is read stays read, where its block is left alone. -/
theorem Rd.kept {w w' : World} {x : Value} {l : List UInt8} {row : Option Nat} (h : Rd w x l) (hg : w.grownBy w' row) (hne : blk x = none ∨ blk x ≠ row) : Rd w' x l := by
  obtain ⟨ao, c, rfl, h1, h2, h3, h4⟩ := h
  refine ⟨ao, c, rfl, h1, h2, h3, fun a ha j u hu => ?_⟩
  subst ha
  have h6 := h4 a rfl j u hu
  have hlt := World.block_lt_of_cell? w _ h6
  rw [World.cell?_of_block (w := w) (a := a.add j) (hg.block _ hlt (by rw [add_block]; simpa [blk] using hne))]
  exact h6

/-- Behind a call that leaves all that was there. -/
theorem Rd.old {w w' : World} {x : Value} {l : List UInt8} (h : Rd w x l) (hb : Below w.heap.size w w') : Rd w' x l := by
  obtain ⟨ao, c, rfl, h1, h2, h3, h4⟩ := h
  refine ⟨ao, c, rfl, h1, h2, h3, fun a ha j u hu => ?_⟩
  subst ha
  have h6 := h4 a rfl j u hu
  rw [hb.cell (p := a.add j) (World.block_lt_of_cell? w _ h6)]
  exact h6

theorem Rd.below {w0 w w' : World} {x : Value} {l : List UInt8} (h : Rd w0 x l) (hb0 : Below w0.heap.size w0 w) (hb : Below w0.heap.size w w') : Rd w' x l := h.old (hb0.trans hb)

theorem Rd.alloc {w : World} {x : Value} {l : List UInt8} (h : Rd w x l) (o : Obj) : Rd (w.alloc o) x l := h.old ((Below.refl _ _).alloc (Nat.le_refl _) o)

/-- What the call itself made. -/
theorem Rd.own {w : World} {base : Nat} {e : TypeId} {x : Value} {l : List UInt8} (h : w.ownsRow base e 1 x l.length (l.map bv)) : Rd w x l := by
  obtain ⟨h1, h2⟩ := h
  rcases h2 with ⟨rfl, hn⟩ | ⟨g, cap, cur, rfl, hb, hg, hn, hc, hs, ht⟩
  · obtain rfl : l = [] := List.eq_nil_of_length_eq_zero hn
    exact Rd.nil w
  · refine ⟨some ⟨g, 0, none⟩, cap, rfl, hn, hc, (fun h => by cases h), fun a ha => ?_⟩
    cases ha
    intro j u hu
    rw [WideShapes.add_plain, Nat.zero_add, cell_of_row w g j cur e (0, 0) hg]
    rw [← ht, List.getElem?_take] at hu
    split at hu
    · simpa using hu
    · cases hu

/-- 'string(x)'. -/
theorem Rd.conv {P : Program} {w : World} {x : Value} {l : List UInt8} (h : Rd w x l) (src dst e : TypeId) (hs : P.underlying src = some (.slice e)) (he : P.underlying e = some (.int .u8)) (hd : P.underlying dst = some .string) :
    (convert src dst x).run P w = .ok (.string ⟨l.toArray⟩) w := by
  obtain ⟨ao, c, rfl, h1, h2, h3, h4⟩ := h
  cases ao with
  | none =>
    obtain rfl : l = [] := List.eq_nil_of_length_eq_zero (by have := h3 rfl; omega)
    rw [run_convert_bytes_nil w src e hs he _ _ dst hd]
    rfl
  | some a =>
    rw [run_convert_bytes_string w src dst e _ _ _ hs he hd]
    have hl : (loadCells a l.length).run P w = .ok ((l.map fun x => (x.toNat : Int)).map (Value.int .u8)).toArray w := by
      have := run_loadCells_list (P := P) w a (l.map bv) (h4 a rfl)
      have e1 : (l.map fun x => (x.toNat : Int)).map (Value.int .u8) = l.map bv := by rw [List.map_map]; rfl
      rw [e1]
      simpa using this
    rw [run_bytesToString w a l.length c (l.map fun x => (x.toNat : Int)) hl, foldl_push_bytes]
    congr 2
    simp [ByteArray.empty, ByteArray.emptyWithCapacity, Function.comp_def]
    rfl

/-- 'append(v, x...)', v the call's own, x whatever. -/
theorem wp_app {P : Program} {w : World} {ops : Array Oper} {rest : List Oper} {o : Oper} {a : Act} {Q : Exit → Act → World → Prop} (hgd : o.guard = none) (s x : Operand) (t : TypeId)
    (ho : o.op = .call { callee := .builtin .append, args := #[s, x], argTypes := #[t, t] })
    (base : Nat) (e : TypeId) (ht : P.underlying t = some (.slice e)) (hinfo : (P.info? e).map (fun i => (i.zero, i.size, i.bytes)) = some (some (.int .u8 0), 1, 1))
    (v : Value) (n : Nat) (xs : List Value) (hs : a.eval s = v) (hown : w.ownsRow base e 1 v n xs)
    (y : Value) (l : List UInt8) (hx : a.eval x = y) (hr : Rd w y l) (hn : n + l.length ≤ 140737488355328) (hbase : base ≤ w.heap.size)
    (h : ∀ v' w', w'.ownsRow base e 1 v' (n + l.length) (xs ++ l.map bv) → w.grownBy w' v.ownBlock → wpList P ops Q rest (a.put o.dst v') w') : wpList P ops Q (o :: rest) a w := by
  obtain ⟨i0, hi, hz0, hz1, hz2⟩ := info_parts hinfo
  obtain ⟨ao, c, rfl, h1, h2, h3, h4⟩ := hr
  cases ao with
  | some ad =>
    exact wpList_append_own w hgd s x t ho base e i0 (.int .u8 0) 1 1 ht hi hz0 hz1 hz2 rfl (by decide) v n xs hs hown ad l.length c (l.map bv) hx (by simp) (h4 ad rfl) (bv_one l)
      (by unfold maxLen; omega) (by omega) hbase fun v' w' a1 a2 _ => h v' w' a1 a2
  | none =>
    have hc := h3 rfl
    obtain rfl : l = [] := List.eq_nil_of_length_eq_zero (by omega)
    subst hc
    exact wpList_append_own_none hgd s x t ho base e i0 1 ht hi v n xs hs hown hx (h v w (by simpa using hown) (World.grownBy.refl _ _))

theorem grown_below {w w' : World} (h : Below w.heap.size w w') (row : Option Nat) : w.grownBy w' row := ⟨h.os, h.tape, h.output, h.size, fun k hk _ => h.block k hk⟩

theorem grown_set (w : World) (a : Addr) (v : Value) : w.grownBy (w.setCell a v) (some a.block) :=
  ⟨rfl, rfl, rfl, by simp [World.setCell], fun k _ hne => Below.heap_setCell _ _ _ _ (fun e => hne (by rw [e]))⟩

/-- What is owned stays owned behind a call that leaves all that was there. -/
theorem own_old {w w' : World} {base : Nat} {e : TypeId} {size : Nat} {v : Value} {n : Nat} {xs : List Value} (h : w.ownsRow base e size v n xs) (hb : Below w.heap.size w w') : w'.ownsRow base e size v n xs :=
  h.kept (grown_below hb none) (by cases v.ownBlock <;> simp)

theorem heap_kept {w w' : World} {row : Option Nat} (h : w.grownBy w' row) {k : Nat} {o : Obj} (hk : w.heap[k]? = some o) (hne : some k ≠ row) : w'.heap[k]? = some o := by
  rw [h.block k (lt_of_block hk) hne]; exact hk

theorem Rd.take {w : World} {ao : Option Addr} {m c : Nat} {l : List UInt8} (h : Rd w (.slice ao m c) l) (n : Nat) (hn : n ≤ l.length) : Rd w (.slice ao n c) (l.take n) := by
  obtain ⟨ao', c', he, h1, h2, h3, h4⟩ := h
  simp only [Value.slice.injEq] at he
  obtain ⟨rfl, rfl, rfl⟩ := he
  have hlen : (l.take n).length = n := by rw [List.length_take]; omega
  refine ⟨ao, c, by rw [hlen], by rw [hlen]; omega, h2, h3, fun a ha j u hu => h4 a ha j u ?_⟩
  rw [List.map_take, List.getElem?_take] at hu
  split at hu
  · exact hu
  · cases hu

theorem Rd.len {P : Program} {w : World} {x : Value} {l : List UInt8} (h : Rd w x l) (t e ty : TypeId) (ht : P.underlying t = some (.slice e)) :
    ∀ W, (Builtin.len_ #[t] ty #[x]).run P W = .ok (goInt l.length) W := by
  obtain ⟨ao, c, rfl, h1, h2, h3, h4⟩ := h
  have ht' : P.underlying t = some (.slice (P.elem t)) := by simp [Program.elem, ht]
  exact fun W => run_len_slice W t ty _ _ _ ht'

/-- The bytes that one value makes: what a call gives back, in new memory. -/
def Gives (e8 : TypeId) (w : World) (l : List UInt8) (e : Ending) (w' : World) : Prop :=
  ∃ x, e = .returned x ∧ w'.ownsRow w.heap.size e8 1 x l.length (l.map bv) ∧ Below w.heap.size w w'

/-- The value's shape, for the walk. -/
theorem Gives.elim {e8 : TypeId} {w : World} {l : List UInt8} {e : Ending} {w' : World} (h : Gives e8 w l e w') :
    ∃ (ao : Option Addr) (c : Nat), e = .returned (.slice ao l.length c) ∧ w'.ownsRow w.heap.size e8 1 (.slice ao l.length c) l.length (l.map bv) ∧ Below w.heap.size w w' := by
  obtain ⟨x, rfl, h1, h2⟩ := h
  obtain ⟨ao, c, rfl, _⟩ := Rd.own h1
  exact ⟨ao, c, rfl, h1, h2⟩

end Go.Proofs.Ytiblambiebojmaa

namespace Go.Proofs.Ytiblambiebojmaa
open Go.RowKit

theorem Try.info_u8 : (Try.prog.info? 5).map (fun i => (i.zero, i.size, i.bytes)) = some (some (.int .u8 0), 1, 1) := by kernel_rfl
theorem or128 (n : Nat) : bits BinOp.or IntKind.u8 ((n : Int) % 256) 128 = ((n % 128 + 128 : Nat) : Int) := by
  have h := u8_or ((n : Int) % 256) 128 (by omega) (by omega) (by omega) (by omega)
  rw [h]
  have e : ((n : Int) % 256).toNat = n % 256 := by omega
  rw [e]
  have e2 : n % 256 ||| (128 : Int).toNat = n % 128 + 128 := by
    show n % 256 ||| 128 = n % 128 + 128
    have hc : n % 256 = n % 128 ∨ n % 256 = n % 128 + 128 := by omega
    have hj : 128 ||| n % 128 = 128 + n % 128 := nat_join 7 128 (n % 128) (by decide) (by omega)
    rcases hc with hc | hc
    · rw [hc, Nat.or_comm, hj]; omega
    · rw [hc, Nat.add_comm (n % 128) 128, ← hj, Nat.or_comm 128 (n % 128), Nat.or_assoc, Nat.or_self]
  rw [e2]

theorem bv_more (n : Nat) : Value.int IntKind.u8 (bits BinOp.or IntKind.u8 ((n : Int) % 256) 128) = bv (moreB n) := by
  rw [or128]
  unfold bv
  rw [moreB_toNat]

theorem bv_last {n : Nat} (h : n < 128) : Value.int IntKind.u8 ((n : Int)) = bv (lastB n) := by
  unfold bv
  rw [lastB_toNat h]

theorem num_step {w wr w1 : World} {v n : Nat} {pre : List UInt8} {x x' : Value} {o : Obj} (hge : 128 ≤ n) (Hpre : Hid (pre ++ numL n = numL v)) (hown : wr.ownsRow w.heap.size 5 1 x pre.length (pre.map bv)) (hb : Below w.heap.size w wr)
    (hown' : w1.ownsRow w.heap.size 5 1 x' (pre.length + 1) (pre.map bv ++ [bv (moreB n)])) (hg : (wr.alloc o).grownBy w1 x.ownBlock) :
    (pre ++ [moreB n]) ++ numL (n / 128) = numL v ∧ w1.ownsRow w.heap.size 5 1 x' (pre ++ [moreB n]).length ((pre ++ [moreB n]).map bv) ∧ Below w.heap.size w w1 := by
  refine ⟨?_, by simpa using hown', ?_⟩
  · rw [← Hpre.out, numL_ge hge]; simp
  · exact (hb.alloc hb.size _).grown hg (by have := hb.size; simp; omega) (fun k hk => (hown.lt k hk).1)

theorem num_end {w wr w1 : World} {v n : Nat} {pre : List UInt8} {x x' : Value} {o : Obj} (hlt : n < 128) (Hpre : Hid (pre ++ numL n = numL v)) (hown : wr.ownsRow w.heap.size 5 1 x pre.length (pre.map bv)) (hb : Below w.heap.size w wr)
    (hown' : w1.ownsRow w.heap.size 5 1 x' (pre.length + 1) (pre.map bv ++ [bv (lastB n)])) (hg : (wr.alloc o).grownBy w1 x.ownBlock) :
    w1.ownsRow w.heap.size 5 1 x' (numL v).length ((numL v).map bv) ∧ Below w.heap.size w w1 := by
  refine ⟨?_, (hb.alloc hb.size _).grown hg (by have := hb.size; simp; omega) (fun k hk => (hown.lt k hk).1)⟩
  rw [← Hpre.out, numL_lt hlt]
  simpa using hown'

set_option maxHeartbeats 400000 in
set_option maxRecDepth 100000 in
theorem num_any (v : Nat) (w : World) (hl : (numL v).length ≤ 10) :
    Calls Try.prog 86 #[.int .u64 (v : Int)] w (Gives 5 w (numL v)) := by
  obtain ⟨i0, hi, hz0, hz1, hz2⟩ := info_parts Try.info_u8
  go_enter Try.func86, Try.ntmps86
  go_wp2
  go_loopw [0, 3] (fun a x wr => ∃ (n : Nat) (pre : List UInt8), a = .int .u64 (n : Int) ∧ pre ++ numL n = numL v ∧ wr.ownsRow w.heap.size 5 1 x pre.length (pre.map bv) ∧ Below w.heap.size w wr)
    (fun a _ _ => (intOf a).toNat)
  case atStart => exact ⟨v, [], rfl, rfl, World.ownsRow_nil _ _ _ _, Below.refl _ _⟩
  case round =>
    obtain ⟨n, pre, rfl, hpre, hown, hb⟩ := hrel
    have Hpre := hid hpre
    have hpl : pre.length + 1 ≤ 10 := by
      have := congrArg List.length hpre
      have h2 := numL_pos n
      simp at this; omega
    clear hpre
    have hone : ∀ c, ∀ u ∈ [bv c], u.oneCell' = true := fun c => bv_one [c]
    by_cases hge : 128 ≤ n
    · go_wp2_with (first
        | (at_builtin; refine wpList_append_own _ rfl _ _ 23 rfl w.heap.size 5 i0 (.int .u8 0) 1 1 Try.underlying23 hi hz0 hz1 hz2 rfl (by decide) _ _ _ rfl (hown.alloc _) ⟨wr.heap.size, 0, none⟩ 1 1 [bv (moreB n)] rfl rfl ?c1 ?c2 ?c3 ?c4 ?c5 ?_))
      case c1 => rw [bv_more]; exact (cell_one_new _ _ _)
      case c2 => exact hone _
      case c3 => unfold maxLen; simp; omega
      case c4 => simp; omega
      case c5 => have := hb.size; simp; omega
      intro x' w1 hown' hgrow _
      have R := num_step hge Hpre hown hb hown' hgrow
      clear hown' hgrow hown hb
      go_wp2
      go_roundw
      case rel => exact ⟨n / 128, _, by go_num, R⟩
      case measure => simp [intOf]; omega
    · have hlt : n < 128 := by omega
      clear hge
      go_wp2_with (first
        | (at_builtin; refine wpList_append_own _ rfl _ _ 23 rfl w.heap.size 5 i0 (.int .u8 0) 1 1 Try.underlying23 hi hz0 hz1 hz2 rfl (by decide) _ _ _ rfl (hown.alloc _) ⟨wr.heap.size, 0, none⟩ 1 1 [bv (lastB n)] rfl rfl ?d1 ?d2 ?d3 ?d4 ?d5 ?_))
      case d1 => rw [← bv_last hlt]; exact (cell_one_new _ _ _)
      case d2 => exact hone _
      case d3 => unfold maxLen; simp; omega
      case d4 => simp; omega
      case d5 => have := hb.size; simp; omega
      intro x' w1 hown' hgrow _
      have R := num_end hlt Hpre hown hb hown' hgrow
      clear hown' hgrow hown hb
      go_wp2
      go_ret
      exact ⟨_, rfl, R⟩
end Go.Proofs.Ytiblambiebojmaa

namespace Go.Proofs.Ytiblambiebojmaa

theorem i64_not {v : Int} (h : -9223372036854775808 ≤ v ∧ v ≤ 9223372036854775807) : bits .xor .i64 (-1) v = -1 - v := by
  unfold bits
  have e1 : (BitVec.ofInt 64 (-1)) ^^^ (BitVec.ofInt 64 v) = ~~~ (BitVec.ofInt 64 v) := by
    rw [show (BitVec.ofInt 64 (-1)) = BitVec.allOnes 64 from by decide]
    exact BitVec.allOnes_xor
  show IntKind.i64.wrap (((BitVec.ofInt 64 (-1)) ^^^ (BitVec.ofInt 64 v)).toNat : Int) = -1 - v
  rw [e1, BitVec.toNat_not, IntKind.wrap_i64]
  have e2 : (BitVec.ofInt 64 v).toNat = (v % 18446744073709551616).toNat := by
    rw [BitVec.toNat_ofInt]; rfl
  rw [e2]
  omega

theorem u64_or1 {n : Nat} (h : n < 9223372036854775808) : bits .or .u64 (2 * (n : Int)) 1 = ((2 * n + 1 : Nat) : Int) := by
  have h1 := u64_or_nat (2 * n) 1 (by omega) (by omega)
  have e : 2 * n ||| 1 = 2 * n + 1 := nat_join 1 (2 * n) 1 (by omega) (by omega)
  rw [e] at h1
  simpa using h1

theorem wrap_u64 (n : Int) : IntKind.u64.wrap n = n % 18446744073709551616 := by simp [IntKind.wrap, IntKind.bits, IntKind.signed]

/-- What 'uint64(^v)<<1 | 1' is, v below 0. -/
theorem zig_neg {v : Int} (hv : (Lit.int .i64 v).wf = true) (hn : v < 0) :
    bits BinOp.or IntKind.u64 (IntKind.u64.wrap (IntKind.u64.wrap (bits BinOp.xor IntKind.i64 (-1) v) * 2)) 1 = ((zig v : Nat) : Int) := by
  have hb := bounds_i64 hv
  rw [i64_not hb, wrap_u64, wrap_u64]
  obtain ⟨n, hn2⟩ : ∃ n : Nat, v = -1 - (n : Int) := ⟨(-1 - v).toNat, by omega⟩
  subst hn2
  have e : ((-1 - (-1 - (n : Int))) % 18446744073709551616 * 2) % 18446744073709551616 = 2 * (n : Int) := by omega
  rw [e, u64_or1 (by omega)]
  unfold zig
  rw [if_pos hn]
  omega

/-- What 'uint64(v)<<1' is, v not below 0. -/
theorem zig_pos {v : Int} (hv : (Lit.int .i64 v).wf = true) (hn : 0 ≤ v) :
    IntKind.u64.wrap (IntKind.u64.wrap v * 2) = ((zig v : Nat) : Int) := by
  have hb := bounds_i64 hv
  rw [wrap_u64, wrap_u64]
  unfold zig
  rw [if_neg (by omega)]
  omega

theorem zig_lt {v : Int} (hv : (Lit.int .i64 v).wf = true) : zig v < 2 ^ 64 := by
  have hb := bounds_i64 hv
  unfold zig
  split <;> omega

theorem numL_zig {v : Int} (hv : (Lit.int .i64 v).wf = true) : (numL (zig v)).length ≤ 10 := numL_len10 (zig_lt hv)

end Go.Proofs.Ytiblambiebojmaa

namespace Go.Proofs.Ytiblambiebojmaa
open Go.RowKit

set_option maxHeartbeats 400000 in
set_option maxRecDepth 100000 in
theorem int_any (v : Int) (w : World) (hv : (Lit.int .i64 v).wf = true) :
    Calls Try.prog 115 #[.int .i64 v] w (Gives 5 w (numL (zig v))) := by
  have Hl := numL_zig hv
  by_cases hn : v < 0
  · have Hz := hid (zig_neg hv hn)
    clear hv
    go_enter Try.func115, Try.ntmps115
    go_wp2_with fail
    rw [Hz.out]
    refine (num_any _ _ Hl).mono ?_
    rintro e w' ⟨x, rfl, hx⟩
    go_wp2
    go_ret
    exact ⟨_, rfl, hx⟩
  · have Hz := hid (zig_pos hv (by omega))
    clear hv
    go_enter Try.func115, Try.ntmps115
    go_wp2_with fail
    rw [Hz.out]
    refine (num_any _ _ Hl).mono ?_
    rintro e w' ⟨x, rfl, hx⟩
    go_wp2
    go_ret
    exact ⟨_, rfl, hx⟩

end Go.Proofs.Ytiblambiebojmaa

namespace Go.Proofs.Ytiblambiebojmaa
open Go.RowKit

set_option maxHeartbeats 1000000 in
set_option maxRecDepth 100000 in
theorem bytes_any (x y : Value) (l m : List UInt8) (w : World) (hx : Rd w x l) (hy : Rd w y m) :
    Calls Try.prog 8 #[x, y] w fun e w' => e = .returned (.bool (l == m)) ∧ w = w' := by
  have h1 := fun W (h : Rd W x l) => h.conv (P := Try.prog) 23 9 5 Try.underlying23 Try.underlying5 Try.underlying9
  have c1 := h1 w hx
  have c2 := hy.conv (P := Try.prog) 23 9 5 Try.underlying23 Try.underlying5 Try.underlying9
  clear h1 hx hy
  go_enter Try.func8, Try.ntmps8
  go_wp2_with fail
  go_ret
  exact ⟨rfl, rfl⟩

/-- The bytes of a text. -/
def textL (l : List UInt8) : List UInt8 := numL l.length ++ l

set_option maxHeartbeats 1000000 in
set_option maxRecDepth 100000 in
theorem text_any (x : Value) (l : List UInt8) (w : World) (hx : Rd w x l) (hl : l.length ≤ 140737488355300) :
    Calls Try.prog 87 #[x] w (Gives 5 w (textL l)) := by
  have hn := numL_len10 (v := l.length) (by omega)
  have hw : IntKind.u64.wrap (l.length : Int) = (l.length : Int) := by rw [wrap_u64]; omega
  have hlen := hx.len (P := Try.prog) 23 5
  go_enter Try.func87, Try.ntmps87
  go_wp2_with fail
  refine (num_any _ _ hn).mono ?_
  rintro e w1 h1
  obtain ⟨ao, c, rfl, h2, h3⟩ := h1.elim
  have hx1 := hx.old h3
  clear h1 hlen hw
  go_wp2_with (first
      | (at_builtin; refine wp_app rfl _ _ 23 rfl w.heap.size 5 Try.underlying23 (by kernel_rfl) _ _ _ rfl h2 _ l rfl hx1 ?c1 ?c2 ?_))
  case c1 => omega
  case c2 => exact h3.size
  intro v' w2 hown' hgrow
  have hb : Below w.heap.size w w2 := h3.grown hgrow h3.size (fun k hk => (h2.lt k hk).1)
  clear hgrow h2 hx1
  go_wp2_with fail
  go_ret
  exact ⟨_, rfl, by simpa [textL] using hown', hb⟩
end Go.Proofs.Ytiblambiebojmaa

namespace Go.Proofs.Ytiblambiebojmaa
open Go.RowKit

/-- Rows of that many cells. -/
def Wide (size : Nat) (L : List (List Value)) : Prop := ∀ r ∈ L, r.length = size ∧ ∀ u ∈ r, u.oneCell' = true

theorem Wide.sub {size : Nat} {a b : List (List Value)} (h : Wide size a) (k : ∀ r ∈ b, r ∈ a) : Wide size b := fun r hr => h r (k r hr)

theorem Wide.one {size : Nat} {L : List (List Value)} (h : Wide size L) : ∀ u ∈ L.flatten, u.oneCell' = true := fun u hu => by
  obtain ⟨r, hr, hu⟩ := List.mem_flatten.1 hu
  exact (h r hr).2 u hu

theorem Wide.len {size : Nat} {L : List (List Value)} (h : Wide size L) : L.flatten.length = L.length * size := by
  induction L with
  | nil => simp
  | cons r L ih =>
    have h1 := (h r (by simp)).1
    have h2 := ih (h.sub fun x hx => by simp [hx])
    rw [List.flatten_cons, List.length_append, h1, h2, List.length_cons, Nat.add_mul]
    omega

theorem Wide.at {size : Nat} {L : List (List Value)} (h : Wide size L) : ∀ {k : Nat} {r : List Value}, L[k]? = some r → ∀ {j : Nat} {u : Value}, r[j]? = some u → L.flatten[k * size + j]? = some u := by
  induction L with
  | nil => intro k r hk; simp at hk
  | cons q L ih =>
    intro k r hk j u hj
    have hq := (h q (by simp)).1
    cases k with
    | zero =>
      simp at hk
      subst hk
      have hjl : j < q.length := (List.getElem?_eq_some_iff.1 hj).1
      rw [Nat.zero_mul, Nat.zero_add, List.flatten_cons, List.getElem?_append_left hjl]
      exact hj
    | succ k =>
      have hk' : L[k]? = some r := by simpa using hk
      have h3 := ih (h.sub fun x hx => by simp [hx]) hk' hj
      rw [List.flatten_cons, List.getElem?_append_right (by rw [hq, Nat.add_mul]; omega)]
      have e : (k + 1) * size + j - q.length = k * size + j := by rw [hq, Nat.add_mul]; omega
      rw [e]
      exact h3

/-- The slice x reads as the rows L. -/
def Rws (size : Nat) (w : World) (x : Value) (L : List (List Value)) : Prop :=
  ∃ (ao : Option Addr) (c : Nat), x = .slice ao L.length c ∧ L.length ≤ c ∧ c ≤ maxLen ∧ (ao = none → c = 0) ∧ Wide size L ∧
    ∀ a, ao = some a → ∀ (j : Nat) u, L.flatten[j]? = some u → w.cell? (a.add j) = some u

theorem Rws.nil (size : Nat) (w : World) : Rws size w (.slice none 0 0) [] := ⟨none, 0, rfl, by simp, by simp, (fun _ => rfl), (fun r hr => by cases hr), (fun a h => by cases h)⟩

theorem Rws.wide {size : Nat} {w : World} {x : Value} {L : List (List Value)} (h : Rws size w x L) : Wide size L := by
  obtain ⟨_, _, _, _, _, _, h5, _⟩ := h
  exact h5

theorem Rws.kept {size : Nat} {w w' : World} {x : Value} {L : List (List Value)} {row : Option Nat} (h : Rws size w x L) (hg : w.grownBy w' row) (hne : blk x = none ∨ blk x ≠ row) : Rws size w' x L := by
  obtain ⟨ao, c, rfl, h1, h2, h3, h5, h4⟩ := h
  refine ⟨ao, c, rfl, h1, h2, h3, h5, fun a ha j u hu => ?_⟩
  subst ha
  have h6 := h4 a rfl j u hu
  have hlt := World.block_lt_of_cell? w _ h6
  rw [World.cell?_of_block (w := w) (a := a.add j) (hg.block _ hlt (by rw [add_block]; simpa [blk] using hne))]
  exact h6

theorem Rws.old {size : Nat} {w w' : World} {x : Value} {L : List (List Value)} (h : Rws size w x L) (hb : Below w.heap.size w w') : Rws size w' x L := by
  obtain ⟨ao, c, rfl, h1, h2, h3, h5, h4⟩ := h
  refine ⟨ao, c, rfl, h1, h2, h3, h5, fun a ha j u hu => ?_⟩
  subst ha
  have h6 := h4 a rfl j u hu
  rw [hb.cell (p := a.add j) (World.block_lt_of_cell? w _ h6)]
  exact h6

theorem Rws.len {P : Program} {size : Nat} {w : World} {x : Value} {L : List (List Value)} (h : Rws size w x L) (t e ty : TypeId) (ht : P.underlying t = some (.slice e)) :
    ∀ W, (Builtin.len_ #[t] ty #[x]).run P W = .ok (goInt L.length) W := by
  obtain ⟨ao, c, rfl, h1, h2, h3, _⟩ := h
  have ht' : P.underlying t = some (.slice (P.elem t)) := by simp [Program.elem, ht]
  exact fun W => run_len_slice W t ty _ _ _ ht'

theorem Rws.form {size : Nat} {w : World} {x : Value} {L : List (List Value)} (h : Rws size w x L) : ∃ ao c, x = .slice ao L.length c ∧ L.length ≤ c ∧ c ≤ maxLen := by
  obtain ⟨ao, c, rfl, h1, h2, h3, _⟩ := h
  exact ⟨ao, c, rfl, h1, h2⟩

/-- One row's cells. -/
theorem Rws.get {size : Nat} {w : World} {ao : Option Addr} {n c : Nat} {L : List (List Value)} (h : Rws size w (.slice ao n c) L) (hs : 0 < size) {k : Nat} {r : List Value} (hk : L[k]? = some r) :
    ∃ b off, ao = some ⟨b, off, none⟩ ∧ ∀ (j : Nat) u, r[j]? = some u → w.cell? ⟨b, off + k * size + j, none⟩ = some u := by
  obtain ⟨ao', c', he, h1, h2, h3, h5, h4⟩ := h
  simp only [Value.slice.injEq] at he
  obtain ⟨rfl, rfl, rfl⟩ := he
  have hkl : k < L.length := (List.getElem?_eq_some_iff.1 hk).1
  have hr := h5 r (List.mem_of_getElem? hk)
  cases ao with
  | none => have := h3 rfl; omega
  | some a =>
    obtain ⟨b, off, spot⟩ := a
    have hL0 : L[0]? = some (L[0]'(by omega)) := List.getElem?_eq_getElem (by omega)
    have hr0 := h5 _ (List.mem_of_getElem? hL0)
    have hu0 : (L[0]'(by omega))[0]? = some ((L[0]'(by omega))[0]'(by omega)) := List.getElem?_eq_getElem (by omega)
    have h0 := h4 _ rfl _ _ (h5.at hL0 hu0)
    have hspot : spot = none := by
      rw [Nat.zero_mul, Nat.zero_add] at h0
      simpa [Addr.add] using World.cell?_spot h0
    subst hspot
    refine ⟨b, off, rfl, fun j u hj => ?_⟩
    have := h4 _ rfl _ _ (h5.at hk hj)
    rw [WideShapes.add_plain, ← Nat.add_assoc] at this
    exact this

/-- What the call itself made. -/
theorem Rws.own {size : Nat} {w : World} {base : Nat} {e : TypeId} {x : Value} {L : List (List Value)} (h : w.ownsRow base e size x L.length L.flatten) (hw : Wide size L) : Rws size w x L := by
  obtain ⟨h1, h2⟩ := h
  rcases h2 with ⟨rfl, hn⟩ | ⟨g, cap, cur, rfl, hb, hg, hn, hc, hs, ht⟩
  · obtain rfl : L = [] := List.eq_nil_of_length_eq_zero hn
    exact Rws.nil size w
  · refine ⟨some ⟨g, 0, none⟩, cap, rfl, hn, hc, (fun h => by cases h), hw, fun a ha => ?_⟩
    cases ha
    intro j u hu
    rw [WideShapes.add_plain, Nat.zero_add, cell_of_row w g j cur e (0, 0) hg]
    rw [← ht, List.getElem?_take] at hu
    split at hu
    · simpa using hu
    · cases hu

theorem Rws.take {size : Nat} {w : World} {ao : Option Addr} {m c : Nat} {L : List (List Value)} (h : Rws size w (.slice ao m c) L) (n : Nat) (hn : n ≤ L.length) : Rws size w (.slice ao n c) (L.take n) := by
  obtain ⟨ao', c', he, h1, h2, h3, h5, h4⟩ := h
  simp only [Value.slice.injEq] at he
  obtain ⟨rfl, rfl, rfl⟩ := he
  have hlen : (L.take n).length = n := by rw [List.length_take]; omega
  refine ⟨ao, c, by rw [hlen], by rw [hlen]; omega, h2, h3, h5.sub fun r hr => List.mem_of_mem_take hr, fun a ha j u hu => h4 a ha j u ?_⟩
  have e : L.flatten = (L.take n).flatten ++ (L.drop n).flatten := by rw [← List.flatten_append, List.take_append_drop]
  rw [e, List.getElem?_append_left]
  · exact hu
  · exact (List.getElem?_eq_some_iff.1 hu).1

/-- A row that was laid out by 'buildSlice' or stored whole: one row. -/
theorem Rws.one {w : World} {n size : Nat} {r : List Value} {t : TypeId} (h : n = w.heap.size) (hr : r.length = size ∧ ∀ u ∈ r, u.oneCell' = true) : Rws size (w.alloc (.cells r.toArray t)) (.slice (some ⟨n, 0, none⟩) 1 1) [r] := by
  subst h
  refine ⟨some ⟨w.heap.size, 0, none⟩, 1, rfl, by simp, by unfold maxLen; simp, (fun h => by cases h), (fun q hq => by simp at hq; subst hq; exact hr), fun a ha j u hu => ?_⟩
  cases ha
  rw [WideShapes.add_plain, Nat.zero_add, cell_of_row _ w.heap.size j r.toArray t (0, 0) (heap_alloc_new w _)]
  simpa using hu
end Go.Proofs.Ytiblambiebojmaa

namespace Go.Proofs.Ytiblambiebojmaa
open Go.ChangeShapes Go.WideShapes Go.ChangeAt Go.RowKit

/-- A slice of integers that came in: it is nil; or it leads to a row of 'cap' cells, the numbers 'zs' (the first 'len' are its elements, the rest its spare room), each fitting its kind. -/
def IsRow (k : IntKind) (w : World) (a : Option Addr) (len cap : Nat) (zs : List Int) : Prop :=
  (a = none ∧ len = 0 ∧ cap = 0 ∧ zs = []) ∨
  ∃ x, a = some x ∧ len ≤ cap ∧ cap ≤ maxLen ∧ zs.length = cap ∧ (∀ i, i < zs.length → w.cell? (x.add i) = some (.int k (zs.getD i 0))) ∧ ∀ n ∈ zs, (Lit.int k n).wf = true

/-- Bytes that came in read as bytes. -/
theorem rd_of_row {w : World} {a : Option Addr} {len cap : Nat} {zs : List Int} (h : IsRow .u8 w a len cap zs) : ∃ l : List UInt8, l.length = len ∧ Rd w (.slice a len cap) l := by
  rcases h with ⟨rfl, rfl, rfl, rfl⟩ | ⟨x, rfl, hl, hm, hz, hc, hw⟩
  · exact ⟨[], rfl, Rd.nil w⟩
  · have hlen : ((zs.take len).map fun n => UInt8.ofNat n.toNat).length = len := by simp; omega
    refine ⟨(zs.take len).map fun n => UInt8.ofNat n.toNat, hlen, some x, cap, by rw [hlen], by rw [hlen]; exact hl, hm, (fun h => by cases h), fun a ha j u hu => ?_⟩
    cases ha
    have hj : j < len := by
      have := (List.getElem?_eq_some_iff.1 hu).1
      rw [List.length_map] at this
      omega
    have hjz : j < zs.length := by omega
    rw [hc j hjz]
    have hwj := hw zs[j] (List.getElem_mem hjz)
    have hb := bounds_u8 hwj
    rw [List.map_map, List.getElem?_map, List.getElem?_take_of_lt hj, List.getElem?_eq_getElem hjz] at hu
    simp only [Option.map_some, Option.some.injEq, Function.comp_apply] at hu
    rw [← hu, List.getD_eq_getElem?_getD, List.getElem?_eq_getElem hjz, Option.getD_some]
    unfold bv
    rw [UInt8.toNat_ofNat']
    have e : zs[j] = ((zs[j].toNat % 2 ^ 8 : Nat) : Int) := by omega
    rw [← e]

end Go.Proofs.Ytiblambiebojmaa

set_option linter.unusedVariables false
set_option maxRecDepth 100000
namespace Go.Proofs.Ytiblambiebojmaa
open Go.RowKit Go.ChangeShapes Go.WideShapes Go.ChangeAt Go.Deep

/-- A shape: a number, a signed one, a bool, bytes, a string, a list, and a struct (its fields one by one). -/
inductive Sh where
  | num
  | int
  | bool
  | data
  | name
  | list (s : Sh)
  | nil
  | cons (s r : Sh)

def Sh.wid : Sh → Nat
  | .nil => 0
  | .cons s r => s.wid + r.wid
  | _ => 1

/-- The cells have these plain bytes. -/
def Enc (W : World) : Sh → List Value → List UInt8 → Prop
  | .num, cs, bs => ∃ n : Nat, n < 18446744073709551616 ∧ cs = [.int .u64 (n : Int)] ∧ bs = numL n
  | .int, cs, bs => ∃ z : Int, (Lit.int .i64 z).wf = true ∧ cs = [.int .i64 z] ∧ bs = numL (zig z)
  | .bool, cs, bs => ∃ b : Bool, cs = [.bool b] ∧ bs = numL (if b then 1 else 0)
  | .data, cs, bs => ∃ x l, cs = [x] ∧ x.oneCell' = true ∧ Rd W x l ∧ l.length ≤ 1048576 ∧ bs = textL l
  | .name, cs, bs => ∃ l : List UInt8, cs = [.string ⟨l.toArray⟩] ∧ l.length ≤ 1048576 ∧ bs = textL l
  | .list s, cs, bs => ∃ (a : Option Addr) (c : Nat) (M : List (List Value × List UInt8)), cs = [.slice a M.length c] ∧ Rws s.wid W (.slice a M.length c) (M.map (·.1)) ∧ (∀ m ∈ M, Enc W s m.1 m.2) ∧ M.length ≤ 1048576 ∧ bs = numL M.length ++ (M.map (·.2)).flatten
  | .nil, cs, bs => cs = [] ∧ bs = []
  | .cons s r, cs, bs => ∃ c1 c2 b1 b2, cs = c1 ++ c2 ∧ bs = b1 ++ b2 ∧ Enc W s c1 b1 ∧ Enc W r c2 b2

theorem Enc.old {W W' : World} (hb : Below W.heap.size W W') : ∀ (s : Sh) {cs : List Value} {bs : List UInt8}, Enc W s cs bs → Enc W' s cs bs
  | .num, cs, bs, h => h
  | .int, cs, bs, h => h
  | .bool, cs, bs, h => h
  | .data, cs, bs, h => by
    obtain ⟨x, l, h1, h2, h3, h4⟩ := h
    exact ⟨x, l, h1, h2, h3.old hb, h4⟩
  | .name, cs, bs, h => h
  | .list s, cs, bs, h => by
    obtain ⟨a, c, M, h1, h2, h3, h4⟩ := h
    exact ⟨a, c, M, h1, h2.old hb, fun m hm => Enc.old hb s (h3 m hm), h4⟩
  | .nil, cs, bs, h => h
  | .cons s r, cs, bs, h => by
    obtain ⟨c1, c2, b1, b2, h1, h2, h3, h4⟩ := h
    exact ⟨c1, c2, b1, b2, h1, h2, Enc.old hb s h3, Enc.old hb r h4⟩

/-- How many cells there are; each is one cell. -/
theorem Enc.wide {W : World} : ∀ (s : Sh) {cs : List Value} {bs : List UInt8}, Enc W s cs bs → cs.length = s.wid ∧ ∀ u ∈ cs, u.oneCell' = true
  | .num, cs, bs, h => by obtain ⟨n, _, rfl, _⟩ := h; exact ⟨rfl, fun u hu => by simp at hu; subst hu; rfl⟩
  | .int, cs, bs, h => by obtain ⟨n, _, rfl, _⟩ := h; exact ⟨rfl, fun u hu => by simp at hu; subst hu; rfl⟩
  | .bool, cs, bs, h => by obtain ⟨n, rfl, _⟩ := h; exact ⟨rfl, fun u hu => by simp at hu; subst hu; rfl⟩
  | .data, cs, bs, h => by obtain ⟨x, l, rfl, h2, _⟩ := h; exact ⟨rfl, fun u hu => by simp at hu; subst hu; exact h2⟩
  | .name, cs, bs, h => by obtain ⟨n, rfl, _⟩ := h; exact ⟨rfl, fun u hu => by simp at hu; subst hu; rfl⟩
  | .list s, cs, bs, h => by obtain ⟨a, c, M, rfl, _⟩ := h; exact ⟨rfl, fun u hu => by simp at hu; subst hu; rfl⟩
  | .nil, cs, bs, h => by obtain ⟨rfl, _⟩ := h; exact ⟨rfl, fun u hu => by cases hu⟩
  | .cons s r, cs, bs, h => by
    obtain ⟨c1, c2, b1, b2, rfl, _, h3, h4⟩ := h
    obtain ⟨p1, p2⟩ := Enc.wide s h3
    obtain ⟨q1, q2⟩ := Enc.wide r h4
    refine ⟨by rw [List.length_append, p1, q1]; rfl, fun u hu => ?_⟩
    rcases List.mem_append.1 hu with hu | hu
    · exact p2 u hu
    · exact q2 u hu

/-- A type has the shape. -/
noncomputable def ofF (T : Sh → TypeId → Bool) : Sh → List Field → Nat → Bool
  | .nil, [], _ => true
  | .cons s r, f :: fs, off => f.offset == off && Try.prog.cellsOf f.type == s.wid && T s f.type && ofF T r fs (off + s.wid)
  | _, _, _ => false

noncomputable def ofT : Nat → Sh → TypeId → Bool
  | 0, _, _ => false
  | _ + 1, .num, t => match Try.prog.underlying t with | some (.int .u64) => true | _ => false
  | _ + 1, .int, t => match Try.prog.underlying t with | some (.int .i64) => true | _ => false
  | _ + 1, .bool, t => match Try.prog.underlying t with | some .bool => true | _ => false
  | _ + 1, .data, t => t == 23
  | _ + 1, .name, t => match Try.prog.underlying t with | some .string => true | _ => false
  | n + 1, .list s, t => match Try.prog.underlying t with | some (.slice e) => Try.prog.cellsOf e == s.wid && ofT n s e | _ => false
  | n + 1, s, t => match Try.prog.underlying t with | some (.struct fs) => Try.prog.cellsOf t == s.wid && ofF (ofT n) s fs.toList 0 | _ => false

variable {H : Type} {enc : TypeId × Value → H} {W : World}

theorem bulk_mem {ds : List (DataW H)} : ∀ {d : DataW H}, d ∈ ds → Rows.uptoBulk d ≤ Rows.uptoBulkAll ds := by
  induction ds with
  | nil => intro d h; cases h
  | cons x r ih =>
    intro d h
    simp only [Rows.uptoBulkAll]
    rcases List.mem_cons.1 h with rfl | h
    · omega
    · have := ih h; omega

theorem bulk_lits {k : IntKind} (zs : List Int) : Rows.uptoBulkAll (H := H) (lits k zs) = zs.length := by
  induction zs with
  | nil => rfl
  | cons z zs ih =>
    show Rows.uptoBulkAll ((.lit (.int k z)) :: lits k zs) = _
    simp only [Rows.uptoBulkAll, ih, Rows.uptoBulk, List.length_cons]
    omega

theorem textL_le (l : List UInt8) (h : l.length < 2 ^ 64) : (textL l).length ≤ 10 + l.length := by
  have := numL_len10 h
  unfold textL
  rw [List.length_append]
  omega

/-- What is of a shape, read as data, has plain bytes. -/
def Opens (n : Nat) : Prop := ∀ (s : Sh) (t : TypeId) (m : Nat) (cs : List Value) (y : DataW H × List MemPlace), ofT n s t = true → DataW.trod enc Try.prog W 0 (fun _ => true) true m t cs = some y →
    Rows.uptoBulk y.1 ≤ 1048576 → ∃ bs, Enc W s cs bs ∧ bs.length ≤ 10 * Rows.uptoBulk y.1

theorem fields_open {k : Nat} (hk : Opens (enc := enc) (W := W) k) (n : Nat) (cs : List Value) : ∀ (s : Sh) (fs : List Field) (off : Nat) (xs : List (DataW H × List MemPlace)),
    ofF (ofT k) s fs off = true → xs.length = fs.length → (∀ (j : Nat) (f : Field), fs[j]? = some f → DataW.trod enc Try.prog W 0 (fun _ => true) true n f.type ((cs.drop f.offset).take (Try.prog.cellsOf f.type)) = xs[j]?) →
    cs.length = off + s.wid → Rows.uptoBulkAll (xs.map (·.1)) ≤ 1048576 → ∃ bs, Enc W s (cs.drop off) bs ∧ bs.length ≤ 10 * Rows.uptoBulkAll (xs.map (·.1))
  | .nil, [], off, [], _, _, _, hc, _ => by
    refine ⟨[], ⟨?_, rfl⟩, by simp⟩
    apply List.drop_eq_nil_of_le
    simp [Sh.wid] at hc
    omega
  | .cons s r, f :: fs, off, y :: xs, h, hl, hx, hc, hb => by
    simp only [ofF, Bool.and_eq_true, beq_iff_eq] at h
    obtain ⟨⟨⟨h1, h2⟩, h3⟩, h4⟩ := h
    simp only [List.map_cons, Rows.uptoBulkAll] at hb
    have t0 := hx 0 f rfl
    simp only [List.getElem?_cons_zero] at t0
    rw [h1, h2] at t0
    obtain ⟨b1, e1, l1⟩ := hk s _ _ _ _ h3 t0 (by omega)
    have hc' : cs.length = off + s.wid + r.wid := by simp only [Sh.wid] at hc; omega
    obtain ⟨b2, e2, l2⟩ := fields_open hk n cs r fs (off + s.wid) xs h4 (by simpa using hl) (fun j g hg => by simpa using hx (j + 1) g (by simpa using hg)) hc' (by omega)
    refine ⟨b1 ++ b2, ⟨_, _, b1, b2, ?_, rfl, e1, e2⟩, ?_⟩
    · rw [← List.drop_drop, List.take_append_drop]
    · rw [List.length_append]
      simp only [List.map_cons, Rows.uptoBulkAll]
      omega

theorem struct_open {n : Nat} (ih : Opens (enc := enc) (W := W) n) (s : Sh) (t : TypeId) (m : Nat) (cs : List Value) (y : DataW H × List MemPlace)
    (h : (match Try.prog.underlying t with | some (.struct fs) => Try.prog.cellsOf t == s.wid && ofF (ofT n) s fs.toList 0 | _ => false) = true)
    (ht : DataW.trod enc Try.prog W 0 (fun _ => true) true m t cs = some y) (hb : Rows.uptoBulk y.1 ≤ 1048576) : ∃ bs, Enc W s cs bs ∧ bs.length ≤ 10 * Rows.uptoBulk y.1 := by
  split at h
  · rename_i fs hu
    simp only [Bool.and_eq_true, beq_iff_eq] at h
    obtain ⟨xs, k, _, rfl, hl, hlen, hf⟩ := DataW.trod_struct hu ht
    simp only [Rows.uptoBulk] at hb
    obtain ⟨bs, e, l⟩ := fields_open ih k cs s fs.toList 0 xs h.2 (by simpa using hlen) (fun j f hj => hf j f (by simpa using hj)) (by rw [hl, h.1]; omega) (by omega)
    refine ⟨bs, by simpa using e, ?_⟩
    simp only [Rows.uptoBulk]
    omega
  · cases h

theorem opens : ∀ n, Opens (enc := enc) (W := W) n
  | 0 => fun s t m cs y h => by cases h
  | n + 1 => fun s t m cs y h ht hb => by
    have ih := opens n
    cases s with
    | num =>
      simp only [ofT] at h
      split at h
      · rename_i hu
        obtain ⟨i, rfl, rfl, hw⟩ := DataW.trod_int hu ht
        have hbd := bounds_u64 hw
        obtain ⟨k, rfl⟩ : ∃ k : Nat, i = (k : Int) := ⟨i.toNat, by omega⟩
        refine ⟨numL k, ⟨k, by omega, rfl, rfl⟩, ?_⟩
        have := numL_len10 (v := k) (by omega)
        simp only [Rows.uptoBulk]
        omega
      · cases h
    | int =>
      simp only [ofT] at h
      split at h
      · rename_i hu
        obtain ⟨i, rfl, rfl, hw⟩ := DataW.trod_int hu ht
        refine ⟨_, ⟨i, hw, rfl, rfl⟩, ?_⟩
        have := numL_zig hw
        simp only [Rows.uptoBulk]
        omega
      · cases h
    | bool =>
      simp only [ofT] at h
      split at h
      · rename_i hu
        obtain ⟨b, rfl, rfl⟩ := DataW.trod_bool hu ht
        refine ⟨_, ⟨b, rfl, rfl⟩, ?_⟩
        have := numL_len10 (v := if b then 1 else 0) (by split <;> decide)
        simp only [Rows.uptoBulk]
        omega
      · cases h
    | data =>
      simp only [ofT, beq_iff_eq] at h
      subst h
      rcases open_ints Try.underlying23 Try.underlying5 (by kernel_rfl) ht with ⟨hcs, hx⟩ | ⟨x, l, c, zs, hcs, _, hl, hm, hz, hx, hcell, hwz⟩
      · subst hcs; subst hx
        refine ⟨_, ⟨_, [], rfl, rfl, Rd.nil W, by simp, rfl⟩, ?_⟩
        have := textL_le [] (by simp)
        simp only [Rows.uptoBulk]
        simp at this
        omega
      · have hz' : zs.length = c := by simpa using hz
        obtain ⟨b, hbl, hr⟩ := rd_of_row (w := W) (a := some x) (len := l) (cap := c) (zs := zs) (.inr ⟨_, rfl, hl, hm, hz', hcell, hwz⟩)
        subst hbl
        subst hcs
        rw [hx] at hb ⊢
        simp only [Rows.uptoBulk, bulk_lits, List.length_take, List.length_drop] at hb ⊢
        refine ⟨_, ⟨_, b, rfl, rfl, hr, by omega, rfl⟩, ?_⟩
        have := textL_le b (by omega)
        omega
    | name =>
      simp only [ofT] at h
      split at h
      · rename_i hu
        obtain ⟨b, rfl, rfl, _⟩ := DataW.trod_string hu ht
        simp only [Rows.uptoBulk] at hb ⊢
        refine ⟨_, ⟨b.data.toList, by simp, by omega, rfl⟩, ?_⟩
        have := textL_le b.data.toList (by omega)
        omega
      · cases h
    | list s =>
      simp only [ofT] at h
      split at h
      · rename_i e hu
        simp only [Bool.and_eq_true, beq_iff_eq] at h
        obtain ⟨hw, ho⟩ := h
        rcases open_slice hu ht with ⟨hcs, hx⟩ | ⟨x, len, cap, m', n', D, Pl, hcs, _, hl, hm, hmm, hx, hcell⟩
        · subst hcs; subst hx
          refine ⟨_, ⟨none, 0, [], rfl, Rws.nil _ W, (fun m hm => by cases hm), by simp, rfl⟩, ?_⟩
          have := numL_len10 (v := 0) (by omega)
          simp only [Rows.uptoBulk]
          simp
          omega
        · rw [hw] at hcell
          rw [hx] at hb ⊢
          simp only [Rows.uptoBulk] at hb ⊢
          have hmem : ∀ i, i < len → Rows.uptoBulk (D i) ≤ Rows.uptoBulkAll ((List.range len).map D) := fun i hi => bulk_mem (List.mem_map.2 ⟨i, List.mem_range.2 hi, rfl⟩)
          have key : ∀ i, i < len → ∃ v : List Value × List UInt8, (∀ j u, v.1[j]? = some u → W.cell? (x.add (i * s.wid + j)) = some u) ∧ Enc W s v.1 v.2 ∧ v.2.length ≤ 10 * Rows.uptoBulk (D i) := by
            intro i hi
            obtain ⟨cs', h1, h2⟩ := hcell i (by rw [hmm]; simp; omega)
            have := hmem i hi
            obtain ⟨bs, e1, e2⟩ := ih s _ _ _ _ ho h2 (by show Rows.uptoBulk (D i) ≤ _; omega)
            obtain ⟨_, hl2, hc⟩ := World.cells?_some h1
            refine ⟨(cs', bs), fun j u hj => ?_, e1, e2⟩
            have hjl := (List.getElem?_eq_some_iff.1 hj).1
            have := hc j (by rw [← hl2]; exact hjl)
            rw [add_add] at this
            rw [this]
            exact hj
          obtain ⟨f, hf2⟩ := choose_lt key
          have hlen : ((List.range len).map f).length = len := by simp
          have hge : len ≤ Rows.uptoBulkAll ((List.range len).map D) := by
            have hone : ∀ d : DataW H, 1 ≤ Rows.uptoBulk d := fun d => by
              cases d with
              | lit l => cases l <;> simp [Rows.uptoBulk]
              | _ => simp [Rows.uptoBulk]
            have : ∀ l : List (DataW H), l.length ≤ Rows.uptoBulkAll l := fun l => by
              induction l with
              | nil => simp
              | cons d l ih => simp only [Rows.uptoBulkAll, List.length_cons]; have := hone d; omega
            simpa using this ((List.range len).map D)
          have hrd : ∀ m ∈ (List.range len).map f, Enc W s m.1 m.2 := fun m hm => by
            obtain ⟨i, hi, rfl⟩ := List.mem_map.1 hm
            exact (hf2 i (List.mem_range.1 hi)).2.1
          have hwd : Wide s.wid (((List.range len).map f).map (·.1)) := fun r hr => by
            obtain ⟨m, hm, rfl⟩ := List.mem_map.1 hr
            exact (hrd m hm).wide
          have hsum : ∀ l : List Nat, (∀ i ∈ l, i < len) → ((l.map f).map (·.2)).flatten.length ≤ 10 * Rows.uptoBulkAll (l.map D) := fun l => by
            induction l with
            | nil => intro _; simp
            | cons i l ihl =>
              intro hl
              have h1 := (hf2 i (hl i (by simp))).2.2
              have h2 := ihl fun j hj => hl j (by simp [hj])
              simp only [List.map_cons, List.flatten_cons, List.length_append, Rows.uptoBulkAll]
              omega
          subst hcs
          refine ⟨numL len ++ (((List.range len).map f).map (·.2)).flatten, ⟨some x, cap, (List.range len).map f, by rw [hlen], ⟨some x, cap, by simp, by rw [List.length_map, hlen]; exact hl, hm, (fun h => by cases h), hwd, fun a ha j u hu => ?_⟩, hrd, by rw [hlen]; omega, by rw [hlen]⟩, ?_⟩
          · cases ha
            have hjl := (List.getElem?_eq_some_iff.1 hu).1
            rw [hwd.len, List.length_map, hlen] at hjl
            have hpos : 0 < s.wid := by
              rcases Nat.eq_zero_or_pos s.wid with h | h
              · rw [h] at hjl; omega
              · exact h
            have hk : j / s.wid < len := Nat.div_lt_of_lt_mul (by rw [Nat.mul_comm]; exact hjl)
            have h1 : (((List.range len).map f).map (·.1))[j / s.wid]? = some (f (j / s.wid)).1 := by
              rw [List.getElem?_map, List.getElem?_map, List.getElem?_range hk]
              rfl
            have hmod : j % s.wid < (f (j / s.wid)).1.length := by rw [((hf2 _ hk).2.1).wide.1]; exact Nat.mod_lt _ hpos
            have h2 : (f (j / s.wid)).1[j % s.wid]? = some ((f (j / s.wid)).1[j % s.wid]'hmod) := List.getElem?_eq_getElem _
            have h3 := hwd.at h1 h2
            have e : j / s.wid * s.wid + j % s.wid = j := by rw [Nat.mul_comm]; exact Nat.div_add_mod j s.wid
            rw [e, hu] at h3
            have h4 := (hf2 (j / s.wid) hk).1 (j % s.wid) u (by rw [h2]; exact h3.symm)
            rw [e] at h4
            exact h4
          · have h1 := hsum (List.range len) fun i hi => List.mem_range.1 hi
            have h2 := numL_len10 (v := len) (by omega)
            rw [List.length_append]
            omega
      · cases h
    | nil => exact struct_open ih .nil t m cs y h ht hb
    | cons s r => exact struct_open ih (.cons s r) t m cs y h ht hb
end Go.Proofs.Ytiblambiebojmaa

namespace Go.Proofs.Ytiblambiebojmaa
open Go.RowKit

theorem bv_more2 (n : Nat) : Value.int IntKind.u8 ((n : Int) % 128 + 128) = bv (moreB n) := by
  unfold bv
  rw [moreB_toNat]
  have e : ((n % 128 + 128 : Nat) : Int) = (n : Int) % 128 + 128 := by omega
  rw [e]

set_option maxHeartbeats 400000 in
set_option maxRecDepth 100000 in
theorem rnum_any (v : Nat) (w : World) (hl : (numL v).length ≤ 10) (hv : v < 2 ^ 64) :
    Calls Try.prog 50 #[.int .u64 (v : Int)] w (Gives 5 w (numL v)) := by
  obtain ⟨i0, hi, hz0, hz1, hz2⟩ := info_parts Try.info_u8
  have HV := hid hv
  clear hv
  go_enter Try.func50, Try.ntmps50
  go_wp2
  go_loopw [0, 3] (fun a x wr => ∃ (n : Nat) (pre : List UInt8), n ≤ v ∧ a = .int .u64 (n : Int) ∧ pre ++ numL n = numL v ∧ wr.ownsRow w.heap.size 5 1 x pre.length (pre.map bv) ∧ Below w.heap.size w wr)
    (fun a _ _ => (intOf a).toNat)
  case atStart => exact ⟨v, [], Nat.le_refl _, rfl, rfl, World.ownsRow_nil _ _ _ _, Below.refl _ _⟩
  case round =>
    obtain ⟨n, pre, hnv, rfl, hpre, hown, hb⟩ := hrel
    have hw : IntKind.u64.wrap ((n : Int) / 128) = (n : Int) / 128 := by rw [wrap_u64]; have := HV.out; omega
    have Hpre := hid hpre
    have hpl : pre.length + 1 ≤ 10 := by
      have := congrArg List.length hpre
      have h2 := numL_pos n
      simp at this; omega
    clear hpre
    have hone : ∀ c, ∀ u ∈ [bv c], u.oneCell' = true := fun c => bv_one [c]
    by_cases hge : 128 ≤ n
    · go_wp2_with (first
        | (at_builtin; refine wpList_append_own _ rfl _ _ 23 rfl w.heap.size 5 i0 (.int .u8 0) 1 1 Try.underlying23 hi hz0 hz1 hz2 rfl (by decide) _ _ _ rfl (hown.alloc _) ⟨wr.heap.size, 0, none⟩ 1 1 [bv (moreB n)] rfl rfl ?c1 ?c2 ?c3 ?c4 ?c5 ?_))
      case c1 => rw [← bv_more2]; exact (cell_one_new _ _ _)
      case c2 => exact hone _
      case c3 => unfold maxLen; simp; omega
      case c4 => simp; omega
      case c5 => have := hb.size; simp; omega
      intro x' w1 hown' hgrow _
      have R := num_step hge Hpre hown hb hown' hgrow
      clear hown' hgrow hown hb
      go_wp2
      go_roundw
      case rel => exact ⟨n / 128, _, by omega, by go_num, R⟩
      case measure => simp [intOf]; omega
    · have hlt : n < 128 := by omega
      clear hge
      go_wp2_with (first
        | (at_builtin; refine wpList_append_own _ rfl _ _ 23 rfl w.heap.size 5 i0 (.int .u8 0) 1 1 Try.underlying23 hi hz0 hz1 hz2 rfl (by decide) _ _ _ rfl (hown.alloc _) ⟨wr.heap.size, 0, none⟩ 1 1 [bv (lastB n)] rfl rfl ?d1 ?d2 ?d3 ?d4 ?d5 ?_))
      case d1 => rw [← bv_last hlt]; exact (cell_one_new _ _ _)
      case d2 => exact hone _
      case d3 => unfold maxLen; simp; omega
      case d4 => simp; omega
      case d5 => have := hb.size; simp; omega
      intro x' w1 hown' hgrow _
      have R := num_end hlt Hpre hown hb hown' hgrow
      clear hown' hgrow hown hb
      go_wp2
      go_ret
      exact ⟨_, rfl, R⟩

/-- What 'uint64(-(v+1))*2 + 1' is, v below 0. -/
theorem rzig_neg {v : Int} (hv : (Lit.int .i64 v).wf = true) (hn : v < 0) :
    wrap64 (v + 1) = v + 1 ∧ wrap64 (-(v + 1)) = -(v + 1) ∧ IntKind.u64.wrap (-(v + 1)) = -(v + 1) ∧ IntKind.u64.wrap (-(v + 1) * 2) = -(v + 1) * 2 ∧ IntKind.u64.wrap (-(v + 1) * 2 + 1) = ((zig v : Nat) : Int) := by
  have hb := bounds_i64 hv
  refine ⟨?_, ?_, ?_, ?_, ?_⟩
  · simp only [wrap64]; omega
  · simp only [wrap64]; omega
  · rw [wrap_u64]; omega
  · rw [wrap_u64]; omega
  · rw [wrap_u64]; unfold zig; rw [if_pos hn]; omega

theorem rzig_pos {v : Int} (hv : (Lit.int .i64 v).wf = true) (hn : 0 ≤ v) :
    IntKind.u64.wrap v = v ∧ IntKind.u64.wrap (v * 2) = ((zig v : Nat) : Int) := by
  have hb := bounds_i64 hv
  refine ⟨?_, ?_⟩
  · rw [wrap_u64]; omega
  · rw [wrap_u64]; unfold zig; rw [if_neg (by omega)]; omega

set_option maxHeartbeats 400000 in
set_option maxRecDepth 100000 in
theorem rint_any (v : Int) (w : World) (hv : (Lit.int .i64 v).wf = true) :
    Calls Try.prog 64 #[.int .i64 v] w (Gives 5 w (numL (zig v))) := by
  have Hl := numL_zig hv
  have Hlt := hid (zig_lt hv)
  by_cases hn : v < 0
  · obtain ⟨f1, f2, f3, f4, f5⟩ := rzig_neg hv hn
    have Hz := hid f5
    clear hv f5
    go_enter Try.func64, Try.ntmps64
    go_wp2_with fail
    rw [Hz.out]
    refine (rnum_any _ _ Hl Hlt.out).mono ?_
    rintro e w' ⟨x, rfl, hx⟩
    go_wp2
    go_ret
    exact ⟨_, rfl, hx⟩
  · obtain ⟨f1, f2⟩ := rzig_pos hv (by omega)
    have Hz := hid f2
    clear hv f2
    go_enter Try.func64, Try.ntmps64
    go_wp2_with fail
    rw [Hz.out]
    refine (rnum_any _ _ Hl Hlt.out).mono ?_
    rintro e w' ⟨x, rfl, hx⟩
    go_wp2
    go_ret
    exact ⟨_, rfl, hx⟩

set_option maxHeartbeats 1000000 in
set_option maxRecDepth 100000 in
theorem rtext_any (x : Value) (l : List UInt8) (w : World) (hx : Rd w x l) (hl : l.length ≤ 140737488355300) :
    Calls Try.prog 51 #[x] w (Gives 5 w (textL l)) := by
  have hn := numL_len10 (v := l.length) (by omega)
  have hw : IntKind.u64.wrap (l.length : Int) = (l.length : Int) := by rw [wrap_u64]; omega
  have hlen := hx.len (P := Try.prog) 23 5
  go_enter Try.func51, Try.ntmps51
  go_wp2_with fail
  refine (rnum_any _ _ hn (by omega)).mono ?_
  rintro e w1 h1
  obtain ⟨ao, c, rfl, h2, h3⟩ := h1.elim
  have hx1 := hx.old h3
  clear h1 hlen hw
  go_wp2_with (first
      | (at_builtin; refine wp_app rfl _ _ 23 rfl w.heap.size 5 Try.underlying23 (by kernel_rfl) _ _ _ rfl h2 _ l rfl hx1 ?c1 ?c2 ?_))
  case c1 => omega
  case c2 => exact h3.size
  intro v' w2 hown' hgrow
  have hb : Below w.heap.size w w2 := h3.grown hgrow h3.size (fun k hk => (h2.lt k hk).1)
  clear hgrow h2 hx1
  go_wp2_with fail
  go_ret
  exact ⟨_, rfl, by simpa [textL] using hown', hb⟩
end Go.Proofs.Ytiblambiebojmaa

