import Derived.Test.YtpdmocdfnakggaaDoorRows
import Derived.WalkKit
import Derived.WalkSpells
import Derived.WalkLawsBesides
import Derived.Laws.AppendOwnNone
import Derived.Test.YtpdmocdfnakggaaDoorProg
import Derived.LaidEql
import Derived.Stop.Asserts
import Derived.RowKitTokens
set_option linter.unusedVariables false
set_option linter.unusedSimpArgs false
namespace Go.Proofs.YtpdmocdfnakggaaDoor
open Go.RowKit

theorem hid {p : Prop} (h : p) : Hid p := h

/-- A byte's cell. -/
def bv (c : UInt8) : Value := .int .u8 (c.toNat : Int)

theorem bv_one (l : List UInt8) : ∀ u ∈ l.map bv, u.oneCell' = true := by
  intro u hu
  obtain ⟨_, _, rfl⟩ := List.mem_map.1 hu
  rfl

/-- The block that a slice lies in. -/
def blk : Value → Option Nat
  | .slice (some a) _ _ => some a.block
  | _ => none

/-- The slice x reads as the bytes l. -/
def Rd (w : World) (x : Value) (l : List UInt8) : Prop :=
  ∃ (ao : Option Addr) (c : Nat), x = .slice ao l.length c ∧ l.length ≤ c ∧ c ≤ maxLen ∧ (ao = none → c = 0) ∧
    ∀ a, ao = some a → ∀ (j : Nat) u, (l.map bv)[j]? = some u → w.cell? (a.add j) = some u

theorem Rd.nil (w : World) : Rd w (.slice none 0 0) [] := ⟨none, 0, rfl, by simp, by simp, fun _ => rfl, fun a h => by cases h⟩

theorem add_block (a : Addr) (j : Nat) : (a.add j).block = a.block := by unfold Addr.add; split <;> rfl

/-- What is read stays read, where its block is left alone. -/
theorem Rd.kept {w w' : World} {x : Value} {l : List UInt8} {row : Option Nat} (h : Rd w x l) (hg : w.grownBy w' row) (hne : blk x = none ∨ blk x ≠ row) : Rd w' x l := by
  obtain ⟨ao, c, rfl, h1, h2, h3, h4⟩ := h
  refine ⟨ao, c, rfl, h1, h2, h3, fun a ha j u hu => ?_⟩
  subst ha
  have h6 := h4 a rfl j u hu
  have hlt := World.block_lt_of_cell? w _ h6
  rw [World.cell?_of_block (w := w) (a := a.add j) (hg.block _ hlt (by rw [add_block]; simpa [blk] using hne))]
  exact h6

/-- Behind a call that leaves all that was there. -/
theorem Rd.old {w w' : World} {x : Value} {l : List UInt8} (h : Rd w x l) (hb : Below w.heap.size w w') : Rd w' x l := by
  obtain ⟨ao, c, rfl, h1, h2, h3, h4⟩ := h
  refine ⟨ao, c, rfl, h1, h2, h3, fun a ha j u hu => ?_⟩
  subst ha
  have h6 := h4 a rfl j u hu
  rw [hb.cell (p := a.add j) (World.block_lt_of_cell? w _ h6)]
  exact h6

theorem Rd.below {w0 w w' : World} {x : Value} {l : List UInt8} (h : Rd w0 x l) (hb0 : Below w0.heap.size w0 w) (hb : Below w0.heap.size w w') : Rd w' x l := h.old (hb0.trans hb)

theorem Rd.alloc {w : World} {x : Value} {l : List UInt8} (h : Rd w x l) (o : Obj) : Rd (w.alloc o) x l := h.old ((Below.refl _ _).alloc (Nat.le_refl _) o)

/-- What the call itself made. -/
theorem Rd.own {w : World} {base : Nat} {e : TypeId} {x : Value} {l : List UInt8} (h : w.ownsRow base e 1 x l.length (l.map bv)) : Rd w x l := by
  obtain ⟨h1, h2⟩ := h
  rcases h2 with ⟨rfl, hn⟩ | ⟨g, cap, cur, rfl, hb, hg, hn, hc, hs, ht⟩
  · obtain rfl : l = [] := List.eq_nil_of_length_eq_zero hn
    exact Rd.nil w
  · refine ⟨some ⟨g, 0, none⟩, cap, rfl, hn, hc, (fun h => by cases h), fun a ha => ?_⟩
    cases ha
    intro j u hu
    rw [WideShapes.add_plain, Nat.zero_add, cell_of_row w g j cur e (0, 0) hg]
    rw [← ht, List.getElem?_take] at hu
    split at hu
    · simpa using hu
    · cases hu

/-- 'string(x)'. -/
theorem Rd.conv {P : Program} {w : World} {x : Value} {l : List UInt8} (h : Rd w x l) (src dst e : TypeId) (hs : P.underlying src = some (.slice e)) (he : P.underlying e = some (.int .u8)) (hd : P.underlying dst = some .string) :
    (convert src dst x).run P w = .ok (.string ⟨l.toArray⟩) w := by
  obtain ⟨ao, c, rfl, h1, h2, h3, h4⟩ := h
  cases ao with
  | none =>
    obtain rfl : l = [] := List.eq_nil_of_length_eq_zero (by have := h3 rfl; omega)
    rw [run_convert_bytes_nil w src e hs he _ _ dst hd]
    rfl
  | some a =>
    rw [run_convert_bytes_string w src dst e _ _ _ hs he hd]
    have hl : (loadCells a l.length).run P w = .ok ((l.map fun x => (x.toNat : Int)).map (Value.int .u8)).toArray w := by
      have := run_loadCells_list (P := P) w a (l.map bv) (h4 a rfl)
      have e1 : (l.map fun x => (x.toNat : Int)).map (Value.int .u8) = l.map bv := by rw [List.map_map]; rfl
      rw [e1]
      simpa using this
    rw [run_bytesToString w a l.length c (l.map fun x => (x.toNat : Int)) hl, foldl_push_bytes]
    congr 2
    simp [ByteArray.empty, ByteArray.emptyWithCapacity, Function.comp_def]
    rfl

/-- 'append(v, x...)', v the call's own, x whatever. -/
theorem wp_app {P : Program} {w : World} {ops : Array Oper} {rest : List Oper} {o : Oper} {a : Act} {Q : Exit → Act → World → Prop} (hgd : o.guard = none) (s x : Operand) (t : TypeId)
    (ho : o.op = .call { callee := .builtin .append, args := #[s, x], argTypes := #[t, t] })
    (base : Nat) (e : TypeId) (ht : P.underlying t = some (.slice e)) (hinfo : (P.info? e).map (fun i => (i.zero, i.size, i.bytes)) = some (some (.int .u8 0), 1, 1))
    (v : Value) (n : Nat) (xs : List Value) (hs : a.eval s = v) (hown : w.ownsRow base e 1 v n xs)
    (y : Value) (l : List UInt8) (hx : a.eval x = y) (hr : Rd w y l) (hn : n + l.length ≤ 140737488355328) (hbase : base ≤ w.heap.size)
    (h : ∀ v' w', w'.ownsRow base e 1 v' (n + l.length) (xs ++ l.map bv) → w.grownBy w' v.ownBlock → wpList P ops Q rest (a.put o.dst v') w') : wpList P ops Q (o :: rest) a w := by
  obtain ⟨i0, hi, hz0, hz1, hz2⟩ := info_parts hinfo
  obtain ⟨ao, c, rfl, h1, h2, h3, h4⟩ := hr
  cases ao with
  | some ad =>
    exact wpList_append_own w hgd s x t ho base e i0 (.int .u8 0) 1 1 ht hi hz0 hz1 hz2 rfl (by decide) v n xs hs hown ad l.length c (l.map bv) hx (by simp) (h4 ad rfl) (bv_one l)
      (by unfold maxLen; omega) (by omega) hbase fun v' w' a1 a2 _ => h v' w' a1 a2
  | none =>
    have hc := h3 rfl
    obtain rfl : l = [] := List.eq_nil_of_length_eq_zero (by omega)
    subst hc
    exact wpList_append_own_none hgd s x t ho base e i0 1 ht hi v n xs hs hown hx (h v w (by simpa using hown) (World.grownBy.refl _ _))

/-- What is owned from a later block on is owned from an earlier one on. -/
theorem ownsRow_base {w : World} {base base' : Nat} {e : TypeId} {size : Nat} {v : Value} {n : Nat} {xs : List Value} (h : w.ownsRow base e size v n xs) (hb : base' ≤ base) : w.ownsRow base' e size v n xs := by
  obtain ⟨h1, h2⟩ := h
  rcases h2 with h2 | ⟨g, cap, cur, hv, hg, r⟩
  · exact ⟨h1, .inl h2⟩
  · exact ⟨h1, .inr ⟨g, cap, cur, hv, Nat.le_trans hb hg, r⟩⟩

theorem grown_below {w w' : World} (h : Below w.heap.size w w') (row : Option Nat) : w.grownBy w' row := ⟨h.os, h.tape, h.output, h.size, fun k hk _ => h.block k hk⟩

theorem grown_set (w : World) (a : Addr) (v : Value) : w.grownBy (w.setCell a v) (some a.block) :=
  ⟨rfl, rfl, rfl, by simp [World.setCell], fun k _ hne => Below.heap_setCell _ _ _ _ (fun e => hne (by rw [e]))⟩

theorem grown_trans {a b c : World} {row : Option Nat} (h : a.grownBy b row) (k : b.grownBy c row) : a.grownBy c row :=
  ⟨k.os.trans h.os, k.tape.trans h.tape, k.output.trans h.output, Nat.le_trans h.size k.size, fun i hi hne => (k.block i (Nat.lt_of_lt_of_le hi h.size) hne).trans (h.block i hi hne)⟩

/-- What is owned stays owned behind a call that leaves all that was there. -/
theorem own_old {w w' : World} {base : Nat} {e : TypeId} {size : Nat} {v : Value} {n : Nat} {xs : List Value} (h : w.ownsRow base e size v n xs) (hb : Below w.heap.size w w') : w'.ownsRow base e size v n xs :=
  h.kept (grown_below hb none) (by cases v.ownBlock <;> simp)

theorem heap_kept {w w' : World} {row : Option Nat} (h : w.grownBy w' row) {k : Nat} {o : Obj} (hk : w.heap[k]? = some o) (hne : some k ≠ row) : w'.heap[k]? = some o := by
  rw [h.block k (lt_of_block hk) hne]; exact hk

theorem two_cells {w : World} {b : Nat} {u v : Value} {t : TypeId} (h : w.heap[b]? = some (.cells #[u, v] t (0, 0))) :
    w.cell? ⟨b, 0, none⟩ = some u ∧ w.cell? ⟨b, 1, none⟩ = some v ∧ w.frozen? ⟨b, 0, none⟩ = false ∧ w.frozen? ⟨b, 1, none⟩ = false := by
  simp [World.cell?, World.frozen?, h]

/-- 'x[:n]'. -/
theorem Rd.head {P : Program} {w : World} {x : Value} {l : List UInt8} (h : Rd w x l) (t e : TypeId) (ht : P.underlying t = some (.slice e)) (hinfo : (P.info? e).map (fun i => (i.zero, i.size, i.bytes)) = some (some (.int .u8 0), 1, 1)) (n : Nat) (hn : n ≤ l.length) :
    ∃ (ao : Option Addr) (c : Nat), (∀ k W, (Instr.slice t x none (some (.int k (n : Int))) none).run P W = .ok (.slice ao n c) W) ∧ Rd w (.slice ao n c) (l.take n) ∧ (∀ k, blk (.slice ao n c) = some k → blk x = some k) := by
  obtain ⟨i0, hi, hz0, hz1, hz2⟩ := info_parts hinfo
  obtain ⟨ao, c, rfl, h1, h2, h3, h4⟩ := h
  have ht' : P.underlying t = some (.slice (P.elem t)) := by simp [Program.elem, ht]
  have he : P.elem t = e := by simp [Program.elem, ht]
  have hs : ∀ W, (sizeOf e).run P W = .ok 1 W := fun W => by simp [sizeOf, typeInfo, hi, hz1]
  have hlen : (l.take n).length = n := by rw [List.length_take]; omega
  have hsame : (if c = 0 then ao else ao.map (·.add (0 * 1))) = ao := by
    split
    · rfl
    · cases ao <;> simp [Addr.add]
  refine ⟨ao, c, fun k W => ?_, ⟨ao, c, by rw [hlen], by rw [hlen]; omega, h2, h3, fun a ha j u hu => ?_⟩, fun k hk => by cases ao with | none => simp [blk] at hk | some a => simpa [blk] using hk⟩
  · rw [run_slice_h W t _ _ _ ht' k _ (by omega) (by omega), he, hs]
    simp only [Result.andThen, sliced]
    rw [hsame]
    simp
  · refine h4 a ha j u ?_
    rw [List.map_take, List.getElem?_take] at hu
    split at hu
    · exact hu
    · cases hu

theorem Rd.take {w : World} {ao : Option Addr} {m c : Nat} {l : List UInt8} (h : Rd w (.slice ao m c) l) (n : Nat) (hn : n ≤ l.length) : Rd w (.slice ao n c) (l.take n) := by
  obtain ⟨ao', c', he, h1, h2, h3, h4⟩ := h
  simp only [Value.slice.injEq] at he
  obtain ⟨rfl, rfl, rfl⟩ := he
  have hlen : (l.take n).length = n := by rw [List.length_take]; omega
  refine ⟨ao, c, by rw [hlen], by rw [hlen]; omega, h2, h3, fun a ha j u hu => h4 a ha j u ?_⟩
  rw [List.map_take, List.getElem?_take] at hu
  split at hu
  · exact hu
  · cases hu

theorem Rd.len {P : Program} {w : World} {x : Value} {l : List UInt8} (h : Rd w x l) (t e ty : TypeId) (ht : P.underlying t = some (.slice e)) :
    ∀ W, (Builtin.len_ #[t] ty #[x]).run P W = .ok (goInt l.length) W := by
  obtain ⟨ao, c, rfl, h1, h2, h3, h4⟩ := h
  have ht' : P.underlying t = some (.slice (P.elem t)) := by simp [Program.elem, ht]
  exact fun W => run_len_slice W t ty _ _ _ ht'

/-- The bytes that one value makes: what a call gives back, in new memory. -/
def Gives (e8 : TypeId) (w : World) (l : List UInt8) (e : Ending) (w' : World) : Prop :=
  ∃ x, e = .returned x ∧ w'.ownsRow w.heap.size e8 1 x l.length (l.map bv) ∧ Below w.heap.size w w'

/-- The value's shape, for the walk. -/
theorem Gives.elim {e8 : TypeId} {w : World} {l : List UInt8} {e : Ending} {w' : World} (h : Gives e8 w l e w') :
    ∃ (ao : Option Addr) (c : Nat), e = .returned (.slice ao l.length c) ∧ w'.ownsRow w.heap.size e8 1 (.slice ao l.length c) l.length (l.map bv) ∧ Below w.heap.size w w' := by
  obtain ⟨x, rfl, h1, h2⟩ := h
  obtain ⟨ao, c, rfl, _⟩ := Rd.own h1
  exact ⟨ao, c, rfl, h1, h2⟩

end Go.Proofs.YtpdmocdfnakggaaDoor

namespace Go.Proofs.YtpdmocdfnakggaaDoor
open Go.RowKit Go.Extern.Stop Go.Stop Go.Extern

/-- The type's handle. -/
theorem methodKind (h : Value) (w : World) : (Go.method 295 141 (.agg #[h]) "Kind").run Tryd.prog w = .ok (102, h) w := by kernel_rfl
theorem methodElem (h : Value) (w : World) : (Go.method 295 141 (.agg #[h]) "Elem").run Tryd.prog w = .ok (115, .agg #[h]) w := by kernel_rfl
theorem methodImplements (h : Value) (w : World) : (Go.method 295 141 (.agg #[h]) "Implements").run Tryd.prog w = .ok (116, .agg #[h]) w := by kernel_rfl
theorem methodAssignableTo (h : Value) (w : World) : (Go.method 295 141 (.agg #[h]) "AssignableTo").run Tryd.prog w = .ok (113, .agg #[h]) w := by kernel_rfl
theorem valueOfC (t : Addr) (w : World) : (ReflectliteValue.unpack (.iface 105 (.pointer (some t)))).run Tryd.prog w
    = .ok (.agg #[.pointer (some ⟨1, 105, none⟩), .pointer (some ⟨w.heap.size, 0, none⟩), .int .u64 150]) (w.alloc (.cells #[.pointer (some t)] 105)) := by kernel_rfl
theorem typeC (a : Addr) (w : World) : (ReflectliteValue.methodAny (ReflectliteValue.valueError "reflectlite.Value.Type" 0) (fun t _ _ _ => ReflectliteType.toType t) #[.agg #[.pointer (some ⟨1, 105, none⟩), .pointer (some a), .int .u64 150]]).run Tryd.prog w
    = .ok (.iface 141 (.agg #[.pointer (some ⟨1, 105, none⟩)])) w := by kernel_rfl
theorem kindPC (w : World) : ((ReflectliteType.abiMethod fun t => (fun a : Nat => Value.int IntKind.u8 (a : Int)) <$> Rtype.kind t) #[.pointer (some ⟨1, 105, none⟩)]).run Tryd.prog w = .ok (.int .u8 22) w := by kernel_rfl
theorem kindC (w : World) : ((ReflectliteType.abiMethod fun t => (fun a : Nat => Value.int IntKind.u8 (a : Int)) <$> Rtype.kind t) #[.pointer (some ⟨1, 50, none⟩)]).run Tryd.prog w = .ok (.int .u8 2) w := by kernel_rfl
theorem elemC (w : World) : (ReflectliteType.method ReflectliteType.elem #[.agg #[.pointer (some ⟨1, 105, none⟩)]]).run Tryd.prog w = .ok (.iface 141 (.agg #[.pointer (some ⟨1, 50, none⟩)])) w := by kernel_rfl
theorem implementsC (w : World) : (ReflectliteType.relation "Implements" ReflectliteType.implements_ #[.agg #[.pointer (some ⟨1, 50, none⟩)], .iface 141 (.agg #[.pointer (some ⟨1, 66, none⟩)])]).run Tryd.prog w = .ok (.bool true) w := by kernel_rfl
theorem typeOfC (v : Value) (w : World) : (ReflectliteType.typeOf #[.iface 50 v]).run Tryd.prog w = .ok (.iface 141 (.agg #[.pointer (some ⟨1, 50, none⟩)])) w := by kernel_rfl
theorem typeOfF (v : Value) (w : World) : (ReflectliteType.typeOf #[.iface 109 v]).run Tryd.prog w = .ok (.iface 141 (.agg #[.pointer (some ⟨1, 109, none⟩)])) w := by kernel_rfl
theorem assCC (w : World) : (ReflectliteType.relation "AssignableTo" ReflectliteType.assignableTo #[.agg #[.pointer (some ⟨1, 50, none⟩)], .iface 141 (.agg #[.pointer (some ⟨1, 50, none⟩)])]).run Tryd.prog w = .ok (.bool true) w := by kernel_rfl
theorem assFC (w : World) : (ReflectliteType.relation "AssignableTo" ReflectliteType.assignableTo #[.agg #[.pointer (some ⟨1, 109, none⟩)], .iface 141 (.agg #[.pointer (some ⟨1, 50, none⟩)])]).run Tryd.prog w = .ok (.bool false) w := by kernel_rfl
theorem valueOfErrno (n : Int) (w : World) : (ReflectliteValue.unpack (.iface 50 (.int .i64 n))).run Tryd.prog w
    = .ok (.agg #[.pointer (some ⟨1, 50, none⟩), .pointer (some ⟨w.heap.size, 0, none⟩), .int .u64 130]) (w.alloc (.cells #[.int .i64 n] 50)) := by kernel_rfl
theorem rlm (z : Sem Value) (f : TypeId → Addr → Nat → Nat → Sem Value) (v : Value) :
    ReflectliteValue.method z f #[v] = (do match ← ReflectliteValue.parts v with | none => z | some (t, a, fl) => f t a fl (fl % 32)) := rfl
theorem partsC (a : Addr) (w : World) : (ReflectliteValue.parts (.agg #[.pointer (some ⟨1, 105, none⟩), .pointer (some a), .int .u64 150])).run Tryd.prog w = .ok (some (105, a, 150)) w := by kernel_rfl
theorem isNilC (a p : Addr) (W : World) (ha : W.cell? a = some (.pointer (some p))) :
    (ReflectliteValue.method (ReflectliteValue.valueError "reflectlite.Value.IsNil" 0) ReflectliteValue.isNil #[.agg #[.pointer (some ⟨1, 105, none⟩), .pointer (some a), .int .u64 150]]).run Tryd.prog W = .ok (.bool false) W := by
  rw [rlm]
  simp only [Sem.run_bind, partsC, Result.andThen]
  simp [ReflectliteValue.isNil, loadVar, isAgg, underlying, Tryd.underlying105, ha, Result.andThen]
theorem elemOfC (w : World) : (Rtype.elem? 105).run Tryd.prog w = .ok (some 50) w := by kernel_rfl
theorem mkC (p : Addr) (w : World) : (ReflectliteValue.mk 50 p ReflectliteValue.flagAddr).run Tryd.prog w = .ok (.agg #[.pointer (some ⟨1, 50, none⟩), .pointer (some p), .int .u64 386]) w := by kernel_rfl
theorem elemVC (a p : Addr) (W : World) (ha : W.cell? a = some (.pointer (some p))) :
    (ReflectliteValue.method (ReflectliteValue.valueError "reflectlite.Value.Elem" 0) ReflectliteValue.elem #[.agg #[.pointer (some ⟨1, 105, none⟩), .pointer (some a), .int .u64 150]]).run Tryd.prog W
      = .ok (.agg #[.pointer (some ⟨1, 50, none⟩), .pointer (some p), .int .u64 386]) W := by
  rw [rlm]
  simp only [Sem.run_bind, partsC, Result.andThen]
  simp [ReflectliteValue.elem, loadVar, isAgg, underlying, Tryd.underlying105, ha, Result.andThen, elemOfC, mkC]
theorem rls (v x : Value) : ReflectliteValue.set #[v, x] = (do
    let (some (dst, a, fl), some (src, b, _)) := (← ReflectliteValue.parts v, ← ReflectliteValue.parts x)
      | unsupported (.noEntry "extern/(internal/reflectlite.Value).Set.zeroValue")
    if fl / ReflectliteValue.flagAddr % 2 == 0 then unsupported (.noEntry "extern/(internal/reflectlite.Value).Set.unaddressable")
    let val ← loadVar src b
    if ← Rtype.directlyAssignable dst src then storeVar dst a val
    else if ← Rtype.implements dst src then
      if (← Rtype.kind src) == 20 then
        match val with
        | .nilIface => unsupported (.noEntry "extern/reflectlite: a nil value of one interface type handed on as a value of another")
        | _ => storeVar dst a val
      else storeVar dst a (.iface src val)
    else panicString ("reflectlite.Set: value of type " ++ (← Rtype.spelt src) ++ " is not assignable to type " ++ (← Rtype.spelt dst))
    pure (.tuple #[])) := rfl
theorem partsCa (a : Addr) (w : World) : (ReflectliteValue.parts (.agg #[.pointer (some ⟨1, 50, none⟩), .pointer (some a), .int .u64 386])).run Tryd.prog w = .ok (some (50, a, 386)) w := by kernel_rfl
theorem partsCv (a : Addr) (w : World) : (ReflectliteValue.parts (.agg #[.pointer (some ⟨1, 50, none⟩), .pointer (some a), .int .u64 130])).run Tryd.prog w = .ok (some (50, a, 130)) w := by kernel_rfl
theorem directC (w : World) : (Rtype.directlyAssignable 50 50).run Tryd.prog w = .ok true w := by kernel_rfl
theorem setC (ta b : Addr) (n : Int) (old : Value) (W : World) (hb : W.cell? b = some (.int .i64 n)) (ht : W.cell? ta = some old) (hf : W.frozen? ta = false) :
    (ReflectliteValue.set #[.agg #[.pointer (some ⟨1, 50, none⟩), .pointer (some ta), .int .u64 386], .agg #[.pointer (some ⟨1, 50, none⟩), .pointer (some b), .int .u64 130]]).run Tryd.prog W
      = .ok (.tuple #[]) (W.setCell ta (.int .i64 n)) := by
  rw [rls]
  simp only [Sem.run_bind, partsCa, partsCv, Result.andThen]
  simp [ReflectliteValue.flagAddr, loadVar, isAgg, underlying, Tryd.underlying50, hb, Result.andThen, directC, storeVar, Value.cells, storeCells, Addr.add]
  rw [run_store Tryd.prog W ta _ _ (by rfl)]
  simp [ht, hf]
theorem noAsF (v : Value) (xT : TypeId) (w : World) : (Instr.typeAssert (.iface 109 v) xT 156 true).run Tryd.prog w = .ok (.tuple #[.nilIface, .bool false]) w := run_typeAssert_lacksB Tryd.underlying156 (by kernel_rfl) (by kernel_rfl) v xT w
theorem hasUnF (v : Value) (xT : TypeId) (w : World) : (Instr.typeAssert (.iface 109 v) xT 146 true).run Tryd.prog w = .ok (.tuple #[.iface 109 v, .bool true]) w := run_typeAssert_hasB Tryd.underlying146 (by kernel_rfl) v xT w
theorem methodUnwrap (v : Value) (w : World) : (Go.method 295 109 v "Unwrap").run Tryd.prog w = .ok (108, v) w := by kernel_rfl
end Go.Proofs.YtpdmocdfnakggaaDoor

set_option linter.unusedVariables false
namespace Go.Proofs.YtpdmocdfnakggaaDoor
open Go.RowKit Go.Extern.Stop Go.Stop Go.Extern

/-- What stands behind all faults: a code, or an error of errors.New's make. -/
inductive End where
  | code (n : Int)
  | text (s : ByteArray)

def Ends (w : World) : End → Value → Prop
  | .code n, v => v = .iface 50 (.int .i64 n)
  | .text s, v => False

/-- One more than the block that an error's value leads to. -/
def rk : Value → Nat
  | .iface _ (.pointer (some a)) => a.block + 1
  | _ => 0

/-- (A cause was there before what wraps it.) -/
def Chain (w : World) : List ByteArray → End → Value → Prop
  | [], d, v => Ends w d v
  | s :: r, d, v => ∃ b c, v = .iface 109 (.pointer (some ⟨b, 0, none⟩)) ∧ w.heap[b]? = some (.cells #[.string s, c] 111 (0, 0)) ∧ rk c ≤ b ∧ Chain w r d c

/-- Errors stay, and the variable of the library. -/
structure Keeps (w w' : World) : Prop where
  zero : w'.heap[0]? = w.heap[0]?
  errs : ∀ (k : Nat) (cs : Array Value) (T : TypeId), (T = 111 ∨ False) → w.heap[k]? = some (Obj.cells cs T (0, 0)) → w'.heap[k]? = some (Obj.cells cs T (0, 0))

theorem Keeps.refl (w : World) : Keeps w w := ⟨rfl, fun _ _ _ _ h => h⟩
theorem Keeps.below {w w' : World} (h : Below w.heap.size w w') (h0 : 0 < w.heap.size) : Keeps w w' := ⟨h.block 0 h0, fun k cs T _ hk => by rw [h.block k (lt_of_block hk)]; exact hk⟩
/-- Where one block was written that is no error's. -/
theorem Keeps.grown {w w' : World} {t : Nat} {cs : Array Value} {T : TypeId} (h : w.grownBy w' (some t)) (ht : w.heap[t]? = some (.cells cs T (0, 0))) (hT : T ≠ 111) (h0 : t ≠ 0) : Keeps w w' := by
  have hlt := lt_of_block ht
  refine ⟨h.block 0 (by omega) (fun e => h0 (by cases e; rfl)), fun k cs' T' hT' hk => ?_⟩
  rw [h.block k (lt_of_block hk) (fun e => ?_)]
  · exact hk
  · cases e
    rw [ht] at hk
    cases hk
    rcases hT' with rfl | h9
    · exact hT rfl
    · exact h9.elim
theorem Ends.kept {w w' : World} {d : End} {v : Value} (h : Ends w d v) (hk : Keeps w w') : Ends w' d v := by
  cases d with
  | code n => exact h
  | text s => exact h.elim
theorem Chain.kept {w w' : World} {d : End} (hk : Keeps w w') : ∀ {l : List ByteArray} {v : Value}, Chain w l d v → Chain w' l d v
  | [], _, h => Ends.kept h hk
  | s :: r, v, h => by
    obtain ⟨b, c, hv, hb, hc, hr⟩ := h
    exact ⟨b, c, hv, hk.errs _ _ _ (.inl rfl) hb, hc, Chain.kept hk hr⟩
theorem Chain.rk_le {w : World} {d : End} : ∀ {l : List ByteArray} {v : Value}, Chain w l d v → rk v ≤ w.heap.size
  | [], _, h => by
    cases d with
    | code n => obtain rfl := h; exact Nat.zero_le _
    | text s => exact h.elim
  | s :: r, v, h => by obtain ⟨b, c, rfl, hb, _⟩ := h; exact lt_of_block hb

/-- The variable errors.errorType holds the handle of the type 'error'. -/
def Ready (w : World) : Prop := w.cell? ⟨0, 0, none⟩ = some (.iface 141 (.agg #[.pointer (some ⟨1, 66, none⟩)]))
theorem Ready.lt {w : World} (h : Ready w) : 0 < w.heap.size := World.block_lt_of_cell? w _ h
theorem Ready.kept {w w' : World} (h : Ready w) (hk : Keeps w w') : Ready w' := by
  unfold Ready
  have := World.cell?_of_block (w := w) (w' := w') (a := ⟨0, 0, none⟩) hk.zero
  rw [this]
  exact h

/-- A chain's value is no nil. -/
theorem Chain.shape {w : World} {d : End} : ∀ {l : List ByteArray} {v : Value}, Chain w l d v → ∃ T x, v = .iface T x
  | [], _, h => by
    cases d with
    | code n => exact ⟨_, _, h⟩
    | text s => exact h.elim
  | _ :: _, _, h => by obtain ⟨b, c, hv, _⟩ := h; exact ⟨_, _, hv⟩

theorem Chain.no {w : World} {s : ByteArray} : ∀ {l : List ByteArray} {v : Value}, Chain w l (.text s) v → False
  | [], _, h => h.elim
  | _ :: _, _, h => by obtain ⟨_, _, _, _, _, hr⟩ := h; exact Chain.no hr

theorem wrap_nil (s : ByteArray) (w : World) : Calls Tryd.prog 45 #[.nilIface, .string s] w fun e w' => e = .returned .nilIface ∧ w' = w := by
  go_enter Tryd.func45, Tryd.ntmps45
  go_wp2
  go_ret
  exact ⟨rfl, rfl⟩
theorem wrap_any (T : TypeId) (x : Value) (s : ByteArray) (w : World) : Calls Tryd.prog 45 #[.iface T x, .string s] w fun e w' =>
    e = .returned (.iface 109 (.pointer (some ⟨w.heap.size, 0, none⟩))) ∧ w' = w.alloc (.cells #[.string s, .iface T x] 111) := by
  go_enter Tryd.func45, Tryd.ntmps45
  go_wp2
  go_ret
  exact ⟨rfl, rfl⟩
theorem new_any (n : Int) (hn : n ≠ 0) (s : ByteArray) (w : World) : Calls Tryd.prog 52 #[.int .i64 n, .string s] w fun e w' =>
    e = .returned (.iface 109 (.pointer (some ⟨w.heap.size, 0, none⟩))) ∧ w' = w.alloc (.cells #[.string s, .iface 50 (.int .i64 n)] 111) := by
  have hd : (n == 0) = false := by simp [hn]
  go_enter Tryd.func52, Tryd.ntmps52
  go_wp2_with (go_at_call 45; refine (wrap_any _ _ _ _).mono ?_; rintro e w' ⟨rfl, rfl⟩)
  go_ret
  exact ⟨rfl, rfl⟩
theorem ke_alloc_at (w : World) (o : Obj) : (w.alloc o).heap[w.heap.size]? = some o := by
  show (w.heap.push o)[w.heap.size]? = _
  simp
theorem ke_alloc_old {w : World} {o o' : Obj} {k : Nat} (h : w.heap[k]? = some o') : (w.alloc o).heap[k]? = some o' := by
  rw [Below.heap_alloc _ _ _ (lt_of_block h)]; exact h

/-- Wrapped once more. -/
theorem Chain.cons {w : World} {l : List ByteArray} {d : End} {v : Value} (h : Chain w l d v) (h0 : 0 < w.heap.size) (s : ByteArray) :
    Chain (w.alloc (.cells #[.string s, v] 111)) (s :: l) d (.iface 109 (.pointer (some ⟨w.heap.size, 0, none⟩))) :=
  ⟨w.heap.size, v, rfl, ke_alloc_at _ _, h.rk_le, h.kept (Keeps.below ((Below.refl _ _).alloc (Nat.le_refl _) _) h0)⟩
theorem Chain.first {w : World} (n : Int) (h0 : 0 < w.heap.size) (s : ByteArray) :
    Chain (w.alloc (.cells #[.string s, .iface 50 (.int .i64 n)] 111)) [s] (.code n) (.iface 109 (.pointer (some ⟨w.heap.size, 0, none⟩))) :=
  Chain.cons (l := []) (d := .code n) (w := w) rfl h0 s
theorem munwrap_any (b : Nat) (s : ByteArray) (c : Value) (w : World) (h : w.heap[b]? = some (.cells #[.string s, c] 111 (0, 0))) :
    Calls Tryd.prog 108 #[.pointer (some ⟨b, 0, none⟩)] w fun e w' => e = .returned c ∧ w' = w := by
  have h1 : w.cell? ⟨b, 1, none⟩ = some c := by simp [World.cell?, h]
  go_enter Tryd.func108, Tryd.ntmps108
  go_wp2
  go_ret
  exact ⟨rfl, rfl⟩
end Go.Proofs.YtpdmocdfnakggaaDoor

set_option linter.unusedVariables false
namespace Go.Proofs.YtpdmocdfnakggaaDoor
open Go.RowKit Go.Extern.Stop Go.Stop Go.Extern

theorem ke_one_cell {w : World} {t : Nat} {u : Value} {T : TypeId} (h : w.heap[t]? = some (.cells #[u] T (0, 0))) : w.cell? ⟨t, 0, none⟩ = some u ∧ w.frozen? ⟨t, 0, none⟩ = false := by
  simp [World.cell?, World.frozen?, h]
theorem ke_one_set {w : World} {t : Nat} {u : Value} {T : TypeId} (h : w.heap[t]? = some (.cells #[u] T (0, 0))) (x : Value) : (w.setCell ⟨t, 0, none⟩ x).heap[t]? = some (.cells #[x] T (0, 0)) := by
  have hlt := lt_of_block h
  have h' : w.heap[t] = .cells #[u] T (0, 0) := by simpa [Array.getElem?_eq_getElem hlt] using h
  show (w.heap.modify t _)[t]? = _
  rw [Array.getElem?_eq_getElem (by simpa using hlt), Array.getElem_modify_self, h']
  rfl
theorem ke_grown_alloc (w : World) (o : Obj) (row : Option Nat) : w.grownBy (w.alloc o) row := grown_below ((Below.refl _ _).alloc (Nat.le_refl _) o) row

set_option maxHeartbeats 4000000 in
set_option maxRecDepth 100000 in
theorem as_code (w : World) (t v : Nat) (old : Value) (n : Int) (l : List ByteArray) (e : Value) (hc : Chain w l (.code n) e)
    (ht : w.heap[t]? = some (.cells #[old] 50 (0, 0))) (hv : w.heap[v]? = some (.cells #[.pointer (some ⟨t, 0, none⟩)] 105 (0, 0))) :
    Calls Tryd.prog 75 #[e, .iface 105 (.pointer (some ⟨t, 0, none⟩)), .agg #[.pointer (some ⟨1, 105, none⟩), .pointer (some ⟨v, 0, none⟩), .int .u64 150], .iface 141 (.agg #[.pointer (some ⟨1, 50, none⟩)])] w fun ev w' =>
      ev = .returned (.bool true) ∧ w'.heap[t]? = some (.cells #[.int .i64 n] 50 (0, 0)) ∧ w.grownBy w' (some t) := by
  have h10 := @run_callFunc_extern Tryd.prog 65 _ ReflectliteType.typeOf Tryd.func65 (by kernel_rfl) (by kernel_rfl) (by kernel_rfl) (by kernel_rfl)
  have h35 := @run_callFunc_extern Tryd.prog 113 _ (ReflectliteType.relation "AssignableTo" ReflectliteType.assignableTo) Tryd.func113 (by kernel_rfl) (by kernel_rfl) (by kernel_rfl) (by kernel_rfl)
  have h11 := @run_callFunc_extern Tryd.prog 82 _ (ReflectliteValue.method (ReflectliteValue.valueError "reflectlite.Value.Elem" 0) ReflectliteValue.elem) Tryd.func82 (by kernel_rfl) (by kernel_rfl) (by kernel_rfl) (by kernel_rfl)
  have h12 := @run_callFunc_extern Tryd.prog 83 _ ReflectliteValue.set Tryd.func83 (by kernel_rfl) (by kernel_rfl) (by kernel_rfl) (by kernel_rfl)
  have h6 := @run_callFunc_extern Tryd.prog 72 _ (fun args => ReflectliteValue.unpack (args.getD 0 (.tuple #[]))) Tryd.func72 (by kernel_rfl) (by kernel_rfl) (by kernel_rfl) (by kernel_rfl)
  have mA := methodAssignableTo
  have tC := typeOfC
  have tF := typeOfF
  have aC := assCC
  have aF := assFC
  have vE := valueOfErrno
  have nA := noAsF
  have hU := hasUnF
  have mU := methodUnwrap
  have c0 := (ke_one_cell ht).1
  have f0 := (ke_one_cell ht).2
  have cv := (ke_one_cell hv).1
  have tlt := lt_of_block ht
  have vlt := lt_of_block hv
  have HT := hid ht
  clear ht hv
  go_enter Tryd.func75, Tryd.ntmps75
  go_wp2
  go_loopw [0] (fun x wr => ∃ l', Chain w l' (.code n) x ∧ wr = w.alloc (.cells #[.pointer (some ⟨1, 105, none⟩), .pointer (some ⟨v, 0, none⟩), .int .u64 150] 129)) (fun x _ => rk x)
  case atStart => exact ⟨l, hc, rfl⟩
  case round =>
    obtain ⟨l', hx, rfl⟩ := hrel
    cases l' with
    | nil =>
      obtain rfl := hx
      have cv1 : (w.alloc (.cells #[.pointer (some ⟨1, 105, none⟩), .pointer (some ⟨v, 0, none⟩), .int .u64 150] 129)).cell? ⟨v, 0, none⟩ = some (.pointer (some ⟨t, 0, none⟩)) := by rw [World.cell?_alloc_lt _ _ ⟨v, 0, none⟩ vlt]; exact cv
      have el := elemVC ⟨v, 0, none⟩ ⟨t, 0, none⟩ (w.alloc (.cells #[.pointer (some ⟨1, 105, none⟩), .pointer (some ⟨v, 0, none⟩), .int .u64 150] 129)) cv1
      have st := setC ⟨t, 0, none⟩ ⟨w.heap.size + 1, 0, none⟩ n old ((w.alloc (.cells #[.pointer (some ⟨1, 105, none⟩), .pointer (some ⟨v, 0, none⟩), .int .u64 150] 129)).alloc (.cells #[.int .i64 n] 50))
        (by rw [World.cell?_alloc_at _ _ _ _ (by simp)]; rfl)
        (by rw [World.cell?_alloc_lt _ _ ⟨t, 0, none⟩ (by simp; omega), World.cell?_alloc_lt _ _ ⟨t, 0, none⟩ tlt]; exact c0)
        (by rw [World.frozen?_alloc_old _ _ ⟨t, 0, none⟩ (by simp; omega), World.frozen?_alloc_old _ _ ⟨t, 0, none⟩ (Nat.ne_of_lt tlt)]; exact f0)
      go_wp2
      go_ret
      exact ⟨rfl, ke_alloc_old (ke_alloc_old (ke_one_set HT.out _)), grown_trans (grown_trans (grown_set _ ⟨t, 0, none⟩ _) (ke_grown_alloc _ _ _)) (ke_grown_alloc _ _ _)⟩
    | cons s r =>
      obtain ⟨b, c, rfl, hb, hrk, hr⟩ := hx
      obtain ⟨T, x, rfl⟩ := hr.shape
      have HR := hid hr
      have HK := hid hrk
      clear hr hrk
      have hb1 : (w.alloc (.cells #[.pointer (some ⟨1, 105, none⟩), .pointer (some ⟨v, 0, none⟩), .int .u64 150] 129)).heap[b]? = some (.cells #[.string s, .iface T x] 111 (0, 0)) := ke_alloc_old hb
      have HB := hid hb1
      clear hb1 hb
      go_wp2_with (first | (go_at_call 108; refine (munwrap_any b s _ _ HB.out).mono ?_; rintro ev w' ⟨rfl, rfl⟩))
      go_roundw
      case rel => exact ⟨r, HR.out, trivial⟩
      case measure => have := HK.out; simp only [rk] at this ⊢; omega

end Go.Proofs.YtpdmocdfnakggaaDoor

set_option linter.unusedVariables false
namespace Go.Proofs.YtpdmocdfnakggaaDoor
open Go.RowKit Go.Extern.Stop Go.Stop Go.Extern

set_option maxHeartbeats 4000000 in
set_option maxRecDepth 100000 in
theorem eas_code (w : World) (t : Nat) (old : Value) (n : Int) (l : List ByteArray) (e : Value) (hg : Ready w) (hc : Chain w l (.code n) e)
    (ht : w.heap[t]? = some (.cells #[old] 50 (0, 0))) :
    Calls Tryd.prog 58 #[e, .iface 105 (.pointer (some ⟨t, 0, none⟩))] w fun ev w' => ev = .returned (.bool true) ∧ w'.heap[t]? = some (.cells #[.int .i64 n] 50 (0, 0)) ∧ w.grownBy w' (some t) := by
  have h6 := @run_callFunc_extern Tryd.prog 72 _ (fun args => ReflectliteValue.unpack (args.getD 0 (.tuple #[]))) Tryd.func72 (by kernel_rfl) (by kernel_rfl) (by kernel_rfl) (by kernel_rfl)
  have h7 := @run_callFunc_extern Tryd.prog 73 _ (ReflectliteValue.methodAny (ReflectliteValue.valueError "reflectlite.Value.Type" 0) (fun t _ _ _ => ReflectliteType.toType t)) Tryd.func73 (by kernel_rfl) (by kernel_rfl) (by kernel_rfl) (by kernel_rfl)
  have h8 := @run_callFunc_extern Tryd.prog 74 _ (ReflectliteValue.method (ReflectliteValue.valueError "reflectlite.Value.IsNil" 0) ReflectliteValue.isNil) Tryd.func74 (by kernel_rfl) (by kernel_rfl) (by kernel_rfl) (by kernel_rfl)
  have h27 := @run_callFunc_extern Tryd.prog 102 _ (ReflectliteType.abiMethod fun t => do pure (.int .u8 (← Rtype.kind t))) Tryd.func102 (by kernel_rfl) (by kernel_rfl) (by kernel_rfl) (by kernel_rfl)
  have h37 := @run_callFunc_extern Tryd.prog 115 _ (ReflectliteType.method ReflectliteType.elem) Tryd.func115 (by kernel_rfl) (by kernel_rfl) (by kernel_rfl) (by kernel_rfl)
  have h38 := @run_callFunc_extern Tryd.prog 116 _ (ReflectliteType.relation "Implements" ReflectliteType.implements_) Tryd.func116 (by kernel_rfl) (by kernel_rfl) (by kernel_rfl) (by kernel_rfl)
  have f6 := valueOfC
  have f7 := typeC
  have mK := methodKind
  have mE := methodElem
  have mI := methodImplements
  have k1 := kindPC
  have k2 := kindC
  have e1 := elemC
  have i1 := implementsC
  have hlt := hg.lt
  have hK : Keeps w ((w.alloc (.cells #[.pointer (some ⟨t, 0, none⟩)] 105)).alloc (.cells #[.pointer (some ⟨1, 105, none⟩), .pointer (some ⟨w.heap.size, 0, none⟩), .int .u64 150] 129)) :=
    Keeps.below (((Below.refl _ _).alloc (Nat.le_refl _) _).alloc (by simp) _) hlt
  have hg2 := hg.kept hK
  have HC := hid (hc.kept hK)
  have HT := hid (ke_alloc_old (o := .cells #[.pointer (some ⟨1, 105, none⟩), .pointer (some ⟨w.heap.size, 0, none⟩), .int .u64 150] 129) (ke_alloc_old (o := .cells #[.pointer (some ⟨t, 0, none⟩)] 105) ht))
  have hv := ke_alloc_old (o := .cells #[.pointer (some ⟨1, 105, none⟩), .pointer (some ⟨w.heap.size, 0, none⟩), .int .u64 150] 129) (ke_alloc_at w (.cells #[.pointer (some ⟨t, 0, none⟩)] 105))
  have n8 := isNilC ⟨w.heap.size, 0, none⟩ ⟨t, 0, none⟩ _ (ke_one_cell hv).1
  have HV := hid hv
  have HB := hid (((Below.refl w.heap.size w).alloc (Nat.le_refl _) (.cells #[.pointer (some ⟨t, 0, none⟩)] 105)).alloc (by simp) (.cells #[.pointer (some ⟨1, 105, none⟩), .pointer (some ⟨w.heap.size, 0, none⟩), .int .u64 150] 129))
  unfold Ready at hg2
  obtain ⟨T, x, rfl⟩ := hc.shape
  clear hg hc ht hK hv
  go_enter Tryd.func58, Tryd.ntmps58
  go_wp2_with (first | (go_at_call 75; refine (as_code _ t w.heap.size old n l _ HC.out HT.out HV.out).mono ?_; rintro ev w' ⟨rfl, h1, h2⟩))
  go_ret
  exact ⟨rfl, h1, grown_trans (grown_below HB.out _) h2⟩

end Go.Proofs.YtpdmocdfnakggaaDoor

set_option linter.unusedVariables false
namespace Go.Proofs.YtpdmocdfnakggaaDoor
open Go.RowKit Go.Extern.Stop Go.Stop Go.Extern

/-- The code that a chain with that end has. -/
def codeOf : End → Int
  | .code n => n
  | .text _ => 11

theorem code_nil (w : World) : Calls Tryd.prog 35 #[.nilIface] w fun ev w' => ev = .returned (.int .i64 0) ∧ w' = w := by
  go_enter Tryd.func35, Tryd.ntmps35
  go_wp2
  go_ret
  exact ⟨rfl, rfl⟩

set_option maxHeartbeats 1000000 in
theorem code_any (w : World) (l : List ByteArray) (d : End) (e : Value) (hg : Ready w) (hc : Chain w l d e) :
    Calls Tryd.prog 35 #[e] w fun ev w' => ev = .returned (.int .i64 (codeOf d)) ∧ Below w.heap.size w w' := by
  have hB := (Below.refl w.heap.size w).alloc (Nat.le_refl _) (.cells #[.int .i64 0] 50)
  have hK := Keeps.below hB hg.lt
  have HG := hid (hg.kept hK)
  have HC := hid (hc.kept hK)
  have HT := hid (ke_alloc_at w (.cells #[.int .i64 0] 50))
  have HB := hid hB
  obtain ⟨T, x, rfl⟩ := hc.shape
  clear hc hg hK hB
  cases d with
  | code n =>
    go_enter Tryd.func35, Tryd.ntmps35
    go_wp2_with (first | (go_at_call 58; refine (eas_code _ w.heap.size _ n l _ HG.out HC.out HT.out).mono ?_))
    rintro ev w' ⟨rfl, h1, h2⟩
    have c1 := (ke_one_cell h1).1
    have H1 := hid h1
    have H2 := hid h2
    clear h1 h2
    go_wp2
    go_ret
    exact ⟨rfl, HB.out.grown H2.out (by simp) (fun k hk => by cases hk; exact Nat.le_refl _)⟩
  | text s => exact (Chain.no HC.out).elim
end Go.Proofs.YtpdmocdfnakggaaDoor


