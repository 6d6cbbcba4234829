import Derived.Test.YtddnleofflobhaaGreatDoorProg
import Derived.WalkKit
import Derived.LaidEql
import Derived.Stop.Asserts
import Derived.RowKitTokens
import Derived.Test.YtddnleofflobhaaGreatDoorRows
import Derived.WalkSpells
import Derived.WalkLawsBesides
import Derived.Laws.AppendOwnNone
import Derived.Test.YtddnleofflobhaaGreatDoorVG1
import Derived.Test.YtddnleofflobhaaGreatDoorVG2
import Derived.Test.YtddnleofflobhaaGreatDoorVG3
import Derived.Test.YtddnleofflobhaaGreatDoorVG4
import Derived.Test.YtddnleofflobhaaGreatDoorVG5
import Derived.Test.YtddnleofflobhaaGreatDoorVG6
import Derived.Test.YtddnleofflobhaaGreatDoorVG7
import Derived.Test.YtddnleofflobhaaGreatDoorVG8
import Derived.Test.YtddnleofflobhaaGreatDoorVG9
import Derived.Test.YtddnleofflobhaaGreatDoorVG10
import Derived.Test.YtddnleofflobhaaGreatDoorVG11
import Derived.Test.YtddnleofflobhaaGreatDoorVG12
import Derived.Test.YtddnleofflobhaaGreatDoorVG13
import Derived.Test.YtddnleofflobhaaGreatDoorVG14
import Derived.Test.YtddnleofflobhaaGreatDoorVG15
import Derived.Test.YtddnleofflobhaaGreatDoorVG16
import Derived.Test.YtddnleofflobhaaGreatDoorVG17
import Derived.Test.YtddnleofflobhaaGreatDoorVG18
import Derived.Test.YtddnleofflobhaaGreatDoorVG19
import Derived.Test.YtddnleofflobhaaGreatDoorVG20
import Derived.Test.YtddnleofflobhaaGreatDoorVG21
import Derived.Test.YtddnleofflobhaaGreatDoorVG22
import Derived.Test.YtddnleofflobhaaGreatDoorVG23
import Derived.Test.YtddnleofflobhaaGreatDoorVG24
import Derived.Test.YtddnleofflobhaaGreatDoorVG25
set_option linter.unusedVariables false
set_option linter.unusedSimpArgs false
namespace Go.Proofs.YtddnleofflobhaaGreatDoor
open Go.RowKit Go.Extern.Stop Go.Stop Go.Extern

/-- The type's handle. -/
theorem methodKind (h : Value) (w : World) : (Go.method 332 144 (.agg #[h]) "Kind").run Tryz.prog w = .ok (163, h) w := by kernel_rfl
theorem methodElem (h : Value) (w : World) : (Go.method 332 144 (.agg #[h]) "Elem").run Tryz.prog w = .ok (177, .agg #[h]) w := by kernel_rfl
theorem methodImplements (h : Value) (w : World) : (Go.method 332 144 (.agg #[h]) "Implements").run Tryz.prog w = .ok (178, .agg #[h]) w := by kernel_rfl
theorem methodAssignableTo (h : Value) (w : World) : (Go.method 332 144 (.agg #[h]) "AssignableTo").run Tryz.prog w = .ok (175, .agg #[h]) w := by kernel_rfl
theorem valueOfC (t : Addr) (w : World) : (ReflectliteValue.unpack (.iface 85 (.pointer (some t)))).run Tryz.prog w
    = .ok (.agg #[.pointer (some ⟨4, 85, none⟩), .pointer (some ⟨w.heap.size, 0, none⟩), .int .u64 150]) (w.alloc (.cells #[.pointer (some t)] 85)) := by kernel_rfl
theorem typeC (a : Addr) (w : World) : (ReflectliteValue.methodAny (ReflectliteValue.valueError "reflectlite.Value.Type" 0) (fun t _ _ _ => ReflectliteType.toType t) #[.agg #[.pointer (some ⟨4, 85, none⟩), .pointer (some a), .int .u64 150]]).run Tryz.prog w
    = .ok (.iface 144 (.agg #[.pointer (some ⟨4, 85, none⟩)])) w := by kernel_rfl
theorem kindPC (w : World) : ((ReflectliteType.abiMethod fun t => (fun a : Nat => Value.int IntKind.u8 (a : Int)) <$> Rtype.kind t) #[.pointer (some ⟨4, 85, none⟩)]).run Tryz.prog w = .ok (.int .u8 22) w := by kernel_rfl
theorem kindC (w : World) : ((ReflectliteType.abiMethod fun t => (fun a : Nat => Value.int IntKind.u8 (a : Int)) <$> Rtype.kind t) #[.pointer (some ⟨4, 38, none⟩)]).run Tryz.prog w = .ok (.int .u8 2) w := by kernel_rfl
theorem elemC (w : World) : (ReflectliteType.method ReflectliteType.elem #[.agg #[.pointer (some ⟨4, 85, none⟩)]]).run Tryz.prog w = .ok (.iface 144 (.agg #[.pointer (some ⟨4, 38, none⟩)])) w := by kernel_rfl
theorem implementsC (w : World) : (ReflectliteType.relation "Implements" ReflectliteType.implements_ #[.agg #[.pointer (some ⟨4, 38, none⟩)], .iface 144 (.agg #[.pointer (some ⟨4, 43, none⟩)])]).run Tryz.prog w = .ok (.bool true) w := by kernel_rfl
theorem typeOfF (v : Value) (w : World) : (ReflectliteType.typeOf #[.iface 92 v]).run Tryz.prog w = .ok (.iface 144 (.agg #[.pointer (some ⟨4, 92, none⟩)])) w := by kernel_rfl
theorem assCC (w : World) : (ReflectliteType.relation "AssignableTo" ReflectliteType.assignableTo #[.agg #[.pointer (some ⟨4, 38, none⟩)], .iface 144 (.agg #[.pointer (some ⟨4, 38, none⟩)])]).run Tryz.prog w = .ok (.bool true) w := by kernel_rfl
theorem assFC (w : World) : (ReflectliteType.relation "AssignableTo" ReflectliteType.assignableTo #[.agg #[.pointer (some ⟨4, 92, none⟩)], .iface 144 (.agg #[.pointer (some ⟨4, 38, none⟩)])]).run Tryz.prog w = .ok (.bool false) w := by kernel_rfl
theorem valueOfErrno (n : Int) (w : World) : (ReflectliteValue.unpack (.iface 38 (.int .i64 n))).run Tryz.prog w
    = .ok (.agg #[.pointer (some ⟨4, 38, none⟩), .pointer (some ⟨w.heap.size, 0, none⟩), .int .u64 130]) (w.alloc (.cells #[.int .i64 n] 38)) := by kernel_rfl
theorem rlm (z : Sem Value) (f : TypeId → Addr → Nat → Nat → Sem Value) (v : Value) :
    ReflectliteValue.method z f #[v] = (do match ← ReflectliteValue.parts v with | none => z | some (t, a, fl) => f t a fl (fl % 32)) := rfl
theorem partsC (a : Addr) (w : World) : (ReflectliteValue.parts (.agg #[.pointer (some ⟨4, 85, none⟩), .pointer (some a), .int .u64 150])).run Tryz.prog w = .ok (some (85, a, 150)) w := by kernel_rfl
theorem isNilC (a p : Addr) (W : World) (ha : W.cell? a = some (.pointer (some p))) :
    (ReflectliteValue.method (ReflectliteValue.valueError "reflectlite.Value.IsNil" 0) ReflectliteValue.isNil #[.agg #[.pointer (some ⟨4, 85, none⟩), .pointer (some a), .int .u64 150]]).run Tryz.prog W = .ok (.bool false) W := by
  rw [rlm]
  simp only [Sem.run_bind, partsC, Result.andThen]
  simp [ReflectliteValue.isNil, loadVar, isAgg, underlying, Tryz.underlying85, ha, Result.andThen]
theorem elemOfC (w : World) : (Rtype.elem? 85).run Tryz.prog w = .ok (some 38) w := by kernel_rfl
theorem mkC (p : Addr) (w : World) : (ReflectliteValue.mk 38 p ReflectliteValue.flagAddr).run Tryz.prog w = .ok (.agg #[.pointer (some ⟨4, 38, none⟩), .pointer (some p), .int .u64 386]) w := by kernel_rfl
theorem elemVC (a p : Addr) (W : World) (ha : W.cell? a = some (.pointer (some p))) :
    (ReflectliteValue.method (ReflectliteValue.valueError "reflectlite.Value.Elem" 0) ReflectliteValue.elem #[.agg #[.pointer (some ⟨4, 85, none⟩), .pointer (some a), .int .u64 150]]).run Tryz.prog W
      = .ok (.agg #[.pointer (some ⟨4, 38, none⟩), .pointer (some p), .int .u64 386]) W := by
  rw [rlm]
  simp only [Sem.run_bind, partsC, Result.andThen]
  simp [ReflectliteValue.elem, loadVar, isAgg, underlying, Tryz.underlying85, ha, Result.andThen, elemOfC, mkC]
theorem rls (v x : Value) : ReflectliteValue.set #[v, x] = (do
    let (some (dst, a, fl), some (src, b, _)) := (← ReflectliteValue.parts v, ← ReflectliteValue.parts x)
      | unsupported (.noEntry "extern/(internal/reflectlite.Value).Set.zeroValue")
    if fl / ReflectliteValue.flagAddr % 2 == 0 then unsupported (.noEntry "extern/(internal/reflectlite.Value).Set.unaddressable")
    let val ← loadVar src b
    if ← Rtype.directlyAssignable dst src then storeVar dst a val
    else if ← Rtype.implements dst src then
      if (← Rtype.kind src) == 20 then
        match val with
        | .nilIface => unsupported (.noEntry "extern/reflectlite: a nil value of one interface type handed on as a value of another")
        | _ => storeVar dst a val
      else storeVar dst a (.iface src val)
    else panicString ("reflectlite.Set: value of type " ++ (← Rtype.spelt src) ++ " is not assignable to type " ++ (← Rtype.spelt dst))
    pure (.tuple #[])) := rfl
theorem partsCa (a : Addr) (w : World) : (ReflectliteValue.parts (.agg #[.pointer (some ⟨4, 38, none⟩), .pointer (some a), .int .u64 386])).run Tryz.prog w = .ok (some (38, a, 386)) w := by kernel_rfl
theorem partsCv (a : Addr) (w : World) : (ReflectliteValue.parts (.agg #[.pointer (some ⟨4, 38, none⟩), .pointer (some a), .int .u64 130])).run Tryz.prog w = .ok (some (38, a, 130)) w := by kernel_rfl
theorem directC (w : World) : (Rtype.directlyAssignable 38 38).run Tryz.prog w = .ok true w := by kernel_rfl
theorem setC (ta b : Addr) (n : Int) (old : Value) (W : World) (hb : W.cell? b = some (.int .i64 n)) (ht : W.cell? ta = some old) (hf : W.frozen? ta = false) :
    (ReflectliteValue.set #[.agg #[.pointer (some ⟨4, 38, none⟩), .pointer (some ta), .int .u64 386], .agg #[.pointer (some ⟨4, 38, none⟩), .pointer (some b), .int .u64 130]]).run Tryz.prog W
      = .ok (.tuple #[]) (W.setCell ta (.int .i64 n)) := by
  rw [rls]
  simp only [Sem.run_bind, partsCa, partsCv, Result.andThen]
  simp [ReflectliteValue.flagAddr, loadVar, isAgg, underlying, Tryz.underlying38, hb, Result.andThen, directC, storeVar, Value.cells, storeCells, Addr.add]
  rw [run_store Tryz.prog W ta _ _ (by rfl)]
  simp [ht, hf]
theorem noAsF (v : Value) (xT : TypeId) (w : World) : (Instr.typeAssert (.iface 92 v) xT 148 true).run Tryz.prog w = .ok (.tuple #[.nilIface, .bool false]) w := run_typeAssert_lacksB Tryz.underlying148 (by kernel_rfl) (by kernel_rfl) v xT w
theorem hasUnF (v : Value) (xT : TypeId) (w : World) : (Instr.typeAssert (.iface 92 v) xT 151 true).run Tryz.prog w = .ok (.tuple #[.iface 92 v, .bool true]) w := run_typeAssert_hasB Tryz.underlying151 (by kernel_rfl) v xT w
theorem methodUnwrap (v : Value) (w : World) : (Go.method 332 92 v "Unwrap").run Tryz.prog w = .ok (169, v) w := by kernel_rfl
end Go.Proofs.YtddnleofflobhaaGreatDoor


set_option linter.unusedVariables false
namespace Go.Proofs.YtddnleofflobhaaGreatDoor
open Go.RowKit Go.Extern.Stop Go.Stop Go.Extern

/-- What stands behind all faults: a code, or an error of errors.New's make. -/
inductive End where
  | code (n : Int)
  | text (s : ByteArray)

def Ends (w : World) : End → Value → Prop
  | .code n, v => v = .iface 38 (.int .i64 n)
  | .text s, v => False

/-- One more than the block that an error's value leads to. -/
def rk : Value → Nat
  | .iface _ (.pointer (some a)) => a.block + 1
  | _ => 0

/-- (A cause was there before what wraps it.) -/
def Chain (w : World) : List ByteArray → End → Value → Prop
  | [], d, v => Ends w d v
  | s :: r, d, v => ∃ b c, v = .iface 92 (.pointer (some ⟨b, 0, none⟩)) ∧ w.heap[b]? = some (.cells #[.string s, c] 94 (0, 0)) ∧ rk c ≤ b ∧ Chain w r d c

/-- Errors stay, and the variable of the library. -/
structure Keeps (w w' : World) : Prop where
  zero : w'.heap[0]? = w.heap[0]?
  errs : ∀ (k : Nat) (cs : Array Value) (T : TypeId), (T = 94 ∨ False) → w.heap[k]? = some (Obj.cells cs T (0, 0)) → w'.heap[k]? = some (Obj.cells cs T (0, 0))

theorem Keeps.refl (w : World) : Keeps w w := ⟨rfl, fun _ _ _ _ h => h⟩
theorem Keeps.below {w w' : World} (h : Below w.heap.size w w') (h0 : 0 < w.heap.size) : Keeps w w' := ⟨h.block 0 h0, fun k cs T _ hk => by rw [h.block k (lt_of_block hk)]; exact hk⟩
/-- Where one block was written that is no error's. -/
theorem Keeps.grown {w w' : World} {t : Nat} {cs : Array Value} {T : TypeId} (h : w.grownBy w' (some t)) (ht : w.heap[t]? = some (.cells cs T (0, 0))) (hT : T ≠ 94) (h0 : t ≠ 0) : Keeps w w' := by
  have hlt := lt_of_block ht
  refine ⟨h.block 0 (by omega) (fun e => h0 (by cases e; rfl)), fun k cs' T' hT' hk => ?_⟩
  rw [h.block k (lt_of_block hk) (fun e => ?_)]
  · exact hk
  · cases e
    rw [ht] at hk
    cases hk
    rcases hT' with rfl | h9
    · exact hT rfl
    · exact h9.elim
theorem Ends.kept {w w' : World} {d : End} {v : Value} (h : Ends w d v) (hk : Keeps w w') : Ends w' d v := by
  cases d with
  | code n => exact h
  | text s => exact h.elim
theorem Chain.kept {w w' : World} {d : End} (hk : Keeps w w') : ∀ {l : List ByteArray} {v : Value}, Chain w l d v → Chain w' l d v
  | [], _, h => Ends.kept h hk
  | s :: r, v, h => by
    obtain ⟨b, c, hv, hb, hc, hr⟩ := h
    exact ⟨b, c, hv, hk.errs _ _ _ (.inl rfl) hb, hc, Chain.kept hk hr⟩
theorem Chain.rk_le {w : World} {d : End} : ∀ {l : List ByteArray} {v : Value}, Chain w l d v → rk v ≤ w.heap.size
  | [], _, h => by
    cases d with
    | code n => obtain rfl := h; exact Nat.zero_le _
    | text s => exact h.elim
  | s :: r, v, h => by obtain ⟨b, c, rfl, hb, _⟩ := h; exact lt_of_block hb

/-- The variable errors.errorType holds the handle of the type 'error'. -/
def Ready (w : World) : Prop := w.cell? ⟨0, 0, none⟩ = some (.iface 144 (.agg #[.pointer (some ⟨4, 43, none⟩)]))
theorem Ready.lt {w : World} (h : Ready w) : 0 < w.heap.size := World.block_lt_of_cell? w _ h
theorem Ready.kept {w w' : World} (h : Ready w) (hk : Keeps w w') : Ready w' := by
  unfold Ready
  have := World.cell?_of_block (w := w) (w' := w') (a := ⟨0, 0, none⟩) hk.zero
  rw [this]
  exact h

/-- A chain's value is no nil. -/
theorem Chain.shape {w : World} {d : End} : ∀ {l : List ByteArray} {v : Value}, Chain w l d v → ∃ T x, v = .iface T x
  | [], _, h => by
    cases d with
    | code n => exact ⟨_, _, h⟩
    | text s => exact h.elim
  | _ :: _, _, h => by obtain ⟨b, c, hv, _⟩ := h; exact ⟨_, _, hv⟩

theorem Chain.no {w : World} {s : ByteArray} : ∀ {l : List ByteArray} {v : Value}, Chain w l (.text s) v → False
  | [], _, h => h.elim
  | _ :: _, _, h => by obtain ⟨_, _, _, _, _, hr⟩ := h; exact Chain.no hr

theorem wrap_any (T : TypeId) (x : Value) (s : ByteArray) (w : World) : Calls Tryz.prog 33 #[.iface T x, .string s] w fun e w' =>
    e = .returned (.iface 92 (.pointer (some ⟨w.heap.size, 0, none⟩))) ∧ w' = w.alloc (.cells #[.string s, .iface T x] 94) := by
  go_enter Tryz.func33, Tryz.ntmps33
  go_wp2
  go_ret
  exact ⟨rfl, rfl⟩
theorem alloc_at (w : World) (o : Obj) : (w.alloc o).heap[w.heap.size]? = some o := by
  show (w.heap.push o)[w.heap.size]? = _
  simp
theorem alloc_old {w : World} {o o' : Obj} {k : Nat} (h : w.heap[k]? = some o') : (w.alloc o).heap[k]? = some o' := by
  rw [Below.heap_alloc _ _ _ (lt_of_block h)]; exact h

/-- Wrapped once more. -/
theorem Chain.cons {w : World} {l : List ByteArray} {d : End} {v : Value} (h : Chain w l d v) (h0 : 0 < w.heap.size) (s : ByteArray) :
    Chain (w.alloc (.cells #[.string s, v] 94)) (s :: l) d (.iface 92 (.pointer (some ⟨w.heap.size, 0, none⟩))) :=
  ⟨w.heap.size, v, rfl, alloc_at _ _, h.rk_le, h.kept (Keeps.below ((Below.refl _ _).alloc (Nat.le_refl _) _) h0)⟩
theorem Chain.first {w : World} (n : Int) (h0 : 0 < w.heap.size) (s : ByteArray) :
    Chain (w.alloc (.cells #[.string s, .iface 38 (.int .i64 n)] 94)) [s] (.code n) (.iface 92 (.pointer (some ⟨w.heap.size, 0, none⟩))) :=
  Chain.cons (l := []) (d := .code n) (w := w) rfl h0 s
theorem munwrap_any (b : Nat) (s : ByteArray) (c : Value) (w : World) (h : w.heap[b]? = some (.cells #[.string s, c] 94 (0, 0))) :
    Calls Tryz.prog 169 #[.pointer (some ⟨b, 0, none⟩)] w fun e w' => e = .returned c ∧ w' = w := by
  have h1 : w.cell? ⟨b, 1, none⟩ = some c := by simp [World.cell?, h]
  go_enter Tryz.func169, Tryz.ntmps169
  go_wp2
  go_ret
  exact ⟨rfl, rfl⟩
end Go.Proofs.YtddnleofflobhaaGreatDoor

set_option linter.unusedVariables false
namespace Go.Proofs.YtddnleofflobhaaGreatDoor
open Go.RowKit Go.Extern.Stop Go.Stop Go.Extern

theorem one_cell {w : World} {t : Nat} {u : Value} {T : TypeId} (h : w.heap[t]? = some (.cells #[u] T (0, 0))) : w.cell? ⟨t, 0, none⟩ = some u ∧ w.frozen? ⟨t, 0, none⟩ = false := by
  simp [World.cell?, World.frozen?, h]
theorem one_set {w : World} {t : Nat} {u : Value} {T : TypeId} (h : w.heap[t]? = some (.cells #[u] T (0, 0))) (x : Value) : (w.setCell ⟨t, 0, none⟩ x).heap[t]? = some (.cells #[x] T (0, 0)) := by
  have hlt := lt_of_block h
  have h' : w.heap[t] = .cells #[u] T (0, 0) := by simpa [Array.getElem?_eq_getElem hlt] using h
  show (w.heap.modify t _)[t]? = _
  rw [Array.getElem?_eq_getElem (by simpa using hlt), Array.getElem_modify_self, h']
  rfl
theorem grown_alloc (w : World) (o : Obj) (row : Option Nat) : w.grownBy (w.alloc o) row := grown_below ((Below.refl _ _).alloc (Nat.le_refl _) o) row

set_option maxHeartbeats 4000000 in
set_option maxRecDepth 100000 in
theorem as_code (w : World) (t v : Nat) (old : Value) (n : Int) (l : List ByteArray) (e : Value) (hc : Chain w l (.code n) e)
    (ht : w.heap[t]? = some (.cells #[old] 38 (0, 0))) (hv : w.heap[v]? = some (.cells #[.pointer (some ⟨t, 0, none⟩)] 85 (0, 0))) :
    Calls Tryz.prog 60 #[e, .iface 85 (.pointer (some ⟨t, 0, none⟩)), .agg #[.pointer (some ⟨4, 85, none⟩), .pointer (some ⟨v, 0, none⟩), .int .u64 150], .iface 144 (.agg #[.pointer (some ⟨4, 38, none⟩)])] w fun ev w' =>
      ev = .returned (.bool true) ∧ w'.heap[t]? = some (.cells #[.int .i64 n] 38 (0, 0)) ∧ w.grownBy w' (some t) := by
  have h10 := @run_callFunc_extern Tryz.prog 72 _ ReflectliteType.typeOf Tryz.func72 (by kernel_rfl) (by kernel_rfl) (by kernel_rfl) (by kernel_rfl)
  have h35 := @run_callFunc_extern Tryz.prog 175 _ (ReflectliteType.relation "AssignableTo" ReflectliteType.assignableTo) Tryz.func175 (by kernel_rfl) (by kernel_rfl) (by kernel_rfl) (by kernel_rfl)
  have h11 := @run_callFunc_extern Tryz.prog 88 _ (ReflectliteValue.method (ReflectliteValue.valueError "reflectlite.Value.Elem" 0) ReflectliteValue.elem) Tryz.func88 (by kernel_rfl) (by kernel_rfl) (by kernel_rfl) (by kernel_rfl)
  have h12 := @run_callFunc_extern Tryz.prog 89 _ ReflectliteValue.set Tryz.func89 (by kernel_rfl) (by kernel_rfl) (by kernel_rfl) (by kernel_rfl)
  have h6 := @run_callFunc_extern Tryz.prog 57 _ (fun args => ReflectliteValue.unpack (args.getD 0 (.tuple #[]))) Tryz.func57 (by kernel_rfl) (by kernel_rfl) (by kernel_rfl) (by kernel_rfl)
  have mA := methodAssignableTo
  have tC := typeOfC
  have tF := typeOfF
  have aC := assCC
  have aF := assFC
  have vE := valueOfErrno
  have nA := noAsF
  have hU := hasUnF
  have mU := methodUnwrap
  have c0 := (one_cell ht).1
  have f0 := (one_cell ht).2
  have cv := (one_cell hv).1
  have tlt := lt_of_block ht
  have vlt := lt_of_block hv
  have HT := hid ht
  clear ht hv
  go_enter Tryz.func60, Tryz.ntmps60
  go_wp2
  go_loopw [0] (fun x wr => ∃ l', Chain w l' (.code n) x ∧ wr = w.alloc (.cells #[.pointer (some ⟨4, 85, none⟩), .pointer (some ⟨v, 0, none⟩), .int .u64 150] 114)) (fun x _ => rk x)
  case atStart => exact ⟨l, hc, rfl⟩
  case round =>
    obtain ⟨l', hx, rfl⟩ := hrel
    cases l' with
    | nil =>
      obtain rfl := hx
      have cv1 : (w.alloc (.cells #[.pointer (some ⟨4, 85, none⟩), .pointer (some ⟨v, 0, none⟩), .int .u64 150] 114)).cell? ⟨v, 0, none⟩ = some (.pointer (some ⟨t, 0, none⟩)) := by rw [World.cell?_alloc_lt _ _ ⟨v, 0, none⟩ vlt]; exact cv
      have el := elemVC ⟨v, 0, none⟩ ⟨t, 0, none⟩ (w.alloc (.cells #[.pointer (some ⟨4, 85, none⟩), .pointer (some ⟨v, 0, none⟩), .int .u64 150] 114)) cv1
      have st := setC ⟨t, 0, none⟩ ⟨w.heap.size + 1, 0, none⟩ n old ((w.alloc (.cells #[.pointer (some ⟨4, 85, none⟩), .pointer (some ⟨v, 0, none⟩), .int .u64 150] 114)).alloc (.cells #[.int .i64 n] 38))
        (by rw [World.cell?_alloc_at _ _ _ _ (by simp)]; rfl)
        (by rw [World.cell?_alloc_lt _ _ ⟨t, 0, none⟩ (by simp; omega), World.cell?_alloc_lt _ _ ⟨t, 0, none⟩ tlt]; exact c0)
        (by rw [World.frozen?_alloc_old _ _ ⟨t, 0, none⟩ (by simp; omega), World.frozen?_alloc_old _ _ ⟨t, 0, none⟩ (Nat.ne_of_lt tlt)]; exact f0)
      go_wp2
      go_ret
      exact ⟨rfl, alloc_old (alloc_old (one_set HT.out _)), grown_trans (grown_trans (grown_set _ ⟨t, 0, none⟩ _) (grown_alloc _ _ _)) (grown_alloc _ _ _)⟩
    | cons s r =>
      obtain ⟨b, c, rfl, hb, hrk, hr⟩ := hx
      obtain ⟨T, x, rfl⟩ := hr.shape
      have HR := hid hr
      have HK := hid hrk
      clear hr hrk
      have hb1 : (w.alloc (.cells #[.pointer (some ⟨4, 85, none⟩), .pointer (some ⟨v, 0, none⟩), .int .u64 150] 114)).heap[b]? = some (.cells #[.string s, .iface T x] 94 (0, 0)) := alloc_old hb
      have HB := hid hb1
      clear hb1 hb
      go_wp2_with (first | (go_at_call 169; refine (munwrap_any b s _ _ HB.out).mono ?_; rintro ev w' ⟨rfl, rfl⟩))
      go_roundw
      case rel => exact ⟨r, HR.out, trivial⟩
      case measure => have := HK.out; simp only [rk] at this ⊢; omega

end Go.Proofs.YtddnleofflobhaaGreatDoor

set_option linter.unusedVariables false
namespace Go.Proofs.YtddnleofflobhaaGreatDoor
open Go.RowKit Go.Extern.Stop Go.Stop Go.Extern

set_option maxHeartbeats 4000000 in
set_option maxRecDepth 100000 in
theorem eas_code (w : World) (t : Nat) (old : Value) (n : Int) (l : List ByteArray) (e : Value) (hg : Ready w) (hc : Chain w l (.code n) e)
    (ht : w.heap[t]? = some (.cells #[old] 38 (0, 0))) :
    Calls Tryz.prog 39 #[e, .iface 85 (.pointer (some ⟨t, 0, none⟩))] w fun ev w' => ev = .returned (.bool true) ∧ w'.heap[t]? = some (.cells #[.int .i64 n] 38 (0, 0)) ∧ w.grownBy w' (some t) := by
  have h6 := @run_callFunc_extern Tryz.prog 57 _ (fun args => ReflectliteValue.unpack (args.getD 0 (.tuple #[]))) Tryz.func57 (by kernel_rfl) (by kernel_rfl) (by kernel_rfl) (by kernel_rfl)
  have h7 := @run_callFunc_extern Tryz.prog 58 _ (ReflectliteValue.methodAny (ReflectliteValue.valueError "reflectlite.Value.Type" 0) (fun t _ _ _ => ReflectliteType.toType t)) Tryz.func58 (by kernel_rfl) (by kernel_rfl) (by kernel_rfl) (by kernel_rfl)
  have h8 := @run_callFunc_extern Tryz.prog 59 _ (ReflectliteValue.method (ReflectliteValue.valueError "reflectlite.Value.IsNil" 0) ReflectliteValue.isNil) Tryz.func59 (by kernel_rfl) (by kernel_rfl) (by kernel_rfl) (by kernel_rfl)
  have h27 := @run_callFunc_extern Tryz.prog 163 _ (ReflectliteType.abiMethod fun t => do pure (.int .u8 (← Rtype.kind t))) Tryz.func163 (by kernel_rfl) (by kernel_rfl) (by kernel_rfl) (by kernel_rfl)
  have h37 := @run_callFunc_extern Tryz.prog 177 _ (ReflectliteType.method ReflectliteType.elem) Tryz.func177 (by kernel_rfl) (by kernel_rfl) (by kernel_rfl) (by kernel_rfl)
  have h38 := @run_callFunc_extern Tryz.prog 178 _ (ReflectliteType.relation "Implements" ReflectliteType.implements_) Tryz.func178 (by kernel_rfl) (by kernel_rfl) (by kernel_rfl) (by kernel_rfl)
  have f6 := valueOfC
  have f7 := typeC
  have mK := methodKind
  have mE := methodElem
  have mI := methodImplements
  have k1 := kindPC
  have k2 := kindC
  have e1 := elemC
  have i1 := implementsC
  have hlt := hg.lt
  have hK : Keeps w ((w.alloc (.cells #[.pointer (some ⟨t, 0, none⟩)] 85)).alloc (.cells #[.pointer (some ⟨4, 85, none⟩), .pointer (some ⟨w.heap.size, 0, none⟩), .int .u64 150] 114)) :=
    Keeps.below (((Below.refl _ _).alloc (Nat.le_refl _) _).alloc (by simp) _) hlt
  have hg2 := hg.kept hK
  have HC := hid (hc.kept hK)
  have HT := hid (alloc_old (o := .cells #[.pointer (some ⟨4, 85, none⟩), .pointer (some ⟨w.heap.size, 0, none⟩), .int .u64 150] 114) (alloc_old (o := .cells #[.pointer (some ⟨t, 0, none⟩)] 85) ht))
  have hv := alloc_old (o := .cells #[.pointer (some ⟨4, 85, none⟩), .pointer (some ⟨w.heap.size, 0, none⟩), .int .u64 150] 114) (alloc_at w (.cells #[.pointer (some ⟨t, 0, none⟩)] 85))
  have n8 := isNilC ⟨w.heap.size, 0, none⟩ ⟨t, 0, none⟩ _ (one_cell hv).1
  have HV := hid hv
  have HB := hid (((Below.refl w.heap.size w).alloc (Nat.le_refl _) (.cells #[.pointer (some ⟨t, 0, none⟩)] 85)).alloc (by simp) (.cells #[.pointer (some ⟨4, 85, none⟩), .pointer (some ⟨w.heap.size, 0, none⟩), .int .u64 150] 114))
  unfold Ready at hg2
  obtain ⟨T, x, rfl⟩ := hc.shape
  clear hg hc ht hK hv
  go_enter Tryz.func39, Tryz.ntmps39
  go_wp2_with (first | (go_at_call 60; refine (as_code _ t w.heap.size old n l _ HC.out HT.out HV.out).mono ?_; rintro ev w' ⟨rfl, h1, h2⟩))
  go_ret
  exact ⟨rfl, h1, grown_trans (grown_below HB.out _) h2⟩

end Go.Proofs.YtddnleofflobhaaGreatDoor

set_option linter.unusedVariables false
namespace Go.Proofs.YtddnleofflobhaaGreatDoor
open Go.RowKit Go.Extern.Stop Go.Stop Go.Extern

/-- The code that a chain with that end has. -/
def codeOf : End → Int
  | .code n => n
  | .text _ => 11

set_option maxHeartbeats 1000000 in
theorem code_any (w : World) (l : List ByteArray) (d : End) (e : Value) (hg : Ready w) (hc : Chain w l d e) :
    Calls Tryz.prog 18 #[e] w fun ev w' => ev = .returned (.int .i64 (codeOf d)) ∧ Below w.heap.size w w' := by
  have hB := (Below.refl w.heap.size w).alloc (Nat.le_refl _) (.cells #[.int .i64 0] 38)
  have hK := Keeps.below hB hg.lt
  have HG := hid (hg.kept hK)
  have HC := hid (hc.kept hK)
  have HT := hid (alloc_at w (.cells #[.int .i64 0] 38))
  have HB := hid hB
  obtain ⟨T, x, rfl⟩ := hc.shape
  clear hc hg hK hB
  cases d with
  | code n =>
    go_enter Tryz.func18, Tryz.ntmps18
    go_wp2_with (first | (go_at_call 39; refine (eas_code _ w.heap.size _ n l _ HG.out HC.out HT.out).mono ?_))
    rintro ev w' ⟨rfl, h1, h2⟩
    have c1 := (one_cell h1).1
    have H1 := hid h1
    have H2 := hid h2
    clear h1 h2
    go_wp2
    go_ret
    exact ⟨rfl, HB.out.grown H2.out (by simp) (fun k hk => by cases hk; exact Nat.le_refl _)⟩
  | text s => exact (Chain.no HC.out).elim
end Go.Proofs.YtddnleofflobhaaGreatDoor

