/-
  errors.As AT A CHAIN OF FAULTS: the targets '*api.Errno' and '**fault.Fault'.
-/
import Derived.Test.YtombgehopopdfaaDoorChain
set_option linter.unusedVariables false
namespace Go.Proofs.YtombgehopopdfaaDoor
open Go.RowKit Go.Extern.Stop Go.Stop Go.Extern

theorem one_cell {w : World} {t : Nat} {u : Value} {T : TypeId} (h : w.heap[t]? = some (.cells #[u] T (0, 0))) : w.cell? ⟨t, 0, none⟩ = some u ∧ w.frozen? ⟨t, 0, none⟩ = false := by
  simp [World.cell?, World.frozen?, h]
theorem one_set {w : World} {t : Nat} {u : Value} {T : TypeId} (h : w.heap[t]? = some (.cells #[u] T (0, 0))) (x : Value) : (w.setCell ⟨t, 0, none⟩ x).heap[t]? = some (.cells #[x] T (0, 0)) := by
  have hlt := lt_of_block h
  have h' : w.heap[t] = .cells #[u] T (0, 0) := by simpa [Array.getElem?_eq_getElem hlt] using h
  show (w.heap.modify t _)[t]? = _
  rw [Array.getElem?_eq_getElem (by simpa using hlt), Array.getElem_modify_self, h']
  rfl
theorem grown_alloc (w : World) (o : Obj) (row : Option Nat) : w.grownBy (w.alloc o) row := grown_below ((Below.refl _ _).alloc (Nat.le_refl _) o) row

set_option maxHeartbeats 4000000 in
set_option maxRecDepth 100000 in
theorem as_code (w : World) (t v : Nat) (old : Value) (n : Int) (l : List ByteArray) (e : Value) (hc : Chain w l (.code n) e)
    (ht : w.heap[t]? = some (.cells #[old] 22 (0, 0))) (hv : w.heap[v]? = some (.cells #[.pointer (some ⟨t, 0, none⟩)] 39 (0, 0))) :
    Calls Tryd.prog 32 #[e, .iface 39 (.pointer (some ⟨t, 0, none⟩)), .agg #[.pointer (some ⟨1, 39, none⟩), .pointer (some ⟨v, 0, none⟩), .int .u64 150], .iface 85 (.agg #[.pointer (some ⟨1, 22, none⟩)])] w fun ev w' =>
      ev = .returned (.bool true) ∧ w'.heap[t]? = some (.cells #[.int .i64 n] 22 (0, 0)) ∧ w.grownBy w' (some t) := by
  have h10 := @run_callFunc_extern Tryd.prog 27 _ ReflectliteType.typeOf Tryd.func27 (by kernel_rfl) (by kernel_rfl) (by kernel_rfl) (by kernel_rfl)
  have h35 := @run_callFunc_extern Tryd.prog 63 _ (ReflectliteType.relation "AssignableTo" ReflectliteType.assignableTo) Tryd.func63 (by kernel_rfl) (by kernel_rfl) (by kernel_rfl) (by kernel_rfl)
  have h11 := @run_callFunc_extern Tryd.prog 36 _ (ReflectliteValue.method (ReflectliteValue.valueError "reflectlite.Value.Elem" 0) ReflectliteValue.elem) Tryd.func36 (by kernel_rfl) (by kernel_rfl) (by kernel_rfl) (by kernel_rfl)
  have h12 := @run_callFunc_extern Tryd.prog 37 _ ReflectliteValue.set Tryd.func37 (by kernel_rfl) (by kernel_rfl) (by kernel_rfl) (by kernel_rfl)
  have h6 := @run_callFunc_extern Tryd.prog 29 _ (fun args => ReflectliteValue.unpack (args.getD 0 (.tuple #[]))) Tryd.func29 (by kernel_rfl) (by kernel_rfl) (by kernel_rfl) (by kernel_rfl)
  have mA := methodAssignableTo
  have tC := typeOfC
  have tF := typeOfF
  have aC := assCC
  have aF := assFC
  have vE := valueOfErrno
  have nA := noAsF
  have hU := hasUnF
  have mU := methodUnwrap
  have c0 := (one_cell ht).1
  have f0 := (one_cell ht).2
  have cv := (one_cell hv).1
  have tlt := lt_of_block ht
  have vlt := lt_of_block hv
  have HT := hid ht
  clear ht hv
  go_enter Tryd.func32, Tryd.ntmps32
  go_wp2
  go_loopw [0] (fun x wr => ∃ l', Chain w l' (.code n) x ∧ wr = w.alloc (.cells #[.pointer (some ⟨1, 39, none⟩), .pointer (some ⟨v, 0, none⟩), .int .u64 150] 63)) (fun x _ => rk x)
  case atStart => exact ⟨l, hc, rfl⟩
  case round =>
    obtain ⟨l', hx, rfl⟩ := hrel
    cases l' with
    | nil =>
      obtain rfl := hx
      have cv1 : (w.alloc (.cells #[.pointer (some ⟨1, 39, none⟩), .pointer (some ⟨v, 0, none⟩), .int .u64 150] 63)).cell? ⟨v, 0, none⟩ = some (.pointer (some ⟨t, 0, none⟩)) := by rw [World.cell?_alloc_lt _ _ ⟨v, 0, none⟩ vlt]; exact cv
      have el := elemVC ⟨v, 0, none⟩ ⟨t, 0, none⟩ (w.alloc (.cells #[.pointer (some ⟨1, 39, none⟩), .pointer (some ⟨v, 0, none⟩), .int .u64 150] 63)) cv1
      have st := setC ⟨t, 0, none⟩ ⟨w.heap.size + 1, 0, none⟩ n old ((w.alloc (.cells #[.pointer (some ⟨1, 39, none⟩), .pointer (some ⟨v, 0, none⟩), .int .u64 150] 63)).alloc (.cells #[.int .i64 n] 22))
        (by rw [World.cell?_alloc_at _ _ _ _ (by simp)]; rfl)
        (by rw [World.cell?_alloc_lt _ _ ⟨t, 0, none⟩ (by simp; omega), World.cell?_alloc_lt _ _ ⟨t, 0, none⟩ tlt]; exact c0)
        (by rw [World.frozen?_alloc_old _ _ ⟨t, 0, none⟩ (by simp; omega), World.frozen?_alloc_old _ _ ⟨t, 0, none⟩ (Nat.ne_of_lt tlt)]; exact f0)
      go_wp2
      go_ret
      exact ⟨rfl, alloc_old (alloc_old (one_set HT.out _)), grown_trans (grown_trans (grown_set _ ⟨t, 0, none⟩ _) (grown_alloc _ _ _)) (grown_alloc _ _ _)⟩
    | cons s r =>
      obtain ⟨b, c, rfl, hb, hrk, hr⟩ := hx
      obtain ⟨T, x, rfl⟩ := hr.shape
      have HR := hid hr
      have HK := hid hrk
      clear hr hrk
      have hb1 : (w.alloc (.cells #[.pointer (some ⟨1, 39, none⟩), .pointer (some ⟨v, 0, none⟩), .int .u64 150] 63)).heap[b]? = some (.cells #[.string s, .iface T x] 55 (0, 0)) := alloc_old hb
      have HB := hid hb1
      clear hb1 hb
      go_wp2_with (first | (go_at_call 21; refine (munwrap_any b s _ _ HB.out).mono ?_; rintro ev w' ⟨rfl, rfl⟩))
      go_roundw
      case rel => exact ⟨r, HR.out, trivial⟩
      case measure => have := HK.out; simp only [rk] at this ⊢; omega

set_option maxHeartbeats 4000000 in
set_option maxRecDepth 100000 in
/-- .. with no code along it. -/
theorem as_text (w : World) (t v : Nat) (x0 : ByteArray) (l : List ByteArray) (e : Value) (hc : Chain w l (.text x0) e) :
    Calls Tryd.prog 32 #[e, .iface 39 (.pointer (some ⟨t, 0, none⟩)), .agg #[.pointer (some ⟨1, 39, none⟩), .pointer (some ⟨v, 0, none⟩), .int .u64 150], .iface 85 (.agg #[.pointer (some ⟨1, 22, none⟩)])] w fun ev w' =>
      ev = .returned (.bool false) ∧ Below w.heap.size w w' := by
  have h10 := @run_callFunc_extern Tryd.prog 27 _ ReflectliteType.typeOf Tryd.func27 (by kernel_rfl) (by kernel_rfl) (by kernel_rfl) (by kernel_rfl)
  have h35 := @run_callFunc_extern Tryd.prog 63 _ (ReflectliteType.relation "AssignableTo" ReflectliteType.assignableTo) Tryd.func63 (by kernel_rfl) (by kernel_rfl) (by kernel_rfl) (by kernel_rfl)
  have mA := methodAssignableTo
  have tF := typeOfF
  have tS := typeOfS
  have aF := assFC
  have aS := assSC
  have nA := noAsF
  have nS := noAsS
  have hU := hasUnF
  have uS := noUnS
  have sS := noUsS
  have mU := methodUnwrap
  go_enter Tryd.func32, Tryd.ntmps32
  go_wp2
  go_loopw [0] (fun x wr => ∃ l', Chain w l' (.text x0) x ∧ wr = w.alloc (.cells #[.pointer (some ⟨1, 39, none⟩), .pointer (some ⟨v, 0, none⟩), .int .u64 150] 63)) (fun x _ => rk x)
  case atStart => exact ⟨l, hc, rfl⟩
  case round =>
    obtain ⟨l', hx, rfl⟩ := hrel
    cases l' with
    | nil =>
      obtain ⟨b, rfl, hb⟩ := hx
      go_wp2
      go_ret
      exact ⟨rfl, (Below.refl _ _).alloc (Nat.le_refl _) _⟩
    | cons s r =>
      obtain ⟨b, c, rfl, hb, hrk, hr⟩ := hx
      obtain ⟨T, x, rfl⟩ := hr.shape
      have HR := hid hr
      have HK := hid hrk
      clear hr hrk
      have hb1 : (w.alloc (.cells #[.pointer (some ⟨1, 39, none⟩), .pointer (some ⟨v, 0, none⟩), .int .u64 150] 63)).heap[b]? = some (.cells #[.string s, .iface T x] 55 (0, 0)) := alloc_old hb
      have HB := hid hb1
      clear hb1 hb
      go_wp2_with (first | (go_at_call 21; refine (munwrap_any b s _ _ HB.out).mono ?_; rintro ev w' ⟨rfl, rfl⟩))
      go_roundw
      case rel => exact ⟨r, HR.out, trivial⟩
      case measure => have := HK.out; simp only [rk] at this ⊢; omega

set_option maxHeartbeats 4000000 in
set_option maxRecDepth 100000 in
/-- The target '**fault.Fault': the first fault. -/
theorem as_fault (w : World) (t v : Nat) (old : Value) (b : Nat)
    (ht : w.heap[t]? = some (.cells #[old] 43 (0, 0))) (hv : w.heap[v]? = some (.cells #[.pointer (some ⟨t, 0, none⟩)] 44 (0, 0))) :
    Calls Tryd.prog 32 #[.iface 43 (.pointer (some ⟨b, 0, none⟩)), .iface 44 (.pointer (some ⟨t, 0, none⟩)), .agg #[.pointer (some ⟨1, 44, none⟩), .pointer (some ⟨v, 0, none⟩), .int .u64 150], .iface 85 (.agg #[.pointer (some ⟨1, 43, none⟩)])] w fun ev w' =>
      ev = .returned (.bool true) ∧ w'.heap[t]? = some (.cells #[.pointer (some ⟨b, 0, none⟩)] 43 (0, 0)) ∧ w.grownBy w' (some t) := by
  have h10 := @run_callFunc_extern Tryd.prog 27 _ ReflectliteType.typeOf Tryd.func27 (by kernel_rfl) (by kernel_rfl) (by kernel_rfl) (by kernel_rfl)
  have h35 := @run_callFunc_extern Tryd.prog 63 _ (ReflectliteType.relation "AssignableTo" ReflectliteType.assignableTo) Tryd.func63 (by kernel_rfl) (by kernel_rfl) (by kernel_rfl) (by kernel_rfl)
  have h11 := @run_callFunc_extern Tryd.prog 36 _ (ReflectliteValue.method (ReflectliteValue.valueError "reflectlite.Value.Elem" 0) ReflectliteValue.elem) Tryd.func36 (by kernel_rfl) (by kernel_rfl) (by kernel_rfl) (by kernel_rfl)
  have h12 := @run_callFunc_extern Tryd.prog 37 _ ReflectliteValue.set Tryd.func37 (by kernel_rfl) (by kernel_rfl) (by kernel_rfl) (by kernel_rfl)
  have h6 := @run_callFunc_extern Tryd.prog 29 _ (fun args => ReflectliteValue.unpack (args.getD 0 (.tuple #[]))) Tryd.func29 (by kernel_rfl) (by kernel_rfl) (by kernel_rfl) (by kernel_rfl)
  have mA := methodAssignableTo
  have tF := typeOfF
  have aF := assFF
  have vE := valueOfFault
  have c0 := (one_cell ht).1
  have f0 := (one_cell ht).2
  have cv := (one_cell hv).1
  have tlt := lt_of_block ht
  have vlt := lt_of_block hv
  have HT := hid ht
  clear ht hv
  have cv1 : (w.alloc (.cells #[.pointer (some ⟨1, 44, none⟩), .pointer (some ⟨v, 0, none⟩), .int .u64 150] 63)).cell? ⟨v, 0, none⟩ = some (.pointer (some ⟨t, 0, none⟩)) := by rw [World.cell?_alloc_lt _ _ ⟨v, 0, none⟩ vlt]; exact cv
  have el := elemVF ⟨v, 0, none⟩ ⟨t, 0, none⟩ _ cv1
  have st := setF ⟨t, 0, none⟩ ⟨w.heap.size + 1, 0, none⟩ ⟨b, 0, none⟩ old ((w.alloc (.cells #[.pointer (some ⟨1, 44, none⟩), .pointer (some ⟨v, 0, none⟩), .int .u64 150] 63)).alloc (.cells #[.pointer (some ⟨b, 0, none⟩)] 43))
    (by rw [World.cell?_alloc_at _ _ _ _ (by simp)]; rfl)
    (by rw [World.cell?_alloc_lt _ _ ⟨t, 0, none⟩ (by simp; omega), World.cell?_alloc_lt _ _ ⟨t, 0, none⟩ tlt]; exact c0)
    (by rw [World.frozen?_alloc_old _ _ ⟨t, 0, none⟩ (by simp; omega), World.frozen?_alloc_old _ _ ⟨t, 0, none⟩ (Nat.ne_of_lt tlt)]; exact f0)
  go_enter Tryd.func32, Tryd.ntmps32
  go_wp2
  refine wp_loop_rounds 1 ?_
  rw [rounds_succ]
  go_wp2
  go_ret
  exact ⟨rfl, alloc_old (alloc_old (one_set HT.out _)), grown_trans (grown_trans (grown_set _ ⟨t, 0, none⟩ _) (grown_alloc _ _ _)) (grown_alloc _ _ _)⟩

set_option maxHeartbeats 4000000 in
set_option maxRecDepth 100000 in
/-- .. of what is no fault. -/
theorem as_none (w : World) (t v : Nat) (d : End) (e : Value) (hc : Ends w d e) :
    Calls Tryd.prog 32 #[e, .iface 44 (.pointer (some ⟨t, 0, none⟩)), .agg #[.pointer (some ⟨1, 44, none⟩), .pointer (some ⟨v, 0, none⟩), .int .u64 150], .iface 85 (.agg #[.pointer (some ⟨1, 43, none⟩)])] w fun ev w' =>
      ev = .returned (.bool false) ∧ Below w.heap.size w w' := by
  have h10 := @run_callFunc_extern Tryd.prog 27 _ ReflectliteType.typeOf Tryd.func27 (by kernel_rfl) (by kernel_rfl) (by kernel_rfl) (by kernel_rfl)
  have h35 := @run_callFunc_extern Tryd.prog 63 _ (ReflectliteType.relation "AssignableTo" ReflectliteType.assignableTo) Tryd.func63 (by kernel_rfl) (by kernel_rfl) (by kernel_rfl) (by kernel_rfl)
  have mA := methodAssignableTo
  have tC := typeOfC
  have tS := typeOfS
  have aC := assCF
  have aS := assSF
  have nC := noAsC
  have nS := noAsS
  have uC := noUnC
  have uS := noUnS
  have sC := noUsC
  have sS := noUsS
  cases d with
  | code n =>
    obtain rfl := hc
    go_enter Tryd.func32, Tryd.ntmps32
    go_wp2
    refine wp_loop_rounds 1 ?_
    rw [rounds_succ]
    go_wp2
    go_ret
    exact ⟨rfl, (Below.refl _ _).alloc (Nat.le_refl _) _⟩
  | text s =>
    obtain ⟨b, rfl, hb⟩ := hc
    clear hb
    go_enter Tryd.func32, Tryd.ntmps32
    go_wp2
    refine wp_loop_rounds 1 ?_
    rw [rounds_succ]
    go_wp2
    go_ret
    exact ⟨rfl, (Below.refl _ _).alloc (Nat.le_refl _) _⟩
end Go.Proofs.YtombgehopopdfaaDoor
