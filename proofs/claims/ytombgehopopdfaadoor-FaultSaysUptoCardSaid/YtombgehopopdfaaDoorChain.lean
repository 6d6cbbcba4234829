/-
  ERRORS IN MEMORY: 'Chain w l d v': the error value v is faults around an end d, the outmost first saying the first of l. What New, Wrap, errors.New and Unwrap do.
-/
import Derived.Test.YtombgehopopdfaaDoorAs
import Derived.Test.YtombgehopopdfaaDoorBytes
set_option linter.unusedVariables false
namespace Go.Proofs.YtombgehopopdfaaDoor
open Go.RowKit Go.Extern.Stop Go.Stop Go.Extern

/-- What stands behind all faults: a code, or an error of errors.New's make. -/
inductive End where
  | code (n : Int)
  | text (s : ByteArray)

def Ends (w : World) : End → Value → Prop
  | .code n, v => v = .iface 22 (.int .i64 n)
  | .text s, v => ∃ b, v = .iface 70 (.pointer (some ⟨b, 0, none⟩)) ∧ w.heap[b]? = some (.cells #[.string s] 72 (0, 0))

/-- One more than the block that an error's value leads to. -/
def rk : Value → Nat
  | .iface _ (.pointer (some a)) => a.block + 1
  | _ => 0

/-- (A cause was there before what wraps it.) -/
def Chain (w : World) : List ByteArray → End → Value → Prop
  | [], d, v => Ends w d v
  | s :: r, d, v => ∃ b c, v = .iface 43 (.pointer (some ⟨b, 0, none⟩)) ∧ w.heap[b]? = some (.cells #[.string s, c] 55 (0, 0)) ∧ rk c ≤ b ∧ Chain w r d c

/-- Errors stay, and the variable of the library. -/
structure Keeps (w w' : World) : Prop where
  zero : w'.heap[0]? = w.heap[0]?
  errs : ∀ (k : Nat) (cs : Array Value) (T : TypeId), (T = 55 ∨ T = 72) → w.heap[k]? = some (Obj.cells cs T (0, 0)) → w'.heap[k]? = some (Obj.cells cs T (0, 0))

theorem grown_draw (w : World) (n : Nat) (row : Option Nat) : w.grownBy (w.drewN n) row := ⟨rfl, rfl, rfl, Nat.le_refl _, fun _ _ _ => rfl⟩
theorem Keeps.refl (w : World) : Keeps w w := ⟨rfl, fun _ _ _ _ h => h⟩
theorem Keeps.trans {a b c : World} (h : Keeps a b) (k : Keeps b c) : Keeps a c := ⟨k.zero.trans h.zero, fun i cs T ht hi => k.errs i cs T ht (h.errs i cs T ht hi)⟩
theorem Keeps.below {w w' : World} (h : Below w.heap.size w w') (h0 : 0 < w.heap.size) : Keeps w w' := ⟨h.block 0 h0, fun k cs T _ hk => by rw [h.block k (lt_of_block hk)]; exact hk⟩
/-- Where one block was written that is no error's. -/
theorem Keeps.grown {w w' : World} {t : Nat} {cs : Array Value} {T : TypeId} (h : w.grownBy w' (some t)) (ht : w.heap[t]? = some (.cells cs T (0, 0))) (hT : T ≠ 55 ∧ T ≠ 72) (h0 : t ≠ 0) : Keeps w w' := by
  have hlt := lt_of_block ht
  refine ⟨h.block 0 (by omega) (fun e => h0 (by cases e; rfl)), fun k cs' T' hT' hk => ?_⟩
  rw [h.block k (lt_of_block hk) (fun e => ?_)]
  · exact hk
  · cases e
    rw [ht] at hk
    cases hk
    rcases hT' with rfl | rfl
    · exact hT.1 rfl
    · exact hT.2 rfl
theorem Keeps.drew {w w' : World} (h : Keeps w w') (n : Nat) : Keeps w (w'.drewN n) := by
  exact ⟨h.zero, h.errs⟩

theorem Ends.kept {w w' : World} {d : End} {v : Value} (h : Ends w d v) (hk : Keeps w w') : Ends w' d v := by
  cases d with
  | code n => exact h
  | text s => obtain ⟨b, hv, hb⟩ := h; exact ⟨b, hv, hk.errs _ _ _ (.inr rfl) hb⟩
theorem Chain.kept {w w' : World} {d : End} (hk : Keeps w w') : ∀ {l : List ByteArray} {v : Value}, Chain w l d v → Chain w' l d v
  | [], _, h => Ends.kept h hk
  | s :: r, v, h => by
    obtain ⟨b, c, hv, hb, hc, hr⟩ := h
    exact ⟨b, c, hv, hk.errs _ _ _ (.inl rfl) hb, hc, Chain.kept hk hr⟩
theorem Chain.rk_le {w : World} {d : End} : ∀ {l : List ByteArray} {v : Value}, Chain w l d v → rk v ≤ w.heap.size
  | [], _, h => by
    cases d with
    | code n => obtain rfl := h; exact Nat.zero_le _
    | text s => obtain ⟨b, rfl, hb⟩ := h; exact lt_of_block hb
  | s :: r, v, h => by obtain ⟨b, c, rfl, hb, _⟩ := h; exact lt_of_block hb

/-- The variable errors.errorType holds the handle of the type 'error'. -/
def Ready (w : World) : Prop := w.cell? ⟨0, 0, none⟩ = some (.iface 85 (.agg #[.pointer (some ⟨1, 25, none⟩)]))
theorem Ready.lt {w : World} (h : Ready w) : 0 < w.heap.size := World.block_lt_of_cell? w _ h
theorem Ready.kept {w w' : World} (h : Ready w) (hk : Keeps w w') : Ready w' := by
  unfold Ready
  have := World.cell?_of_block (w := w) (w' := w') (a := ⟨0, 0, none⟩) hk.zero
  rw [this]
  exact h

/-- A chain's value is no nil. -/
theorem Chain.shape {w : World} {d : End} : ∀ {l : List ByteArray} {v : Value}, Chain w l d v → ∃ T x, v = .iface T x
  | [], _, h => by
    cases d with
    | code n => exact ⟨_, _, h⟩
    | text s => obtain ⟨b, hv, _⟩ := h; exact ⟨_, _, hv⟩
  | _ :: _, _, h => by obtain ⟨b, c, hv, _⟩ := h; exact ⟨_, _, hv⟩

/-! ### Wrap, New, errors.New -/
theorem wrap_nil (s : ByteArray) (w : World) : Calls Tryd.prog 18 #[.nilIface, .string s] w fun e w' => e = .returned .nilIface ∧ w' = w := by
  go_enter Tryd.func18, Tryd.ntmps18
  go_wp2
  go_ret
  exact ⟨rfl, rfl⟩
theorem wrap_any (T : TypeId) (x : Value) (s : ByteArray) (w : World) : Calls Tryd.prog 18 #[.iface T x, .string s] w fun e w' =>
    e = .returned (.iface 43 (.pointer (some ⟨w.heap.size, 0, none⟩))) ∧ w' = w.alloc (.cells #[.string s, .iface T x] 55) := by
  go_enter Tryd.func18, Tryd.ntmps18
  go_wp2
  go_ret
  exact ⟨rfl, rfl⟩
theorem new_ok (s : ByteArray) (w : World) : Calls Tryd.prog 17 #[.int .i64 0, .string s] w fun e w' => e = .returned .nilIface ∧ w' = w := by
  go_enter Tryd.func17, Tryd.ntmps17
  go_wp2
  go_ret
  exact ⟨rfl, rfl⟩
theorem new_any (n : Int) (hn : n ≠ 0) (s : ByteArray) (w : World) : Calls Tryd.prog 17 #[.int .i64 n, .string s] w fun e w' =>
    e = .returned (.iface 43 (.pointer (some ⟨w.heap.size, 0, none⟩))) ∧ w' = w.alloc (.cells #[.string s, .iface 22 (.int .i64 n)] 55) := by
  have hd : (n == 0) = false := by simp [hn]
  go_enter Tryd.func17, Tryd.ntmps17
  go_wp2_with (go_at_call 18; refine (wrap_any _ _ _ _).mono ?_; rintro e w' ⟨rfl, rfl⟩)
  go_ret
  exact ⟨rfl, rfl⟩
theorem enew_any (s : ByteArray) (w : World) : Calls Tryd.prog 20 #[.string s] w fun e w' =>
    e = .returned (.iface 70 (.pointer (some ⟨w.heap.size, 0, none⟩))) ∧ w' = w.alloc (.cells #[.string s] 72) := by
  go_enter Tryd.func20, Tryd.ntmps20
  go_wp2
  go_ret
  exact ⟨rfl, rfl⟩

theorem alloc_at (w : World) (o : Obj) : (w.alloc o).heap[w.heap.size]? = some o := by
  show (w.heap.push o)[w.heap.size]? = _
  simp
theorem alloc_old {w : World} {o o' : Obj} {k : Nat} (h : w.heap[k]? = some o') : (w.alloc o).heap[k]? = some o' := by
  rw [Below.heap_alloc _ _ _ (lt_of_block h)]; exact h

/-- Wrapped once more. -/
theorem Chain.cons {w : World} {l : List ByteArray} {d : End} {v : Value} (h : Chain w l d v) (h0 : 0 < w.heap.size) (s : ByteArray) :
    Chain (w.alloc (.cells #[.string s, v] 55)) (s :: l) d (.iface 43 (.pointer (some ⟨w.heap.size, 0, none⟩))) :=
  ⟨w.heap.size, v, rfl, alloc_at _ _, h.rk_le, h.kept (Keeps.below ((Below.refl _ _).alloc (Nat.le_refl _) _) h0)⟩
theorem Chain.first {w : World} (n : Int) (h0 : 0 < w.heap.size) (s : ByteArray) :
    Chain (w.alloc (.cells #[.string s, .iface 22 (.int .i64 n)] 55)) [s] (.code n) (.iface 43 (.pointer (some ⟨w.heap.size, 0, none⟩))) :=
  Chain.cons (l := []) (d := .code n) (w := w) rfl h0 s
theorem Chain.other {w : World} (s : ByteArray) : Chain (w.alloc (.cells #[.string s] 72)) [] (.text s) (.iface 70 (.pointer (some ⟨w.heap.size, 0, none⟩))) :=
  ⟨w.heap.size, rfl, alloc_at _ _⟩

/-! ### Unwrap -/
theorem munwrap_nil (w : World) : Calls Tryd.prog 21 #[.pointer none] w fun e w' => e = .returned .nilIface ∧ w' = w := by
  go_enter Tryd.func21, Tryd.ntmps21
  go_wp2
  go_ret
  exact ⟨rfl, rfl⟩
theorem munwrap_any (b : Nat) (s : ByteArray) (c : Value) (w : World) (h : w.heap[b]? = some (.cells #[.string s, c] 55 (0, 0))) :
    Calls Tryd.prog 21 #[.pointer (some ⟨b, 0, none⟩)] w fun e w' => e = .returned c ∧ w' = w := by
  have h1 : w.cell? ⟨b, 1, none⟩ = some c := by simp [World.cell?, h]
  go_enter Tryd.func21, Tryd.ntmps21
  go_wp2
  go_ret
  exact ⟨rfl, rfl⟩
theorem eunwrap_any (b : Nat) (s : ByteArray) (c : Value) (w : World) (h : w.heap[b]? = some (.cells #[.string s, c] 55 (0, 0))) :
    Calls Tryd.prog 22 #[.iface 43 (.pointer (some ⟨b, 0, none⟩))] w fun e w' => e = .returned c ∧ w' = w := by
  have hu := hasUnF
  have mu := methodUnwrap
  go_enter Tryd.func22, Tryd.ntmps22
  go_wp2_with (go_at_call 21; refine (munwrap_any b s c _ h).mono ?_; rintro e w' ⟨rfl, rfl⟩)
  go_ret
  exact ⟨rfl, rfl⟩
end Go.Proofs.YtombgehopopdfaaDoor
