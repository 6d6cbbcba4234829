/-
  WAL: a region that draws and calls, within a round of a range over a function.
-/
import Derived.Test.YtcbbklbjfknnlaaDoorWj
set_option linter.unusedVariables false
set_option maxRecDepth 100000
namespace Go.Proofs.YtcbbklbjfknnlaaDoor
open Go.RowKit Go.Shelf

/-- A call of a function of the program's own hands over no row. -/
theorem call_noRow {P : Program} {o : Oper} (k : Nat) (xs : Array Operand) (ts : Array TypeId) (h : o.op = .call { callee := .value (.func k), args := xs, argTypes := ts }) (he : ∀ args w, (callFunc k args).run P w = .ok (.enter k args) w) (a : Act) (w : World) (row : String) (args : Array Value) (w' : World) : (execOp a.eval o).run P w ≠ .ok (.row row args) w' := by
  have hρ : a.eval (.func k) = .func (.func k) #[] #[] := rfl
  unfold execOp
  rw [h]
  dsimp only
  simp only [resolve, hρ]
  intro h9
  have h8 : (callFunc k (xs.map a.eval)).run P w = .ok (.row row args) w' := by simpa [invoke, Deferred.ofValue, Sem.run_bind, go_sem] using h9
  rw [he] at h8
  cases h8

theorem assign_noRow {P : Program} {o : Oper} (x : Operand) (h : o.op = .assign x) (a : Act) (w : World) (row : String) (args : Array Value) (w' : World) : (execOp a.eval o).run P w ≠ .ok (.row row args) w' := by
  unfold execOp
  rw [h]
  intro h9
  simp at h9

/-- Operations that hand on a value, or nothing, or enter one of the functions listed. -/
theorem calls_all {P : Program} {L : List Oper} (fs : List Nat) (hf : ∀ k ∈ fs, ∀ args w, (callFunc k args).run P w = .ok (.enter k args) w) (h : ∀ o ∈ L, simpleOp o.op = true ∨ (∃ x, o.op = .assign x) ∨ ∃ k xs ts, k ∈ fs ∧ o.op = .call { callee := .value (.func k), args := xs, argTypes := ts }) :
    ∀ (i : Nat) (o : Oper), L.toArray[i]? = some o → (∀ c, o.op ≠ .defer c) ∧ ∀ (a : Act) (w : World) row args w', (execOp a.eval o).run P w ≠ .ok (.row row args) w' := fun i o ho => by
  have hm : o ∈ L := by
    rw [List.getElem?_toArray] at ho
    exact List.mem_of_getElem? ho
  rcases h o hm with h1 | ⟨x, h1⟩ | ⟨k, xs, ts, hk, h1⟩
  · refine ⟨fun c hc => ?_, fun a w row args w' => simple_noRow h1 a.eval w row args w'⟩
    rw [hc] at h1
    cases h1
  · refine ⟨fun c hc => ?_, fun a w row args w' => assign_noRow x h1 a w row args w'⟩
    rw [h1] at hc
    cases hc
  · refine ⟨fun c hc => ?_, fun a w row args w' => call_noRow k xs ts h1 (hf k hk) a w row args w'⟩
    rw [h1] at hc
    cases hc

/-- A call of one of the program's own functions, as one step of a region. -/
theorem wp_callop {P : Program} {o : Oper} {a : Act} {w : World} {K : Act → World → Prop} {Q : Exit → Act → World → Prop} (k : Nat) (xs : Array Operand) (ts : Array TypeId) (ho : o.op = .call { callee := .value (.func k), args := xs, argTypes := ts }) (he : ∀ args w, (callFunc k args).run P w = .ok (.enter k args) w)
    {args : Array Value} (hargs : xs.map a.eval = args) {R : Ending → World → Prop} (hc : Calls P k args w R) (hK : ∀ e w', R e w' → ∃ v, e = .returned v ∧ K (a.put o.dst v) w') : Oper.wp P o a w K Q := by
  have hρ : a.eval (.func k) = .func (.func k) #[] #[] := rfl
  have h8 : (execOp a.eval o).run P w = .ok (.enter k args) w := by
    rw [← hargs, ← he (xs.map a.eval) w]
    unfold execOp
    rw [ho]
    dsimp only
    simp only [resolve, hρ]
    simp [invoke, Deferred.ofValue, Sem.run_bind]
  unfold Oper.wp
  rw [h8]
  simp only [Oper.upon]
  refine hc.mono fun e w' h => ?_
  obtain ⟨v, rfl, hk⟩ := hK e w' h
  exact hk
end Go.Proofs.YtcbbklbjfknnlaaDoor
