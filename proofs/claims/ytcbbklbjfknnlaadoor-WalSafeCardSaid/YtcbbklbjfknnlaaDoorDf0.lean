/-
  DISK: a region that draws its order, within a round, by what it does outside; what Backward makes.
-/
import Derived.Test.YtcbbklbjfknnlaaDoorDk
set_option linter.unusedVariables false
namespace Go.Proofs.YtcbbklbjfknnlaaDoor
open Go.RowKit Go.Shelf

theorem opIn_wide {P : Program} {l n : Nat} {o : Oper} {a : Act} {w : World} {K : Act → World → Prop} {Q : Exit → Act → World → Prop} (hd : ∀ c, o.op ≠ .defer c) (hr : ∀ row args w', (execOp a.eval o).run P w ≠ .ok (.row row args) w')
    (h : o.wp P a w K Q) : o.wpIn (Fence.wide.inRound l) n P a w K Q := by
  unfold Oper.wp at h
  refine ⟨fun _ _ => trivial, ?_⟩
  rw [Oper.semAt_eq _ _ _ hd]
  generalize hg : (execOp a.eval o).run P w = r at h
  cases r with
  | halt x w' => cases x <;> first | exact h | exact h.elim
  | ok x w' =>
    cases x with
    | value v => exact h
    | skip => exact h
    | defer d => exact h
    | enter f args => exact ⟨fun e => by simp [Fence.wide] at e, CallsIn.inRound l (callsIn_wide.2 (h.mono (fun e w'' he => by cases e <;> exact he)))⟩
    | row row args => exact (hr _ _ _ hg).elim
    | _ => exact h.elim

theorem anyIn_wide {P : Program} {l n : Nat} {md : Region.Mode} {ops : Array Oper} {Q : Exit → Act → World → Prop} (hq : ¬ LetsOut Q) (hd : ∀ (i : Nat) (o : Oper), ops[i]? = some o → (∀ c, o.op ≠ .defer c) ∧ ∀ (a : Act) (w : World) row args w', (execOp a.eval o).run P w ≠ .ok (.row row args) w') :
    ∀ (fuel : Nat) (listed : Array Bool) (a : Act) (w : World), wpAny P md ops Q fuel listed a w → wpAnyIn (Fence.wide.inRound l) n P md ops Q fuel listed a w
  | 0, _, _, _, h => h
  | fuel + 1, listed, a, w, h => ⟨h.1, fun i hi => by
    have h1 := h.2 i hi
    unfold wpOp at h1
    unfold wpOpIn
    cases ho : ops[i]? with
    | none => rw [ho] at h1; exact anyIn_wide hq hd fuel _ a w h1
    | some o =>
      rw [ho] at h1
      simp only at h1 ⊢
      split
      · rename_i hw
        rw [if_pos hw] at h1
        rcases h1 with h1 | h1
        · exact Oper.wpIn_mono (fun a' w' h' => anyIn_wide hq hd fuel _ a' w' h') (opIn_wide (hd i o ho).1 ((hd i o ho).2 a w) h1)
        · exact (hq h1.2).elim
      · rename_i hw
        rw [if_neg hw] at h1
        exact ⟨fun _ _ => trivial, anyIn_wide hq hd fuel _ _ w h1⟩⟩

/-- Operations that hand on a value, or nothing. -/
def simpleOp : Op → Bool
  | .move _ | .load _ _ | .store _ _ _ | .fieldAddr _ _ _ | .indexAddr _ _ _ => true
  | .nilCheck _ => true
  | _ => false
theorem noRow_v {P : Program} {w w' : World} {row : String} {args : Array Value} (s : Sem Value) : (do pure (Next.value (← s)) : Sem Next).run P w ≠ .ok (.row row args) w' := by
  rw [Sem.run_bind]
  cases s.run P w with
  | ok v w2 => intro h; simp [Result.andThen] at h
  | halt x w2 => intro h; simp [Result.andThen] at h
theorem noRow_u {P : Program} {w w' : World} {row : String} {args : Array Value} (s : Sem Unit) : (do s; pure Next.skip : Sem Next).run P w ≠ .ok (.row row args) w' := by
  rw [Sem.run_bind]
  cases s.run P w with
  | ok v w2 => intro h; simp [Result.andThen] at h
  | halt x w2 => intro h; simp [Result.andThen] at h
theorem simple_noRow {P : Program} {o : Oper} (h : simpleOp o.op = true) (ρ : Operand → Value) (w : World) (row : String) (args : Array Value) (w' : World) : (execOp ρ o).run P w ≠ .ok (.row row args) w' := by
  unfold execOp
  cases ho : o.op <;> rw [ho] at h <;> first | (cases h; done) | (exact noRow_v _) | (exact noRow_u _) | skip
  · intro h9
    simp at h9
  · dsimp only
    split
    all_goals first
      | (intro h9; simp at h9; done)
      | (intro h9; simp [runtimePanic] at h9; done)
      | (split <;> first | (intro h9; simp at h9; done) | (intro h9; simp [runtimePanic] at h9; done) | skip)
    intro h9
    rw [Sem.run_bind] at h9
    generalize (program : Sem Program).run P w = r1 at h9
    cases r1 with
    | halt x w2 => simp [Result.andThen] at h9
    | ok p w2 =>
      simp only [Result.andThen_ok] at h9
      rw [Sem.run_bind] at h9
      generalize Sem.run P _ w2 = r2 at h9
      cases r2 with
      | halt x w3 => simp [Result.andThen] at h9
      | ok b w3 =>
        simp only [Result.andThen_ok] at h9
        split at h9
        · rw [Sem.run_bind] at h9
          generalize Sem.run P _ w3 = r3 at h9
          cases r3 with
          | halt x w4 => simp [Result.andThen] at h9
          | ok b w4 => simp [Result.andThen_ok] at h9
        · simp at h9

/-- The beginning, within a round. -/
theorem region_held_in {P : Program} {l n id : Nat} {ops : Array Oper} {Q : Exit → Act → World → Prop} {S : World → Prop} {a : Act} {w : World} (hm : P.follows .mixedOrders = true) (hq : ¬ LetsOut Q)
    (hd : ∀ (i : Nat) (o : Oper), ops[i]? = some o → (∀ c, o.op ≠ .defer c) ∧ ∀ (a : Act) (w : World) row args w', (execOp a.eval o).run P w ≠ .ok (.row row args) w')
    (hS : S w.drew) (h : S w.drew → wpAnyH P .any ops Q S ops.size (Array.replicate ops.size false) a w.drew) : (Code.region id ops true).wpIn (Fence.wide.inRound l) n P Q a w :=
  wpIn_region_any hm (anyIn_wide hq hd _ _ _ _ (wpAny_of_held _ _ _ _ (h hS)))

/-- A store within a fence, by its run. -/
theorem wpListIn_store {F : Fence} {n : Nat} {P : Program} {w w' : World} {ops : Array Oper} {rest : List Oper} {o : Oper} {a : Act} {Q : Exit → Act → World → Prop}
    (hg : o.guard = none) (t : TypeId) (x y : Operand) (hop : o.op = Op.store t x y) (hrun : (Instr.storeAt t (a.eval x) (a.eval y)).run P w = .ok () w')
    (hK : wpListIn F n P ops Q rest (a.put o.dst undef) w') : wpListIn F n P ops Q (o :: rest) a w := by
  refine wpListIn_plain hg fun K hK' => ?_
  unfold Oper.wpIn
  refine ⟨?_, ?_⟩
  · simp [Oper.about, hop]
  · rw [Oper.semAt_plain F _ _ (by rw [hop]; intro c hc'; cases hc')]
    rw [exec_store hop hrun]
    exact hK' _ _ hK

theorem simple_all {P : Program} {L : List Oper} (h : (L.all fun o => simpleOp o.op) = true) : ∀ (i : Nat) (o : Oper), L.toArray[i]? = some o → (∀ c, o.op ≠ .defer c) ∧ ∀ (a : Act) (w : World) row args w', (execOp a.eval o).run P w ≠ .ok (.row row args) w' := fun i o ho => by
  rw [List.getElem?_toArray] at ho
  have h1 := List.all_eq_true.1 h o (List.mem_of_getElem? ho)
  exact ⟨(fun c e => by rw [e] at h1; cases h1), fun a w row args w' => simple_noRow h1 a.eval w row args w'⟩

/-- An iterator, its function's number and the box that it reads. -/
def MakeA (f : Nat) (t : TypeId) (v : Value) (w : World) (e : Ending) (w' : World) : Prop :=
  e = .returned (.func (.func f) #[] #[.pointer (some ⟨w.heap.size, 0, none⟩)]) ∧ w' = w.alloc (.cells #[v] t)

set_option maxRecDepth 100000 in
theorem backW_any (ao : Option Addr) (n c : Nat) (w : World) : Calls Tryd.prog 49 #[.slice ao n c] w (MakeA 65 50 (.slice ao n c) w) := by
  go_enter Tryd.func49, Tryd.ntmps49
  go_wp2_with fail
  go_ret
  exact ⟨rfl, rfl⟩
end Go.Proofs.YtcbbklbjfknnlaaDoor
