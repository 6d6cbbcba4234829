/-
  DISK: ranges over functions whose elements are new in each round (from package pages' texts).
-/
import Derived.RangeFuncNested
import Derived.RangeFuncBound
import Derived.RangeFuncCalls
import Derived.RangeFuncLeaves
import Derived.RangeFuncBox
import Derived.Shelf.Abstract
import Derived.Shelf.RegionOpen
import Derived.WalkKit
import Derived.OwnWalkIn
import Derived.TacticsInMore
import Derived.LoopNIn
import Derived.LoopIn
import Derived.OrdersIn
import Derived.Test.YtcbbklbjfknnlaaDoorDw
set_option linter.unusedVariables false
namespace Go.Proofs.YtcbbklbjfknnlaaDoor
open Go.RowKit Go.Shelf
attribute [local go_sem] Oper.semAt_some

/-- What an iterator does with a yield. -/
def SeqR {α : Type} (F : Fence) (n : Nat) (P : Program) (g : Nat) (lb : Array Value) (encs : α → Array Value) (Kp : World → World → Prop) (Rx : List α → α → World → Prop) (S Sp : List α → Prop) (w : World) : Prop :=
  ∀ (l : Nat) (J Jx : List α → World → Prop) (W : World), Below w.heap.size w W → OwnFrom W.heap.size J → OwnFrom W.heap.size Jx →
    (∀ pre x W1, J pre W1 → Rx pre x W1 → W.heap.size ≤ W1.heap.size → YieldAt F (n - 1) P l (encs x) W1 fun e W' =>
      (e = .returned (.bool true) ∧ J (pre ++ [x]) W' ∧ Kp W1 W' ∧ KeepsFrom W.heap.size W1 W') ∨ (e = .returned (.bool false) ∧ Jx (pre ++ [x]) W' ∧ KeepsFrom W.heap.size W1 W')) →
    J [] W →
    CallsIn F n P g (#[.func (.yield l) #[] #[]] ++ lb) W fun e W' => (∃ v, e = .returned v) ∧ ((∃ xs, S xs ∧ J xs W') ∨ (∃ pre, Sp pre ∧ Jx pre W'))

theorem own_below {β : Type} {B : Nat} {I : β → World → Prop} (h : OwnFrom B I) {s : β} {W W' : World} (hs : I s W) (hb : Below W.heap.size W W') : I s W' :=
  h s W W' none hs (grown_below hb none) (fun r e => by cases e)

/-- One block alone has turned, a loop's record. -/
structure Turn (l : Nat) (A B : World) : Prop where
  grown : A.grownBy B (some l)
  old : ∃ o : Obj, A.heap[l]? = some o ∧ o.isCells = false
  now : ∃ r : Loop, B.heap[l]? = some (.loop r)

theorem turn_put {A : World} {l : Nat} {r : Loop} (h : A.heap[l]? = some (.loop r)) (r' : Loop) : Turn l A (A.putObj l (.loop r')) :=
  ⟨grownBy_putObj' A l _, ⟨_, h, rfl⟩, r', World.putObj_heap_same (lt_of_block h)⟩

theorem own_turn {β : Type} {B : Nat} {I : β → World → Prop} (h : OwnFrom B I) {s : β} {W W' : World} {l : Nat} (hs : I s W) (ht : Turn l W W') (hl : B ≤ l) : I s W' :=
  h s W W' (some l) hs ht.grown (fun r e => by cases e; exact ⟨hl, ht.old⟩)

/-- A round: its assignments, and its body behind the record's turn. -/
def RoundR {α : Type} (F : Fence) (n : Nat) (P : Program) (ps : Array Tmp) (assign body : Code) (tmps : Array Value) (encs : α → Array Value) (B : Nat) (Kp : World → World → Prop) (I : List α → World → Prop) (Ix : Code → List α → World → Prop) (Rx : List α → α → World → Prop) : Prop :=
  ∀ (l : Nat) (pre : List α) (x : α) (W : World), B ≤ l → (∃ r : Loop, W.heap[l]? = some (.loop r)) → I pre W → Rx pre x W →
    assign.wpIn (F.inRound l) n P (Exit.then (fun a' Wa => KeepsFrom B W Wa ∧ Kp W Wa ∧ ∀ Wb, Turn l Wa Wb → body.wpIn (F.inRound l) n P (ownPostG B Kp I Ix (pre ++ [x]) Wb) a' Wb) (fun _ _ _ => False))
      { tmps := (ps.zip (encs x)).foldl (fun t (p, v) => t.setIfInBounds p v) tmps, defers := [] } W

variable {F : Fence} {n : Nat} {P : Program}

theorem kf_mono {B B' : Nat} {W W' : World} (h : KeepsFrom B W W') (hb : B ≤ B') : KeepsFrom B' W W' := ⟨h.size, fun k o h1 h2 h3 => h.same k o (Nat.le_trans hb h1) h2 h3⟩
theorem kf_turn {B l : Nat} {W W' : World} (h : Turn l W W') (hl : l < B) : KeepsFrom B W W' := KeepsFrom.of_grownBy h.grown (fun j e => by cases e; exact hl)

/-- What is no cells, from B on, lies as it lay, but for block l. -/
structure KBut (B l : Nat) (W W' : World) : Prop where
  size : W.heap.size ≤ W'.heap.size
  same : ∀ k (o : Obj), B ≤ k → k ≠ l → W.heap[k]? = some o → o.isCells = false → W'.heap[k]? = some o
theorem KBut.of {B l : Nat} {W W' : World} (h : KeepsFrom B W W') : KBut B l W W' := ⟨h.size, fun k o h1 _ h2 h3 => h.same k o h1 h2 h3⟩
theorem KBut.turn {B l : Nat} {W W' : World} (h : Turn l W W') : KBut B l W W' := ⟨h.grown.size, fun k o _ hne h2 _ => heap_kept h.grown h2 (fun e => by cases e; exact hne rfl)⟩
theorem KBut.trans {B l : Nat} {X Y Z : World} (h : KBut B l X Y) (k : KBut B l Y Z) : KBut B l X Z := ⟨Nat.le_trans h.size k.size, fun i o h1 h2 h3 h4 => k.same i o h1 h2 (h.same i o h1 h2 h3 h4) h4⟩
theorem KBut.from {B l Bi : Nat} {W W' : World} (h : KBut B l W W') (hb : B ≤ Bi) (hl : l < Bi) : KeepsFrom Bi W W' := ⟨h.size, fun k o h1 h2 h3 => h.same k o (by omega) (by omega) h2 h3⟩

/-- What a round comes to, as the iterator sees it. -/
theorem round_yield {α : Type} {ps : Array Tmp} {assign body : Code} {tmps : Array Value} {encs : α → Array Value} {B l fn D : Nat} {Kp : World → World → Prop} {I : List α → World → Prop} {Ix : Code → List α → World → Prop} {Rx : List α → α → World → Prop}
    (hfn : F.fn fn) (hps : ∀ x, (encs x).size = ps.size) (hKt : ∀ {A B C : World}, Kp A B → Kp B C → Kp A C)
    (hKb : ∀ (W W' : World), Turn l W W' → Kp W W') (hI : OwnFrom B I) (hIx : ∀ c, OwnFrom B (Ix c)) (hBl : B ≤ l)
    (hr : RoundR F n P ps assign body tmps encs B Kp I Ix Rx) (pre : List α) (x : α) (W : World) (hi : I pre W) (hx : Rx pre x W)
    (hl : W.heap[l]? = some (.loop { state := .ready, pending := none, fn := fn, tmps := tmps, params := ps, assign := assign, body := body, defers := D })) :
    YieldAt F n P l (encs x) W fun e W' =>
      (e = .returned (.bool true) ∧ (I (pre ++ [x]) W' ∧ W'.heap[l]? = some (.loop { state := .ready, pending := none, fn := fn, tmps := tmps, params := ps, assign := assign, body := body, defers := D })) ∧ Kp W W' ∧ KBut B l W W') ∨
      (e = .returned (.bool false) ∧ (∃ c, Ix c (pre ++ [x]) W' ∧ W'.heap[l]? = some (.loop { state := .done, pending := some c, fn := fn, tmps := tmps, params := ps, assign := assign, body := body, defers := D })) ∧ KBut B l W W') := by
  have hy := run_yield (P := P) (args := encs x) hl (hps x)
  refine ⟨fn, _, assign, body, hy, roundIn_of_wpIn hfn ?_⟩
  refine wpIn_mono (hr l pre x W hBl ⟨_, hl⟩ hi hx) ?_
  rintro e a' Wa h
  cases e with
  | normal =>
    obtain ⟨hkf, hkp, hb⟩ := h
    have hla := hkf.same _ _ hBl hl rfl
    refine ⟨_, run_beginRound hla rfl, ?_⟩
    have hT := turn_put hla { state := .busy, pending := none, fn := fn, tmps := tmps, params := ps, assign := assign, body := body, defers := D }
    have hlb := World.putObj_heap_same (w := Wa) (o := .loop { state := .busy, pending := none, fn := fn, tmps := tmps, params := ps, assign := assign, body := body, defers := D }) (lt_of_block hla)
    refine wpIn_mono (hb _ hT) ?_
    have hk1 : KBut B l W (Wa.putObj l (.loop { state := .busy, pending := none, fn := fn, tmps := tmps, params := ps, assign := assign, body := body, defers := D })) := (KBut.of hkf).trans (KBut.turn hT)
    have fin : ∀ (jump : Option Code) (W3 : World), KeepsFrom B (Wa.putObj l (.loop { state := .busy, pending := none, fn := fn, tmps := tmps, params := ps, assign := assign, body := body, defers := D })) W3 →
        ∃ W4, (Instr.endRound l jump).run P W3 = .ok (.bool jump.isNone) W4 ∧ Turn l W3 W4 ∧ W4.heap[l]? = some (.loop { state := (if jump.isNone then .ready else .done), pending := jump, fn := fn, tmps := tmps, params := ps, assign := assign, body := body, defers := D }) ∧ KBut B l W W4 := fun jump W3 hk3 => by
      have hl3 := hk3.same _ _ hBl hlb rfl
      have hT3 := turn_put hl3 { state := (if jump.isNone then .ready else .done), pending := jump, fn := fn, tmps := tmps, params := ps, assign := assign, body := body, defers := D }
      exact ⟨_, run_endRound (P := P) jump hl3, hT3, World.putObj_heap_same (lt_of_block hl3), hk1.trans ((KBut.of hk3).trans (KBut.turn hT3))⟩
    rintro e3 a3 W3 hp
    cases e3 with
    | normal =>
      obtain ⟨hk3, hkp3, hi3⟩ := hp
      obtain ⟨W4, hr4, hT4, hl4, hk4⟩ := fin none W3 hk3
      exact ⟨_, W4, hr4, .inl ⟨rfl, ⟨own_turn hI hi3 hT4 hBl, hl4⟩, hKt hkp (hKt (hKb _ _ hT) (hKt hkp3 (hKb _ _ hT4))), hk4⟩⟩
    | ret =>
      obtain ⟨hk3, hi3⟩ := hp
      obtain ⟨W4, hr4, hT4, hl4, hk4⟩ := fin (some .ret) W3 hk3
      exact ⟨_, W4, hr4, .inr ⟨rfl, ⟨.ret, own_turn (hIx _) hi3 hT4 hBl, hl4⟩, hk4⟩⟩
    | exit id =>
      obtain ⟨hk3, hi3⟩ := hp
      obtain ⟨W4, hr4, hT4, hl4, hk4⟩ := fin (some (.exit id)) W3 hk3
      exact ⟨_, W4, hr4, .inr ⟨rfl, ⟨.exit id, own_turn (hIx _) hi3 hT4 hBl, hl4⟩, hk4⟩⟩
    | goto t =>
      obtain ⟨hk3, hi3⟩ := hp
      obtain ⟨W4, hr4, hT4, hl4, hk4⟩ := fin (some (.goto t)) W3 hk3
      exact ⟨_, W4, hr4, .inr ⟨rfl, ⟨.goto t, own_turn (hIx _) hi3 hT4 hBl, hl4⟩, hk4⟩⟩
    | panic ch => exact hp.elim
    | outgrown => exact hp.elim
  | ret => exact h.elim
  | exit id => exact h.elim
  | goto t => exact h.elim
  | panic ch => exact h.elim
  | outgrown => exact h.elim

/-- THE LAW, OUTERMOST: the block for the rounds' deferred calls, the record behind it. -/
theorem range_outer {α : Type} {g : Operand} {ps : Array Tmp} {assign body : Code} {Q : Exit → Act → World → Prop} {a : Act} {w : World}
    (hro : F.round = none) (h1 : 1 ≤ n) {gf : Nat} {lb : Array Value} (hg : a.eval g = .func (.func gf) #[] lb) (hFg : F.fn gf) (eg : ∀ args w, (callFunc gf args).run P w = .ok (.enter gf args) w)
    {encs : α → Array Value} {Kp : World → World → Prop} {Rx : List α → α → World → Prop} {S Sp : List α → Prop} {w0 : World} (hseq : SeqR F (n - 1) P gf lb encs Kp Rx S Sp w0)
    (hKt : ∀ {A B C : World}, Kp A B → Kp B C → Kp A C) (hKb : ∀ (W W' : World) (l : Nat), w.heap.size ≤ l → Turn l W W' → Kp W W') (hb0 : Below w0.heap.size w0 w) (hps : ∀ x, (encs x).size = ps.size)
    (I : List α → World → Prop) (Ix : Code → List α → World → Prop) (hI : OwnFrom w.heap.size I) (hIx : ∀ c, OwnFrom w.heap.size (Ix c)) (h0 : I [] w)
    (hround : RoundR F (n - 1 - 1) P ps assign body a.tmps encs w.heap.size Kp I Ix Rx)
    (hdone : ∀ (D : Nat) (xs : List α) (W : World), w.heap.size ≤ D → S xs → I xs W → W.heap[D]? = some (.deferred (some [])) → Q .normal { a with defers := { target := .collected D, args := #[] } :: a.defers } W)
    (hstop : ∀ (D : Nat) (c : Code) (pre : List α) (W : World), w.heap.size ≤ D → Sp pre → Ix c pre W → W.heap[D]? = some (.deferred (some [])) → c.wpIn F n P Q { a with defers := { target := .collected D, args := #[] } :: a.defers } W) :
    (Code.rangeFunc g ps assign body).wpIn F n P Q a w := by
  refine wpIn_rangeFunc ?_
  intro fn hfn
  rw [hro]
  obtain ⟨W1, hW1⟩ : ∃ W1, (w.alloc (.deferred (some []))).alloc (.loop { state := .ready, pending := none, fn := fn, tmps := a.tmps, params := ps, assign := assign, body := body, defers := w.heap.size }) = W1 := ⟨_, rfl⟩
  have hs1 : W1.heap.size = w.heap.size + 2 := by rw [← hW1]; simp
  have hL1 : W1.heap[w.heap.size + 1]? = some (.loop { state := .ready, pending := none, fn := fn, tmps := a.tmps, params := ps, assign := assign, body := body, defers := w.heap.size }) := by rw [← hW1]; exact heap_alloc2_new _ _ _
  have hD1 : W1.heap[w.heap.size]? = some (.deferred (some [])) := by rw [← hW1]; exact (Below.heap_alloc _ _ _ (by simp)).trans (heap_alloc_new _ _)
  have hbw : Below w.heap.size w W1 := by rw [← hW1]; exact ((Below.refl _ w).alloc (Nat.le_refl _) _).alloc (by simp) _
  have hI1 : I [] W1 := own_below hI h0 hbw
  refine ⟨w.heap.size + 1, [{ target := .collected w.heap.size, args := #[] }], W1, { target := .fn (.func gf) lb, args := #[.func (.yield (w.heap.size + 1)) #[] #[]] }, W1, gf,
    #[.func (.yield (w.heap.size + 1)) #[] #[]] ++ lb, W1, ?_, ?_, ?_, ?_, fun _ => h1, ?_⟩
  · rw [← hW1]; exact run_enterLoop_outer _ _ _ _ _
  · simp only [resolve, hg]
    simp [go_sem]
  · intro f' hf'; simp [Target.leads] at hf'; subst hf'; exact hFg
  · simp [invoke, go_sem, eg]
  · have keepL : ∀ {A B : World} {row : Option Nat}, A.grownBy B row → (∀ r, row = some r → W1.heap.size ≤ r ∧ ∃ o : Obj, A.heap[r]? = some o ∧ o.isCells = false) → ∀ {k : Nat} {o : Obj}, k < W1.heap.size → A.heap[k]? = some o → B.heap[k]? = some o := fun hg' hr k o hk ho => heap_kept hg' ho (fun e => by have := (hr k e.symm).1; omega)
    have upI : ∀ {β : Type} {Z : β → World → Prop}, OwnFrom w.heap.size Z → OwnFrom W1.heap.size Z := fun h s A B row hs hg' hr => h s A B row hs hg' (fun r e => ⟨by have := (hr r e).1; omega, (hr r e).2⟩)
    refine (hseq (w.heap.size + 1)
      (fun pre W => I pre W ∧ W.heap[w.heap.size + 1]? = some (.loop { state := .ready, pending := none, fn := fn, tmps := a.tmps, params := ps, assign := assign, body := body, defers := w.heap.size }) ∧ W.heap[w.heap.size]? = some (.deferred (some [])))
      (fun pre W => ∃ c, Ix c pre W ∧ W.heap[w.heap.size + 1]? = some (.loop { state := .done, pending := some c, fn := fn, tmps := a.tmps, params := ps, assign := assign, body := body, defers := w.heap.size }) ∧ W.heap[w.heap.size]? = some (.deferred (some [])))
      W1 (hb0.trans (hbw.mono hb0.size))
      (fun s A B row hs hg' hr => ⟨upI hI s A B row hs.1 hg' hr, keepL hg' hr (by omega) hs.2.1, keepL hg' hr (by omega) hs.2.2⟩)
      (fun s A B row hs hg' hr => by
        obtain ⟨c, hc, hl, hk⟩ := hs
        exact ⟨c, upI (hIx c) s A B row hc hg' hr, keepL hg' hr (by omega) hl, keepL hg' hr (by omega) hk⟩)
      ?_ ⟨hI1, hL1, hD1⟩).mono ?_
    · rintro pre x W ⟨hi, hl, hk⟩ hx hsz
      refine (round_yield (B := w.heap.size) (Kp := Kp) (I := I) (Ix := Ix) (Rx := Rx) hfn hps (fun h k => hKt h k) (fun W W' ht => hKb W W' _ (by omega) ht) hI hIx (by omega) hround pre x W hi hx hl).mono ?_
      rintro e W' (⟨rfl, ⟨h1, h3⟩, h4, h5⟩ | ⟨rfl, ⟨c, h1, h3⟩, h5⟩)
      · exact .inl ⟨rfl, ⟨h1, h3, h5.same _ _ (Nat.le_refl _) (by omega) hk rfl⟩, h4, h5.from (by omega) (by omega)⟩
      · exact .inr ⟨rfl, ⟨c, h1, h3, h5.same _ _ (Nat.le_refl _) (by omega) hk rfl⟩, h5.from (by omega) (by omega)⟩
    · rintro e W2 ⟨⟨v, rfl⟩, (⟨xs, hS, hi, hl, hk⟩ | ⟨pre, hSp, c, hi, hl, hk⟩)⟩
      · have hT := turn_put hl { state := .exhausted, pending := none, fn := fn, tmps := a.tmps, params := ps, assign := assign, body := body, defers := w.heap.size }
        exact ⟨none, _, run_endLoop (P := P) hl (by simp), hdone _ xs _ (Nat.le_refl _) hS (own_turn hI hi hT (by omega)) ((World.putObj_heap_other (by omega)).trans hk)⟩
      · have hT := turn_put hl { state := .exhausted, pending := some c, fn := fn, tmps := a.tmps, params := ps, assign := assign, body := body, defers := w.heap.size }
        exact ⟨some c, _, run_endLoop (P := P) hl (by simp), hstop _ c pre _ (Nat.le_refl _) hSp (own_turn (hIx c) hi hT (by omega)) ((World.putObj_heap_other (by omega)).trans hk)⟩
/-- THE LAW, WITHIN A ROUND OF ANOTHER LOOP: the record alone is laid. -/
theorem range_inner {α : Type} {g : Operand} {ps : Array Tmp} {assign body : Code} {Q : Exit → Act → World → Prop} {a : Act} {w : World}
    {l₀ : Nat} {r₀ : Loop} (hro : F.round = some l₀) (hl₀ : w.heap[l₀]? = some (.loop r₀)) (h1 : 1 ≤ n) {gf : Nat} {lb : Array Value} (hg : a.eval g = .func (.func gf) #[] lb) (hFg : F.fn gf) (eg : ∀ args w, (callFunc gf args).run P w = .ok (.enter gf args) w)
    {encs : α → Array Value} {Kp : World → World → Prop} {Rx : List α → α → World → Prop} {S Sp : List α → Prop} {w0 : World} (hseq : SeqR F (n - 1) P gf lb encs Kp Rx S Sp w0)
    (hKt : ∀ {A B C : World}, Kp A B → Kp B C → Kp A C) (hKb : ∀ (W W' : World) (l : Nat), w.heap.size ≤ l → Turn l W W' → Kp W W') (hb0 : Below w0.heap.size w0 w) (hps : ∀ x, (encs x).size = ps.size)
    (I : List α → World → Prop) (Ix : Code → List α → World → Prop) (hI : OwnFrom w.heap.size I) (hIx : ∀ c, OwnFrom w.heap.size (Ix c)) (h0 : I [] w)
    (hround : RoundR F (n - 1 - 1) P ps assign body a.tmps encs w.heap.size Kp I Ix Rx)
    (hdone : ∀ (xs : List α) (W : World), w.heap.size ≤ W.heap.size → S xs → I xs W → Q .normal a W)
    (hstop : ∀ (c : Code) (pre : List α) (W : World), Sp pre → Ix c pre W → c.wpIn F n P Q a W) :
    (Code.rangeFunc g ps assign body).wpIn F n P Q a w := by
  refine wpIn_rangeFunc ?_
  intro fn hfn
  rw [hro]
  obtain ⟨W1, hW1⟩ : ∃ W1, w.alloc (.loop { state := .ready, pending := none, fn := fn, tmps := a.tmps, params := ps, assign := assign, body := body, defers := r₀.defers }) = W1 := ⟨_, rfl⟩
  have hs1 : W1.heap.size = w.heap.size + 1 := by rw [← hW1]; simp
  have hL1 : W1.heap[w.heap.size]? = some (.loop { state := .ready, pending := none, fn := fn, tmps := a.tmps, params := ps, assign := assign, body := body, defers := r₀.defers }) := by rw [← hW1]; exact heap_alloc_new _ _
  have hbw : Below w.heap.size w W1 := by rw [← hW1]; exact (Below.refl _ w).alloc (Nat.le_refl _) _
  have hI1 : I [] W1 := own_below hI h0 hbw
  refine ⟨w.heap.size, [], W1, { target := .fn (.func gf) lb, args := #[.func (.yield w.heap.size) #[] #[]] }, W1, gf,
    #[.func (.yield w.heap.size) #[] #[]] ++ lb, W1, ?_, ?_, ?_, ?_, fun _ => h1, ?_⟩
  · rw [← hW1]; exact run_enterLoop_inner hl₀ _ _ _ _ _
  · simp only [resolve, hg]
    simp [go_sem]
  · intro f' hf'; simp [Target.leads] at hf'; subst hf'; exact hFg
  · simp [invoke, go_sem, eg]
  · have keepL : ∀ {A B : World} {row : Option Nat}, A.grownBy B row → (∀ r, row = some r → W1.heap.size ≤ r ∧ ∃ o : Obj, A.heap[r]? = some o ∧ o.isCells = false) → ∀ {k : Nat} {o : Obj}, k < W1.heap.size → A.heap[k]? = some o → B.heap[k]? = some o := fun hg' hr k o hk ho => heap_kept hg' ho (fun e => by have := (hr k e.symm).1; omega)
    have upI : ∀ {β : Type} {Z : β → World → Prop}, OwnFrom w.heap.size Z → OwnFrom W1.heap.size Z := fun h s A B row hs hg' hr => h s A B row hs hg' (fun r e => ⟨by have := (hr r e).1; omega, (hr r e).2⟩)
    refine (hseq w.heap.size
      (fun pre W => I pre W ∧ W.heap[w.heap.size]? = some (.loop { state := .ready, pending := none, fn := fn, tmps := a.tmps, params := ps, assign := assign, body := body, defers := r₀.defers }))
      (fun pre W => ∃ c, Ix c pre W ∧ W.heap[w.heap.size]? = some (.loop { state := .done, pending := some c, fn := fn, tmps := a.tmps, params := ps, assign := assign, body := body, defers := r₀.defers }))
      W1 (hb0.trans (hbw.mono hb0.size))
      (fun s A B row hs hg' hr => ⟨upI hI s A B row hs.1 hg' hr, keepL hg' hr (by omega) hs.2⟩)
      (fun s A B row hs hg' hr => by
        obtain ⟨c, hc, hl⟩ := hs
        exact ⟨c, upI (hIx c) s A B row hc hg' hr, keepL hg' hr (by omega) hl⟩)
      ?_ ⟨hI1, hL1⟩).mono ?_
    · rintro pre x W ⟨hi, hl⟩ hx hsz
      refine (round_yield (B := w.heap.size) (Kp := Kp) (I := I) (Ix := Ix) (Rx := Rx) hfn hps (fun h k => hKt h k) (fun W W' ht => hKb W W' _ (by omega) ht) hI hIx (by omega) hround pre x W hi hx hl).mono ?_
      rintro e W' (⟨rfl, ⟨h1, h3⟩, h4, h5⟩ | ⟨rfl, ⟨c, h1, h3⟩, h5⟩)
      · exact .inl ⟨rfl, ⟨h1, h3⟩, h4, h5.from (by omega) (by omega)⟩
      · exact .inr ⟨rfl, ⟨c, h1, h3⟩, h5.from (by omega) (by omega)⟩
    · rintro e W2 ⟨⟨v, rfl⟩, (⟨xs, hS, hi, hl⟩ | ⟨pre, hSp, c, hi, hl⟩)⟩
      · have hT := turn_put hl { state := .exhausted, pending := none, fn := fn, tmps := a.tmps, params := ps, assign := assign, body := body, defers := r₀.defers }
        exact ⟨none, _, run_endLoop (P := P) hl (by simp), hdone xs _ (by have := lt_of_block hl; simp; omega) hS (own_turn hI hi hT (by omega))⟩
      · have hT := turn_put hl { state := .exhausted, pending := some c, fn := fn, tmps := a.tmps, params := ps, assign := assign, body := body, defers := r₀.defers }
        exact ⟨some c, _, run_endLoop (P := P) hl (by simp), hstop c pre _ hSp (own_turn (hIx c) hi hT (by omega))⟩

/-- What lay below n stays, but for the block bl. -/
structure KpX (bl n : Nat) (W W' : World) : Prop where
  os : W'.os = W.os
  tape : W'.tape = W.tape
  output : W'.output = W.output
  size : W.heap.size ≤ W'.heap.size
  block : ∀ k, k < n → k ≠ bl → W'.heap[k]? = W.heap[k]?

theorem KpX.refl (bl n : Nat) (W : World) : KpX bl n W W := ⟨rfl, rfl, rfl, Nat.le_refl _, fun _ _ _ => rfl⟩
theorem KpX.trans {bl n : Nat} {A B C : World} (h : KpX bl n A B) (k : KpX bl n B C) : KpX bl n A C :=
  ⟨k.os.trans h.os, k.tape.trans h.tape, k.output.trans h.output, Nat.le_trans h.size k.size, fun i h1 h2 => (k.block i h1 h2).trans (h.block i h1 h2)⟩
theorem KpX.of {bl n : Nat} {A B : World} (h : Below A.heap.size A B) (hn : n ≤ A.heap.size) : KpX bl n A B := ⟨h.os, h.tape, h.output, h.size, fun k hk _ => h.block k (by omega)⟩
theorem KpX.grown {bl n : Nat} {A B : World} {row : Option Nat} (h : A.grownBy B row) (hn : n ≤ A.heap.size) (hr : ∀ k, row = some k → n ≤ k ∨ k = bl) : KpX bl n A B :=
  ⟨h.os, h.tape, h.output, h.size, fun k hk hb => h.block k (by omega) (fun e => by rcases hr k e.symm with h1 | h1 <;> omega)⟩
theorem KpX.turn {bl n l : Nat} {A B : World} (h : Turn l A B) (hn : n ≤ l) : KpX bl n A B := by
  obtain ⟨o, ho, _⟩ := h.old
  exact KpX.grown h.grown (by have := lt_of_block ho; omega) (fun k e => by cases e; exact .inl hn)
theorem KpX.below {bl n m : Nat} {A B : World} (h : KpX bl n A B) (hm : m ≤ n) (hb : m ≤ bl) : Below m A B := ⟨h.os, h.tape, h.output, h.size, fun k hk => h.block k (by omega) (by omega)⟩

/-- What a round of Backward knows of what comes: it is the next one from the end. -/
def RxB {T : Type} (G : List T) (pre : List (Nat × T)) (x : Nat × T) (W : World) : Prop := G.reverse[pre.length]? = some x.2

/-- A function that holds a range over a function, walked plainly. -/
theorem calls_marks {P : Program} {f : FuncId} {fn : Func} {c : Code} {args : Array Value} {w : World} {R : Ending → World → Prop} (hf : P.funcs[f]? = some fn) (hb : fn.body = some c)
    (h : c.wp P (bodyPostM Fence.wide 9 P fn R) { tmps := args ++ Array.replicate (fn.ntmps - args.size) undef, defers := [] } w) : Calls P f args w R :=
  callsIn_wide.1 (callsIn_of_wp_marks (n := 9) hf hb trivial (wpIn_wide.2 h) rfl)

end Go.Proofs.YtcbbklbjfknnlaaDoor
