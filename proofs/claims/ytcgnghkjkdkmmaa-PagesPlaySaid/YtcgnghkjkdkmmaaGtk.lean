/-
  PAGES: a loop over an iterator that collects pairs: what it keeps; ranges over functions in a plain walk.
-/
import Derived.RangeFuncBox
import Derived.RangeFuncLeaves
import Derived.Test.YtcgnghkjkdkmmaaGfa
import Derived.Test.YtcgnghkjkdkmmaaGcp
set_option linter.unusedVariables false
namespace Go.Proofs.Ytcgnghkjkdkmmaa
open Go.RowKit Go.Shelf

/-- A function that holds a range over a function, walked plainly. -/
theorem calls_marks {P : Program} {f : FuncId} {fn : Func} {c : Code} {args : Array Value} {w : World} {R : Ending → World → Prop} (hf : P.funcs[f]? = some fn) (hb : fn.body = some c)
    (h : c.wp P (bodyPostM Fence.wide 9 P fn R) { tmps := args ++ Array.replicate (fn.ntmps - args.size) undef, defers := [] } w) : Calls P f args w R :=
  callsIn_wide.1 (callsIn_of_wp_marks (n := 9) hf hb trivial (wpIn_wide.2 h) rfl)

/-- An append within a fence, by its run. -/
theorem wpListIn_app {F : Fence} {n : Nat} {P : Program} (w : World) {ops : Array Oper} {rest : List Oper} {o : Oper} {a : Act} {Q : Exit → Act → World → Prop}
    (hg : o.guard = none) (s x : Operand) (t : TypeId) (hop : o.op = Op.call { callee := Callee.builtin Builtin.append, args := #[s, x], argTypes := #[t, t] })
    (v y v' : Value) (w' : World) (hs : a.eval s = v) (hx : a.eval x = y) (hrun : (Builtin.append_ #[t, t] o.type #[v, y]).run P w = .ok v' w')
    (hK : wpListIn F n P ops Q rest (a.put o.dst v') w') : wpListIn F n P ops Q (o :: rest) a w := by
  refine wpListIn_plain hg fun K hK' => ?_
  unfold Oper.wpIn
  refine ⟨?_, ?_⟩
  · simp [Oper.about, hop, resolve, Target.leads, Sem.run_pure]
  · rw [Oper.semAt_plain F _ _ (by rw [hop]; intro c hc'; cases hc')]
    simp [execOp, hop, resolve, invoke, builtin, hs, hx, hrun, Result.andThen]
    exact hK' _ _ hK

theorem own_ne {W : World} {b1 b2 : Nat} {e1 e2 : TypeId} {s1 s2 n1 n2 : Nat} {x y : Value} {xs ys : List Value} (h : W.ownsRow b1 e1 s1 x n1 xs) (k : W.ownsRow b2 e2 s2 y n2 ys) (hne : e1 ≠ e2) : x.ownBlock = none ∨ x.ownBlock ≠ y.ownBlock := by
  rcases h.2 with ⟨rfl, _⟩ | ⟨g, cap, cur, rfl, _, hg, _⟩
  · exact .inl rfl
  · refine .inr fun e => ?_
    rcases k.2 with ⟨rfl, _⟩ | ⟨g2, cap2, cur2, rfl, _, hg2, _⟩
    · simp [Value.ownBlock] at e
    · obtain rfl : g = g2 := by simpa [Value.ownBlock] using e
      rw [hg] at hg2
      cases hg2
      exact hne rfl
theorem own_ne_block {W : World} {b1 : Nat} {e1 : TypeId} {s1 n1 : Nat} {x : Value} {xs : List Value} (h : W.ownsRow b1 e1 s1 x n1 xs) {j : Nat} {o : Obj} (hj : W.heap[j]? = some o) (ho : ∀ cur, o ≠ .cells cur e1 (0, 0)) : x.ownBlock = none ∨ x.ownBlock ≠ some j := by
  rcases h.2 with ⟨rfl, _⟩ | ⟨g, cap, cur, rfl, _, hg, _⟩
  · exact .inl rfl
  · refine .inr fun e => ?_
    obtain rfl : g = j := by simpa [Value.ownBlock] using e
    rw [hg] at hj
    cases hj
    exact ho _ rfl

theorem Mine.kept {n : Nat} {W W' : World} {m : Lp} {row : Option Nat} (h : Mine n W m) (hg : W.grownBy W' row) (hk : (Value.slice m.ka m.key.length m.kc).ownBlock = none ∨ (Value.slice m.ka m.key.length m.kc).ownBlock ≠ row) (hv : (Value.slice m.va m.val.length m.vc).ownBlock = none ∨ (Value.slice m.va m.val.length m.vc).ownBlock ≠ row) : Mine n W' m :=
  ⟨h.k.kept hg hk, h.v.kept hg hv, h.apart⟩
theorem Mine.old {n : Nat} {W W' : World} {m : Lp} (h : Mine n W m) (hb : Below W.heap.size W W') : Mine n W' m := ⟨own_old h.k hb, own_old h.v hb, h.apart⟩

/-- The list that a loop collects: in its box, a row of its own; its pairs' bytes are new. -/
structure Col (bl n1 : Nat) (w1 : World) (pre : List Lp) (W : World) : Prop where
  row : ∃ v, Boxed W bl 29 v ∧ W.ownsRow n1 31 3 v pre.length (pre.map rowP).flatten
  each : ∀ m ∈ pre, Mine n1 W m
  keep : KpX bl n1 w1 W

theorem Col.grown {bl n1 : Nat} {w1 W W' : World} {pre : List Lp} (h : Col bl n1 w1 pre W) (hn : n1 ≤ W.heap.size) {row : Option Nat} (hg : W.grownBy W' row) (hr : ∀ r, row = some r → n1 ≤ r ∧ ∃ o : Obj, W.heap[r]? = some o ∧ o.isCells = false) : Col bl n1 w1 pre W' := by
  obtain ⟨v, h1, h2⟩ := h.row
  have kept : ∀ {b : Nat} {e : TypeId} {s n : Nat} {x : Value} {xs : List Value}, W.ownsRow b e s x n xs → x.ownBlock = none ∨ x.ownBlock ≠ row := fun k => by
    cases row with
    | none => exact (Classical.em _).imp id id
    | some r =>
      obtain ⟨_, o, ho, hc⟩ := hr r rfl
      exact own_ne_block k ho (fun cur e => by rw [e] at hc; cases hc)
  refine ⟨⟨v, h1.kept hg (fun e => ?_), h2.kept hg (kept h2)⟩, fun m hm => (h.each m hm).kept hg (kept (h.each m hm).k) (kept (h.each m hm).v), h.keep.trans (KpX.grown hg hn (fun k e => .inl (hr k e).1))⟩
  obtain ⟨_, o, ho, hc⟩ := hr bl e.symm
  rw [show W.heap[bl]? = _ from h1] at ho
  cases ho
  cases hc

theorem Col.own {bl n1 B : Nat} {w1 : World} (hn : n1 ≤ w1.heap.size) (hB : n1 ≤ B) : OwnFrom B (Col bl n1 w1) := fun pre W W' row hs hg hr =>
  hs.grown (Nat.le_trans hn hs.keep.size) hg (fun r e => ⟨Nat.le_trans hB (hr r e).1, (hr r e).2⟩)

theorem Col.old {bl n1 : Nat} {w1 W W' : World} {pre : List Lp} (h : Col bl n1 w1 pre W) (hn : n1 ≤ w1.heap.size) (hb : Below W.heap.size W W') : Col bl n1 w1 pre W' :=
  h.grown (Nat.le_trans hn h.keep.size) (row := none) (grown_below hb none) (fun r e => by cases e)

/-- One more. -/
theorem Col.add {bl n1 : Nat} {w1 W w3 : World} {pre : List Lp} {m : Lp} {v v' : Value} {tmp : Obj} (h : Col bl n1 w1 pre W) (hn : n1 ≤ w1.heap.size) (hbl : bl < n1) (hm : Mine n1 W m) (hv : Boxed W bl 29 v)
    (hrow : W.ownsRow n1 31 3 v pre.length (pre.map rowP).flatten) (hown' : w3.ownsRow n1 31 3 v' (pre.length + 1) ((pre.map rowP).flatten ++ (rowP m))) (hgrow : (W.alloc tmp).grownBy w3 v.ownBlock) :
    Boxed w3 bl 29 v ∧ Col bl n1 w1 (pre ++ [m]) (w3.setCell ⟨bl, 0, none⟩ v') ∧ KeepsOthers W (w3.setCell ⟨bl, 0, none⟩ v') ∧ KpX bl n1 W (w3.setCell ⟨bl, 0, none⟩ v') := by
  have hnW : n1 ≤ W.heap.size := Nat.le_trans hn h.keep.size
  have hvb : ∀ k, v.ownBlock = some k → n1 ≤ k := fun k e => (hrow.lt k e).1
  have hv1 : Boxed w3 bl 29 v := (hv.alloc tmp).kept hgrow (fun e => by have := hvb bl e.symm; omega)
  have hga : W.grownBy (W.alloc tmp) none := World.grownBy_alloc W tmp none
  have hgs : w3.grownBy (w3.setCell ⟨bl, 0, none⟩ v') (some bl) := grownBy_setCell' w3 bl v'
  have base_ne : ∀ {Z : World} {b : Nat} {e : TypeId} {s n : Nat} {x : Value} {xs : List Value}, Z.ownsRow b e s x n xs → n1 ≤ b → x.ownBlock = none ∨ x.ownBlock ≠ some bl := fun k hb => .inr (fun e => by have := (k.lt bl e).1; omega)
  have mk : ∀ x, Mine n1 W x → Mine n1 (w3.setCell ⟨bl, 0, none⟩ v') x := fun x hx => by
    have hx1 : Mine n1 (W.alloc tmp) x := hx.old ((Below.refl _ _).alloc (Nat.le_refl _) _)
    have hr1 : (W.alloc tmp).ownsRow n1 31 3 v pre.length (pre.map rowP).flatten := hrow.alloc _
    have hx2 : Mine n1 w3 x := hx1.kept hgrow (own_ne hx1.k hr1 (by decide)) (own_ne hx1.v hr1 (by decide))
    exact hx2.kept hgs (base_ne hx2.k (Nat.le_refl _)) (base_ne hx2.v (Nat.le_refl _))
  have hk : KpX bl n1 W (w3.setCell ⟨bl, 0, none⟩ v') := ((KpX.grown hga hnW (fun k e => by cases e)).trans (KpX.grown hgrow (by simp; omega) (fun k e => .inl (hvb k e)))).trans (KpX.grown hgs (by have := hgrow.size; simp at this; omega) (fun k e => by cases e; exact .inr rfl))
  refine ⟨hv1, ⟨⟨v', hv1.set v', ?_⟩, fun x hx => ?_, h.keep.trans hk⟩, ?_, hk⟩
  · have h9 := hown'.kept hgs (base_ne hown' (Nat.le_refl _))
    rw [List.length_append, List.length_singleton, List.map_append, List.flatten_append]
    simpa using h9
  · rcases List.mem_append.1 hx with hx | hx
    · exact mk x (h.each x hx)
    · rw [List.mem_singleton] at hx
      subst hx
      exact mk _ hm
  · refine ((KeepsOthers.alloc W tmp).trans (KeepsOthers.of_grownBy hgrow (fun j o hj ho => ?_))).trans (KeepsOthers.setCell _ _ _)
    rcases (hrow.alloc tmp).2 with ⟨rfl, _⟩ | ⟨g, cap, cur, rfl, _, hg, _⟩
    · simp [Value.ownBlock] at hj
    · obtain rfl : g = j := by simpa [Value.ownBlock] using hj
      rw [hg] at ho
      cases ho
      rfl

/-- The iterators, as a range takes them. -/
theorem rising_seq (n : Nat) (hn : 1 ≤ n) (b n0 : Nat) (ao : Option Addr) (c : Nat) (H : List Pg) (w0 : World) (hg8 : ∀ g ∈ H, g.M.length ≤ 1000000) (hgl : H.length ≤ 1000000) (hb8 : ∀ g ∈ H, ∀ m ∈ g.M, m.key.length ≤ 140737488355328 ∧ m.val.length ≤ 140737488355328)
    (Kp : World → World → Prop) (hKr : ∀ W, Kp W W) (hKt : ∀ {A B C : World}, Kp A B → Kp B C → Kp A C) (hKs : ∀ {A B : World}, Kp A B → A.heap.size ≤ B.heap.size) (hKb : ∀ {A B : World}, w0.heap.size ≤ A.heap.size → Below A.heap.size A B → Kp A B)
    (hn0 : n0 ≤ w0.heap.size) (hP : ∀ W, Kp w0 W → W.cell? ⟨b, 0, none⟩ = some (.slice ao H.length c) ∧ Pgs W (.slice ao H.length c) H) :
    SeqR Fence.wide n Try.prog 54 #[.pointer (some ⟨b, 0, none⟩)] (fun m : Lp => #[pv m]) Kp (RxP n0 (mls H).flatten) (fun xs => xs.map lg = (mls H).flatten.map lg) (fun pre => pre.map lg <+: (mls H).flatten.map lg) w0 :=
  fun l J Jx W hW hJ hJx hY h0 => rising1_in n hn l b n0 _ H J Jx W hg8 hgl hb8 Kp hKr hKt hKs (fun h => hKb (Nat.le_trans hW.size h)) (Nat.le_trans hn0 hW.size) hJ hJx hY (fun W' hk => hP W' (hKt (hKb (Nat.le_refl _) hW) hk)) h0

theorem falling_seq (n : Nat) (hn : 8 ≤ n) (b bl n0 : Nat) (ao : Option Addr) (c : Nat) (H : List Pg) (w0 : World) (hg8 : ∀ g ∈ H, g.M.length ≤ 1000000) (hgl : H.length ≤ 1000000) (hb8 : ∀ g ∈ H, ∀ m ∈ g.M, m.key.length ≤ 140737488355328 ∧ m.val.length ≤ 140737488355328)
    (hn0 : n0 ≤ w0.heap.size) (hP : ∀ W, KpF bl n0 w0 W → W.cell? ⟨b, 0, none⟩ = some (.slice ao H.length c) ∧ Pgs W (.slice ao H.length c) H) :
    SeqR Fence.wide n Try.prog 51 #[.pointer (some ⟨b, 0, none⟩)] (fun m : Lp => #[pv m]) (KpF bl n0) (RxP n0 (mls H).flatten.reverse) (fun xs => xs.map lg = (mls H).flatten.reverse.map lg) (fun pre => pre.map lg <+: (mls H).flatten.reverse.map lg) w0 :=
  fun l J Jx W hW hJ hJx hY h0 => falling1_in n hn l b bl n0 _ H J Jx W hg8 hgl hb8 (Nat.le_trans hn0 hW.size) hJ hJx hY (fun W' hk => hP W' ((KpF.of hW hn0).trans hk)) h0
end Go.Proofs.Ytcgnghkjkdkmmaa
