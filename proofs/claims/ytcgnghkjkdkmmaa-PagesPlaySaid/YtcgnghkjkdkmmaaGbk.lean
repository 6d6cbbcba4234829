/-
  PAGES: slices.Backward's iterators, over pages and over a page's pairs.
-/
import Derived.Test.YtcgnghkjkdkmmaaGlw
set_option linter.unusedVariables false
namespace Go.Proofs.Ytcgnghkjkdkmmaa
open Go.RowKit Go.Shelf
attribute [local go_sem] Oper.semAt_some

/-- What lay below n stays, but for the block bl. -/
structure KpX (bl n : Nat) (W W' : World) : Prop where
  os : W'.os = W.os
  tape : W'.tape = W.tape
  output : W'.output = W.output
  size : W.heap.size ≤ W'.heap.size
  block : ∀ k, k < n → k ≠ bl → W'.heap[k]? = W.heap[k]?

theorem KpX.refl (bl n : Nat) (W : World) : KpX bl n W W := ⟨rfl, rfl, rfl, Nat.le_refl _, fun _ _ _ => rfl⟩
theorem KpX.trans {bl n : Nat} {A B C : World} (h : KpX bl n A B) (k : KpX bl n B C) : KpX bl n A C :=
  ⟨k.os.trans h.os, k.tape.trans h.tape, k.output.trans h.output, Nat.le_trans h.size k.size, fun i h1 h2 => (k.block i h1 h2).trans (h.block i h1 h2)⟩
theorem KpX.of {bl n : Nat} {A B : World} (h : Below A.heap.size A B) (hn : n ≤ A.heap.size) : KpX bl n A B := ⟨h.os, h.tape, h.output, h.size, fun k hk _ => h.block k (by omega)⟩
theorem KpX.grown {bl n : Nat} {A B : World} {row : Option Nat} (h : A.grownBy B row) (hn : n ≤ A.heap.size) (hr : ∀ k, row = some k → n ≤ k ∨ k = bl) : KpX bl n A B :=
  ⟨h.os, h.tape, h.output, h.size, fun k hk hb => h.block k (by omega) (fun e => by rcases hr k e.symm with h1 | h1 <;> omega)⟩
theorem KpX.turn {bl n l : Nat} {A B : World} (h : Turn l A B) (hn : n ≤ l) : KpX bl n A B := by
  obtain ⟨o, ho, _⟩ := h.old
  exact KpX.grown h.grown (by have := lt_of_block ho; omega) (fun k e => by cases e; exact .inl hn)
theorem KpX.keep {bl : Nat} {A B : World} (h : KpX bl A.heap.size A B) : Keep (fun k => k = bl) A B := ⟨h.os, h.tape, h.output, h.size, fun k h1 h2 => h.block k h1 h2⟩
theorem KpX.below {bl n m : Nat} {A B : World} (h : KpX bl n A B) (hm : m ≤ n) (hb : m ≤ bl) : Below m A B := ⟨h.os, h.tape, h.output, h.size, fun k hk => h.block k (by omega) (by omega)⟩

/-- What a round keeps: what lay below n0, but for the block bl; and all cells but numbers, bools, bytes and pairs. -/
structure KpF (bl n0 : Nat) (W W' : World) : Prop where
  keep : KpX bl n0 W W'
  kinds : ∀ (k : Nat) (c : Array Value) (e : TypeId) (fr : Nat × Nat), W.heap[k]? = some (.cells c e fr) → e ≠ 3 → e ≠ 4 → e ≠ 5 → e ≠ 31 → W'.heap[k]? = some (.cells c e fr)

theorem KpF.size {bl n0 : Nat} {W W' : World} (h : KpF bl n0 W W') : W.heap.size ≤ W'.heap.size := h.keep.size
theorem KpF.refl (bl n0 : Nat) (W : World) : KpF bl n0 W W := ⟨KpX.refl _ _ _, fun _ _ _ _ h _ _ _ _ => h⟩
theorem KpF.trans {bl n0 : Nat} {A B C : World} (h : KpF bl n0 A B) (k : KpF bl n0 B C) : KpF bl n0 A C := ⟨h.keep.trans k.keep, fun i c e fr h1 h2 h3 h4 h5 => k.kinds i c e fr (h.kinds i c e fr h1 h2 h3 h4 h5) h2 h3 h4 h5⟩
theorem KpF.of {bl n0 : Nat} {W W' : World} (h : Below W.heap.size W W') (hn : n0 ≤ W.heap.size) : KpF bl n0 W W' := ⟨KpX.of h hn, fun k c e fr h1 _ _ _ _ => (h.block k (lt_of_block h1)).trans h1⟩
theorem KpF.turn {bl n0 l : Nat} {W W' : World} (h : Turn l W W') (hn : n0 ≤ l) : KpF bl n0 W W' := ⟨KpX.turn h hn, fun k c e fr h1 _ _ _ _ => heap_kept h.grown h1 (fun e9 => by
  cases e9
  obtain ⟨o, ho, hc⟩ := h.old
  rw [h1] at ho
  cases ho
  cases hc)⟩

/-- What a round of Backward knows of what comes: it is the next one from the end. -/
def RxB {T : Type} (G : List T) (pre : List (Nat × T)) (x : Nat × T) (W : World) : Prop := G.reverse[pre.length]? = some x.2

set_option maxRecDepth 100000 in
set_option maxHeartbeats 8000000 in
theorem backG_in (n : Nat) (hn : 1 ≤ n) (l Bn bl n0 : Nat) (xv : Value) (G : List Pg) (J Jx : List (Nat × Pg) → World → Prop) (W0 : World) (hgl : G.length ≤ 1000000)
    (hn0 : n0 ≤ W0.heap.size)
    (hY : ∀ pre x W1, J pre W1 → RxB G pre x W1 → W0.heap.size ≤ W1.heap.size → YieldAt Fence.wide (n - 1) Try.prog l #[.int .i64 (x.1 : Int), sv x.2] W1 fun e W' =>
      (e = .returned (.bool true) ∧ J (pre ++ [x]) W' ∧ KpF bl n0 W1 W' ∧ KeepsFrom W0.heap.size W1 W') ∨ (e = .returned (.bool false) ∧ Jx (pre ++ [x]) W' ∧ KeepsFrom W0.heap.size W1 W'))
    (hP : ∀ W, KpF bl n0 W0 W → W.cell? ⟨Bn, 0, none⟩ = some xv ∧ Pgs W xv G) (h0 : J [] W0) :
    CallsIn Fence.wide n Try.prog 65 #[.func (.yield l) #[] #[], .pointer (some ⟨Bn, 0, none⟩)] W0 fun e W' => (∃ v, e = .returned v) ∧
      ((∃ xs : List (Nat × Pg), xs.map (·.2) = G.reverse ∧ J xs W') ∨ (∃ pre : List (Nat × Pg), pre.map (·.2) <+: G.reverse ∧ Jx pre W')) := by
  refine callsIn_of_wp Try.func65 rfl trivial ?_ rfl
  simp only [Try.ntmps65, List.size_toArray, List.length_cons, List.length_nil, Nat.reduceAdd, Nat.reduceSub, Array.replicate_succ, Array.replicate_zero, List.push_toArray, List.append_toArray, List.nil_append, List.cons_append]
  obtain ⟨xa, xc, rfl, -⟩ := (hP W0 (KpF.refl _ _ _)).2.form
  have c0 := (hP W0 (KpF.refl _ _ _)).1
  have HP := hid hP
  have HY := hid hY
  have HJ0 := hid h0
  clear hP hY h0
  have hw0 : IntKind.i64.wrap ((G.length : Int) - 1) = (G.length : Int) - 1 := by rw [IntKind.wrap_i64]; omega
  gi_wp2
  gi_loopw [3] (fun i wr => ∃ (k : Nat) (pre : List (Nat × Pg)), k ≤ G.length ∧ i = .int .i64 ((k : Int) - 1) ∧ Hid (pre.map (·.2) = (G.drop k).reverse) ∧ Hid (J pre wr) ∧ Hid (KpF bl n0 W0 wr)) (fun i _ => (intOf i + 1).toNat)
  case atStart => exact ⟨G.length, [], by omega, rfl, by show _ = _; simp, HJ0, KpF.refl _ _ _⟩
  case round =>
    obtain ⟨k, pre, hk, rfl, HPR, HJr, HBr⟩ := hrel
    have c1 := (HP.out _ HBr.out).1
    cases k with
    | zero =>
      gi_wp2
      go_end0
      refine ⟨⟨_, rfl⟩, .inl ⟨pre, ?_, HJr.out⟩⟩
      have := HPR.out
      rwa [List.drop_zero] at this
    | succ k =>
      have hk9 : (((k + 1 : Nat) : Int) - 1) = (k : Int) := by omega
      rw [hk9]
      have hlt : k < G.length := by omega
      have hv := List.getElem?_eq_getElem hlt
      generalize G[k] = g at *
      obtain ⟨b, off, rfl, d1⟩ := (HP.out _ HBr.out).2.get hv
      rw [Nat.mul_one] at d1
      have HV := hid hv
      have hpl : pre.length = G.length - (k + 1) := by
        have := congrArg List.length HPR.out
        simpa using this
      have hrev : G.reverse[pre.length]? = some g := by
        rw [hpl, List.getElem?_reverse (by omega), show G.length - 1 - (G.length - (k + 1)) = k by omega]
        exact hv
      obtain ⟨fn, tmps, assign, body, hy, hR⟩ := HY.out pre (k, g) _ HJr.out hrev HBr.out.size
      have HR := hid hR
      unfold sv at hy
      simp only at hy
      have hwk : IntKind.i64.wrap ((k : Int) - 1) = (k : Int) - 1 := by rw [IntKind.wrap_i64]; omega
      clear hv hR hpl hrev hk9
      gi_wp2
      refine HR.out.mono ?_
      rintro e W3 (⟨rfl, hJ3, hk3, -⟩ | ⟨rfl, hJx3, -⟩)
      · have HJ3 := hid hJ3
        have HB3 := hid (HBr.out.trans hk3)
        clear hJ3 hk3
        gi_wp2
        go_roundw
        case rel => exact ⟨k, pre ++ [(k, g)], by omega, rfl, by
          show _ = _
          have hd : G.drop k = g :: G.drop (k + 1) := by rw [List.drop_eq_getElem_cons hlt]; rw [(List.getElem?_eq_some_iff.1 HV.out).2]
          rw [List.map_append, HPR.out, hd]
          simp, HJ3, HB3⟩
        case measure => first | (simp [intOf]; done) | (simp [intOf]; omega)
      · have HJ3 := hid hJx3
        clear hJx3
        gi_wp2
        refine bodyPost_ret (results_none rfl _ _ _) rfl ?_
        refine ⟨⟨_, rfl⟩, .inr ⟨pre ++ [(k, g)], ?_, HJ3.out⟩⟩
        have hd : G.drop k = g :: G.drop (k + 1) := by rw [List.drop_eq_getElem_cons hlt]; rw [(List.getElem?_eq_some_iff.1 HV.out).2]
        have hs : G = G.take k ++ G.drop k := (List.take_append_drop k G).symm
        rw [List.map_append, HPR.out]
        refine ⟨(G.take k).reverse, ?_⟩
        conv => rhs; rw [hs, hd]
        simp

set_option maxRecDepth 100000 in
set_option maxHeartbeats 8000000 in
theorem backP_in (n : Nat) (hn : 1 ≤ n) (l Bn bl n0 : Nat) (xv : Value) (G : List Lp) (J Jx : List (Nat × Lp) → World → Prop) (W0 : World) (hgl : G.length ≤ 1000000)
    (hn0 : n0 ≤ W0.heap.size)
    (hY : ∀ pre x W1, J pre W1 → RxB G pre x W1 → W0.heap.size ≤ W1.heap.size → YieldAt Fence.wide (n - 1) Try.prog l #[.int .i64 (x.1 : Int), pv x.2] W1 fun e W' =>
      (e = .returned (.bool true) ∧ J (pre ++ [x]) W' ∧ KpF bl n0 W1 W' ∧ KeepsFrom W0.heap.size W1 W') ∨ (e = .returned (.bool false) ∧ Jx (pre ++ [x]) W' ∧ KeepsFrom W0.heap.size W1 W'))
    (hP : ∀ W, KpF bl n0 W0 W → W.cell? ⟨Bn, 0, none⟩ = some xv ∧ Prs W xv G) (h0 : J [] W0) :
    CallsIn Fence.wide n Try.prog 66 #[.func (.yield l) #[] #[], .pointer (some ⟨Bn, 0, none⟩)] W0 fun e W' => (∃ v, e = .returned v) ∧
      ((∃ xs : List (Nat × Lp), xs.map (·.2) = G.reverse ∧ J xs W') ∨ (∃ pre : List (Nat × Lp), pre.map (·.2) <+: G.reverse ∧ Jx pre W')) := by
  refine callsIn_of_wp Try.func66 rfl trivial ?_ rfl
  simp only [Try.ntmps66, List.size_toArray, List.length_cons, List.length_nil, Nat.reduceAdd, Nat.reduceSub, Array.replicate_succ, Array.replicate_zero, List.push_toArray, List.append_toArray, List.nil_append, List.cons_append]
  obtain ⟨xa, xc, rfl, -⟩ := (hP W0 (KpF.refl _ _ _)).2.form
  have c0 := (hP W0 (KpF.refl _ _ _)).1
  have HP := hid hP
  have HY := hid hY
  have HJ0 := hid h0
  clear hP hY h0
  have hw0 : IntKind.i64.wrap ((G.length : Int) - 1) = (G.length : Int) - 1 := by rw [IntKind.wrap_i64]; omega
  gi_wp2
  gi_loopw [3] (fun i wr => ∃ (k : Nat) (pre : List (Nat × Lp)), k ≤ G.length ∧ i = .int .i64 ((k : Int) - 1) ∧ Hid (pre.map (·.2) = (G.drop k).reverse) ∧ Hid (J pre wr) ∧ Hid (KpF bl n0 W0 wr)) (fun i _ => (intOf i + 1).toNat)
  case atStart => exact ⟨G.length, [], by omega, rfl, by show _ = _; simp, HJ0, KpF.refl _ _ _⟩
  case round =>
    obtain ⟨k, pre, hk, rfl, HPR, HJr, HBr⟩ := hrel
    have c1 := (HP.out _ HBr.out).1
    cases k with
    | zero =>
      gi_wp2
      go_end0
      refine ⟨⟨_, rfl⟩, .inl ⟨pre, ?_, HJr.out⟩⟩
      have := HPR.out
      rwa [List.drop_zero] at this
    | succ k =>
      have hk9 : (((k + 1 : Nat) : Int) - 1) = (k : Int) := by omega
      rw [hk9]
      have hlt : k < G.length := by omega
      have hv := List.getElem?_eq_getElem hlt
      generalize G[k] = g at *
      obtain ⟨b, off, rfl, d1, d2, d3⟩ := (HP.out _ HBr.out).2.get hv
      have hrm := (HP.out _ HBr.out).2.at hv
      have o1 := one_rd hrm.1
      have o2 := one_rd hrm.2
      clear hrm
      have HV := hid hv
      have hpl : pre.length = G.length - (k + 1) := by
        have := congrArg List.length HPR.out
        simpa using this
      have hrev : G.reverse[pre.length]? = some g := by
        rw [hpl, List.getElem?_reverse (by omega), show G.length - 1 - (G.length - (k + 1)) = k by omega]
        exact hv
      obtain ⟨fn, tmps, assign, body, hy, hR⟩ := HY.out pre (k, g) _ HJr.out hrev HBr.out.size
      have HR := hid hR
      unfold pv at hy
      simp only at hy
      have hwk : IntKind.i64.wrap ((k : Int) - 1) = (k : Int) - 1 := by rw [IntKind.wrap_i64]; omega
      clear hv hR hpl hrev hk9
      gi_wp2
      refine HR.out.mono ?_
      rintro e W3 (⟨rfl, hJ3, hk3, -⟩ | ⟨rfl, hJx3, -⟩)
      · have HJ3 := hid hJ3
        have HB3 := hid (HBr.out.trans hk3)
        clear hJ3 hk3
        gi_wp2
        go_roundw
        case rel => exact ⟨k, pre ++ [(k, g)], by omega, rfl, by
          show _ = _
          have hd : G.drop k = g :: G.drop (k + 1) := by rw [List.drop_eq_getElem_cons hlt]; rw [(List.getElem?_eq_some_iff.1 HV.out).2]
          rw [List.map_append, HPR.out, hd]
          simp, HJ3, HB3⟩
        case measure => first | (simp [intOf]; done) | (simp [intOf]; omega)
      · have HJ3 := hid hJx3
        clear hJx3
        gi_wp2
        refine bodyPost_ret (results_none rfl _ _ _) rfl ?_
        refine ⟨⟨_, rfl⟩, .inr ⟨pre ++ [(k, g)], ?_, HJ3.out⟩⟩
        have hd : G.drop k = g :: G.drop (k + 1) := by rw [List.drop_eq_getElem_cons hlt]; rw [(List.getElem?_eq_some_iff.1 HV.out).2]
        have hs : G = G.take k ++ G.drop k := (List.take_append_drop k G).symm
        rw [List.map_append, HPR.out]
        refine ⟨(G.take k).reverse, ?_⟩
        conv => rhs; rw [hs, hd]
        simp
end Go.Proofs.Ytcgnghkjkdkmmaa
