/-
  DISK: slices.Backward over the writes that wait.
-/
import Derived.Test.YtcbbklbjfknnlaaDoorDg
set_option linter.unusedVariables false
namespace Go.Proofs.YtcbbklbjfknnlaaDoor
open Go.RowKit Go.Shelf
attribute [local go_sem] Oper.semAt_some

/-- A load within a fence, by its run. -/
theorem wpListIn_load {F : Fence} {n : Nat} {P : Program} {w : World} {ops : Array Oper} {rest : List Oper} {o : Oper} {a : Act} {Q : Exit → Act → World → Prop}
    (hg : o.guard = none) (t : TypeId) (x : Operand) (hop : o.op = Op.load t x) (v : Value) (hrun : (Instr.loadAt t (a.eval x)).run P w = .ok v w)
    (hK : wpListIn F n P ops Q rest (a.put o.dst v) w) : wpListIn F n P ops Q (o :: rest) a w := by
  refine wpListIn_plain hg fun K hK' => ?_
  unfold Oper.wpIn
  refine ⟨?_, ?_⟩
  · simp [Oper.about, hop]
  · rw [Oper.semAt_plain F _ _ (by rw [hop]; intro c hc'; cases hc')]
    rw [exec_load hop hrun]
    exact hK' _ _ hK

set_option maxRecDepth 100000 in
set_option maxHeartbeats 8000000 in
theorem backW_in (n : Nat) (hn : 1 ≤ n) (l Bn bl n0 : Nat) (xv : Value) (G : List Wr) (J Jx : List (Nat × Wr) → World → Prop) (W0 : World) (hgl : G.length ≤ 1000000)
    (hn0 : n0 ≤ W0.heap.size)
    (hY : ∀ pre x W1, J pre W1 → RxB G pre x W1 → W0.heap.size ≤ W1.heap.size → YieldAt Fence.wide (n - 1) Tryd.prog l #[.int .i64 (x.1 : Int), .agg (rowW x.2).toArray] W1 fun e W' =>
      (e = .returned (.bool true) ∧ J (pre ++ [x]) W' ∧ KpX bl n0 W1 W' ∧ KeepsFrom W0.heap.size W1 W') ∨ (e = .returned (.bool false) ∧ Jx (pre ++ [x]) W' ∧ KeepsFrom W0.heap.size W1 W'))
    (hP : ∀ W, KpX bl n0 W0 W → W.cell? ⟨Bn, 0, none⟩ = some xv ∧ Rws 129 W xv (G.map rowW) ∧ ∀ x ∈ G, (rowW x).length = 129) (h0 : J [] W0) :
    CallsIn Fence.wide n Tryd.prog 65 #[.func (.yield l) #[] #[], .pointer (some ⟨Bn, 0, none⟩)] W0 fun e W' => (∃ v, e = .returned v) ∧
      ((∃ xs : List (Nat × Wr), xs.map (·.2) = G.reverse ∧ J xs W') ∨ (∃ pre : List (Nat × Wr), pre.map (·.2) <+: G.reverse ∧ Jx pre W')) := by
  refine callsIn_of_wp Tryd.func65 rfl trivial ?_ rfl
  simp only [Tryd.ntmps65, List.size_toArray, List.length_cons, List.length_nil, Nat.reduceAdd, Nat.reduceSub, Array.replicate_succ, Array.replicate_zero, List.push_toArray, List.append_toArray, List.nil_append, List.cons_append]
  obtain ⟨xa, xc, rfl, -, -⟩ := (hP W0 (KpX.refl _ _ _)).2.1.form
  have c0 := (hP W0 (KpX.refl _ _ _)).1
  have HP := hid hP
  have HY := hid hY
  have HJ0 := hid h0
  clear hP hY h0
  have hw0 : IntKind.i64.wrap ((G.length : Int) - 1) = (G.length : Int) - 1 := by rw [IntKind.wrap_i64]; omega
  gi_wp2
  gi_loopw [3] (fun i wr => ∃ (k : Nat) (pre : List (Nat × Wr)), k ≤ G.length ∧ i = .int .i64 ((k : Int) - 1) ∧ Hid (pre.map (·.2) = (G.drop k).reverse) ∧ Hid (J pre wr) ∧ Hid (KpX bl n0 W0 wr)) (fun i _ => (intOf i + 1).toNat)
  case atStart => exact ⟨G.length, [], by omega, rfl, by show _ = _; simp, HJ0, KpX.refl _ _ _⟩
  case round =>
    obtain ⟨k, pre, hk, rfl, HPR, HJr, HBr⟩ := hrel
    have c1 := (HP.out _ HBr.out).1
    cases k with
    | zero =>
      gi_wp2
      go_end0
      refine ⟨⟨_, rfl⟩, .inl ⟨pre, ?_, HJr.out⟩⟩
      have := HPR.out
      rwa [List.drop_zero] at this
    | succ k =>
      have hk9 : (((k + 1 : Nat) : Int) - 1) = (k : Int) := by omega
      rw [hk9]
      have hlt : k < G.length := by omega
      have hv := List.getElem?_eq_getElem hlt
      generalize G[k] = g at *
      obtain ⟨b, off, rfl, hcl⟩ := (HP.out _ HBr.out).2.1.get (by decide) (k := k) (r := rowW g) (by rw [List.getElem?_map, hv]; rfl)
      have hln := (HP.out _ HBr.out).2.2 g (List.mem_of_getElem? hv)
      have hld : Hid ((Instr.loadAt 84 (.pointer (some ⟨b, off + k * 129, none⟩))).run Tryd.prog wr = .ok (.agg (rowW g).toArray) wr) :=
        run_loadAt_mid wr b (off + k * 129) 84 (rowW g) _ (fun j v hv => hcl j v hv) Tryd.underlying84 rfl (by rw [size_write, hln])
      clear hcl hln
      have HV := hid hv
      have hpl : pre.length = G.length - (k + 1) := by
        have := congrArg List.length HPR.out
        simpa using this
      have hrev : G.reverse[pre.length]? = some g := by
        rw [hpl, List.getElem?_reverse (by omega), show G.length - 1 - (G.length - (k + 1)) = k by omega]
        exact hv
      obtain ⟨fn, tmps, assign, body, hy, hR⟩ := HY.out pre (k, g) _ HJr.out hrev HBr.out.size
      have HR := hid hR
      simp only at hy
      have hwk : IntKind.i64.wrap ((k : Int) - 1) = (k : Int) - 1 := by rw [IntKind.wrap_i64]; omega
      clear hv hR hpl hrev hk9
      gi_wp2_with (first | (refine wpListIn_load rfl 84 (.tmp 15) rfl (.agg (rowW g).toArray) hld.out ?_))
      refine HR.out.mono ?_
      rintro e W3 (⟨rfl, hJ3, hk3, -⟩ | ⟨rfl, hJx3, -⟩)
      · have HJ3 := hid hJ3
        have HB3 := hid (HBr.out.trans hk3)
        clear hJ3 hk3
        gi_wp2
        go_roundw
        case rel => exact ⟨k, pre ++ [(k, g)], by omega, rfl, by
          show _ = _
          have hd : G.drop k = g :: G.drop (k + 1) := by rw [List.drop_eq_getElem_cons hlt]; rw [(List.getElem?_eq_some_iff.1 HV.out).2]
          rw [List.map_append, HPR.out, hd]
          simp, HJ3, HB3⟩
        case measure => first | (simp [intOf]; done) | (simp [intOf]; omega)
      · have HJ3 := hid hJx3
        clear hJx3
        gi_wp2
        refine bodyPost_ret (results_none rfl _ _ _) rfl ?_
        refine ⟨⟨_, rfl⟩, .inr ⟨pre ++ [(k, g)], ?_, HJ3.out⟩⟩
        have hd : G.drop k = g :: G.drop (k + 1) := by rw [List.drop_eq_getElem_cons hlt]; rw [(List.getElem?_eq_some_iff.1 HV.out).2]
        have hs : G = G.take k ++ G.drop k := (List.take_append_drop k G).symm
        rw [List.map_append, HPR.out]
        refine ⟨(G.take k).reverse, ?_⟩
        conv => rhs; rw [hs, hd]
        simp

end Go.Proofs.YtcbbklbjfknnlaaDoor
