/-
  DISK: append(x[:n:n], y[n:]...).
-/
import Derived.Test.YthefklmfnokhiaaDiskApartWalk
import Derived.ArgAppend
import Derived.Deep.Upon
set_option linter.unusedVariables false
set_option maxRecDepth 100000
namespace Go.Proofs.Ythefklmfnokhiaa
open Go.RowKit

theorem own_some {W : World} {b n : Nat} {e : TypeId} {v : Value} {xs : List Value} (h : W.ownsRow b e 1 v (n + 1) xs) : ∃ g c, v = .slice (some ⟨g, 0, none⟩) (n + 1) c ∧ n + 1 ≤ c := by
  rcases h.2 with ⟨_, h0⟩ | ⟨g, cap, cur, rfl, _, _, hc, _⟩
  · cases h0
  · exact ⟨g, cap, rfl, hc⟩

theorem app_cut {W : World} {g c : Nat} {L M : List UInt8} {n m c2 : Nat} {ao : Option Addr} (h1 : Rd W (.slice (some ⟨g, 0, none⟩) 64 c) L) (hL : L.length = 64) (hn : n + m = 64) (h2 : Rd W (.slice ao m c2) M) (hM : M.length = m) :
    ∃ (o : Option Addr) (c' : Nat) (W' : World), (Builtin.append_ #[30, 30] 30 #[.slice (some ⟨g, 0, none⟩) n n, .slice ao m c2]).run Try.prog W = .ok (.slice o 64 c') W' ∧ Rd W' (.slice o 64 c') (L.take n ++ M) ∧ Below W.heap.size W W' := by
  obtain ⟨i0, hi, hz0, hz1, hz2⟩ := info_parts info_u8
  have hcell : ∀ j u, ((L.take n).map bv)[j]? = some u → W.cell? ((⟨g, 0, none⟩ : Addr).add j) = some u := fun j u hu => by
    obtain ⟨ao', c', he, q1, q2, q3, q4⟩ := h1
    simp only [Value.slice.injEq] at he
    obtain ⟨rfl, -, rfl⟩ := he
    refine q4 _ rfl j u ?_
    rw [List.getElem?_map, List.getElem?_take] at hu
    split at hu
    · rw [List.getElem?_map]; exact hu
    · cases hu
  have hlt : ((L.take n).map bv).length = n * 1 := by rw [List.length_map, List.length_take]; omega
  have hnil : m = 0 → ∀ x, Src Try.prog i0.size 30 x 0 [] W → ∃ (o : Option Addr) (c' : Nat) (W' : World), (Builtin.append_ #[30, 30] 30 #[.slice (some ⟨g, 0, none⟩) n n, x]).run Try.prog W = .ok (.slice o 64 c') W' ∧ Rd W' (.slice o 64 c') (L.take n ++ M) ∧ Below W.heap.size W W' := by
    intro hm0 x hs
    have hM0 : M = [] := List.length_eq_zero_iff.1 (by omega)
    have hn0 : n = 64 := by omega
    subst hn0
    refine ⟨some ⟨g, 0, none⟩, 64, W, run_append_nothing W 30 30 30 5 i0 Try.underlying30 hi _ 64 64 (by omega) x hs, ?_, Below.refl _ _⟩
    rw [hM0, List.append_nil, List.take_of_length_le (by omega)]
    obtain ⟨ao', c', he, q1, q2, q3, q4⟩ := h1
    simp only [Value.slice.injEq] at he
    obtain ⟨rfl, hl', rfl⟩ := he
    exact ⟨_, 64, by rw [hL], by omega, by unfold maxLen; omega, (fun h => by cases h), q4⟩
  cases ao with
  | none =>
    obtain ⟨ao', c', he, q1, q2, q3, q4⟩ := id h2
    simp only [Value.slice.injEq] at he
    obtain ⟨rfl, rfl, rfl⟩ := he
    have hc0 := q3 rfl
    have hm0 : M.length = 0 := by omega
    rw [hm0]
    exact hnil (by omega) _ (Src.ofNil W (e' := 5) Try.underlying30 c2)
  | some b =>
    have hnews : ∀ j u, (M.map bv)[j]? = some u → W.cell? (b.add j) = some u := fun j u hu => by
      obtain ⟨ao', c', he, q1, q2, q3, q4⟩ := h2
      simp only [Value.slice.injEq] at he
      obtain ⟨rfl, -, rfl⟩ := he
      exact q4 _ rfl j u hu
    by_cases hm : m = 0
    · subst hm
      exact hnil rfl _ (Src.ofSlice W (e' := 5) Try.underlying30 b 0 c2 [] (by simp) (fun j u hu => by simp at hu) (fun u hu => by cases hu))
    · obtain ⟨v', w', hrun, ho, hg⟩ := run_append_arg_grows (P := Try.prog) (w := W) 30 30 5 i0 (.int .u8 0) 1 1 Try.underlying30 hi hz0 hz1 hz2 rfl (by decide) ⟨g, 0, none⟩ n n ((L.take n).map bv) hlt hcell b m c2 (M.map bv) (by rw [List.length_map, hM]; omega) hnews (by omega) (by unfold maxLen; omega) (by omega)
      obtain ⟨o, c', rfl⟩ := own_form ho
      rw [hn] at hrun ho
      refine ⟨o, c', w', hrun, ?_, ⟨hg.os, hg.tape, hg.output, hg.size, fun k hk => hg.block k hk (by simp)⟩⟩
      have hl : (L.take n ++ M).length = 64 := by rw [List.length_append, List.length_take]; omega
      exact Rd.own (l := L.take n ++ M) (by rw [hl, List.map_append]; exact ho)
theorem own64 {W : World} {b : Nat} {e : TypeId} {v : Value} {l : List UInt8} (h : W.ownsRow b e 1 v l.length (l.map bv)) (hl : l.length = 64) :
    ∃ g c, v = .slice (some ⟨g, 0, none⟩) 64 c ∧ 64 ≤ c ∧ Rd W (.slice (some ⟨g, 0, none⟩) 64 c) l := by
  have hr := Rd.own h
  rw [hl] at h
  obtain ⟨g, c, rfl, hc⟩ := own_some (n := 63) h
  exact ⟨g, c, rfl, hc, hr⟩

/-- 'x[:n:n]'. -/
theorem cut_both {P : Program} (t e : TypeId) (ht : P.underlying t = some (.slice e)) (hinfo : (P.info? e).map (fun i => (i.zero, i.size, i.bytes)) = some (some (.int .u8 0), 1, 1)) (a : Option Addr) (l c n : Nat) (hn : n ≤ c) :
    ∀ W, (Instr.slice t (.slice a l c) none (some (.int .i64 (n : Int))) (some (.int .i64 (n : Int)))).run P W = .ok (.slice a n n) W := fun W => by
  have ht' : P.underlying t = some (.slice (P.elem t)) := by simp [Program.elem, ht]
  obtain ⟨i0, hi, hz0, hz1, hz2⟩ := info_parts hinfo
  have he : P.elem t = e := by simp [Program.elem, ht]
  have hs : ∀ W, (sizeOf e).run P W = .ok 1 W := fun W => by simp [sizeOf, typeInfo, hi, hz1]
  have h0 : ∀ x : Addr, x.add 0 = x := fun x => by unfold Addr.add; simp
  rw [run_slice_hm W t _ _ _ ht' .i64 .i64 _ _ (by omega) (by omega) (by omega), he, hs]
  cases a <;> simp [Result.andThen, sliced, h0]

/-- append WHOSE RUN IS KNOWN, as one step of a region that draws. -/
theorem step_known {P : Program} {ops : Array Oper} {o : Oper} {a : Act} {w w' : World} {K : Act → World → Prop} {Q : Exit → Act → World → Prop} {E : Prop}
    (s x : Operand) (t : TypeId) (hop : o.op = Op.call { callee := Callee.builtin Builtin.append, args := #[s, x], argTypes := #[t, t] }) (hty : o.type = t)
    (u y v : Value) (hs : a.eval s = u) (hx : a.eval x = y) (hrun : (Builtin.append_ #[t, t] t #[u, y]).run P w = .ok v w')
    (hw : Region.wanted o (yielded ops a.tmps) = true) (hK : K (a.put o.dst v) w') :
    if Region.wanted o (yielded ops a.tmps) = true then Oper.wp P o a w K Q else E := by
  rw [if_pos hw]
  unfold Oper.wp
  simp [execOp, hop, hty, resolve, invoke, builtin, hs, hx, hrun, Result.andThen]
  exact hK

theorem below_on {a b c : World} (h : Below a.heap.size a b) (k : Below b.heap.size b c) : Below a.heap.size a c := h.trans (k.mono h.size)
end Go.Proofs.Ythefklmfnokhiaa
