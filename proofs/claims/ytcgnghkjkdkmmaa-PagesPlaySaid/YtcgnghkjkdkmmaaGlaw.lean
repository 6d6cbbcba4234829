/-
  WHAT THE LAWS' FRAMES USE: bytes, pairs and spans that came in.
-/
import Derived.Test.YtcgnghkjkdkmmaaPr
import Derived.Test.YtcgnghkjkdkmmaaLaw
import Derived.Deep.Slices
import Derived.Deep.Strs
set_option linter.unusedVariables false
set_option maxRecDepth 100000
namespace Go.Proofs.Ytcgnghkjkdkmmaa
open Go.RowKit Go.ChangeShapes Go.WideShapes Go.ChangeAt Go.Deep

variable {H : Type} {enc : TypeId × Value → H} {W : World}

theorem bytes_cells {m : Nat} {cs : List Value} {y : DataW H × List MemPlace} (h : DataW.trod enc Try.prog W 0 (fun _ => true) true m 23 cs = some y) :
    ∃ (a : Option Addr) (c : Nat) (l : List UInt8), cs = [.slice a l.length c] ∧ Rd W (.slice a l.length c) l := by
  rcases open_ints Try.underlying23 Try.underlying5 (by kernel_rfl) h with ⟨hcs, hx⟩ | ⟨x, l, c, zs, hcs, _, hl, hm, hz, hx, hcell, hwz⟩
  · exact ⟨none, 0, [], hcs, Rd.nil W⟩
  · have hz' : zs.length = c := by simpa using hz
    obtain ⟨b, hb, hr⟩ := rd_of_row (w := W) (a := some x) (len := l) (cap := c) (zs := zs) (.inr ⟨_, rfl, hl, hm, hz', hcell, hwz⟩)
    subst hb
    exact ⟨some x, c, b, hcs, hr⟩

theorem pair_cells {m : Nat} {cs : List Value} {y : DataW H × List MemPlace} (h : DataW.trod enc Try.prog W 0 (fun _ => true) true m 31 cs = some y) : ∃ p : Lp, cs = rowP p ∧ RdP W p := by
  have hc1 : Try.prog.cellsOf 3 = 1 := by kernel_rfl
  have hc2 : Try.prog.cellsOf 23 = 1 := by kernel_rfl
  have hcv : Try.prog.cellsOf 31 = 3 := by kernel_rfl
  obtain ⟨y0, y1, y2, n', hy, hlen, t0, t1, t2⟩ := trod_struct3 Try.underlying31 h
  have t0' : DataW.trod enc Try.prog W 0 (fun _ => true) true n' 23 ((cs.drop 0).take 1) = some y0 := by rw [← hc2]; exact t0
  have t1' : DataW.trod enc Try.prog W 0 (fun _ => true) true n' 23 ((cs.drop 1).take 1) = some y1 := by rw [← hc2]; exact t1
  have t2' : DataW.trod enc Try.prog W 0 (fun _ => true) true n' 3 ((cs.drop 2).take 1) = some y2 := by rw [← hc1]; exact t2
  obtain ⟨ka, kc, key, hk, rk⟩ := bytes_cells t0'
  obtain ⟨va, vc, val, hv, rv⟩ := bytes_cells t1'
  obtain ⟨i, hi, -, hw⟩ := DataW.trod_int Try.underlying3 t2'
  rw [hcv] at hlen
  match cs, hlen with
  | [u0, u1, u2], _ =>
    simp at hk hi hv
    subst hk; subst hi; subst hv
    exact ⟨⟨ka, kc, va, vc, key, val, i⟩, rfl, rk, rv⟩

theorem span_cells {m : Nat} {cs : List Value} {y : DataW H × List MemPlace} (h : DataW.trod enc Try.prog W 0 (fun _ => true) true m 25 cs = some y) : ∃ (fv tv : Value) (f t : List UInt8), cs = [fv, tv] ∧ Rd W fv f ∧ Rd W tv t := by
  have hc2 : Try.prog.cellsOf 23 = 1 := by kernel_rfl
  have hcv : Try.prog.cellsOf 25 = 2 := by kernel_rfl
  obtain ⟨y0, y1, n', hy, hlen, t0, t1⟩ := trod_struct2 Try.underlying25 h
  have t0' : DataW.trod enc Try.prog W 0 (fun _ => true) true n' 23 ((cs.drop 0).take 1) = some y0 := by rw [← hc2]; exact t0
  have t1' : DataW.trod enc Try.prog W 0 (fun _ => true) true n' 23 ((cs.drop 1).take 1) = some y1 := by rw [← hc2]; exact t1
  obtain ⟨ka, kc, key, hk, rk⟩ := bytes_cells t0'
  obtain ⟨va, vc, val, hv, rv⟩ := bytes_cells t1'
  rw [hcv] at hlen
  match cs, hlen with
  | [u0, u1], _ =>
    simp at hk hv
    subst hk; subst hv
    exact ⟨_, _, key, val, rfl, rk, rv⟩

/-- A pair, a span, bytes, a slice of pairs that came in. -/
theorem pair_open {base : Nat} {x : Value} {d : DataW H} {p : List MemPlace} (hw : Value.okWide Try.prog W .any base 31 x) (h : DataW.Trod enc Try.prog W 0 (fun _ => true) true 31 x d p) : ∃ m : Lp, x = pv m ∧ RdP W m := by
  unfold Value.okWide at hw
  rw [Try.underlying31] at hw
  obtain ⟨cs, rfl, hsz, -⟩ := hw
  obtain ⟨fuel, hf⟩ := h
  obtain ⟨v, hv, hi⟩ := pair_cells hf
  refine ⟨v, ?_, hi⟩
  have : cs.toList = rowP v := hv
  unfold pv
  have e : cs = (rowP v).toArray := by rw [← this]
  rw [e]
  rfl

theorem span_open {base : Nat} {x : Value} {d : DataW H} {p : List MemPlace} (hw : Value.okWide Try.prog W .any base 25 x) (h : DataW.Trod enc Try.prog W 0 (fun _ => true) true 25 x d p) : ∃ (fv tv : Value) (f t : List UInt8), x = .agg #[fv, tv] ∧ Rd W fv f ∧ Rd W tv t := by
  unfold Value.okWide at hw
  rw [Try.underlying25] at hw
  obtain ⟨cs, rfl, hsz, -⟩ := hw
  obtain ⟨fuel, hf⟩ := h
  obtain ⟨fv, tv, f, t, hv, h1, h2⟩ := span_cells hf
  refine ⟨fv, tv, f, t, ?_, h1, h2⟩
  have : cs.toList = [fv, tv] := hv
  have e : cs = #[fv, tv] := by apply Array.toList_inj.1; rw [this]
  rw [e]

theorem bytes_open {a : Option Addr} {len cap : Nat} {d : DataW H} {p : List MemPlace} (h : DataW.Trod enc Try.prog W 0 (fun _ => true) true 23 (.slice a len cap) d p) : ∃ l : List UInt8, l.length = len ∧ Rd W (.slice a len cap) l := by
  obtain ⟨fuel, hf⟩ := h
  obtain ⟨a', c', l, hcs, hr⟩ := bytes_cells hf
  simp [Value.cells] at hcs
  obtain ⟨rfl, rfl, rfl⟩ := hcs
  exact ⟨l, rfl, hr⟩

instance : Inhabited Lp := ⟨⟨none, 0, none, 0, [], [], 0⟩⟩

theorem pairs_open {a : Option Addr} {len cap : Nat} {d : DataW H} {p : List MemPlace} (h : DataW.Trod enc Try.prog W 0 (fun _ => true) true 29 (.slice a len cap) d p) : ∃ M : List Lp, M.length = len ∧ Prs W (.slice a len cap) M := by
  obtain ⟨fuel, hf⟩ := h
  rcases open_slice Try.underlying29 hf with ⟨hcs, hx⟩ | ⟨x, l, c, m, n, D, Pl, hcs, _, hl, hm, hmm, hx, hcell⟩
  · simp [Value.cells] at hcs
    obtain ⟨rfl, rfl, rfl⟩ := hcs
    exact ⟨[], rfl, Prs.nil W⟩
  · simp [Value.cells] at hcs
    obtain ⟨rfl, rfl, rfl⟩ := hcs
    have hcv : Try.prog.cellsOf 31 = 3 := by kernel_rfl
    rw [hcv] at hcell
    have key : ∀ i, i < len → ∃ v : Lp, (∀ j u, (rowP v)[j]? = some u → W.cell? (x.add (i * 3 + j)) = some u) ∧ RdP W v := by
      intro i hi
      obtain ⟨cs', h1, h2⟩ := hcell i (by rw [hmm]; simp; omega)
      obtain ⟨v, rfl, hv⟩ := pair_cells h2
      obtain ⟨_, hl2, hc⟩ := World.cells?_some h1
      refine ⟨v, fun j u hu => ?_, hv⟩
      have hj := (List.getElem?_eq_some_iff.1 hu).1
      have := hc j hj
      rw [add_add] at this
      rw [this, ← hu]
    obtain ⟨f, hf2⟩ := choose_lt key
    have hlen : ((List.range len).map f).length = len := by simp
    have hget : ∀ i v, ((List.range len).map f)[i]? = some v → i < len ∧ v = f i := by
      intro i v hv
      have hi : i < len := by have := (List.getElem?_eq_some_iff.1 hv).1; simpa using this
      rw [List.getElem?_map, List.getElem?_range hi] at hv
      simp at hv
      exact ⟨hi, hv.symm⟩
    have hrd : ∀ m ∈ (List.range len).map f, RdP W m := fun m hm => by
      obtain ⟨i, hi, rfl⟩ := List.mem_map.1 hm
      exact (hf2 i (List.mem_range.1 hi)).2
    have hw := wideP hrd
    have hl0 := hl
    refine ⟨(List.range len).map f, hlen, ⟨some x, cap, by rw [List.length_map, hlen], by rw [List.length_map, hlen]; exact hl, hm, (fun h => by cases h), hw, fun a ha j u hu => ?_⟩, hrd⟩
    cases ha
    have hjl := (List.getElem?_eq_some_iff.1 hu).1
    rw [hw.len, List.length_map, hlen] at hjl
    have hk : j / 3 < len := by omega
    have h1 : (((List.range len).map f).map rowP)[j / 3]? = some (rowP (f (j / 3))) := by
      rw [List.getElem?_map, List.getElem?_map, List.getElem?_range hk]
      rfl
    have h2 : (rowP (f (j / 3)))[j % 3]? = some ((rowP (f (j / 3)))[j % 3]'(by show j % 3 < 3; omega)) := List.getElem?_eq_getElem _
    have h3 := hw.at h1 h2
    have e : j / 3 * 3 + j % 3 = j := by omega
    rw [e, hu] at h3
    have h4 := (hf2 (j / 3) hk).1 (j % 3) u (by rw [h2]; exact h3.symm)
    rw [e] at h4
    exact h4
end Go.Proofs.Ytcgnghkjkdkmmaa
