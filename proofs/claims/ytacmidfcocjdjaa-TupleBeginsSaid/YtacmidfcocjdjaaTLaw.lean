/-
  WHAT THE LAWS' FRAMES USE: values that came in.
-/
import Derived.Test.YtacmidfcocjdjaaTBase
import Derived.Test.YtacmidfcocjdjaaLaw
import Derived.Deep.Slices
import Derived.Deep.Strs
namespace Go.Proofs.Ytacmidfcocjdjaa
open Go.RowKit Go.ChangeShapes Go.WideShapes Go.ChangeAt Go.Deep

theorem ba_eta (s : ByteArray) : (⟨s.data.toList.toArray⟩ : ByteArray) = s := by
  cases s; simp

theorem Vs.mk {w : World} {ao : Option Addr} {c : Nat} {l : List Vl} (h1 : l.length ≤ c) (h2 : c ≤ maxLen) (h3 : ao = none → c = 0)
    (h : ∀ a, ao = some a → ∀ i v, l[i]? = some v → w.cell? (a.add (i * 3)) = some (.int .i64 v.k) ∧ w.cell? (a.add (i * 3 + 1)) = some (.int .i64 v.i) ∧ w.cell? (a.add (i * 3 + 2)) = some (.string ⟨v.s.toArray⟩)) : Vs w (.slice ao l.length c) l := by
  refine ⟨ao, c, rfl, h1, h2, h3, fun a ha j u hu => ?_⟩
  have hj : j < l.length * 3 := by
    have := (List.getElem?_eq_some_iff.1 hu).1
    rwa [cellsL_len] at this
  have hi : j / 3 < l.length := by omega
  obtain ⟨p1, p2, p3⟩ := h a ha (j / 3) l[j / 3] (List.getElem?_eq_getElem hi)
  obtain ⟨q1, q2, q3⟩ := cellsL_at (List.getElem?_eq_getElem hi)
  have hr : j % 3 = 0 ∨ j % 3 = 1 ∨ j % 3 = 2 := by omega
  rcases hr with hr | hr | hr
  · have e : j / 3 * 3 = j := by omega
    rw [e] at p1 q1
    rw [p1]; rw [hu] at q1; exact q1.symm
  · have e : j / 3 * 3 + 1 = j := by omega
    rw [e] at p2 q2
    rw [p2]; rw [hu] at q2; exact q2.symm
  · have e : j / 3 * 3 + 2 = j := by omega
    rw [e] at p3 q3
    rw [p3]; rw [hu] at q3; exact q3.symm

instance : Inhabited Vl := ⟨⟨0, 0, []⟩⟩

/-- What three cells are, read as a value. -/
theorem val_cells {H : Type} {enc : TypeId × Value → H} {W : World} {base : Nat} {spare : Nat → Bool} {held : Bool} {m : Nat} {cs : List Value} {y : DataW H × List MemPlace}
    (h : DataW.trod enc Try.prog W base spare held m 24 cs = some y) : ∃ v : Vl, cs = [.int .i64 v.k, .int .i64 v.i, .string ⟨v.s.toArray⟩] ∧ inV v := by
  have hc1 : Try.prog.cellsOf 3 = 1 := by kernel_rfl
  have hc2 : Try.prog.cellsOf 2 = 1 := by kernel_rfl
  have hc3 : Try.prog.cellsOf 9 = 1 := by kernel_rfl
  have hcv : Try.prog.cellsOf 24 = 3 := by kernel_rfl
  obtain ⟨y0, y1, y2, n', hy, hlen, t0, t1, t2⟩ := trod_struct3 Try.underlying24 h
  have t0' : DataW.trod enc Try.prog W base spare held n' 3 ((cs.drop 0).take 1) = some y0 := by rw [← hc1]; exact t0
  have t1' : DataW.trod enc Try.prog W base spare held n' 2 ((cs.drop 1).take 1) = some y1 := by rw [← hc2]; exact t1
  have t2' : DataW.trod enc Try.prog W base spare held n' 9 ((cs.drop 2).take 1) = some y2 := by rw [← hc3]; exact t2
  obtain ⟨k, hk, -, -⟩ := DataW.trod_int Try.underlying3 t0'
  obtain ⟨i, hi, -, hw⟩ := DataW.trod_int Try.underlying2 t1'
  obtain ⟨s, hs, -, -⟩ := DataW.trod_string Try.underlying9 t2'
  rw [hcv] at hlen
  match cs, hlen with
  | [u0, u1, u2], _ =>
    simp at hk hi hs
    subst hk; subst hi; subst hs
    refine ⟨⟨k, i, s.data.toList⟩, by rw [ba_eta], ?_⟩
    have := bounds_i64 hw
    exact ⟨this.1, this.2⟩

/-- A slice of values that came in. -/
theorem vals_open {H : Type} {enc : TypeId × Value → H} {W : World} {a : Option Addr} {len cap : Nat} {d : DataW H} {p : List MemPlace}
    (h : DataW.Trod enc Try.prog W 0 (fun _ => true) true 22 (.slice a len cap) d p) : ∃ l : List Vl, l.length = len ∧ Vs W (.slice a len cap) l ∧ ∀ v ∈ l, inV v := by
  obtain ⟨fuel, hf⟩ := h
  rcases open_slice Try.underlying22 hf with ⟨hcs, hx⟩ | ⟨x, l, c, m, n, D, Pl, hcs, _, hl, hm, hmm, hx, hcell⟩
  · simp [Value.cells] at hcs
    obtain ⟨rfl, rfl, rfl⟩ := hcs
    exact ⟨[], rfl, Vs.nil W, fun v hv => by cases hv⟩
  · simp [Value.cells] at hcs
    obtain ⟨rfl, rfl, rfl⟩ := hcs
    have hcv : Try.prog.cellsOf 24 = 3 := by kernel_rfl
    rw [hcv] at hcell
    have key : ∀ i, i < len → ∃ v : Vl, (W.cell? (x.add (i * 3)) = some (.int .i64 v.k) ∧ W.cell? (x.add (i * 3 + 1)) = some (.int .i64 v.i) ∧ W.cell? (x.add (i * 3 + 2)) = some (.string ⟨v.s.toArray⟩)) ∧ inV v := by
      intro i hi
      obtain ⟨cs', h1, h2⟩ := hcell i (by rw [hmm]; simp; omega)
      obtain ⟨v, rfl, hv⟩ := val_cells h2
      obtain ⟨_, hl2, hc⟩ := World.cells?_some h1
      have c0 := hc 0 (by omega)
      have c1 := hc 1 (by omega)
      have c2 := hc 2 (by omega)
      rw [add_add] at c0 c1 c2
      exact ⟨v, ⟨c0, c1, c2⟩, hv⟩
    obtain ⟨f, hf2⟩ := choose_lt key
    have hlen : ((List.range len).map f).length = len := by simp
    have hget : ∀ i v, ((List.range len).map f)[i]? = some v → i < len ∧ v = f i := by
      intro i v hv
      have hi : i < len := by have := (List.getElem?_eq_some_iff.1 hv).1; simpa using this
      rw [List.getElem?_map, List.getElem?_range hi] at hv
      simp at hv
      exact ⟨hi, hv.symm⟩
    refine ⟨(List.range len).map f, hlen, ?_, fun v hv => ?_⟩
    · have := Vs.mk (w := W) (ao := some x) (c := cap) (l := (List.range len).map f) (by rw [hlen]; exact hl) hm (fun h => by cases h) (fun a ha i v hv => by
        cases ha
        obtain ⟨hi, rfl⟩ := hget i v hv
        exact (hf2 i hi).1)
      rw [hlen] at this
      exact this
    · obtain ⟨i, hi, rfl⟩ := List.mem_map.1 hv
      exact (hf2 i (List.mem_range.1 hi)).2

/-- A value that came in. -/
theorem val_open {H : Type} {enc : TypeId × Value → H} {W : World} {base : Nat} {x : Value} {d : DataW H} {p : List MemPlace}
    (hw : Value.okWide Try.prog W .any base 24 x) (h : DataW.Trod enc Try.prog W 0 (fun _ => true) true 24 x d p) : ∃ v : Vl, x = sv v ∧ inV v := by
  unfold Value.okWide at hw
  rw [Try.underlying24] at hw
  obtain ⟨cs, rfl, hsz, -⟩ := hw
  obtain ⟨fuel, hf⟩ := h
  obtain ⟨v, hv, hi⟩ := val_cells hf
  refine ⟨v, ?_, hi⟩
  have : cs.toList = [.int .i64 v.k, .int .i64 v.i, .string ⟨v.s.toArray⟩] := hv
  unfold sv
  rw [← this]
end Go.Proofs.Ytacmidfcocjdjaa
