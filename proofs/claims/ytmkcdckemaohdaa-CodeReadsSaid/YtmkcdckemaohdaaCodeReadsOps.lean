/-
  THE LAW CodeReads: its readings, as they came in.
-/
import Derived.Test.YtmkcdckemaohdaaLaw
import Derived.Deep.Slices
namespace Go.Proofs.Ytmkcdckemaohdaa.codeReads
open Go.RowKit Go.ChangeShapes Go.WideShapes Go.ChangeAt Go.Deep

/-- The readings at plain addresses. -/
def Ops (w : World) (a : Option Addr) (len : Nat) : Prop :=
  ∀ i, i < len → ∃ b off, a = some ⟨b, off, none⟩ ∧ b < w.heap.size ∧ ∃ k m : Int, w.cell? ⟨b, off + i * 2, none⟩ = some (.int .i64 k) ∧ w.cell? ⟨b, off + i * 2 + 1, none⟩ = some (.int .i64 m) ∧ (Lit.int .i64 m).wf = true

theorem ops_open {H : Type} {enc : TypeId × Value → H} {W : World} {a : Option Addr} {len cap : Nat} {d : DataW H} {p : List MemPlace}
    (h : DataW.Trod enc Try.prog W 0 (fun _ => true) true 32 (.slice a len cap) d p) : Ops W a len ∧ len ≤ maxLen := by
  obtain ⟨fuel, hf⟩ := h
  rcases open_slice Try.underlying32 hf with ⟨hcs, hx⟩ | ⟨x, l, c, m, n, D, Pl, hcs, _, hl, hm, hmm, hx, hcell⟩
  · simp [Value.cells] at hcs
    obtain ⟨rfl, rfl, rfl⟩ := hcs
    exact ⟨fun i hi => by omega, by omega⟩
  · simp [Value.cells] at hcs
    obtain ⟨rfl, rfl, rfl⟩ := hcs
    have hc2 : Try.prog.cellsOf 41 = 2 := by kernel_rfl
    have hc1 : Try.prog.cellsOf 3 = 1 := by kernel_rfl
    rw [hc2] at hcell
    refine ⟨fun i hi => ?_, by omega⟩
    have key : ∀ i, i < len → ∃ k m : Int, W.cell? ((x.add (i * 2)).add 0) = some (.int .i64 k) ∧ W.cell? ((x.add (i * 2)).add 1) = some (.int .i64 m) ∧ (Lit.int .i64 m).wf = true := by
      intro i hi
      obtain ⟨cs', h1, h2⟩ := hcell i (by rw [hmm]; simp; omega)
      obtain ⟨y0, y1, n', hy, hlen, ht0, ht1⟩ := trod_struct2 Try.underlying41 h2
      have ht0' : DataW.trod enc Try.prog W 0 (fun _ => true) true n' 3 ((cs'.drop 0).take 1) = some y0 := by rw [← hc1]; exact ht0
      have ht1' : DataW.trod enc Try.prog W 0 (fun _ => true) true n' 3 ((cs'.drop 1).take 1) = some y1 := by rw [← hc1]; exact ht1
      obtain ⟨k, hk, -, -⟩ := DataW.trod_int Try.underlying3 ht0'
      obtain ⟨q, hq, -, hw⟩ := DataW.trod_int Try.underlying3 ht1'
      obtain ⟨_, hl2, hc⟩ := World.cells?_some h1
      match cs', hl2 with
      | [u, v], _ =>
        simp at hk hq
        subst hk; subst hq
        exact ⟨k, q, by rw [hc 0 (by omega)]; rfl, by rw [hc 1 (by omega)]; rfl, hw⟩
    obtain ⟨k0, _, h00, _⟩ := key 0 (by omega)
    obtain ⟨b, off, spot⟩ := x
    have hspot : spot = none := by simpa [Addr.add] using World.cell?_spot h00
    subst hspot
    obtain ⟨k, q, h1, h2, hw⟩ := key i hi
    rw [add_plain, add_plain] at h1 h2
    refine ⟨b, off, rfl, World.block_lt_of_cell? W _ h1, k, q, ?_, ?_, hw⟩
    · exact h1
    · exact h2
end Go.Proofs.Ytmkcdckemaohdaa.codeReads
