/-
  LAYER 12, THE DOCUMENT's: Drop.
-/
import Derived.Test.YtafcbelkhhjcoaaSk
set_option linter.unusedVariables false
set_option linter.unusedSimpArgs false
set_option maxRecDepth 100000
namespace Go.Proofs.Ytafcbelkhhjcoaa
open Go.RowKit Go.Deep

/-- Four cells of a block, written one by one. -/
theorem put4 {w : World} {b : Nat} {a0 a1 a2 a3 : Value} {t : TypeId} (h : w.heap[b]? = some (.cells #[a0, a1, a2, a3] t (0, 0))) (v0 v1 v2 v3 : Value) :
    ((((w.setCell ⟨b, 0, none⟩ v0).setCell ⟨b, 1, none⟩ v1).setCell ⟨b, 2, none⟩ v2).setCell ⟨b, 3, none⟩ v3).heap[b]? = some (.cells #[v0, v1, v2, v3] t (0, 0)) ∧
    Keep (fun k => k = b) w ((((w.setCell ⟨b, 0, none⟩ v0).setCell ⟨b, 1, none⟩ v1).setCell ⟨b, 2, none⟩ v2).setCell ⟨b, 3, none⟩ v3) := by
  have h1 := put_in (cs := [a0, a1, a2, a3]) h 0 v0
  have k1 : Keep (fun k => k = b) w (w.setCell ⟨b, 0, none⟩ v0) := Keep.set _ _ _ rfl
  generalize w.setCell ⟨b, 0, none⟩ v0 = w1 at *
  have h2 := put_in h1 1 v1
  have k2 : Keep (fun k => k = b) w (w1.setCell ⟨b, 1, none⟩ v1) := k1.trans (Keep.set _ _ _ rfl)
  generalize w1.setCell ⟨b, 1, none⟩ v1 = w2 at *
  have h3 := put_in h2 2 v2
  have k3 : Keep (fun k => k = b) w (w2.setCell ⟨b, 2, none⟩ v2) := k2.trans (Keep.set _ _ _ rfl)
  generalize w2.setCell ⟨b, 2, none⟩ v2 = w3 at *
  have h4 := put_in h3 3 v3
  have k4 : Keep (fun k => k = b) w (w3.setCell ⟨b, 3, none⟩ v3) := k3.trans (Keep.set _ _ _ rfl)
  exact ⟨h4, k4⟩
/-- The memory of N, and what is new. -/
def Old (N : Nat → Prop) (w w' : World) (k : Nat) : Prop := N k ∨ (w.heap.size ≤ k ∧ k < w'.heap.size)
theorem cat_form {N : Nat → Prop} {w : World} {cs : List Value} {C : Cat} (h : CatN N w cs C) : ∃ a c a' c', cs = [.int .i64 C.ver, .int .i64 C.nxt, .slice a C.tabs.length c, .slice a' C.idxs.length c'] := by
  obtain ⟨x, y, rfl, ⟨M, m1, m2, -⟩, ⟨M', n1, n2, -⟩, -⟩ := h
  obtain ⟨a, c, rfl, -⟩ := m2.form
  obtain ⟨a', c', rfl, -⟩ := n2.form
  exact ⟨a, c, a', c', by rw [m1, n1]⟩
theorem idx_form {N : Nat → Prop} {w : World} {cs : List Value} {x : Idx} (h : IdxN N w cs x) : ∃ a c, cs = [.int .i64 x.id, .int .i64 x.table, .string ⟨x.name.toArray⟩, .slice a x.cols.length c, .bool x.uniq, .int .i64 x.state, .bool x.bad] := by
  obtain ⟨y, rfl, ⟨h1, -⟩, -⟩ := h
  obtain ⟨a, c, rfl, -⟩ := h1.form
  exact ⟨a, c, by rw [List.length_map]⟩
theorem tab_form {N : Nat → Prop} {w : World} {cs : List Value} {t : Tab} (h : TabN N w cs t) : ∃ a c a' c', cs = [.int .i64 t.id, .string ⟨t.name.toArray⟩, .slice a t.cols.length c, .slice a' t.key.length c'] := by
  obtain ⟨x, y, rfl, ⟨h1, -⟩, ⟨h2, -⟩, -⟩ := h
  obtain ⟨a, c, rfl, -⟩ := h1.form
  obtain ⟨a', c', rfl, -⟩ := h2.form
  exact ⟨a, c, a', c', by rw [List.length_map, List.length_map]⟩

def dropM (C : Cat) (s : List UInt8) : Cat × Int :=
  match C.idxs.find? (fun t => decide (t.name = s)) with
  | none => (C, 5)
  | some x => if 4 < x.state then (C, 7) else (setM C x.id (if x.state = 4 then 5 else 6) x.bad, 0)

/-- What a change tells. -/
def ChP (N : Nat → Prop) (w : World) (R : Cat × Int) (e : Ending) (w' : World) : Prop :=
  ∃ vs : List Value, e = .returned (.tuple #[.agg vs.toArray, .int .i64 R.2]) ∧ Below w.heap.size w w' ∧ CatN (Old N w w') w' vs R.1

end Go.Proofs.Ytafcbelkhhjcoaa
