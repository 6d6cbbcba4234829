/-
  THE BOUND OF THE SECOND FORM, at a string and at a slice of strings.
-/
import Derived.Test.YtombgehopopdfaaDoorFaultLaw
import Derived.Test.YtombgehopopdfaaDoorTells0
set_option linter.unusedVariables false
namespace Go.Proofs.YtombgehopopdfaaDoor
open Go.ChangeShapes Go.WideShapes Go.ChangeAt Go.RowKit

theorem part_le {H : Type} : ∀ {ds : List (DataW H)} {d : DataW H}, d ∈ ds → Rows.uptoBulk d ≤ Rows.uptoBulkAll ds
  | x :: r, d, h => by
    simp only [Rows.uptoBulkAll]
    rcases List.mem_cons.1 h with rfl | h
    · omega
    · have := part_le h; omega
theorem bound {H : Type} {ds : List (DataW H)} (hk : Rows.uptoSmall H ds = true) : Rows.uptoBulkAll ds ≤ 1048576 := of_decide_eq_true hk

theorem str_small {H : Type} {ds : List (DataW H)} (hk : Rows.uptoSmall H ds = true) {j : Nat} {s : ByteArray} (h : ds[j]? = some (.lit (.string s.data.toList))) : s.size ≤ 1048576 := by
  have h1 := part_le (List.mem_of_getElem? h)
  have h2 := bound hk
  have h3 := sz s
  simp only [Rows.uptoBulk] at h1
  omega
theorem strs_small {H : Type} {ds : List (DataW H)} (hk : Rows.uptoSmall H ds = true) {j : Nat} {d : DataW H} {l : List ByteArray} {sp : List (DataW H)} (h : ds[j]? = some d) (hd : (d = .nil ∧ l = []) ∨ d = .slice (ChangeShapes.strs l) sp) : Small l := by
  have h1 := part_le (List.mem_of_getElem? h)
  have h2 := bound hk
  intro s hs
  rcases hd with ⟨_, rfl⟩ | rfl
  · cases hs
  · have h4 : (.lit (.string s.data.toList) : DataW H) ∈ ChangeShapes.strs l := List.mem_map.2 ⟨s, hs, rfl⟩
    have h5 := part_le h4
    have h3 := sz s
    simp only [Rows.uptoBulk] at h1 h5
    omega
end Go.Proofs.YtombgehopopdfaaDoor
