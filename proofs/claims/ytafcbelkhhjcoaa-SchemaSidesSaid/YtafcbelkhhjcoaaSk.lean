/-
  LAYER 12, THE DOCUMENT's: set.
-/
import Derived.Test.YtafcbelkhhjcoaaSj
set_option linter.unusedVariables false
set_option linter.unusedSimpArgs false
set_option maxRecDepth 100000
namespace Go.Proofs.Ytafcbelkhhjcoaa
open Go.RowKit Go.Deep

def setI (id st : Int) (bad : Bool) (x : Idx) : Idx := if x.id = id then { x with state := st, bad := bad } else x
def setL (id st : Int) (bad : Bool) (l : List Idx) : List Idx := (l.map (setI id st bad)).filter fun x => decide (¬ x.state = 0)
def setM (C : Cat) (id st : Int) (bad : Bool) : Cat := { C with ver := C.ver + 1, idxs := setL id st bad C.idxs }

theorem setL_take {id st : Int} {bad : Bool} {l : List Idx} {k : Nat} {u : Idx} (h : l[k]? = some u) : setL id st bad (l.take (k + 1)) = setL id st bad (l.take k) ++ (if (setI id st bad u).state = 0 then [] else [setI id st bad u]) := by
  unfold setL
  rw [take_at h, List.map_append, List.filter_append]
  by_cases hp : (setI id st bad u).state = 0 <;> simp [hp]
theorem setL_len (id st : Int) (bad : Bool) (l : List Idx) : (setL id st bad l).length ≤ l.length := by
  unfold setL
  have := List.length_filter_le (fun x : Idx => decide (¬ x.state = 0)) (l.map (setI id st bad))
  rwa [List.length_map] at this

end Go.Proofs.Ytafcbelkhhjcoaa
