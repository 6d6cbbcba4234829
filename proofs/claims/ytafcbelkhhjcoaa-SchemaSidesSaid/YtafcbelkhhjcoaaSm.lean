/-
  LAYER 12, THE DOCUMENT's: Step.
-/
import Derived.Test.YtafcbelkhhjcoaaSl
set_option linter.unusedVariables false
set_option linter.unusedSimpArgs false
set_option maxRecDepth 100000
namespace Go.Proofs.Ytafcbelkhhjcoaa
open Go.RowKit Go.Deep

def stepBad (x : Idx) (fr st : Int) (bad : Bool) : Bool := (x.state != fr) || (!(bad && (fr == 3) && (st == 6)) && ((st != nextI x.state) || (st == fr)))
def stepM (C : Cat) (id fr st : Int) (bad : Bool) : Cat × Int :=
  match C.idxs.find? (fun t => decide (t.id = id)) with
  | none => (C, 5)
  | some x => if stepBad x fr st bad = true then (C, 7) else (setM C id st (bad || x.bad), 0)

end Go.Proofs.Ytafcbelkhhjcoaa
