/-
  LAYER 12, THE DOCUMENT's: AddTable.
-/
import Derived.Test.YtafcbelkhhjcoaaSm
set_option linter.unusedVariables false
set_option linter.unusedSimpArgs false
set_option maxRecDepth 100000
namespace Go.Proofs.Ytafcbelkhhjcoaa
open Go.RowKit Go.Deep

def addTab (C : Cat) (t : Tab) : Cat := { C with ver := C.ver + 1, nxt := C.nxt + 1, tabs := C.tabs ++ [{ t with id := C.nxt }] }
def addTableM (C : Cat) (t : Tab) : Cat × Int :=
  if tabB t = false then (C, 9) else if (C.tabs.find? fun q => decide (q.name = t.name)).isSome = true then (C, 6) else if 6 ≤ C.tabs.length ∨ 1073741824 ≤ C.nxt then (C, 4) else (addTab C t, 0)

end Go.Proofs.Ytafcbelkhhjcoaa
