/-
  LAYER 12, THE DOCUMENT's: AddIndex. (Made by src2/gen_saddx.py.)
-/
import Derived.Test.YtafcbelkhhjcoaaSn
set_option linter.unusedVariables false
set_option linter.unusedSimpArgs false
set_option maxRecDepth 100000
namespace Go.Proofs.Ytafcbelkhhjcoaa
open Go.RowKit Go.Deep

def addIdx (C : Cat) (id : Int) (x : Idx) : Cat := { C with ver := C.ver + 1, nxt := C.nxt + 1, idxs := C.idxs ++ [⟨C.nxt, id, x.name, x.cols, x.uniq, 1, false⟩] }
def addIndexM (C : Cat) (x : Idx) (s : List UInt8) : Cat × Int :=
  match C.tabs.find? (fun q => decide (q.name = s)) with
  | none => (C, 5)
  | some t => if (nameB x.name && placesB x.cols t.cols.length) = false then (C, 9) else if (C.idxs.find? fun q => decide (q.name = x.name)).isSome = true then (C, 6)
    else if 10 ≤ C.idxs.length ∨ 1073741824 ≤ C.nxt then (C, 4) else (addIdx C t.id x, 0)

end Go.Proofs.Ytafcbelkhhjcoaa

