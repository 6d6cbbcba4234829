/-
  No cell of these rows narrows 'for every input' (looked for: loops, veiled, ifaces, maps, wideKeys, modest, calm, conditions, laid).
  DERIVED. THE GIVEN ROWS OF THIS SEAT. 10 by the template 'for every input the law returns true; each argument reads behind the call as it read before'; 0 by the template 'total and deterministic' (their statements: YtafcbelkhhjcoaaTotals.lean).
  GIVEN WITH THE SEED: the statements are not yours to turn. If you find one false, say at which input.
  Laid BY PROGRAM, IN A SANDBOX (cutbox-rows.mjs): the forced cells as the released guide's own fill.sh prints them over the translation b496ab9809f56340… (all of the seat's roots in one cut). By AI agents, Wed Nov 11 2026. No macro, syntax, notation, axiom, sorry.
-/
import Derived.Test.YtafcbelkhhjcoaaChecked
import GoSem.Claim
import GoSem.ClaimJoined
import GoSem.ClaimMapViews
import Derived.JoinedTies
import Derived.KernelRfl
namespace Go.Proofs.Ytafcbelkhhjcoaa
/- THE CELL 'sum', in the pinned program and in every row, IS THE sha256 OF THE DUMP (.gsa) THAT YtafcbelkhhjcoaaProg.lean LOADS. Nothing in Lean hashes anything: it is a label: what it is worth is what the hold of that sum in a sandbox is worth. -/
noncomputable def Try.pinned : Pinned := { name := "ytafcbelkhhjcoaa", sum := "b496ab9809f5634043667fb1afc9657c23ed7abee6b6589ec6b60a9476e28afe", checked := Try.checked }
namespace Rows
def none {H : Type} : Left H := { results := [], args := [] }

/-- 'armoirelaw12.SchemaTells': WHATEVER THE INPUT: true; the input reads as it did. -/
def schemaTellsSpec : ChangeSpec := { name := "schemaTells", fn := fun _ => fun
  | [d1, d2, d3] => { results := [.lit (.bool true)], args := [d1, d2, d3] }
  | _ => none }
def schemaTellsRow : OpenClaim := { program := "ytafcbelkhhjcoaa", sum := "b496ab9809f5634043667fb1afc9657c23ed7abee6b6589ec6b60a9476e28afe", func := "armoire/armoirelaw12.SchemaTells", spec := "schemaTells", unfollowed := true, recurses := true, apart := false }
def SchemaTellsSaid : Prop := schemaTellsRow.holds Try.pinned (OpenSpec.ofChange schemaTellsSpec)

/-- ITS FALSE NEIGHBOUR: 'it returns false'. Refute it at one input. -/
def schemaTellsWrong : ChangeSpec := { name := "schemaTells", fn := fun _ => fun
  | [d1, d2, d3] => { results := [.lit (.bool false)], args := [d1, d2, d3] }
  | _ => none }
def SchemaTellsWrongFalsely : Prop := schemaTellsRow.holds Try.pinned (OpenSpec.ofChange schemaTellsWrong)

/-- 'armoirelaw12.SchemaSides': WHATEVER THE INPUT: true; the input reads as it did. -/
def schemaSidesSpec : ChangeSpec := { name := "schemaSides", fn := fun _ => fun
  | [d1, d2] => { results := [.lit (.bool true)], args := [d1, d2] }
  | _ => none }
def schemaSidesRow : OpenClaim := { program := "ytafcbelkhhjcoaa", sum := "b496ab9809f5634043667fb1afc9657c23ed7abee6b6589ec6b60a9476e28afe", func := "armoire/armoirelaw12.SchemaSides", spec := "schemaSides", unfollowed := true, recurses := true, apart := false }
def SchemaSidesSaid : Prop := schemaSidesRow.holds Try.pinned (OpenSpec.ofChange schemaSidesSpec)

/-- ITS FALSE NEIGHBOUR: 'it returns false'. Refute it at one input. -/
def schemaSidesWrong : ChangeSpec := { name := "schemaSides", fn := fun _ => fun
  | [d1, d2] => { results := [.lit (.bool false)], args := [d1, d2] }
  | _ => none }
def SchemaSidesWrongFalsely : Prop := schemaSidesRow.holds Try.pinned (OpenSpec.ofChange schemaSidesWrong)

/-- 'armoirelaw12.SchemaOthers': WHATEVER THE INPUT: true; the input reads as it did. -/
def schemaOthersSpec : ChangeSpec := { name := "schemaOthers", fn := fun _ => fun
  | [d1, d2, d3, d4] => { results := [.lit (.bool true)], args := [d1, d2, d3, d4] }
  | _ => none }
def schemaOthersRow : OpenClaim := { program := "ytafcbelkhhjcoaa", sum := "b496ab9809f5634043667fb1afc9657c23ed7abee6b6589ec6b60a9476e28afe", func := "armoire/armoirelaw12.SchemaOthers", spec := "schemaOthers", unfollowed := true, recurses := true, apart := false }
def SchemaOthersSaid : Prop := schemaOthersRow.holds Try.pinned (OpenSpec.ofChange schemaOthersSpec)

/-- ITS FALSE NEIGHBOUR: 'it returns false'. Refute it at one input. -/
def schemaOthersWrong : ChangeSpec := { name := "schemaOthers", fn := fun _ => fun
  | [d1, d2, d3, d4] => { results := [.lit (.bool false)], args := [d1, d2, d3, d4] }
  | _ => none }
def SchemaOthersWrongFalsely : Prop := schemaOthersRow.holds Try.pinned (OpenSpec.ofChange schemaOthersWrong)

/-- 'armoirelaw14.RouteTells': WHATEVER THE INPUT: true; the input reads as it did. -/
def routeTellsSpec : ChangeSpec := { name := "routeTells", fn := fun _ => fun
  | [d1, d2, d3, d4, d5, d6] => { results := [.lit (.bool true)], args := [d1, d2, d3, d4, d5, d6] }
  | _ => none }
def routeTellsRow : OpenClaim := { program := "ytafcbelkhhjcoaa", sum := "b496ab9809f5634043667fb1afc9657c23ed7abee6b6589ec6b60a9476e28afe", func := "armoire/armoirelaw14.RouteTells", spec := "routeTells", inPlace := ["internal/bytealg.Compare"], unfollowed := true, recurses := true, apart := false }
def RouteTellsSaid : Prop := routeTellsRow.holds Try.pinned (OpenSpec.ofChange routeTellsSpec)

/-- ITS FALSE NEIGHBOUR: 'it returns false'. Refute it at one input. -/
def routeTellsWrong : ChangeSpec := { name := "routeTells", fn := fun _ => fun
  | [d1, d2, d3, d4, d5, d6] => { results := [.lit (.bool false)], args := [d1, d2, d3, d4, d5, d6] }
  | _ => none }
def RouteTellsWrongFalsely : Prop := routeTellsRow.holds Try.pinned (OpenSpec.ofChange routeTellsWrong)

/-- 'armoirelaw14.RouteOne': WHATEVER THE INPUT: true; the input reads as it did. -/
def routeOneSpec : ChangeSpec := { name := "routeOne", fn := fun _ => fun
  | [d1, d2, d3, d4, d5, d6] => { results := [.lit (.bool true)], args := [d1, d2, d3, d4, d5, d6] }
  | _ => none }
def routeOneRow : OpenClaim := { program := "ytafcbelkhhjcoaa", sum := "b496ab9809f5634043667fb1afc9657c23ed7abee6b6589ec6b60a9476e28afe", func := "armoire/armoirelaw14.RouteOne", spec := "routeOne", inPlace := ["internal/bytealg.Compare", "slices.overlaps[armoire/api.Owner]"], unfollowed := true, recurses := true, apart := false }
def RouteOneSaid : Prop := routeOneRow.holds Try.pinned (OpenSpec.ofChange routeOneSpec)

/-- ITS FALSE NEIGHBOUR: 'it returns false'. Refute it at one input. -/
def routeOneWrong : ChangeSpec := { name := "routeOne", fn := fun _ => fun
  | [d1, d2, d3, d4, d5, d6] => { results := [.lit (.bool false)], args := [d1, d2, d3, d4, d5, d6] }
  | _ => none }
def RouteOneWrongFalsely : Prop := routeOneRow.holds Try.pinned (OpenSpec.ofChange routeOneWrong)

/-- 'armoirelaw15.LockPlays': WHATEVER THE INPUT: true; the input reads as it did. -/
def lockPlaysSpec : ChangeSpec := { name := "lockPlays", fn := fun _ => fun
  | [d1, d2, d3, d4] => { results := [.lit (.bool true)], args := [d1, d2, d3, d4] }
  | _ => none }
def lockPlaysRow : OpenClaim := { program := "ytafcbelkhhjcoaa", sum := "b496ab9809f5634043667fb1afc9657c23ed7abee6b6589ec6b60a9476e28afe", func := "armoire/armoirelaw15.LockPlays", spec := "lockPlays", inPlace := ["internal/bytealg.Compare", "slices.overlaps[armoire/api.Held]"], unfollowed := true, recurses := true, apart := false }
def LockPlaysSaid : Prop := lockPlaysRow.holds Try.pinned (OpenSpec.ofChange lockPlaysSpec)

/-- ITS FALSE NEIGHBOUR: 'it returns false'. Refute it at one input. -/
def lockPlaysWrong : ChangeSpec := { name := "lockPlays", fn := fun _ => fun
  | [d1, d2, d3, d4] => { results := [.lit (.bool false)], args := [d1, d2, d3, d4] }
  | _ => none }
def LockPlaysWrongFalsely : Prop := lockPlaysRow.holds Try.pinned (OpenSpec.ofChange lockPlaysWrong)

/-- 'armoirelaw15.LockSides': WHATEVER THE INPUT: true; the input reads as it did. -/
def lockSidesSpec : ChangeSpec := { name := "lockSides", fn := fun _ => fun
  | [d1, d2, d3] => { results := [.lit (.bool true)], args := [d1, d2, d3] }
  | _ => none }
def lockSidesRow : OpenClaim := { program := "ytafcbelkhhjcoaa", sum := "b496ab9809f5634043667fb1afc9657c23ed7abee6b6589ec6b60a9476e28afe", func := "armoire/armoirelaw15.LockSides", spec := "lockSides", inPlace := ["internal/bytealg.Compare", "slices.overlaps[armoire/api.Held]"], unfollowed := true, recurses := true, apart := false }
def LockSidesSaid : Prop := lockSidesRow.holds Try.pinned (OpenSpec.ofChange lockSidesSpec)

/-- ITS FALSE NEIGHBOUR: 'it returns false'. Refute it at one input. -/
def lockSidesWrong : ChangeSpec := { name := "lockSides", fn := fun _ => fun
  | [d1, d2, d3] => { results := [.lit (.bool false)], args := [d1, d2, d3] }
  | _ => none }
def LockSidesWrongFalsely : Prop := lockSidesRow.holds Try.pinned (OpenSpec.ofChange lockSidesWrong)

/-- 'armoirelaw15.LockNil': WHATEVER THE INPUT: true; the input reads as it did. -/
def lockNilSpec : ChangeSpec := { name := "lockNil", fn := fun _ => fun
  | [d1, d2, d3] => { results := [.lit (.bool true)], args := [d1, d2, d3] }
  | _ => none }
def lockNilRow : OpenClaim := { program := "ytafcbelkhhjcoaa", sum := "b496ab9809f5634043667fb1afc9657c23ed7abee6b6589ec6b60a9476e28afe", func := "armoire/armoirelaw15.LockNil", spec := "lockNil", inPlace := ["internal/bytealg.Compare", "slices.overlaps[armoire/api.Held]"], unfollowed := true, recurses := true, apart := false }
def LockNilSaid : Prop := lockNilRow.holds Try.pinned (OpenSpec.ofChange lockNilSpec)

/-- ITS FALSE NEIGHBOUR: 'it returns false'. Refute it at one input. -/
def lockNilWrong : ChangeSpec := { name := "lockNil", fn := fun _ => fun
  | [d1, d2, d3] => { results := [.lit (.bool false)], args := [d1, d2, d3] }
  | _ => none }
def LockNilWrongFalsely : Prop := lockNilRow.holds Try.pinned (OpenSpec.ofChange lockNilWrong)

/-- 'armoirelaw15.LockOrder': WHATEVER THE INPUT: true; the input reads as it did. -/
def lockOrderSpec : ChangeSpec := { name := "lockOrder", fn := fun _ => fun
  | [d1, d2, d3] => { results := [.lit (.bool true)], args := [d1, d2, d3] }
  | _ => none }
def lockOrderRow : OpenClaim := { program := "ytafcbelkhhjcoaa", sum := "b496ab9809f5634043667fb1afc9657c23ed7abee6b6589ec6b60a9476e28afe", func := "armoire/armoirelaw15.LockOrder", spec := "lockOrder", inPlace := ["internal/bytealg.Compare", "slices.overlaps[armoire/api.Held]"], unfollowed := true, recurses := true, apart := false }
def LockOrderSaid : Prop := lockOrderRow.holds Try.pinned (OpenSpec.ofChange lockOrderSpec)

/-- ITS FALSE NEIGHBOUR: 'it returns false'. Refute it at one input. -/
def lockOrderWrong : ChangeSpec := { name := "lockOrder", fn := fun _ => fun
  | [d1, d2, d3] => { results := [.lit (.bool false)], args := [d1, d2, d3] }
  | _ => none }
def LockOrderWrongFalsely : Prop := lockOrderRow.holds Try.pinned (OpenSpec.ofChange lockOrderWrong)

/-- 'armoirelaw15.LockReads': WHATEVER THE INPUT: true; the input reads as it did. -/
def lockReadsSpec : ChangeSpec := { name := "lockReads", fn := fun _ => fun
  | [d1, d2, d3] => { results := [.lit (.bool true)], args := [d1, d2, d3] }
  | _ => none }
def lockReadsRow : OpenClaim := { program := "ytafcbelkhhjcoaa", sum := "b496ab9809f5634043667fb1afc9657c23ed7abee6b6589ec6b60a9476e28afe", func := "armoire/armoirelaw15.LockReads", spec := "lockReads", inPlace := ["internal/bytealg.Compare", "slices.overlaps[armoire/api.Held]"], unfollowed := true, recurses := true, apart := false }
def LockReadsSaid : Prop := lockReadsRow.holds Try.pinned (OpenSpec.ofChange lockReadsSpec)

/-- ITS FALSE NEIGHBOUR: 'it returns false'. Refute it at one input. -/
def lockReadsWrong : ChangeSpec := { name := "lockReads", fn := fun _ => fun
  | [d1, d2, d3] => { results := [.lit (.bool false)], args := [d1, d2, d3] }
  | _ => none }
def LockReadsWrongFalsely : Prop := lockReadsRow.holds Try.pinned (OpenSpec.ofChange lockReadsWrong)

/- THE SECOND FORM. 'bulk': how many values and letters a reading holds, each counted each time it is reached (what is shared counts as often as it is met; a slice's spare places count too). A statement '..UptoSaid' is the law's where the arguments, and the package variables that the reading takes, are together of bulk at most 1048576: NARROWER than '..Said'. Prove '..Said' where nothing that the law and all that it calls make is longer than what came in: it says more and counts as full. Else prove '..UptoSaid'. A law counts once. -/
mutual
def uptoBulk {H : Type} : DataW H → Nat
  | .lit (.string bytes) => bytes.length + 1
  | .lit _ => 1
  | .nil => 1
  | .ptr d => uptoBulk d + 1
  | .slice elems spare => uptoBulkAll elems + uptoBulkAll spare + 1
  | .agg parts => uptoBulkAll parts + 1
  | .iface _ d => uptoBulk d + 1
  | .map entries => uptoBulkEntries entries + 1
  | .held _ => 1
def uptoBulkAll {H : Type} : List (DataW H) → Nat
  | [] => 0
  | d :: r => uptoBulk d + uptoBulkAll r
def uptoBulkEntries {H : Type} : List (Lit × DataW H) → Nat
  | [] => 0
  | x :: r => uptoBulkEntry x + uptoBulkEntries r
def uptoBulkEntry {H : Type} : Lit × DataW H → Nat
  | (.string bytes, d) => bytes.length + uptoBulk d + 1
  | (_, d) => uptoBulk d + 1
 end
def uptoSmall : (H : Type) → List (DataW H) → Bool := fun _ ds => decide (uptoBulkAll ds ≤ 1048576)
def OpenSpec.upto (s : _root_.Go.ChangeSpec) : _root_.Go.OpenSpec := { _root_.Go.OpenSpec.ofChange s with cond := some uptoSmall }

/-- 'armoirelaw12.SchemaTells', WHERE WHAT IT READS IS OF BULK AT MOST 1048576: true; the input reads as it did. -/
def schemaTellsUptoRow : OpenClaim := { program := "ytafcbelkhhjcoaa", sum := "b496ab9809f5634043667fb1afc9657c23ed7abee6b6589ec6b60a9476e28afe", func := "armoire/armoirelaw12.SchemaTells", spec := "schemaTells", unfollowed := true, recurses := true, apart := false, narrowed := true }
def SchemaTellsUptoSaid : Prop := schemaTellsUptoRow.holds Try.pinned (OpenSpec.upto schemaTellsSpec)

/-- 'armoirelaw12.SchemaSides', WHERE WHAT IT READS IS OF BULK AT MOST 1048576: true; the input reads as it did. -/
def schemaSidesUptoRow : OpenClaim := { program := "ytafcbelkhhjcoaa", sum := "b496ab9809f5634043667fb1afc9657c23ed7abee6b6589ec6b60a9476e28afe", func := "armoire/armoirelaw12.SchemaSides", spec := "schemaSides", unfollowed := true, recurses := true, apart := false, narrowed := true }
def SchemaSidesUptoSaid : Prop := schemaSidesUptoRow.holds Try.pinned (OpenSpec.upto schemaSidesSpec)

/-- 'armoirelaw12.SchemaOthers', WHERE WHAT IT READS IS OF BULK AT MOST 1048576: true; the input reads as it did. -/
def schemaOthersUptoRow : OpenClaim := { program := "ytafcbelkhhjcoaa", sum := "b496ab9809f5634043667fb1afc9657c23ed7abee6b6589ec6b60a9476e28afe", func := "armoire/armoirelaw12.SchemaOthers", spec := "schemaOthers", unfollowed := true, recurses := true, apart := false, narrowed := true }
def SchemaOthersUptoSaid : Prop := schemaOthersUptoRow.holds Try.pinned (OpenSpec.upto schemaOthersSpec)

/-- 'armoirelaw14.RouteTells', WHERE WHAT IT READS IS OF BULK AT MOST 1048576: true; the input reads as it did. -/
def routeTellsUptoRow : OpenClaim := { program := "ytafcbelkhhjcoaa", sum := "b496ab9809f5634043667fb1afc9657c23ed7abee6b6589ec6b60a9476e28afe", func := "armoire/armoirelaw14.RouteTells", spec := "routeTells", inPlace := ["internal/bytealg.Compare"], unfollowed := true, recurses := true, apart := false, narrowed := true }
def RouteTellsUptoSaid : Prop := routeTellsUptoRow.holds Try.pinned (OpenSpec.upto routeTellsSpec)

/-- 'armoirelaw14.RouteOne', WHERE WHAT IT READS IS OF BULK AT MOST 1048576: true; the input reads as it did. -/
def routeOneUptoRow : OpenClaim := { program := "ytafcbelkhhjcoaa", sum := "b496ab9809f5634043667fb1afc9657c23ed7abee6b6589ec6b60a9476e28afe", func := "armoire/armoirelaw14.RouteOne", spec := "routeOne", inPlace := ["internal/bytealg.Compare", "slices.overlaps[armoire/api.Owner]"], unfollowed := true, recurses := true, apart := false, narrowed := true }
def RouteOneUptoSaid : Prop := routeOneUptoRow.holds Try.pinned (OpenSpec.upto routeOneSpec)

/-- 'armoirelaw15.LockPlays', WHERE WHAT IT READS IS OF BULK AT MOST 1048576: true; the input reads as it did. -/
def lockPlaysUptoRow : OpenClaim := { program := "ytafcbelkhhjcoaa", sum := "b496ab9809f5634043667fb1afc9657c23ed7abee6b6589ec6b60a9476e28afe", func := "armoire/armoirelaw15.LockPlays", spec := "lockPlays", inPlace := ["internal/bytealg.Compare", "slices.overlaps[armoire/api.Held]"], unfollowed := true, recurses := true, apart := false, narrowed := true }
def LockPlaysUptoSaid : Prop := lockPlaysUptoRow.holds Try.pinned (OpenSpec.upto lockPlaysSpec)

/-- 'armoirelaw15.LockSides', WHERE WHAT IT READS IS OF BULK AT MOST 1048576: true; the input reads as it did. -/
def lockSidesUptoRow : OpenClaim := { program := "ytafcbelkhhjcoaa", sum := "b496ab9809f5634043667fb1afc9657c23ed7abee6b6589ec6b60a9476e28afe", func := "armoire/armoirelaw15.LockSides", spec := "lockSides", inPlace := ["internal/bytealg.Compare", "slices.overlaps[armoire/api.Held]"], unfollowed := true, recurses := true, apart := false, narrowed := true }
def LockSidesUptoSaid : Prop := lockSidesUptoRow.holds Try.pinned (OpenSpec.upto lockSidesSpec)

/-- 'armoirelaw15.LockNil', WHERE WHAT IT READS IS OF BULK AT MOST 1048576: true; the input reads as it did. -/
def lockNilUptoRow : OpenClaim := { program := "ytafcbelkhhjcoaa", sum := "b496ab9809f5634043667fb1afc9657c23ed7abee6b6589ec6b60a9476e28afe", func := "armoire/armoirelaw15.LockNil", spec := "lockNil", inPlace := ["internal/bytealg.Compare", "slices.overlaps[armoire/api.Held]"], unfollowed := true, recurses := true, apart := false, narrowed := true }
def LockNilUptoSaid : Prop := lockNilUptoRow.holds Try.pinned (OpenSpec.upto lockNilSpec)

/-- 'armoirelaw15.LockOrder', WHERE WHAT IT READS IS OF BULK AT MOST 1048576: true; the input reads as it did. -/
def lockOrderUptoRow : OpenClaim := { program := "ytafcbelkhhjcoaa", sum := "b496ab9809f5634043667fb1afc9657c23ed7abee6b6589ec6b60a9476e28afe", func := "armoire/armoirelaw15.LockOrder", spec := "lockOrder", inPlace := ["internal/bytealg.Compare", "slices.overlaps[armoire/api.Held]"], unfollowed := true, recurses := true, apart := false, narrowed := true }
def LockOrderUptoSaid : Prop := lockOrderUptoRow.holds Try.pinned (OpenSpec.upto lockOrderSpec)

/-- 'armoirelaw15.LockReads', WHERE WHAT IT READS IS OF BULK AT MOST 1048576: true; the input reads as it did. -/
def lockReadsUptoRow : OpenClaim := { program := "ytafcbelkhhjcoaa", sum := "b496ab9809f5634043667fb1afc9657c23ed7abee6b6589ec6b60a9476e28afe", func := "armoire/armoirelaw15.LockReads", spec := "lockReads", inPlace := ["internal/bytealg.Compare", "slices.overlaps[armoire/api.Held]"], unfollowed := true, recurses := true, apart := false, narrowed := true }
def LockReadsUptoSaid : Prop := lockReadsUptoRow.holds Try.pinned (OpenSpec.upto lockReadsSpec)

end Rows
end Go.Proofs.Ytafcbelkhhjcoaa
