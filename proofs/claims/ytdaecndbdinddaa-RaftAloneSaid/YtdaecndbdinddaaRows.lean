/-
  No cell of these rows narrows 'for every input' (looked for: loops, veiled, ifaces, maps, wideKeys, modest, calm, conditions, laid).
  DERIVED. THE GIVEN ROWS OF THIS SEAT. 7 by the template 'for every input the law returns true; each argument reads behind the call as it read before'; 0 by the template 'total and deterministic' (their statements: YtdaecndbdinddaaTotals.lean).
  GIVEN WITH THE SEED: the statements are not yours to turn. If you find one false, say at which input.
  Laid BY PROGRAM, IN A SANDBOX (cutbox-rows.mjs): the forced cells as the released guide's own fill.sh prints them over the translation 9f1b4f3ed4584e5a… (all of the seat's roots in one cut). By AI agents, Wed Nov 11 2026. No macro, syntax, notation, axiom, sorry.
-/
import Derived.Test.YtdaecndbdinddaaChecked
import GoSem.Claim
import GoSem.ClaimJoined
import GoSem.ClaimMapViews
import Derived.JoinedTies
import Derived.KernelRfl
namespace Go.Proofs.Ytdaecndbdinddaa
/- THE CELL 'sum', in the pinned program and in every row, IS THE sha256 OF THE DUMP (.gsa) THAT YtdaecndbdinddaaProg.lean LOADS. Nothing in Lean hashes anything: it is a label: what it is worth is what the hold of that sum in a sandbox is worth. -/
noncomputable def Try.pinned : Pinned := { name := "ytdaecndbdinddaa", sum := "9f1b4f3ed4584e5a502ca22eab099f3ea30882a7e68e596dec4ac4b73e73f870", checked := Try.checked }
namespace Rows
def none {H : Type} : Left H := { results := [], args := [] }

/-- 'armoirelaw08.RaftSafe': WHATEVER THE INPUT: true; the input reads as it did. -/
def raftSafeSpec : ChangeSpec := { name := "raftSafe", fn := fun _ => fun
  | [d1, d2] => { results := [.lit (.bool true)], args := [d1, d2] }
  | _ => none }
def raftSafeRow : OpenClaim := { program := "ytdaecndbdinddaa", sum := "9f1b4f3ed4584e5a502ca22eab099f3ea30882a7e68e596dec4ac4b73e73f870", func := "armoire/armoirelaw08.RaftSafe", spec := "raftSafe", unfollowed := true, recurses := true, plainKeys := false, apart := false }
def RaftSafeSaid : Prop := raftSafeRow.holds Try.pinned (OpenSpec.ofChange raftSafeSpec)

/-- ITS FALSE NEIGHBOUR: 'it returns false'. Refute it at one input. -/
def raftSafeWrong : ChangeSpec := { name := "raftSafe", fn := fun _ => fun
  | [d1, d2] => { results := [.lit (.bool false)], args := [d1, d2] }
  | _ => none }
def RaftSafeWrongFalsely : Prop := raftSafeRow.holds Try.pinned (OpenSpec.ofChange raftSafeWrong)

/-- 'armoirelaw08.RaftCalm': WHATEVER THE INPUT: true; the input reads as it did. -/
def raftCalmSpec : ChangeSpec := { name := "raftCalm", fn := fun _ => fun
  | [d1, d2, d3] => { results := [.lit (.bool true)], args := [d1, d2, d3] }
  | _ => none }
def raftCalmRow : OpenClaim := { program := "ytdaecndbdinddaa", sum := "9f1b4f3ed4584e5a502ca22eab099f3ea30882a7e68e596dec4ac4b73e73f870", func := "armoire/armoirelaw08.RaftCalm", spec := "raftCalm", unfollowed := true, recurses := true, plainKeys := false, apart := false }
def RaftCalmSaid : Prop := raftCalmRow.holds Try.pinned (OpenSpec.ofChange raftCalmSpec)

/-- ITS FALSE NEIGHBOUR: 'it returns false'. Refute it at one input. -/
def raftCalmWrong : ChangeSpec := { name := "raftCalm", fn := fun _ => fun
  | [d1, d2, d3] => { results := [.lit (.bool false)], args := [d1, d2, d3] }
  | _ => none }
def RaftCalmWrongFalsely : Prop := raftCalmRow.holds Try.pinned (OpenSpec.ofChange raftCalmWrong)

/-- 'armoirelaw08.RaftAlone': WHATEVER THE INPUT: true; the input reads as it did. -/
def raftAloneSpec : ChangeSpec := { name := "raftAlone", fn := fun _ => fun
  | [d1, d2] => { results := [.lit (.bool true)], args := [d1, d2] }
  | _ => none }
def raftAloneRow : OpenClaim := { program := "ytdaecndbdinddaa", sum := "9f1b4f3ed4584e5a502ca22eab099f3ea30882a7e68e596dec4ac4b73e73f870", func := "armoire/armoirelaw08.RaftAlone", spec := "raftAlone", unfollowed := true, recurses := true, plainKeys := false, apart := false }
def RaftAloneSaid : Prop := raftAloneRow.holds Try.pinned (OpenSpec.ofChange raftAloneSpec)

/-- ITS FALSE NEIGHBOUR: 'it returns false'. Refute it at one input. -/
def raftAloneWrong : ChangeSpec := { name := "raftAlone", fn := fun _ => fun
  | [d1, d2] => { results := [.lit (.bool false)], args := [d1, d2] }
  | _ => none }
def RaftAloneWrongFalsely : Prop := raftAloneRow.holds Try.pinned (OpenSpec.ofChange raftAloneWrong)

/-- 'armoirelaw08.RaftMade': WHATEVER THE INPUT: true; the input reads as it did. -/
def raftMadeSpec : ChangeSpec := { name := "raftMade", fn := fun _ => fun
  | [d1, d2, d3] => { results := [.lit (.bool true)], args := [d1, d2, d3] }
  | _ => none }
def raftMadeRow : OpenClaim := { program := "ytdaecndbdinddaa", sum := "9f1b4f3ed4584e5a502ca22eab099f3ea30882a7e68e596dec4ac4b73e73f870", func := "armoire/armoirelaw08.RaftMade", spec := "raftMade", unfollowed := true, recurses := true, plainKeys := false, apart := false }
def RaftMadeSaid : Prop := raftMadeRow.holds Try.pinned (OpenSpec.ofChange raftMadeSpec)

/-- ITS FALSE NEIGHBOUR: 'it returns false'. Refute it at one input. -/
def raftMadeWrong : ChangeSpec := { name := "raftMade", fn := fun _ => fun
  | [d1, d2, d3] => { results := [.lit (.bool false)], args := [d1, d2, d3] }
  | _ => none }
def RaftMadeWrongFalsely : Prop := raftMadeRow.holds Try.pinned (OpenSpec.ofChange raftMadeWrong)

/-- 'armoirelaw08.RaftNil': WHATEVER THE INPUT: true; the input reads as it did. -/
def raftNilSpec : ChangeSpec := { name := "raftNil", fn := fun _ => fun
  | [d1, d2, d3] => { results := [.lit (.bool true)], args := [d1, d2, d3] }
  | _ => none }
def raftNilRow : OpenClaim := { program := "ytdaecndbdinddaa", sum := "9f1b4f3ed4584e5a502ca22eab099f3ea30882a7e68e596dec4ac4b73e73f870", func := "armoire/armoirelaw08.RaftNil", spec := "raftNil", unfollowed := true, recurses := true, plainKeys := false, apart := false }
def RaftNilSaid : Prop := raftNilRow.holds Try.pinned (OpenSpec.ofChange raftNilSpec)

/-- ITS FALSE NEIGHBOUR: 'it returns false'. Refute it at one input. -/
def raftNilWrong : ChangeSpec := { name := "raftNil", fn := fun _ => fun
  | [d1, d2, d3] => { results := [.lit (.bool false)], args := [d1, d2, d3] }
  | _ => none }
def RaftNilWrongFalsely : Prop := raftNilRow.holds Try.pinned (OpenSpec.ofChange raftNilWrong)

/-- 'armoirelaw08.RaftMinority': WHATEVER THE INPUT: true; the input reads as it did. -/
def raftMinoritySpec : ChangeSpec := { name := "raftMinority", fn := fun _ => fun
  | [d1, d2, d3] => { results := [.lit (.bool true)], args := [d1, d2, d3] }
  | _ => none }
def raftMinorityRow : OpenClaim := { program := "ytdaecndbdinddaa", sum := "9f1b4f3ed4584e5a502ca22eab099f3ea30882a7e68e596dec4ac4b73e73f870", func := "armoire/armoirelaw08.RaftMinority", spec := "raftMinority", unfollowed := true, recurses := true, plainKeys := false, apart := false }
def RaftMinoritySaid : Prop := raftMinorityRow.holds Try.pinned (OpenSpec.ofChange raftMinoritySpec)

/-- ITS FALSE NEIGHBOUR: 'it returns false'. Refute it at one input. -/
def raftMinorityWrong : ChangeSpec := { name := "raftMinority", fn := fun _ => fun
  | [d1, d2, d3] => { results := [.lit (.bool false)], args := [d1, d2, d3] }
  | _ => none }
def RaftMinorityWrongFalsely : Prop := raftMinorityRow.holds Try.pinned (OpenSpec.ofChange raftMinorityWrong)

/-- 'armoirelaw08.RaftOrder': WHATEVER THE INPUT: true; the input reads as it did. -/
def raftOrderSpec : ChangeSpec := { name := "raftOrder", fn := fun _ => fun
  | [d1, d2, d3] => { results := [.lit (.bool true)], args := [d1, d2, d3] }
  | _ => none }
def raftOrderRow : OpenClaim := { program := "ytdaecndbdinddaa", sum := "9f1b4f3ed4584e5a502ca22eab099f3ea30882a7e68e596dec4ac4b73e73f870", func := "armoire/armoirelaw08.RaftOrder", spec := "raftOrder", unfollowed := true, recurses := true, plainKeys := false, apart := false }
def RaftOrderSaid : Prop := raftOrderRow.holds Try.pinned (OpenSpec.ofChange raftOrderSpec)

/-- ITS FALSE NEIGHBOUR: 'it returns false'. Refute it at one input. -/
def raftOrderWrong : ChangeSpec := { name := "raftOrder", fn := fun _ => fun
  | [d1, d2, d3] => { results := [.lit (.bool false)], args := [d1, d2, d3] }
  | _ => none }
def RaftOrderWrongFalsely : Prop := raftOrderRow.holds Try.pinned (OpenSpec.ofChange raftOrderWrong)

/- THE SECOND FORM. 'bulk': how many values and letters a reading holds, each counted each time it is reached (what is shared counts as often as it is met; a slice's spare places count too). A statement '..UptoSaid' is the law's where the arguments, and the package variables that the reading takes, are together of bulk at most 1048576: NARROWER than '..Said'. Prove '..Said' where nothing that the law and all that it calls make is longer than what came in: it says more and counts as full. Else prove '..UptoSaid'. A law counts once. -/
mutual
def uptoBulk {H : Type} : DataW H → Nat
  | .lit (.string bytes) => bytes.length + 1
  | .lit _ => 1
  | .nil => 1
  | .ptr d => uptoBulk d + 1
  | .slice elems spare => uptoBulkAll elems + uptoBulkAll spare + 1
  | .agg parts => uptoBulkAll parts + 1
  | .iface _ d => uptoBulk d + 1
  | .map entries => uptoBulkEntries entries + 1
  | .held _ => 1
def uptoBulkAll {H : Type} : List (DataW H) → Nat
  | [] => 0
  | d :: r => uptoBulk d + uptoBulkAll r
def uptoBulkEntries {H : Type} : List (Lit × DataW H) → Nat
  | [] => 0
  | x :: r => uptoBulkEntry x + uptoBulkEntries r
def uptoBulkEntry {H : Type} : Lit × DataW H → Nat
  | (.string bytes, d) => bytes.length + uptoBulk d + 1
  | (_, d) => uptoBulk d + 1
 end
def uptoSmall : (H : Type) → List (DataW H) → Bool := fun _ ds => decide (uptoBulkAll ds ≤ 1048576)
def OpenSpec.upto (s : _root_.Go.ChangeSpec) : _root_.Go.OpenSpec := { _root_.Go.OpenSpec.ofChange s with cond := some uptoSmall }

/-- 'armoirelaw08.RaftSafe', WHERE WHAT IT READS IS OF BULK AT MOST 1048576: true; the input reads as it did. -/
def raftSafeUptoRow : OpenClaim := { program := "ytdaecndbdinddaa", sum := "9f1b4f3ed4584e5a502ca22eab099f3ea30882a7e68e596dec4ac4b73e73f870", func := "armoire/armoirelaw08.RaftSafe", spec := "raftSafe", unfollowed := true, recurses := true, plainKeys := false, apart := false, narrowed := true }
def RaftSafeUptoSaid : Prop := raftSafeUptoRow.holds Try.pinned (OpenSpec.upto raftSafeSpec)

/-- 'armoirelaw08.RaftCalm', WHERE WHAT IT READS IS OF BULK AT MOST 1048576: true; the input reads as it did. -/
def raftCalmUptoRow : OpenClaim := { program := "ytdaecndbdinddaa", sum := "9f1b4f3ed4584e5a502ca22eab099f3ea30882a7e68e596dec4ac4b73e73f870", func := "armoire/armoirelaw08.RaftCalm", spec := "raftCalm", unfollowed := true, recurses := true, plainKeys := false, apart := false, narrowed := true }
def RaftCalmUptoSaid : Prop := raftCalmUptoRow.holds Try.pinned (OpenSpec.upto raftCalmSpec)

/-- 'armoirelaw08.RaftAlone', WHERE WHAT IT READS IS OF BULK AT MOST 1048576: true; the input reads as it did. -/
def raftAloneUptoRow : OpenClaim := { program := "ytdaecndbdinddaa", sum := "9f1b4f3ed4584e5a502ca22eab099f3ea30882a7e68e596dec4ac4b73e73f870", func := "armoire/armoirelaw08.RaftAlone", spec := "raftAlone", unfollowed := true, recurses := true, plainKeys := false, apart := false, narrowed := true }
def RaftAloneUptoSaid : Prop := raftAloneUptoRow.holds Try.pinned (OpenSpec.upto raftAloneSpec)

/-- 'armoirelaw08.RaftMade', WHERE WHAT IT READS IS OF BULK AT MOST 1048576: true; the input reads as it did. -/
def raftMadeUptoRow : OpenClaim := { program := "ytdaecndbdinddaa", sum := "9f1b4f3ed4584e5a502ca22eab099f3ea30882a7e68e596dec4ac4b73e73f870", func := "armoire/armoirelaw08.RaftMade", spec := "raftMade", unfollowed := true, recurses := true, plainKeys := false, apart := false, narrowed := true }
def RaftMadeUptoSaid : Prop := raftMadeUptoRow.holds Try.pinned (OpenSpec.upto raftMadeSpec)

/-- 'armoirelaw08.RaftNil', WHERE WHAT IT READS IS OF BULK AT MOST 1048576: true; the input reads as it did. -/
def raftNilUptoRow : OpenClaim := { program := "ytdaecndbdinddaa", sum := "9f1b4f3ed4584e5a502ca22eab099f3ea30882a7e68e596dec4ac4b73e73f870", func := "armoire/armoirelaw08.RaftNil", spec := "raftNil", unfollowed := true, recurses := true, plainKeys := false, apart := false, narrowed := true }
def RaftNilUptoSaid : Prop := raftNilUptoRow.holds Try.pinned (OpenSpec.upto raftNilSpec)

/-- 'armoirelaw08.RaftMinority', WHERE WHAT IT READS IS OF BULK AT MOST 1048576: true; the input reads as it did. -/
def raftMinorityUptoRow : OpenClaim := { program := "ytdaecndbdinddaa", sum := "9f1b4f3ed4584e5a502ca22eab099f3ea30882a7e68e596dec4ac4b73e73f870", func := "armoire/armoirelaw08.RaftMinority", spec := "raftMinority", unfollowed := true, recurses := true, plainKeys := false, apart := false, narrowed := true }
def RaftMinorityUptoSaid : Prop := raftMinorityUptoRow.holds Try.pinned (OpenSpec.upto raftMinoritySpec)

/-- 'armoirelaw08.RaftOrder', WHERE WHAT IT READS IS OF BULK AT MOST 1048576: true; the input reads as it did. -/
def raftOrderUptoRow : OpenClaim := { program := "ytdaecndbdinddaa", sum := "9f1b4f3ed4584e5a502ca22eab099f3ea30882a7e68e596dec4ac4b73e73f870", func := "armoire/armoirelaw08.RaftOrder", spec := "raftOrder", unfollowed := true, recurses := true, plainKeys := false, apart := false, narrowed := true }
def RaftOrderUptoSaid : Prop := raftOrderUptoRow.holds Try.pinned (OpenSpec.upto raftOrderSpec)

end Rows
end Go.Proofs.Ytdaecndbdinddaa
