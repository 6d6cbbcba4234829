/-
  DERIVED. GIVEN WITH THE SEED: THE CARDS: each row of YtcbbklbjfknnlaaDoorRows.lean that lists a variable, with what it lists TIED to the program's text (the seventh form; the later family's looks); each row that meets fmt, with fmt's text TOLD by the authors' own Lean function (tested against real Go, not proved from fmt's source: count such statements apart). THE CARD IS WHAT COUNTS. Prove the row's statement (the work); the ties are given (YtcbbklbjfknnlaaDoorTie.lean); close each card by the builder's one call (the guide's Derived/Test/ToyasCard.lean, 'card_holds'). Laid BY PROGRAM, IN A SANDBOX (cutbox-door.mjs). By AI agents, Wed Nov 11 2026. No macro, syntax, notation, axiom, sorry.
-/
import Derived.Test.YtcbbklbjfknnlaaDoorRows
import GoSem.ClaimSeven
namespace Go.Proofs.YtcbbklbjfknnlaaDoor
namespace Rows

/-- THE TIED CARD OF 'armoirelaw06.WalSafe'. -/
def walSafeCard : Claim7 := { stood := { row := walSafeRow, standIns := [], harness := (true, "c3c18d5e301811e06fd91a06e9edb9c8a155c9b9fc9e5157b5e4800943957ec0"), looks := true }, kinds := [], alts := [], laidByText := true, laidKinds := [.handle], laidTests := true, laidLooks := .later }
def WalSafeCardSaid : Prop := Claim7.holds Tryd.pinned (.plain (OpenSpec.ofChange walSafeSpec)) walSafeCard

/-- THE TIED CARD OF 'armoirelaw06.WalRound'. -/
def walRoundCard : Claim7 := { stood := { row := walRoundRow, standIns := [], harness := (true, "c3c18d5e301811e06fd91a06e9edb9c8a155c9b9fc9e5157b5e4800943957ec0"), looks := true }, kinds := [], alts := [], laidByText := true, laidKinds := [.handle], laidTests := true, laidLooks := .later }
def WalRoundCardSaid : Prop := Claim7.holds Tryd.pinned (.plain (OpenSpec.ofChange walRoundSpec)) walRoundCard

/-- THE TIED CARD OF 'armoirelaw06.WalNil'. -/
def walNilCard : Claim7 := { stood := { row := walNilRow, standIns := [], harness := (true, "c3c18d5e301811e06fd91a06e9edb9c8a155c9b9fc9e5157b5e4800943957ec0"), looks := true }, kinds := [], alts := [], laidByText := true, laidKinds := [.handle], laidTests := true, laidLooks := .later }
def WalNilCardSaid : Prop := Claim7.holds Tryd.pinned (.plain (OpenSpec.ofChange walNilSpec)) walNilCard

/-- THE TIED CARD OF 'armoirelaw06.WalSame'. -/
def walSameCard : Claim7 := { stood := { row := walSameRow, standIns := [], harness := (true, "c3c18d5e301811e06fd91a06e9edb9c8a155c9b9fc9e5157b5e4800943957ec0"), looks := true }, kinds := [], alts := [], laidByText := true, laidKinds := [.handle], laidTests := true, laidLooks := .later }
def WalSameCardSaid : Prop := Claim7.holds Tryd.pinned (.plain (OpenSpec.ofChange walSameSpec)) walSameCard

/-- THE SECOND FORM's CARD OF 'armoirelaw06.WalSafe'. -/
def walSafeUptoCard : Claim7 := { stood := { row := walSafeUptoRow, standIns := [], harness := (true, "c3c18d5e301811e06fd91a06e9edb9c8a155c9b9fc9e5157b5e4800943957ec0"), looks := true }, kinds := [], alts := [], laidByText := true, laidKinds := [.handle], laidTests := true, laidLooks := .later }
def WalSafeUptoCardSaid : Prop := Claim7.holds Tryd.pinned (.plain (OpenSpec.upto walSafeSpec)) walSafeUptoCard

/-- THE SECOND FORM's CARD OF 'armoirelaw06.WalRound'. -/
def walRoundUptoCard : Claim7 := { stood := { row := walRoundUptoRow, standIns := [], harness := (true, "c3c18d5e301811e06fd91a06e9edb9c8a155c9b9fc9e5157b5e4800943957ec0"), looks := true }, kinds := [], alts := [], laidByText := true, laidKinds := [.handle], laidTests := true, laidLooks := .later }
def WalRoundUptoCardSaid : Prop := Claim7.holds Tryd.pinned (.plain (OpenSpec.upto walRoundSpec)) walRoundUptoCard

/-- THE SECOND FORM's CARD OF 'armoirelaw06.WalNil'. -/
def walNilUptoCard : Claim7 := { stood := { row := walNilUptoRow, standIns := [], harness := (true, "c3c18d5e301811e06fd91a06e9edb9c8a155c9b9fc9e5157b5e4800943957ec0"), looks := true }, kinds := [], alts := [], laidByText := true, laidKinds := [.handle], laidTests := true, laidLooks := .later }
def WalNilUptoCardSaid : Prop := Claim7.holds Tryd.pinned (.plain (OpenSpec.upto walNilSpec)) walNilUptoCard

/-- THE SECOND FORM's CARD OF 'armoirelaw06.WalSame'. -/
def walSameUptoCard : Claim7 := { stood := { row := walSameUptoRow, standIns := [], harness := (true, "c3c18d5e301811e06fd91a06e9edb9c8a155c9b9fc9e5157b5e4800943957ec0"), looks := true }, kinds := [], alts := [], laidByText := true, laidKinds := [.handle], laidTests := true, laidLooks := .later }
def WalSameUptoCardSaid : Prop := Claim7.holds Tryd.pinned (.plain (OpenSpec.upto walSameSpec)) walSameUptoCard
end Rows
end Go.Proofs.YtcbbklbjfknnlaaDoor
