/-
  DERIVED. GIVEN WITH THE SEED: THE CARDS: each row of YtdipihdpfkoddabDoorRows.lean that lists a variable, with what it lists TIED to the program's text (the seventh form; the later family's looks); each row that meets fmt, with fmt's text TOLD by the authors' own Lean function (tested against real Go, not proved from fmt's source: count such statements apart). THE CARD IS WHAT COUNTS. Prove the row's statement (the work); the ties are given (YtdipihdpfkoddabDoorTie.lean); close each card by the builder's one call (the guide's Derived/Test/ToyasCard.lean, 'card_holds'). Laid BY PROGRAM, IN A SANDBOX (cutbox-door.mjs). By AI agents, Wed Nov 11 2026. No macro, syntax, notation, axiom, sorry.
-/
import Derived.Test.YtdipihdpfkoddabDoorRows
import GoSem.ClaimSeven
namespace Go.Proofs.YtdipihdpfkoddabDoor
namespace Rows

/-- THE TIED CARD OF 'laws.FnBitApart'. -/
def fnBitApartCard : Claim7 := { stood := { row := fnBitApartRow, standIns := [], harness := (true, "f890cb16440db735734f572d30aec7bfc8d77973243e03916fcb3f128c79da77"), looks := false }, kinds := [], alts := [], laidByText := true, laidKinds := [.sentinel, .sentinel], laidTests := true, laidLooks := .later }
def FnBitApartCardSaid : Prop := Claim7.holds Tryd.pinned (.plain (OpenSpec.ofChange fnBitApartSpec)) fnBitApartCard

/-- THE SECOND FORM's CARD OF 'laws.FnBitApart'. -/
def fnBitApartUptoCard : Claim7 := { stood := { row := fnBitApartUptoRow, standIns := [], harness := (true, "f890cb16440db735734f572d30aec7bfc8d77973243e03916fcb3f128c79da77"), looks := false }, kinds := [], alts := [], laidByText := true, laidKinds := [.sentinel, .sentinel], laidTests := true, laidLooks := .later }
def FnBitApartUptoCardSaid : Prop := Claim7.holds Tryd.pinned (.plain (OpenSpec.upto fnBitApartSpec)) fnBitApartUptoCard
end Rows
end Go.Proofs.YtdipihdpfkoddabDoor
