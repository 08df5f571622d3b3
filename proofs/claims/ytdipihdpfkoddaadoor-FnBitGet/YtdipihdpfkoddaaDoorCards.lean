/-
  DERIVED. GIVEN WITH THE SEED: THE CARDS: each row of YtdipihdpfkoddaaDoorRows.lean that lists a variable, with what it lists TIED to the program's text (the seventh form; the later family's looks); each row that meets fmt, with fmt's text TOLD by the authors' own Lean function (tested against real Go, not proved from fmt's source: count such statements apart). THE CARD IS WHAT COUNTS. Prove the row's statement (the work); the ties are given (YtdipihdpfkoddaaDoorTie.lean); close each card by the builder's one call (the guide's Derived/Test/ToyasCard.lean, 'card_holds'). Laid BY PROGRAM, IN A SANDBOX (cutbox-door.mjs). By AI agents, Wed Nov 11 2026. No macro, syntax, notation, axiom, sorry.
-/
import Derived.Test.YtdipihdpfkoddaaDoorRows
import GoSem.ClaimSeven
namespace Go.Proofs.YtdipihdpfkoddaaDoor
namespace Rows

/-- THE TIED CARD OF 'laws.FnBitPut'. -/
def fnBitPutCard : Claim7 := { stood := { row := fnBitPutRow, standIns := [], harness := (true, "8c014bc1367706437b1805511262eaf6348dceac475a1b816f28a8e47fd277d5"), looks := false }, kinds := [], alts := [], laidByText := true, laidKinds := [.sentinel, .sentinel, .sentinel, .sentinel], laidTests := true, laidLooks := .later }
def FnBitPutCardSaid : Prop := Claim7.holds Tryd.pinned (.plain (OpenSpec.ofChange fnBitPutSpec)) fnBitPutCard

/-- THE TIED CARD OF 'laws.FnBitGet'. -/
def fnBitGetCard : Claim7 := { stood := { row := fnBitGetRow, standIns := [], harness := (true, "8c014bc1367706437b1805511262eaf6348dceac475a1b816f28a8e47fd277d5"), looks := false }, kinds := [], alts := [], laidByText := true, laidKinds := [.sentinel, .sentinel, .sentinel], laidTests := true, laidLooks := .later }
def FnBitGetCardSaid : Prop := Claim7.holds Tryd.pinned (.plain (OpenSpec.ofChange fnBitGetSpec)) fnBitGetCard

/-- THE TIED CARD OF 'laws.FnBitJoin'. -/
def fnBitJoinCard : Claim7 := { stood := { row := fnBitJoinRow, standIns := [], harness := (true, "8c014bc1367706437b1805511262eaf6348dceac475a1b816f28a8e47fd277d5"), looks := false }, kinds := [], alts := [], laidByText := true, laidKinds := [.sentinel, .sentinel], laidTests := true, laidLooks := .later }
def FnBitJoinCardSaid : Prop := Claim7.holds Tryd.pinned (.plain (OpenSpec.ofChange fnBitJoinSpec)) fnBitJoinCard

/-- THE SECOND FORM's CARD OF 'laws.FnBitPut'. -/
def fnBitPutUptoCard : Claim7 := { stood := { row := fnBitPutUptoRow, standIns := [], harness := (true, "8c014bc1367706437b1805511262eaf6348dceac475a1b816f28a8e47fd277d5"), looks := false }, kinds := [], alts := [], laidByText := true, laidKinds := [.sentinel, .sentinel, .sentinel, .sentinel], laidTests := true, laidLooks := .later }
def FnBitPutUptoCardSaid : Prop := Claim7.holds Tryd.pinned (.plain (OpenSpec.upto fnBitPutSpec)) fnBitPutUptoCard

/-- THE SECOND FORM's CARD OF 'laws.FnBitGet'. -/
def fnBitGetUptoCard : Claim7 := { stood := { row := fnBitGetUptoRow, standIns := [], harness := (true, "8c014bc1367706437b1805511262eaf6348dceac475a1b816f28a8e47fd277d5"), looks := false }, kinds := [], alts := [], laidByText := true, laidKinds := [.sentinel, .sentinel, .sentinel], laidTests := true, laidLooks := .later }
def FnBitGetUptoCardSaid : Prop := Claim7.holds Tryd.pinned (.plain (OpenSpec.upto fnBitGetSpec)) fnBitGetUptoCard

/-- THE SECOND FORM's CARD OF 'laws.FnBitJoin'. -/
def fnBitJoinUptoCard : Claim7 := { stood := { row := fnBitJoinUptoRow, standIns := [], harness := (true, "8c014bc1367706437b1805511262eaf6348dceac475a1b816f28a8e47fd277d5"), looks := false }, kinds := [], alts := [], laidByText := true, laidKinds := [.sentinel, .sentinel], laidTests := true, laidLooks := .later }
def FnBitJoinUptoCardSaid : Prop := Claim7.holds Tryd.pinned (.plain (OpenSpec.upto fnBitJoinSpec)) fnBitJoinUptoCard
end Rows
end Go.Proofs.YtdipihdpfkoddaaDoor
