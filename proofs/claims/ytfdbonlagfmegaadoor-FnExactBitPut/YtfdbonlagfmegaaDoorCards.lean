/-
  DERIVED. GIVEN WITH THE SEED: THE CARDS: each row of YtfdbonlagfmegaaDoorRows.lean that lists a variable, with what it lists TIED to the program's text (the seventh form; the later family's looks); each row that meets fmt, with fmt's text TOLD by the authors' own Lean function (tested against real Go, not proved from fmt's source: count such statements apart). THE CARD IS WHAT COUNTS. Prove the row's statement (the work); the ties are given (YtfdbonlagfmegaaDoorTie.lean); close each card by the builder's one call (the guide's Derived/Test/ToyasCard.lean, 'card_holds'). Laid BY PROGRAM, IN A SANDBOX (cutbox-door.mjs). By AI agents, Wed Nov 11 2026. No macro, syntax, notation, axiom, sorry.
-/
import Derived.Test.YtfdbonlagfmegaaDoorRows
import GoSem.ClaimSeven
namespace Go.Proofs.YtfdbonlagfmegaaDoor
namespace Rows

/-- THE TIED CARD OF 'laws.FnExactBitPut'. -/
def fnExactBitPutCard : Claim7 := { stood := { row := fnExactBitPutRow, standIns := [], harness := (true, "f87711ed0a5e2299d69f491d24e46c5c1321db7929cb526f8d7f3aa2a013cc27"), looks := false }, kinds := [], alts := [], laidByText := true, laidKinds := [.sentinel, .sentinel], laidTests := true, laidLooks := .later }
def FnExactBitPutCardSaid : Prop := Claim7.holds Tryd.pinned (.plain (OpenSpec.ofChange fnExactBitPutSpec)) fnExactBitPutCard

/-- THE TIED CARD OF 'laws.FnExactBitGet'. -/
def fnExactBitGetCard : Claim7 := { stood := { row := fnExactBitGetRow, standIns := [], harness := (true, "f87711ed0a5e2299d69f491d24e46c5c1321db7929cb526f8d7f3aa2a013cc27"), looks := false }, kinds := [], alts := [], laidByText := true, laidKinds := [.sentinel, .sentinel, .sentinel], laidTests := true, laidLooks := .later }
def FnExactBitGetCardSaid : Prop := Claim7.holds Tryd.pinned (.plain (OpenSpec.ofChange fnExactBitGetSpec)) fnExactBitGetCard

/-- THE SECOND FORM's CARD OF 'laws.FnExactBitPut'. -/
def fnExactBitPutUptoCard : Claim7 := { stood := { row := fnExactBitPutUptoRow, standIns := [], harness := (true, "f87711ed0a5e2299d69f491d24e46c5c1321db7929cb526f8d7f3aa2a013cc27"), looks := false }, kinds := [], alts := [], laidByText := true, laidKinds := [.sentinel, .sentinel], laidTests := true, laidLooks := .later }
def FnExactBitPutUptoCardSaid : Prop := Claim7.holds Tryd.pinned (.plain (OpenSpec.upto fnExactBitPutSpec)) fnExactBitPutUptoCard

/-- THE SECOND FORM's CARD OF 'laws.FnExactBitGet'. -/
def fnExactBitGetUptoCard : Claim7 := { stood := { row := fnExactBitGetUptoRow, standIns := [], harness := (true, "f87711ed0a5e2299d69f491d24e46c5c1321db7929cb526f8d7f3aa2a013cc27"), looks := false }, kinds := [], alts := [], laidByText := true, laidKinds := [.sentinel, .sentinel, .sentinel], laidTests := true, laidLooks := .later }
def FnExactBitGetUptoCardSaid : Prop := Claim7.holds Tryd.pinned (.plain (OpenSpec.upto fnExactBitGetSpec)) fnExactBitGetUptoCard
end Rows
end Go.Proofs.YtfdbonlagfmegaaDoor
