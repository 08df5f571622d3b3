/-
  DERIVED. GIVEN WITH THE SEED: THE CARDS: each row of YtiemlakjallphaaDoorRows.lean that lists a variable, with what it lists TIED to the program's text (the seventh form; the later family's looks); each row that meets fmt, with fmt's text TOLD by the authors' own Lean function (tested against real Go, not proved from fmt's source: count such statements apart). THE CARD IS WHAT COUNTS. Prove the row's statement (the work); the ties are given (YtiemlakjallphaaDoorTie.lean); close each card by the builder's one call (the guide's Derived/Test/ToyasCard.lean, 'card_holds'). Laid BY PROGRAM, IN A SANDBOX (cutbox-door.mjs). By AI agents, Wed Nov 11 2026. No macro, syntax, notation, axiom, sorry.
-/
import Derived.Test.YtiemlakjallphaaDoorRows
import GoSem.ClaimSeven
namespace Go.Proofs.YtiemlakjallphaaDoor
namespace Rows

/-- THE TIED CARD OF 'laws.FnOpDo'. -/
def fnOpDoCard : Claim7 := { stood := { row := fnOpDoRow, standIns := [], harness := (true, "8f80675ec1f7a49118b45c9821ff911b927ed4b09182aa3d33f612f5be173dc3"), looks := false }, kinds := [], alts := [], laidByText := true, laidKinds := [.data], laidTests := true, laidLooks := .later }
def FnOpDoCardSaid : Prop := Claim7.holds Tryd.pinned (.plain (OpenSpec.ofChange fnOpDoSpec)) fnOpDoCard

/-- THE TIED CARD OF 'laws.FnOpTurn'. -/
def fnOpTurnCard : Claim7 := { stood := { row := fnOpTurnRow, standIns := [], harness := (true, "8f80675ec1f7a49118b45c9821ff911b927ed4b09182aa3d33f612f5be173dc3"), looks := false }, kinds := [], alts := [], laidByText := true, laidKinds := [.data], laidTests := true, laidLooks := .later }
def FnOpTurnCardSaid : Prop := Claim7.holds Tryd.pinned (.plain (OpenSpec.ofChange fnOpTurnSpec)) fnOpTurnCard

/-- THE TIED CARD OF 'laws.FnOpBlur'. -/
def fnOpBlurCard : Claim7 := { stood := { row := fnOpBlurRow, standIns := [], harness := (true, "8f80675ec1f7a49118b45c9821ff911b927ed4b09182aa3d33f612f5be173dc3"), looks := false }, kinds := [], alts := [], laidByText := true, laidKinds := [.data], laidTests := true, laidLooks := .later }
def FnOpBlurCardSaid : Prop := Claim7.holds Tryd.pinned (.plain (OpenSpec.ofChange fnOpBlurSpec)) fnOpBlurCard

/-- THE TIED CARD OF 'laws.FnOpSize'. -/
def fnOpSizeCard : Claim7 := { stood := { row := fnOpSizeRow, standIns := [], harness := (true, "8f80675ec1f7a49118b45c9821ff911b927ed4b09182aa3d33f612f5be173dc3"), looks := false }, kinds := [], alts := [], laidByText := true, laidKinds := [.data], laidTests := true, laidLooks := .later }
def FnOpSizeCardSaid : Prop := Claim7.holds Tryd.pinned (.plain (OpenSpec.ofChange fnOpSizeSpec)) fnOpSizeCard

/-- THE TIED CARD OF 'laws.FnOpMoves'. -/
def fnOpMovesCard : Claim7 := { stood := { row := fnOpMovesRow, standIns := [], harness := (true, "8f80675ec1f7a49118b45c9821ff911b927ed4b09182aa3d33f612f5be173dc3"), looks := false }, kinds := [], alts := [], laidByText := true, laidKinds := [.data], laidTests := true, laidLooks := .later }
def FnOpMovesCardSaid : Prop := Claim7.holds Tryd.pinned (.plain (OpenSpec.ofChange fnOpMovesSpec)) fnOpMovesCard

/-- THE TIED CARD OF 'laws.FnOpEach'. -/
def fnOpEachCard : Claim7 := { stood := { row := fnOpEachRow, standIns := [], harness := (true, "8f80675ec1f7a49118b45c9821ff911b927ed4b09182aa3d33f612f5be173dc3"), looks := false }, kinds := [], alts := [], laidByText := true, laidKinds := [.data], laidTests := true, laidLooks := .later }
def FnOpEachCardSaid : Prop := Claim7.holds Tryd.pinned (.plain (OpenSpec.ofChange fnOpEachSpec)) fnOpEachCard

/-- THE TIED CARD OF 'laws.FnOpCover'. -/
def fnOpCoverCard : Claim7 := { stood := { row := fnOpCoverRow, standIns := [], harness := (true, "8f80675ec1f7a49118b45c9821ff911b927ed4b09182aa3d33f612f5be173dc3"), looks := false }, kinds := [], alts := [], laidByText := true, laidKinds := [.data], laidTests := true, laidLooks := .later }
def FnOpCoverCardSaid : Prop := Claim7.holds Tryd.pinned (.plain (OpenSpec.ofChange fnOpCoverSpec)) fnOpCoverCard

/-- THE TIED CARD OF 'laws.FnExactOpDo'. -/
def fnExactOpDoCard : Claim7 := { stood := { row := fnExactOpDoRow, standIns := [], harness := (true, "8f80675ec1f7a49118b45c9821ff911b927ed4b09182aa3d33f612f5be173dc3"), looks := false }, kinds := [], alts := [], laidByText := true, laidKinds := [.data], laidTests := true, laidLooks := .later }
def FnExactOpDoCardSaid : Prop := Claim7.holds Tryd.pinned (.plain (OpenSpec.ofChange fnExactOpDoSpec)) fnExactOpDoCard

/-- THE SECOND FORM's CARD OF 'laws.FnOpDo'. -/
def fnOpDoUptoCard : Claim7 := { stood := { row := fnOpDoUptoRow, standIns := [], harness := (true, "8f80675ec1f7a49118b45c9821ff911b927ed4b09182aa3d33f612f5be173dc3"), looks := false }, kinds := [], alts := [], laidByText := true, laidKinds := [.data], laidTests := true, laidLooks := .later }
def FnOpDoUptoCardSaid : Prop := Claim7.holds Tryd.pinned (.plain (OpenSpec.upto fnOpDoSpec)) fnOpDoUptoCard

/-- THE SECOND FORM's CARD OF 'laws.FnOpTurn'. -/
def fnOpTurnUptoCard : Claim7 := { stood := { row := fnOpTurnUptoRow, standIns := [], harness := (true, "8f80675ec1f7a49118b45c9821ff911b927ed4b09182aa3d33f612f5be173dc3"), looks := false }, kinds := [], alts := [], laidByText := true, laidKinds := [.data], laidTests := true, laidLooks := .later }
def FnOpTurnUptoCardSaid : Prop := Claim7.holds Tryd.pinned (.plain (OpenSpec.upto fnOpTurnSpec)) fnOpTurnUptoCard

/-- THE SECOND FORM's CARD OF 'laws.FnOpBlur'. -/
def fnOpBlurUptoCard : Claim7 := { stood := { row := fnOpBlurUptoRow, standIns := [], harness := (true, "8f80675ec1f7a49118b45c9821ff911b927ed4b09182aa3d33f612f5be173dc3"), looks := false }, kinds := [], alts := [], laidByText := true, laidKinds := [.data], laidTests := true, laidLooks := .later }
def FnOpBlurUptoCardSaid : Prop := Claim7.holds Tryd.pinned (.plain (OpenSpec.upto fnOpBlurSpec)) fnOpBlurUptoCard

/-- THE SECOND FORM's CARD OF 'laws.FnOpSize'. -/
def fnOpSizeUptoCard : Claim7 := { stood := { row := fnOpSizeUptoRow, standIns := [], harness := (true, "8f80675ec1f7a49118b45c9821ff911b927ed4b09182aa3d33f612f5be173dc3"), looks := false }, kinds := [], alts := [], laidByText := true, laidKinds := [.data], laidTests := true, laidLooks := .later }
def FnOpSizeUptoCardSaid : Prop := Claim7.holds Tryd.pinned (.plain (OpenSpec.upto fnOpSizeSpec)) fnOpSizeUptoCard

/-- THE SECOND FORM's CARD OF 'laws.FnOpMoves'. -/
def fnOpMovesUptoCard : Claim7 := { stood := { row := fnOpMovesUptoRow, standIns := [], harness := (true, "8f80675ec1f7a49118b45c9821ff911b927ed4b09182aa3d33f612f5be173dc3"), looks := false }, kinds := [], alts := [], laidByText := true, laidKinds := [.data], laidTests := true, laidLooks := .later }
def FnOpMovesUptoCardSaid : Prop := Claim7.holds Tryd.pinned (.plain (OpenSpec.upto fnOpMovesSpec)) fnOpMovesUptoCard

/-- THE SECOND FORM's CARD OF 'laws.FnOpEach'. -/
def fnOpEachUptoCard : Claim7 := { stood := { row := fnOpEachUptoRow, standIns := [], harness := (true, "8f80675ec1f7a49118b45c9821ff911b927ed4b09182aa3d33f612f5be173dc3"), looks := false }, kinds := [], alts := [], laidByText := true, laidKinds := [.data], laidTests := true, laidLooks := .later }
def FnOpEachUptoCardSaid : Prop := Claim7.holds Tryd.pinned (.plain (OpenSpec.upto fnOpEachSpec)) fnOpEachUptoCard

/-- THE SECOND FORM's CARD OF 'laws.FnOpCover'. -/
def fnOpCoverUptoCard : Claim7 := { stood := { row := fnOpCoverUptoRow, standIns := [], harness := (true, "8f80675ec1f7a49118b45c9821ff911b927ed4b09182aa3d33f612f5be173dc3"), looks := false }, kinds := [], alts := [], laidByText := true, laidKinds := [.data], laidTests := true, laidLooks := .later }
def FnOpCoverUptoCardSaid : Prop := Claim7.holds Tryd.pinned (.plain (OpenSpec.upto fnOpCoverSpec)) fnOpCoverUptoCard

/-- THE SECOND FORM's CARD OF 'laws.FnExactOpDo'. -/
def fnExactOpDoUptoCard : Claim7 := { stood := { row := fnExactOpDoUptoRow, standIns := [], harness := (true, "8f80675ec1f7a49118b45c9821ff911b927ed4b09182aa3d33f612f5be173dc3"), looks := false }, kinds := [], alts := [], laidByText := true, laidKinds := [.data], laidTests := true, laidLooks := .later }
def FnExactOpDoUptoCardSaid : Prop := Claim7.holds Tryd.pinned (.plain (OpenSpec.upto fnExactOpDoSpec)) fnExactOpDoUptoCard
end Rows
end Go.Proofs.YtiemlakjallphaaDoor
