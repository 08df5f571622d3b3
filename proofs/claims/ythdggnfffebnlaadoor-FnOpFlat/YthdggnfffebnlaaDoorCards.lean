/-
  DERIVED. GIVEN WITH THE SEED: THE CARDS: each row of YthdggnfffebnlaaDoorRows.lean that lists a variable, with what it lists TIED to the program's text (the seventh form; the later family's looks); each row that meets fmt, with fmt's text TOLD by the authors' own Lean function (tested against real Go, not proved from fmt's source: count such statements apart). THE CARD IS WHAT COUNTS. Prove the row's statement (the work); the ties are given (YthdggnfffebnlaaDoorTie.lean); close each card by the builder's one call (the guide's Derived/Test/ToyasCard.lean, 'card_holds'). Laid BY PROGRAM, IN A SANDBOX (cutbox-door.mjs). By AI agents, Wed Nov 11 2026. No macro, syntax, notation, axiom, sorry.
-/
import Derived.Test.YthdggnfffebnlaaDoorRows
import GoSem.ClaimSeven
namespace Go.Proofs.YthdggnfffebnlaaDoor
namespace Rows

/-- THE TIED CARD OF 'laws.FnExactOpOk'. -/
def fnExactOpOkCard : Claim7 := { stood := { row := fnExactOpOkRow, standIns := [], harness := (true, "bf8e44eabac1f0bd19bac75e6fc6589bb6f155c953ece0ad6750958e377fd990"), looks := false }, kinds := [], alts := [], laidByText := true, laidKinds := [.data], laidTests := true, laidLooks := .later }
def FnExactOpOkCardSaid : Prop := Claim7.holds Tryd.pinned (.plain (OpenSpec.ofChange fnExactOpOkSpec)) fnExactOpOkCard

/-- THE TIED CARD OF 'laws.FnOpOk'. -/
def fnOpOkCard : Claim7 := { stood := { row := fnOpOkRow, standIns := [], harness := (true, "bf8e44eabac1f0bd19bac75e6fc6589bb6f155c953ece0ad6750958e377fd990"), looks := false }, kinds := [], alts := [], laidByText := true, laidKinds := [.data], laidTests := true, laidLooks := .later }
def FnOpOkCardSaid : Prop := Claim7.holds Tryd.pinned (.plain (OpenSpec.ofChange fnOpOkSpec)) fnOpOkCard

/-- THE TIED CARD OF 'laws.FnOpFlip'. -/
def fnOpFlipCard : Claim7 := { stood := { row := fnOpFlipRow, standIns := [], harness := (true, "bf8e44eabac1f0bd19bac75e6fc6589bb6f155c953ece0ad6750958e377fd990"), looks := false }, kinds := [], alts := [], laidByText := true, laidKinds := [.data], laidTests := true, laidLooks := .later }
def FnOpFlipCardSaid : Prop := Claim7.holds Tryd.pinned (.plain (OpenSpec.ofChange fnOpFlipSpec)) fnOpFlipCard

/-- THE TIED CARD OF 'laws.FnOpGroup'. -/
def fnOpGroupCard : Claim7 := { stood := { row := fnOpGroupRow, standIns := [], harness := (true, "bf8e44eabac1f0bd19bac75e6fc6589bb6f155c953ece0ad6750958e377fd990"), looks := false }, kinds := [], alts := [], laidByText := true, laidKinds := [.data], laidTests := true, laidLooks := .later }
def FnOpGroupCardSaid : Prop := Claim7.holds Tryd.pinned (.plain (OpenSpec.ofChange fnOpGroupSpec)) fnOpGroupCard

/-- THE TIED CARD OF 'laws.FnOpGray'. -/
def fnOpGrayCard : Claim7 := { stood := { row := fnOpGrayRow, standIns := [], harness := (true, "bf8e44eabac1f0bd19bac75e6fc6589bb6f155c953ece0ad6750958e377fd990"), looks := false }, kinds := [], alts := [], laidByText := true, laidKinds := [.data], laidTests := true, laidLooks := .later }
def FnOpGrayCardSaid : Prop := Claim7.holds Tryd.pinned (.plain (OpenSpec.ofChange fnOpGraySpec)) fnOpGrayCard

/-- THE TIED CARD OF 'laws.FnOpSizeUp'. -/
def fnOpSizeUpCard : Claim7 := { stood := { row := fnOpSizeUpRow, standIns := [], harness := (true, "bf8e44eabac1f0bd19bac75e6fc6589bb6f155c953ece0ad6750958e377fd990"), looks := false }, kinds := [], alts := [], laidByText := true, laidKinds := [.data], laidTests := true, laidLooks := .later }
def FnOpSizeUpCardSaid : Prop := Claim7.holds Tryd.pinned (.plain (OpenSpec.ofChange fnOpSizeUpSpec)) fnOpSizeUpCard

/-- THE TIED CARD OF 'laws.FnOpSizeTwice'. -/
def fnOpSizeTwiceCard : Claim7 := { stood := { row := fnOpSizeTwiceRow, standIns := [], harness := (true, "bf8e44eabac1f0bd19bac75e6fc6589bb6f155c953ece0ad6750958e377fd990"), looks := false }, kinds := [], alts := [], laidByText := true, laidKinds := [.data], laidTests := true, laidLooks := .later }
def FnOpSizeTwiceCardSaid : Prop := Claim7.holds Tryd.pinned (.plain (OpenSpec.ofChange fnOpSizeTwiceSpec)) fnOpSizeTwiceCard

/-- THE TIED CARD OF 'laws.FnOpSizeBoth'. -/
def fnOpSizeBothCard : Claim7 := { stood := { row := fnOpSizeBothRow, standIns := [], harness := (true, "bf8e44eabac1f0bd19bac75e6fc6589bb6f155c953ece0ad6750958e377fd990"), looks := false }, kinds := [], alts := [], laidByText := true, laidKinds := [.data], laidTests := true, laidLooks := .later }
def FnOpSizeBothCardSaid : Prop := Claim7.holds Tryd.pinned (.plain (OpenSpec.ofChange fnOpSizeBothSpec)) fnOpSizeBothCard

/-- THE TIED CARD OF 'laws.FnOpCrop'. -/
def fnOpCropCard : Claim7 := { stood := { row := fnOpCropRow, standIns := [], harness := (true, "bf8e44eabac1f0bd19bac75e6fc6589bb6f155c953ece0ad6750958e377fd990"), looks := false }, kinds := [], alts := [], laidByText := true, laidKinds := [.data], laidTests := true, laidLooks := .later }
def FnOpCropCardSaid : Prop := Claim7.holds Tryd.pinned (.plain (OpenSpec.ofChange fnOpCropSpec)) fnOpCropCard

/-- THE TIED CARD OF 'laws.FnOpCropFlip'. -/
def fnOpCropFlipCard : Claim7 := { stood := { row := fnOpCropFlipRow, standIns := [], harness := (true, "bf8e44eabac1f0bd19bac75e6fc6589bb6f155c953ece0ad6750958e377fd990"), looks := false }, kinds := [], alts := [], laidByText := true, laidKinds := [.data], laidTests := true, laidLooks := .later }
def FnOpCropFlipCardSaid : Prop := Claim7.holds Tryd.pinned (.plain (OpenSpec.ofChange fnOpCropFlipSpec)) fnOpCropFlipCard

/-- THE TIED CARD OF 'laws.FnOpFlat'. -/
def fnOpFlatCard : Claim7 := { stood := { row := fnOpFlatRow, standIns := [], harness := (true, "bf8e44eabac1f0bd19bac75e6fc6589bb6f155c953ece0ad6750958e377fd990"), looks := false }, kinds := [], alts := [], laidByText := true, laidKinds := [.data], laidTests := true, laidLooks := .later }
def FnOpFlatCardSaid : Prop := Claim7.holds Tryd.pinned (.plain (OpenSpec.ofChange fnOpFlatSpec)) fnOpFlatCard

/-- THE TIED CARD OF 'laws.FnOpBlurIn'. -/
def fnOpBlurInCard : Claim7 := { stood := { row := fnOpBlurInRow, standIns := [], harness := (true, "bf8e44eabac1f0bd19bac75e6fc6589bb6f155c953ece0ad6750958e377fd990"), looks := false }, kinds := [], alts := [], laidByText := true, laidKinds := [.data], laidTests := true, laidLooks := .later }
def FnOpBlurInCardSaid : Prop := Claim7.holds Tryd.pinned (.plain (OpenSpec.ofChange fnOpBlurInSpec)) fnOpBlurInCard

/-- THE SECOND FORM's CARD OF 'laws.FnExactOpOk'. -/
def fnExactOpOkUptoCard : Claim7 := { stood := { row := fnExactOpOkUptoRow, standIns := [], harness := (true, "bf8e44eabac1f0bd19bac75e6fc6589bb6f155c953ece0ad6750958e377fd990"), looks := false }, kinds := [], alts := [], laidByText := true, laidKinds := [.data], laidTests := true, laidLooks := .later }
def FnExactOpOkUptoCardSaid : Prop := Claim7.holds Tryd.pinned (.plain (OpenSpec.upto fnExactOpOkSpec)) fnExactOpOkUptoCard

/-- THE SECOND FORM's CARD OF 'laws.FnOpOk'. -/
def fnOpOkUptoCard : Claim7 := { stood := { row := fnOpOkUptoRow, standIns := [], harness := (true, "bf8e44eabac1f0bd19bac75e6fc6589bb6f155c953ece0ad6750958e377fd990"), looks := false }, kinds := [], alts := [], laidByText := true, laidKinds := [.data], laidTests := true, laidLooks := .later }
def FnOpOkUptoCardSaid : Prop := Claim7.holds Tryd.pinned (.plain (OpenSpec.upto fnOpOkSpec)) fnOpOkUptoCard

/-- THE SECOND FORM's CARD OF 'laws.FnOpFlip'. -/
def fnOpFlipUptoCard : Claim7 := { stood := { row := fnOpFlipUptoRow, standIns := [], harness := (true, "bf8e44eabac1f0bd19bac75e6fc6589bb6f155c953ece0ad6750958e377fd990"), looks := false }, kinds := [], alts := [], laidByText := true, laidKinds := [.data], laidTests := true, laidLooks := .later }
def FnOpFlipUptoCardSaid : Prop := Claim7.holds Tryd.pinned (.plain (OpenSpec.upto fnOpFlipSpec)) fnOpFlipUptoCard

/-- THE SECOND FORM's CARD OF 'laws.FnOpGroup'. -/
def fnOpGroupUptoCard : Claim7 := { stood := { row := fnOpGroupUptoRow, standIns := [], harness := (true, "bf8e44eabac1f0bd19bac75e6fc6589bb6f155c953ece0ad6750958e377fd990"), looks := false }, kinds := [], alts := [], laidByText := true, laidKinds := [.data], laidTests := true, laidLooks := .later }
def FnOpGroupUptoCardSaid : Prop := Claim7.holds Tryd.pinned (.plain (OpenSpec.upto fnOpGroupSpec)) fnOpGroupUptoCard

/-- THE SECOND FORM's CARD OF 'laws.FnOpGray'. -/
def fnOpGrayUptoCard : Claim7 := { stood := { row := fnOpGrayUptoRow, standIns := [], harness := (true, "bf8e44eabac1f0bd19bac75e6fc6589bb6f155c953ece0ad6750958e377fd990"), looks := false }, kinds := [], alts := [], laidByText := true, laidKinds := [.data], laidTests := true, laidLooks := .later }
def FnOpGrayUptoCardSaid : Prop := Claim7.holds Tryd.pinned (.plain (OpenSpec.upto fnOpGraySpec)) fnOpGrayUptoCard

/-- THE SECOND FORM's CARD OF 'laws.FnOpSizeUp'. -/
def fnOpSizeUpUptoCard : Claim7 := { stood := { row := fnOpSizeUpUptoRow, standIns := [], harness := (true, "bf8e44eabac1f0bd19bac75e6fc6589bb6f155c953ece0ad6750958e377fd990"), looks := false }, kinds := [], alts := [], laidByText := true, laidKinds := [.data], laidTests := true, laidLooks := .later }
def FnOpSizeUpUptoCardSaid : Prop := Claim7.holds Tryd.pinned (.plain (OpenSpec.upto fnOpSizeUpSpec)) fnOpSizeUpUptoCard

/-- THE SECOND FORM's CARD OF 'laws.FnOpSizeTwice'. -/
def fnOpSizeTwiceUptoCard : Claim7 := { stood := { row := fnOpSizeTwiceUptoRow, standIns := [], harness := (true, "bf8e44eabac1f0bd19bac75e6fc6589bb6f155c953ece0ad6750958e377fd990"), looks := false }, kinds := [], alts := [], laidByText := true, laidKinds := [.data], laidTests := true, laidLooks := .later }
def FnOpSizeTwiceUptoCardSaid : Prop := Claim7.holds Tryd.pinned (.plain (OpenSpec.upto fnOpSizeTwiceSpec)) fnOpSizeTwiceUptoCard

/-- THE SECOND FORM's CARD OF 'laws.FnOpSizeBoth'. -/
def fnOpSizeBothUptoCard : Claim7 := { stood := { row := fnOpSizeBothUptoRow, standIns := [], harness := (true, "bf8e44eabac1f0bd19bac75e6fc6589bb6f155c953ece0ad6750958e377fd990"), looks := false }, kinds := [], alts := [], laidByText := true, laidKinds := [.data], laidTests := true, laidLooks := .later }
def FnOpSizeBothUptoCardSaid : Prop := Claim7.holds Tryd.pinned (.plain (OpenSpec.upto fnOpSizeBothSpec)) fnOpSizeBothUptoCard

/-- THE SECOND FORM's CARD OF 'laws.FnOpCrop'. -/
def fnOpCropUptoCard : Claim7 := { stood := { row := fnOpCropUptoRow, standIns := [], harness := (true, "bf8e44eabac1f0bd19bac75e6fc6589bb6f155c953ece0ad6750958e377fd990"), looks := false }, kinds := [], alts := [], laidByText := true, laidKinds := [.data], laidTests := true, laidLooks := .later }
def FnOpCropUptoCardSaid : Prop := Claim7.holds Tryd.pinned (.plain (OpenSpec.upto fnOpCropSpec)) fnOpCropUptoCard

/-- THE SECOND FORM's CARD OF 'laws.FnOpCropFlip'. -/
def fnOpCropFlipUptoCard : Claim7 := { stood := { row := fnOpCropFlipUptoRow, standIns := [], harness := (true, "bf8e44eabac1f0bd19bac75e6fc6589bb6f155c953ece0ad6750958e377fd990"), looks := false }, kinds := [], alts := [], laidByText := true, laidKinds := [.data], laidTests := true, laidLooks := .later }
def FnOpCropFlipUptoCardSaid : Prop := Claim7.holds Tryd.pinned (.plain (OpenSpec.upto fnOpCropFlipSpec)) fnOpCropFlipUptoCard

/-- THE SECOND FORM's CARD OF 'laws.FnOpFlat'. -/
def fnOpFlatUptoCard : Claim7 := { stood := { row := fnOpFlatUptoRow, standIns := [], harness := (true, "bf8e44eabac1f0bd19bac75e6fc6589bb6f155c953ece0ad6750958e377fd990"), looks := false }, kinds := [], alts := [], laidByText := true, laidKinds := [.data], laidTests := true, laidLooks := .later }
def FnOpFlatUptoCardSaid : Prop := Claim7.holds Tryd.pinned (.plain (OpenSpec.upto fnOpFlatSpec)) fnOpFlatUptoCard

/-- THE SECOND FORM's CARD OF 'laws.FnOpBlurIn'. -/
def fnOpBlurInUptoCard : Claim7 := { stood := { row := fnOpBlurInUptoRow, standIns := [], harness := (true, "bf8e44eabac1f0bd19bac75e6fc6589bb6f155c953ece0ad6750958e377fd990"), looks := false }, kinds := [], alts := [], laidByText := true, laidKinds := [.data], laidTests := true, laidLooks := .later }
def FnOpBlurInUptoCardSaid : Prop := Claim7.holds Tryd.pinned (.plain (OpenSpec.upto fnOpBlurInSpec)) fnOpBlurInUptoCard
end Rows
end Go.Proofs.YthdggnfffebnlaaDoor
