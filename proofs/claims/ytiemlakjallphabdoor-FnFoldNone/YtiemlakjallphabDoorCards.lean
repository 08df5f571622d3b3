/-
  DERIVED. GIVEN WITH THE SEED: THE CARDS: each row of YtiemlakjallphabDoorRows.lean that lists a variable, with what it lists TIED to the program's text (the seventh form; the later family's looks); each row that meets fmt, with fmt's text TOLD by the authors' own Lean function (tested against real Go, not proved from fmt's source: count such statements apart). THE CARD IS WHAT COUNTS. Prove the row's statement (the work); the ties are given (YtiemlakjallphabDoorTie.lean); close each card by the builder's one call (the guide's Derived/Test/ToyasCard.lean, 'card_holds'). Laid BY PROGRAM, IN A SANDBOX (cutbox-door.mjs). By AI agents, Wed Nov 11 2026. No macro, syntax, notation, axiom, sorry.
-/
import Derived.Test.YtiemlakjallphabDoorRows
import GoSem.ClaimSeven
namespace Go.Proofs.YtiemlakjallphabDoor
namespace Rows

/-- THE TIED CARD OF 'laws.FnExactOpsDo'. -/
def fnExactOpsDoCard : Claim7 := { stood := { row := fnExactOpsDoRow, standIns := [], harness := (true, "8b806befa76ed3450763c0fe7f1d8323e1dd3b2f49790d1c23e918c1d698ec8a"), looks := false }, kinds := [], alts := [], laidByText := true, laidKinds := [.data], laidTests := true, laidLooks := .later }
def FnExactOpsDoCardSaid : Prop := Claim7.holds Tryd.pinned (.plain (OpenSpec.ofChange fnExactOpsDoSpec)) fnExactOpsDoCard

/-- THE TIED CARD OF 'laws.FnExactOpsFold'. -/
def fnExactOpsFoldCard : Claim7 := { stood := { row := fnExactOpsFoldRow, standIns := [], harness := (true, "8b806befa76ed3450763c0fe7f1d8323e1dd3b2f49790d1c23e918c1d698ec8a"), looks := false }, kinds := [], alts := [], laidByText := true, laidKinds := [.data], laidTests := true, laidLooks := .later }
def FnExactOpsFoldCardSaid : Prop := Claim7.holds Tryd.pinned (.plain (OpenSpec.ofChange fnExactOpsFoldSpec)) fnExactOpsFoldCard

/-- THE TIED CARD OF 'laws.FnOpsDo'. -/
def fnOpsDoCard : Claim7 := { stood := { row := fnOpsDoRow, standIns := [], harness := (true, "8b806befa76ed3450763c0fe7f1d8323e1dd3b2f49790d1c23e918c1d698ec8a"), looks := false }, kinds := [], alts := [], laidByText := true, laidKinds := [.data], laidTests := true, laidLooks := .later }
def FnOpsDoCardSaid : Prop := Claim7.holds Tryd.pinned (.plain (OpenSpec.ofChange fnOpsDoSpec)) fnOpsDoCard

/-- THE TIED CARD OF 'laws.FnFoldShort'. -/
def fnFoldShortCard : Claim7 := { stood := { row := fnFoldShortRow, standIns := [], harness := (true, "8b806befa76ed3450763c0fe7f1d8323e1dd3b2f49790d1c23e918c1d698ec8a"), looks := false }, kinds := [], alts := [], laidByText := true, laidKinds := [.data], laidTests := true, laidLooks := .later }
def FnFoldShortCardSaid : Prop := Claim7.holds Tryd.pinned (.plain (OpenSpec.ofChange fnFoldShortSpec)) fnFoldShortCard

/-- THE TIED CARD OF 'laws.FnFoldNone'. -/
def fnFoldNoneCard : Claim7 := { stood := { row := fnFoldNoneRow, standIns := [], harness := (true, "8b806befa76ed3450763c0fe7f1d8323e1dd3b2f49790d1c23e918c1d698ec8a"), looks := false }, kinds := [], alts := [], laidByText := true, laidKinds := [.data], laidTests := true, laidLooks := .later }
def FnFoldNoneCardSaid : Prop := Claim7.holds Tryd.pinned (.plain (OpenSpec.ofChange fnFoldNoneSpec)) fnFoldNoneCard

/-- THE TIED CARD OF 'laws.FnFoldCrop'. -/
def fnFoldCropCard : Claim7 := { stood := { row := fnFoldCropRow, standIns := [], harness := (true, "8b806befa76ed3450763c0fe7f1d8323e1dd3b2f49790d1c23e918c1d698ec8a"), looks := false }, kinds := [], alts := [], laidByText := true, laidKinds := [.data], laidTests := true, laidLooks := .later }
def FnFoldCropCardSaid : Prop := Claim7.holds Tryd.pinned (.plain (OpenSpec.ofChange fnFoldCropSpec)) fnFoldCropCard

/-- THE TIED CARD OF 'laws.FnFoldKeep'. -/
def fnFoldKeepCard : Claim7 := { stood := { row := fnFoldKeepRow, standIns := [], harness := (true, "8b806befa76ed3450763c0fe7f1d8323e1dd3b2f49790d1c23e918c1d698ec8a"), looks := false }, kinds := [], alts := [], laidByText := true, laidKinds := [.data], laidTests := true, laidLooks := .later }
def FnFoldKeepCardSaid : Prop := Claim7.holds Tryd.pinned (.plain (OpenSpec.ofChange fnFoldKeepSpec)) fnFoldKeepCard

/-- THE SECOND FORM's CARD OF 'laws.FnExactOpsDo'. -/
def fnExactOpsDoUptoCard : Claim7 := { stood := { row := fnExactOpsDoUptoRow, standIns := [], harness := (true, "8b806befa76ed3450763c0fe7f1d8323e1dd3b2f49790d1c23e918c1d698ec8a"), looks := false }, kinds := [], alts := [], laidByText := true, laidKinds := [.data], laidTests := true, laidLooks := .later }
def FnExactOpsDoUptoCardSaid : Prop := Claim7.holds Tryd.pinned (.plain (OpenSpec.upto fnExactOpsDoSpec)) fnExactOpsDoUptoCard

/-- THE SECOND FORM's CARD OF 'laws.FnExactOpsFold'. -/
def fnExactOpsFoldUptoCard : Claim7 := { stood := { row := fnExactOpsFoldUptoRow, standIns := [], harness := (true, "8b806befa76ed3450763c0fe7f1d8323e1dd3b2f49790d1c23e918c1d698ec8a"), looks := false }, kinds := [], alts := [], laidByText := true, laidKinds := [.data], laidTests := true, laidLooks := .later }
def FnExactOpsFoldUptoCardSaid : Prop := Claim7.holds Tryd.pinned (.plain (OpenSpec.upto fnExactOpsFoldSpec)) fnExactOpsFoldUptoCard

/-- THE SECOND FORM's CARD OF 'laws.FnOpsDo'. -/
def fnOpsDoUptoCard : Claim7 := { stood := { row := fnOpsDoUptoRow, standIns := [], harness := (true, "8b806befa76ed3450763c0fe7f1d8323e1dd3b2f49790d1c23e918c1d698ec8a"), looks := false }, kinds := [], alts := [], laidByText := true, laidKinds := [.data], laidTests := true, laidLooks := .later }
def FnOpsDoUptoCardSaid : Prop := Claim7.holds Tryd.pinned (.plain (OpenSpec.upto fnOpsDoSpec)) fnOpsDoUptoCard

/-- THE SECOND FORM's CARD OF 'laws.FnFoldShort'. -/
def fnFoldShortUptoCard : Claim7 := { stood := { row := fnFoldShortUptoRow, standIns := [], harness := (true, "8b806befa76ed3450763c0fe7f1d8323e1dd3b2f49790d1c23e918c1d698ec8a"), looks := false }, kinds := [], alts := [], laidByText := true, laidKinds := [.data], laidTests := true, laidLooks := .later }
def FnFoldShortUptoCardSaid : Prop := Claim7.holds Tryd.pinned (.plain (OpenSpec.upto fnFoldShortSpec)) fnFoldShortUptoCard

/-- THE SECOND FORM's CARD OF 'laws.FnFoldNone'. -/
def fnFoldNoneUptoCard : Claim7 := { stood := { row := fnFoldNoneUptoRow, standIns := [], harness := (true, "8b806befa76ed3450763c0fe7f1d8323e1dd3b2f49790d1c23e918c1d698ec8a"), looks := false }, kinds := [], alts := [], laidByText := true, laidKinds := [.data], laidTests := true, laidLooks := .later }
def FnFoldNoneUptoCardSaid : Prop := Claim7.holds Tryd.pinned (.plain (OpenSpec.upto fnFoldNoneSpec)) fnFoldNoneUptoCard

/-- THE SECOND FORM's CARD OF 'laws.FnFoldCrop'. -/
def fnFoldCropUptoCard : Claim7 := { stood := { row := fnFoldCropUptoRow, standIns := [], harness := (true, "8b806befa76ed3450763c0fe7f1d8323e1dd3b2f49790d1c23e918c1d698ec8a"), looks := false }, kinds := [], alts := [], laidByText := true, laidKinds := [.data], laidTests := true, laidLooks := .later }
def FnFoldCropUptoCardSaid : Prop := Claim7.holds Tryd.pinned (.plain (OpenSpec.upto fnFoldCropSpec)) fnFoldCropUptoCard

/-- THE SECOND FORM's CARD OF 'laws.FnFoldKeep'. -/
def fnFoldKeepUptoCard : Claim7 := { stood := { row := fnFoldKeepUptoRow, standIns := [], harness := (true, "8b806befa76ed3450763c0fe7f1d8323e1dd3b2f49790d1c23e918c1d698ec8a"), looks := false }, kinds := [], alts := [], laidByText := true, laidKinds := [.data], laidTests := true, laidLooks := .later }
def FnFoldKeepUptoCardSaid : Prop := Claim7.holds Tryd.pinned (.plain (OpenSpec.upto fnFoldKeepSpec)) fnFoldKeepUptoCard
end Rows
end Go.Proofs.YtiemlakjallphabDoor
