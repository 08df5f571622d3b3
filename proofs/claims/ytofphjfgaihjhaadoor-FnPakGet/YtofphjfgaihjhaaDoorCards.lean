/-
  DERIVED. GIVEN WITH THE SEED: THE CARDS: each row of YtofphjfgaihjhaaDoorRows.lean that lists a variable, with what it lists TIED to the program's text (the seventh form; the later family's looks); each row that meets fmt, with fmt's text TOLD by the authors' own Lean function (tested against real Go, not proved from fmt's source: count such statements apart). THE CARD IS WHAT COUNTS. Prove the row's statement (the work); the ties are given (YtofphjfgaihjhaaDoorTie.lean); close each card by the builder's one call (the guide's Derived/Test/ToyasCard.lean, 'card_holds'). Laid BY PROGRAM, IN A SANDBOX (cutbox-door.mjs). By AI agents, Wed Nov 11 2026. No macro, syntax, notation, axiom, sorry.
-/
import Derived.Test.YtofphjfgaihjhaaDoorRows
import GoSem.ClaimSeven
namespace Go.Proofs.YtofphjfgaihjhaaDoor
namespace Rows

/-- THE TIED CARD OF 'laws.FnPakPut'. -/
def fnPakPutCard : Claim7 := { stood := { row := fnPakPutRow, standIns := [], harness := (true, "5300b1dfc701ddc79672e57bee8a0e487eac8b47084a9882bce461f53fda3512"), looks := false }, kinds := [], alts := [], laidByText := true, laidKinds := [.sentinel, .sentinel, .sentinel, .sentinel], laidTests := true, laidLooks := .later }
def FnPakPutCardSaid : Prop := Claim7.holds Tryd.pinned (.plain (OpenSpec.ofChange fnPakPutSpec)) fnPakPutCard

/-- THE TIED CARD OF 'laws.FnPakGet'. -/
def fnPakGetCard : Claim7 := { stood := { row := fnPakGetRow, standIns := [], harness := (true, "5300b1dfc701ddc79672e57bee8a0e487eac8b47084a9882bce461f53fda3512"), looks := false }, kinds := [], alts := [], laidByText := true, laidKinds := [.sentinel, .sentinel, .sentinel, .sentinel], laidTests := true, laidLooks := .later }
def FnPakGetCardSaid : Prop := Claim7.holds Tryd.pinned (.plain (OpenSpec.ofChange fnPakGetSpec)) fnPakGetCard

/-- THE TIED CARD OF 'laws.FnPakApart'. -/
def fnPakApartCard : Claim7 := { stood := { row := fnPakApartRow, standIns := [], harness := (true, "5300b1dfc701ddc79672e57bee8a0e487eac8b47084a9882bce461f53fda3512"), looks := false }, kinds := [], alts := [], laidByText := true, laidKinds := [.sentinel, .sentinel, .sentinel, .sentinel], laidTests := true, laidLooks := .later }
def FnPakApartCardSaid : Prop := Claim7.holds Tryd.pinned (.plain (OpenSpec.ofChange fnPakApartSpec)) fnPakApartCard

/-- THE TIED CARD OF 'laws.FnPakMore'. -/
def fnPakMoreCard : Claim7 := { stood := { row := fnPakMoreRow, standIns := [], harness := (true, "5300b1dfc701ddc79672e57bee8a0e487eac8b47084a9882bce461f53fda3512"), looks := false }, kinds := [], alts := [], laidByText := true, laidKinds := [.sentinel, .sentinel, .sentinel, .sentinel], laidTests := true, laidLooks := .later }
def FnPakMoreCardSaid : Prop := Claim7.holds Tryd.pinned (.plain (OpenSpec.ofChange fnPakMoreSpec)) fnPakMoreCard

/-- THE TIED CARD OF 'laws.FnExactPakPut'. -/
def fnExactPakPutCard : Claim7 := { stood := { row := fnExactPakPutRow, standIns := [], harness := (true, "5300b1dfc701ddc79672e57bee8a0e487eac8b47084a9882bce461f53fda3512"), looks := false }, kinds := [], alts := [], laidByText := true, laidKinds := [.sentinel, .sentinel], laidTests := true, laidLooks := .later }
def FnExactPakPutCardSaid : Prop := Claim7.holds Tryd.pinned (.plain (OpenSpec.ofChange fnExactPakPutSpec)) fnExactPakPutCard

/-- THE TIED CARD OF 'laws.FnExactPakGet'. -/
def fnExactPakGetCard : Claim7 := { stood := { row := fnExactPakGetRow, standIns := [], harness := (true, "5300b1dfc701ddc79672e57bee8a0e487eac8b47084a9882bce461f53fda3512"), looks := false }, kinds := [], alts := [], laidByText := true, laidKinds := [.sentinel, .sentinel, .sentinel], laidTests := true, laidLooks := .later }
def FnExactPakGetCardSaid : Prop := Claim7.holds Tryd.pinned (.plain (OpenSpec.ofChange fnExactPakGetSpec)) fnExactPakGetCard

/-- THE SECOND FORM's CARD OF 'laws.FnPakPut'. -/
def fnPakPutUptoCard : Claim7 := { stood := { row := fnPakPutUptoRow, standIns := [], harness := (true, "5300b1dfc701ddc79672e57bee8a0e487eac8b47084a9882bce461f53fda3512"), looks := false }, kinds := [], alts := [], laidByText := true, laidKinds := [.sentinel, .sentinel, .sentinel, .sentinel], laidTests := true, laidLooks := .later }
def FnPakPutUptoCardSaid : Prop := Claim7.holds Tryd.pinned (.plain (OpenSpec.upto fnPakPutSpec)) fnPakPutUptoCard

/-- THE SECOND FORM's CARD OF 'laws.FnPakGet'. -/
def fnPakGetUptoCard : Claim7 := { stood := { row := fnPakGetUptoRow, standIns := [], harness := (true, "5300b1dfc701ddc79672e57bee8a0e487eac8b47084a9882bce461f53fda3512"), looks := false }, kinds := [], alts := [], laidByText := true, laidKinds := [.sentinel, .sentinel, .sentinel, .sentinel], laidTests := true, laidLooks := .later }
def FnPakGetUptoCardSaid : Prop := Claim7.holds Tryd.pinned (.plain (OpenSpec.upto fnPakGetSpec)) fnPakGetUptoCard

/-- THE SECOND FORM's CARD OF 'laws.FnPakApart'. -/
def fnPakApartUptoCard : Claim7 := { stood := { row := fnPakApartUptoRow, standIns := [], harness := (true, "5300b1dfc701ddc79672e57bee8a0e487eac8b47084a9882bce461f53fda3512"), looks := false }, kinds := [], alts := [], laidByText := true, laidKinds := [.sentinel, .sentinel, .sentinel, .sentinel], laidTests := true, laidLooks := .later }
def FnPakApartUptoCardSaid : Prop := Claim7.holds Tryd.pinned (.plain (OpenSpec.upto fnPakApartSpec)) fnPakApartUptoCard

/-- THE SECOND FORM's CARD OF 'laws.FnPakMore'. -/
def fnPakMoreUptoCard : Claim7 := { stood := { row := fnPakMoreUptoRow, standIns := [], harness := (true, "5300b1dfc701ddc79672e57bee8a0e487eac8b47084a9882bce461f53fda3512"), looks := false }, kinds := [], alts := [], laidByText := true, laidKinds := [.sentinel, .sentinel, .sentinel, .sentinel], laidTests := true, laidLooks := .later }
def FnPakMoreUptoCardSaid : Prop := Claim7.holds Tryd.pinned (.plain (OpenSpec.upto fnPakMoreSpec)) fnPakMoreUptoCard

/-- THE SECOND FORM's CARD OF 'laws.FnExactPakPut'. -/
def fnExactPakPutUptoCard : Claim7 := { stood := { row := fnExactPakPutUptoRow, standIns := [], harness := (true, "5300b1dfc701ddc79672e57bee8a0e487eac8b47084a9882bce461f53fda3512"), looks := false }, kinds := [], alts := [], laidByText := true, laidKinds := [.sentinel, .sentinel], laidTests := true, laidLooks := .later }
def FnExactPakPutUptoCardSaid : Prop := Claim7.holds Tryd.pinned (.plain (OpenSpec.upto fnExactPakPutSpec)) fnExactPakPutUptoCard

/-- THE SECOND FORM's CARD OF 'laws.FnExactPakGet'. -/
def fnExactPakGetUptoCard : Claim7 := { stood := { row := fnExactPakGetUptoRow, standIns := [], harness := (true, "5300b1dfc701ddc79672e57bee8a0e487eac8b47084a9882bce461f53fda3512"), looks := false }, kinds := [], alts := [], laidByText := true, laidKinds := [.sentinel, .sentinel, .sentinel], laidTests := true, laidLooks := .later }
def FnExactPakGetUptoCardSaid : Prop := Claim7.holds Tryd.pinned (.plain (OpenSpec.upto fnExactPakGetSpec)) fnExactPakGetUptoCard
end Rows
end Go.Proofs.YtofphjfgaihjhaaDoor
