/-
  DERIVED. GIVEN WITH THE SEED: THE CARDS: each row of YtlfmdnnookkdhaaDoorRows.lean that lists a variable, with what it lists TIED to the program's text (the seventh form; the later family's looks); each row that meets fmt, with fmt's text TOLD by the authors' own Lean function (tested against real Go, not proved from fmt's source: count such statements apart). THE CARD IS WHAT COUNTS. Prove the row's statement (the work); the ties are given (YtlfmdnnookkdhaaDoorTie.lean); close each card by the builder's one call (the guide's Derived/Test/ToyasCard.lean, 'card_holds'). Laid BY PROGRAM, IN A SANDBOX (cutbox-door.mjs). By AI agents, Wed Nov 11 2026. No macro, syntax, notation, axiom, sorry.
-/
import Derived.Test.YtlfmdnnookkdhaaDoorRows
import GoSem.ClaimSeven
namespace Go.Proofs.YtlfmdnnookkdhaaDoor
namespace Rows

/-- THE TIED CARD OF 'landmarklaw03.NamesPieces'. -/
def namesPiecesCard : Claim7 := { stood := { row := namesPiecesRow, standIns := [], harness := (true, "d6d1cfa2e857fac37d66d032f11028cb3149769b402828d364fb37b7ed9c215d"), looks := false }, kinds := [], alts := [], laidByText := true, laidKinds := [.data, .data], laidTests := true, laidLooks := .later }
def NamesPiecesCardSaid : Prop := Claim7.holds Tryd.pinned (.plain (OpenSpec.ofChange namesPiecesSpec)) namesPiecesCard

/-- THE TIED CARD OF 'landmarklaw03.NamesNodes'. -/
def namesNodesCard : Claim7 := { stood := { row := namesNodesRow, standIns := [], harness := (true, "d6d1cfa2e857fac37d66d032f11028cb3149769b402828d364fb37b7ed9c215d"), looks := false }, kinds := [], alts := [], laidByText := true, laidKinds := [.data, .data], laidTests := true, laidLooks := .later }
def NamesNodesCardSaid : Prop := Claim7.holds Tryd.pinned (.plain (OpenSpec.ofChange namesNodesSpec)) namesNodesCard

/-- THE TIED CARD OF 'landmarklaw03.NamesOrder'. -/
def namesOrderCard : Claim7 := { stood := { row := namesOrderRow, standIns := [], harness := (true, "d6d1cfa2e857fac37d66d032f11028cb3149769b402828d364fb37b7ed9c215d"), looks := false }, kinds := [], alts := [], laidByText := true, laidKinds := [.data, .data], laidTests := true, laidLooks := .later }
def NamesOrderCardSaid : Prop := Claim7.holds Tryd.pinned (.plain (OpenSpec.ofChange namesOrderSpec)) namesOrderCard

/-- THE TIED CARD OF 'landmarklaw03.NamesLengths'. -/
def namesLengthsCard : Claim7 := { stood := { row := namesLengthsRow, standIns := [], harness := (true, "d6d1cfa2e857fac37d66d032f11028cb3149769b402828d364fb37b7ed9c215d"), looks := false }, kinds := [], alts := [], laidByText := true, laidKinds := [.data, .data], laidTests := true, laidLooks := .later }
def NamesLengthsCardSaid : Prop := Claim7.holds Tryd.pinned (.plain (OpenSpec.ofChange namesLengthsSpec)) namesLengthsCard

/-- THE TIED CARD OF 'landmarklaw03.NamesWords'. -/
def namesWordsCard : Claim7 := { stood := { row := namesWordsRow, standIns := [], harness := (true, "d6d1cfa2e857fac37d66d032f11028cb3149769b402828d364fb37b7ed9c215d"), looks := false }, kinds := [], alts := [], laidByText := true, laidKinds := [.data, .data], laidTests := true, laidLooks := .later }
def NamesWordsCardSaid : Prop := Claim7.holds Tryd.pinned (.plain (OpenSpec.ofChange namesWordsSpec)) namesWordsCard

/-- THE SECOND FORM's CARD OF 'landmarklaw03.NamesPieces'. -/
def namesPiecesUptoCard : Claim7 := { stood := { row := namesPiecesUptoRow, standIns := [], harness := (true, "d6d1cfa2e857fac37d66d032f11028cb3149769b402828d364fb37b7ed9c215d"), looks := false }, kinds := [], alts := [], laidByText := true, laidKinds := [.data, .data], laidTests := true, laidLooks := .later }
def NamesPiecesUptoCardSaid : Prop := Claim7.holds Tryd.pinned (.plain (OpenSpec.upto namesPiecesSpec)) namesPiecesUptoCard

/-- THE SECOND FORM's CARD OF 'landmarklaw03.NamesNodes'. -/
def namesNodesUptoCard : Claim7 := { stood := { row := namesNodesUptoRow, standIns := [], harness := (true, "d6d1cfa2e857fac37d66d032f11028cb3149769b402828d364fb37b7ed9c215d"), looks := false }, kinds := [], alts := [], laidByText := true, laidKinds := [.data, .data], laidTests := true, laidLooks := .later }
def NamesNodesUptoCardSaid : Prop := Claim7.holds Tryd.pinned (.plain (OpenSpec.upto namesNodesSpec)) namesNodesUptoCard

/-- THE SECOND FORM's CARD OF 'landmarklaw03.NamesOrder'. -/
def namesOrderUptoCard : Claim7 := { stood := { row := namesOrderUptoRow, standIns := [], harness := (true, "d6d1cfa2e857fac37d66d032f11028cb3149769b402828d364fb37b7ed9c215d"), looks := false }, kinds := [], alts := [], laidByText := true, laidKinds := [.data, .data], laidTests := true, laidLooks := .later }
def NamesOrderUptoCardSaid : Prop := Claim7.holds Tryd.pinned (.plain (OpenSpec.upto namesOrderSpec)) namesOrderUptoCard

/-- THE SECOND FORM's CARD OF 'landmarklaw03.NamesLengths'. -/
def namesLengthsUptoCard : Claim7 := { stood := { row := namesLengthsUptoRow, standIns := [], harness := (true, "d6d1cfa2e857fac37d66d032f11028cb3149769b402828d364fb37b7ed9c215d"), looks := false }, kinds := [], alts := [], laidByText := true, laidKinds := [.data, .data], laidTests := true, laidLooks := .later }
def NamesLengthsUptoCardSaid : Prop := Claim7.holds Tryd.pinned (.plain (OpenSpec.upto namesLengthsSpec)) namesLengthsUptoCard

/-- THE SECOND FORM's CARD OF 'landmarklaw03.NamesWords'. -/
def namesWordsUptoCard : Claim7 := { stood := { row := namesWordsUptoRow, standIns := [], harness := (true, "d6d1cfa2e857fac37d66d032f11028cb3149769b402828d364fb37b7ed9c215d"), looks := false }, kinds := [], alts := [], laidByText := true, laidKinds := [.data, .data], laidTests := true, laidLooks := .later }
def NamesWordsUptoCardSaid : Prop := Claim7.holds Tryd.pinned (.plain (OpenSpec.upto namesWordsSpec)) namesWordsUptoCard
end Rows
end Go.Proofs.YtlfmdnnookkdhaaDoor
