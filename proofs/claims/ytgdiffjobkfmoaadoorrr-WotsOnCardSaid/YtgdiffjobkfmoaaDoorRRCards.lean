/-
  DERIVED. GIVEN WITH THE SEED: THE CARDS: each row of YtgdiffjobkfmoaaDoorRRRows.lean that lists a variable, with what it lists TIED to the program's text (the seventh form; the later family's looks); each row that meets fmt, with fmt's text TOLD by the authors' own Lean function (tested against real Go, not proved from fmt's source: count such statements apart). THE CARD IS WHAT COUNTS. Prove the row's statement (the work); the ties are given (YtgdiffjobkfmoaaDoorRRTie.lean); close each card by the builder's one call (the guide's Derived/Test/ToyasCard.lean, 'card_holds'). Laid BY PROGRAM, IN A SANDBOX (cutbox-door.mjs). By AI agents, Wed Nov 11 2026. No macro, syntax, notation, axiom, sorry.
-/
import Derived.Test.YtgdiffjobkfmoaaDoorRRRows
import GoSem.ClaimSeven
namespace Go.Proofs.YtgdiffjobkfmoaaDoorRR
namespace Rows

/-- THE TIED CARD OF 'landmarklaw06.WotsSigns'. -/
def wotsSignsCard : Claim7 := { stood := { row := wotsSignsRow, standIns := [], harness := (true, "22acb6c25ffb68c56060bc86e7a360956b2461844f4f751d095333dcb88eee2b"), looks := false }, kinds := [], alts := [], laidByText := true, laidKinds := [.data, .data], laidTests := true, laidLooks := .later }
def WotsSignsCardSaid : Prop := Claim7.holds Tryd.pinned (.plain (OpenSpec.ofChange wotsSignsSpec)) wotsSignsCard

/-- THE TIED CARD OF 'landmarklaw06.WotsOn'. -/
def wotsOnCard : Claim7 := { stood := { row := wotsOnRow, standIns := [], harness := (true, "22acb6c25ffb68c56060bc86e7a360956b2461844f4f751d095333dcb88eee2b"), looks := false }, kinds := [], alts := [], laidByText := true, laidKinds := [.data, .data], laidTests := true, laidLooks := .later }
def WotsOnCardSaid : Prop := Claim7.holds Tryd.pinned (.plain (OpenSpec.ofChange wotsOnSpec)) wotsOnCard

/-- THE SECOND FORM's CARD OF 'landmarklaw06.WotsSigns'. -/
def wotsSignsUptoCard : Claim7 := { stood := { row := wotsSignsUptoRow, standIns := [], harness := (true, "22acb6c25ffb68c56060bc86e7a360956b2461844f4f751d095333dcb88eee2b"), looks := false }, kinds := [], alts := [], laidByText := true, laidKinds := [.data, .data], laidTests := true, laidLooks := .later }
def WotsSignsUptoCardSaid : Prop := Claim7.holds Tryd.pinned (.plain (OpenSpec.upto wotsSignsSpec)) wotsSignsUptoCard

/-- THE SECOND FORM's CARD OF 'landmarklaw06.WotsOn'. -/
def wotsOnUptoCard : Claim7 := { stood := { row := wotsOnUptoRow, standIns := [], harness := (true, "22acb6c25ffb68c56060bc86e7a360956b2461844f4f751d095333dcb88eee2b"), looks := false }, kinds := [], alts := [], laidByText := true, laidKinds := [.data, .data], laidTests := true, laidLooks := .later }
def WotsOnUptoCardSaid : Prop := Claim7.holds Tryd.pinned (.plain (OpenSpec.upto wotsOnSpec)) wotsOnUptoCard
end Rows
end Go.Proofs.YtgdiffjobkfmoaaDoorRR
