/-
  No cell of these rows narrows 'for every input' (looked for: loops, veiled, ifaces, maps, wideKeys, modest, calm, conditions, laid).
  DERIVED. THE GIVEN ROWS OF THIS SEAT. 6 by the template 'for every input the law returns true; each argument reads behind the call as it read before'; 0 by the template 'total and deterministic' (their statements: YthlbpjkopkicbaaTotals.lean).
  GIVEN WITH THE SEED: the statements are not yours to turn. If you find one false, say at which input.
  Laid BY PROGRAM, IN A SANDBOX (cutbox-rows.mjs): the forced cells as the released guide's own fill.sh prints them over the translation 015697b32d349345… (all of the seat's roots in one cut). By AI agents, Wed Nov 11 2026. No macro, syntax, notation, axiom, sorry.
-/
import Derived.Test.YthlbpjkopkicbaaChecked
import GoSem.Claim
import GoSem.ClaimJoined
import GoSem.ClaimMapViews
import Derived.JoinedTies
import Derived.KernelRfl
namespace Go.Proofs.Ythlbpjkopkicbaa
/- THE CELL 'sum', in the pinned program and in every row, IS THE sha256 OF THE DUMP (.gsa) THAT YthlbpjkopkicbaaProg.lean LOADS. Nothing in Lean hashes anything: it is a label: what it is worth is what the hold of that sum in a sandbox is worth. -/
noncomputable def Try.pinned : Pinned := { name := "ythlbpjkopkicbaa", sum := "015697b32d3493458c23041b47acf16db981a660f9150b83037abdbccbaaabaa", checked := Try.checked }
namespace Rows
def none {H : Type} : Left H := { results := [], args := [] }

/-- 'landmarklaw13.FfgWeights': WHATEVER THE INPUT: true; the input reads as it did. -/
def ffgWeightsSpec : ChangeSpec := { name := "ffgWeights", fn := fun _ => fun
  | [d1, d2] => { results := [.lit (.bool true)], args := [d1, d2] }
  | _ => none }
def ffgWeightsRow : OpenClaim := { program := "ythlbpjkopkicbaa", sum := "015697b32d3493458c23041b47acf16db981a660f9150b83037abdbccbaaabaa", func := "landmark/landmarklaw13.FfgWeights", spec := "ffgWeights", unfollowed := true, recurses := true, plainKeys := false, apart := false }
def FfgWeightsSaid : Prop := ffgWeightsRow.holds Try.pinned (OpenSpec.ofChange ffgWeightsSpec)

/-- ITS FALSE NEIGHBOUR: 'it returns false'. Refute it at one input. -/
def ffgWeightsWrong : ChangeSpec := { name := "ffgWeights", fn := fun _ => fun
  | [d1, d2] => { results := [.lit (.bool false)], args := [d1, d2] }
  | _ => none }
def FfgWeightsWrongFalsely : Prop := ffgWeightsRow.holds Try.pinned (OpenSpec.ofChange ffgWeightsWrong)

/-- 'landmarklaw13.FfgPlays': WHATEVER THE INPUT: true; the input reads as it did. -/
def ffgPlaysSpec : ChangeSpec := { name := "ffgPlays", fn := fun _ => fun
  | [d1, d2] => { results := [.lit (.bool true)], args := [d1, d2] }
  | _ => none }
def ffgPlaysRow : OpenClaim := { program := "ythlbpjkopkicbaa", sum := "015697b32d3493458c23041b47acf16db981a660f9150b83037abdbccbaaabaa", func := "landmark/landmarklaw13.FfgPlays", spec := "ffgPlays", unfollowed := true, recurses := true, plainKeys := false, apart := false }
def FfgPlaysSaid : Prop := ffgPlaysRow.holds Try.pinned (OpenSpec.ofChange ffgPlaysSpec)

/-- ITS FALSE NEIGHBOUR: 'it returns false'. Refute it at one input. -/
def ffgPlaysWrong : ChangeSpec := { name := "ffgPlays", fn := fun _ => fun
  | [d1, d2] => { results := [.lit (.bool false)], args := [d1, d2] }
  | _ => none }
def FfgPlaysWrongFalsely : Prop := ffgPlaysRow.holds Try.pinned (OpenSpec.ofChange ffgPlaysWrong)

/-- 'landmarklaw13.FfgOrder': WHATEVER THE INPUT: true; the input reads as it did. -/
def ffgOrderSpec : ChangeSpec := { name := "ffgOrder", fn := fun _ => fun
  | [d1, d2, d3] => { results := [.lit (.bool true)], args := [d1, d2, d3] }
  | _ => none }
def ffgOrderRow : OpenClaim := { program := "ythlbpjkopkicbaa", sum := "015697b32d3493458c23041b47acf16db981a660f9150b83037abdbccbaaabaa", func := "landmark/landmarklaw13.FfgOrder", spec := "ffgOrder", inPlace := ["maps.clone"], unfollowed := true, recurses := true, plainKeys := false, apart := false }
def FfgOrderSaid : Prop := ffgOrderRow.holds Try.pinned (OpenSpec.ofChange ffgOrderSpec)

/-- ITS FALSE NEIGHBOUR: 'it returns false'. Refute it at one input. -/
def ffgOrderWrong : ChangeSpec := { name := "ffgOrder", fn := fun _ => fun
  | [d1, d2, d3] => { results := [.lit (.bool false)], args := [d1, d2, d3] }
  | _ => none }
def FfgOrderWrongFalsely : Prop := ffgOrderRow.holds Try.pinned (OpenSpec.ofChange ffgOrderWrong)

/-- 'landmarklaw13.FfgNil': WHATEVER THE INPUT: true; the input reads as it did. -/
def ffgNilSpec : ChangeSpec := { name := "ffgNil", fn := fun _ => fun
  | [] => { results := [.lit (.bool true)], args := [] }
  | _ => none }
def ffgNilRow : OpenClaim := { program := "ythlbpjkopkicbaa", sum := "015697b32d3493458c23041b47acf16db981a660f9150b83037abdbccbaaabaa", func := "landmark/landmarklaw13.FfgNil", spec := "ffgNil", inPlace := ["maps.clone"], unfollowed := true, recurses := true, plainKeys := false, apart := false }
def FfgNilSaid : Prop := ffgNilRow.holds Try.pinned (OpenSpec.ofChange ffgNilSpec)

/-- ITS FALSE NEIGHBOUR: 'it returns false'. Refute it at one input. -/
def ffgNilWrong : ChangeSpec := { name := "ffgNil", fn := fun _ => fun
  | [] => { results := [.lit (.bool false)], args := [] }
  | _ => none }
def FfgNilWrongFalsely : Prop := ffgNilRow.holds Try.pinned (OpenSpec.ofChange ffgNilWrong)

/-- 'landmarklaw13.FfgLeast': WHATEVER THE INPUT: true; the input reads as it did. -/
def ffgLeastSpec : ChangeSpec := { name := "ffgLeast", fn := fun _ => fun
  | [d1, d2] => { results := [.lit (.bool true)], args := [d1, d2] }
  | _ => none }
def ffgLeastRow : OpenClaim := { program := "ythlbpjkopkicbaa", sum := "015697b32d3493458c23041b47acf16db981a660f9150b83037abdbccbaaabaa", func := "landmark/landmarklaw13.FfgLeast", spec := "ffgLeast", unfollowed := true, recurses := true, plainKeys := false, apart := false }
def FfgLeastSaid : Prop := ffgLeastRow.holds Try.pinned (OpenSpec.ofChange ffgLeastSpec)

/-- ITS FALSE NEIGHBOUR: 'it returns false'. Refute it at one input. -/
def ffgLeastWrong : ChangeSpec := { name := "ffgLeast", fn := fun _ => fun
  | [d1, d2] => { results := [.lit (.bool false)], args := [d1, d2] }
  | _ => none }
def FfgLeastWrongFalsely : Prop := ffgLeastRow.holds Try.pinned (OpenSpec.ofChange ffgLeastWrong)

/-- 'landmarklaw13.FfgChains': WHATEVER THE INPUT: true; the input reads as it did. -/
def ffgChainsSpec : ChangeSpec := { name := "ffgChains", fn := fun _ => fun
  | [d1, d2] => { results := [.lit (.bool true)], args := [d1, d2] }
  | _ => none }
def ffgChainsRow : OpenClaim := { program := "ythlbpjkopkicbaa", sum := "015697b32d3493458c23041b47acf16db981a660f9150b83037abdbccbaaabaa", func := "landmark/landmarklaw13.FfgChains", spec := "ffgChains", unfollowed := true, recurses := true, plainKeys := false, apart := false }
def FfgChainsSaid : Prop := ffgChainsRow.holds Try.pinned (OpenSpec.ofChange ffgChainsSpec)

/-- ITS FALSE NEIGHBOUR: 'it returns false'. Refute it at one input. -/
def ffgChainsWrong : ChangeSpec := { name := "ffgChains", fn := fun _ => fun
  | [d1, d2] => { results := [.lit (.bool false)], args := [d1, d2] }
  | _ => none }
def FfgChainsWrongFalsely : Prop := ffgChainsRow.holds Try.pinned (OpenSpec.ofChange ffgChainsWrong)

/- THE SECOND FORM. 'bulk': how many values and letters a reading holds, each counted each time it is reached (what is shared counts as often as it is met; a slice's spare places count too). A statement '..UptoSaid' is the law's where the arguments, and the package variables that the reading takes, are together of bulk at most 1048576: NARROWER than '..Said'. Prove '..Said' where nothing that the law and all that it calls make is longer than what came in: it says more and counts as full. Else prove '..UptoSaid'. A law counts once. -/
mutual
def uptoBulk {H : Type} : DataW H → Nat
  | .lit (.string bytes) => bytes.length + 1
  | .lit _ => 1
  | .nil => 1
  | .ptr d => uptoBulk d + 1
  | .slice elems spare => uptoBulkAll elems + uptoBulkAll spare + 1
  | .agg parts => uptoBulkAll parts + 1
  | .iface _ d => uptoBulk d + 1
  | .map entries => uptoBulkEntries entries + 1
  | .held _ => 1
def uptoBulkAll {H : Type} : List (DataW H) → Nat
  | [] => 0
  | d :: r => uptoBulk d + uptoBulkAll r
def uptoBulkEntries {H : Type} : List (Lit × DataW H) → Nat
  | [] => 0
  | x :: r => uptoBulkEntry x + uptoBulkEntries r
def uptoBulkEntry {H : Type} : Lit × DataW H → Nat
  | (.string bytes, d) => bytes.length + uptoBulk d + 1
  | (_, d) => uptoBulk d + 1
 end
def uptoSmall : (H : Type) → List (DataW H) → Bool := fun _ ds => decide (uptoBulkAll ds ≤ 1048576)
def OpenSpec.upto (s : _root_.Go.ChangeSpec) : _root_.Go.OpenSpec := { _root_.Go.OpenSpec.ofChange s with cond := some uptoSmall }

/-- 'landmarklaw13.FfgWeights', WHERE WHAT IT READS IS OF BULK AT MOST 1048576: true; the input reads as it did. -/
def ffgWeightsUptoRow : OpenClaim := { program := "ythlbpjkopkicbaa", sum := "015697b32d3493458c23041b47acf16db981a660f9150b83037abdbccbaaabaa", func := "landmark/landmarklaw13.FfgWeights", spec := "ffgWeights", unfollowed := true, recurses := true, plainKeys := false, apart := false, narrowed := true }
def FfgWeightsUptoSaid : Prop := ffgWeightsUptoRow.holds Try.pinned (OpenSpec.upto ffgWeightsSpec)

/-- 'landmarklaw13.FfgPlays', WHERE WHAT IT READS IS OF BULK AT MOST 1048576: true; the input reads as it did. -/
def ffgPlaysUptoRow : OpenClaim := { program := "ythlbpjkopkicbaa", sum := "015697b32d3493458c23041b47acf16db981a660f9150b83037abdbccbaaabaa", func := "landmark/landmarklaw13.FfgPlays", spec := "ffgPlays", unfollowed := true, recurses := true, plainKeys := false, apart := false, narrowed := true }
def FfgPlaysUptoSaid : Prop := ffgPlaysUptoRow.holds Try.pinned (OpenSpec.upto ffgPlaysSpec)

/-- 'landmarklaw13.FfgOrder', WHERE WHAT IT READS IS OF BULK AT MOST 1048576: true; the input reads as it did. -/
def ffgOrderUptoRow : OpenClaim := { program := "ythlbpjkopkicbaa", sum := "015697b32d3493458c23041b47acf16db981a660f9150b83037abdbccbaaabaa", func := "landmark/landmarklaw13.FfgOrder", spec := "ffgOrder", inPlace := ["maps.clone"], unfollowed := true, recurses := true, plainKeys := false, apart := false, narrowed := true }
def FfgOrderUptoSaid : Prop := ffgOrderUptoRow.holds Try.pinned (OpenSpec.upto ffgOrderSpec)

/-- 'landmarklaw13.FfgNil', WHERE WHAT IT READS IS OF BULK AT MOST 1048576: true; the input reads as it did. -/
def ffgNilUptoRow : OpenClaim := { program := "ythlbpjkopkicbaa", sum := "015697b32d3493458c23041b47acf16db981a660f9150b83037abdbccbaaabaa", func := "landmark/landmarklaw13.FfgNil", spec := "ffgNil", inPlace := ["maps.clone"], unfollowed := true, recurses := true, plainKeys := false, apart := false, narrowed := true }
def FfgNilUptoSaid : Prop := ffgNilUptoRow.holds Try.pinned (OpenSpec.upto ffgNilSpec)

/-- 'landmarklaw13.FfgLeast', WHERE WHAT IT READS IS OF BULK AT MOST 1048576: true; the input reads as it did. -/
def ffgLeastUptoRow : OpenClaim := { program := "ythlbpjkopkicbaa", sum := "015697b32d3493458c23041b47acf16db981a660f9150b83037abdbccbaaabaa", func := "landmark/landmarklaw13.FfgLeast", spec := "ffgLeast", unfollowed := true, recurses := true, plainKeys := false, apart := false, narrowed := true }
def FfgLeastUptoSaid : Prop := ffgLeastUptoRow.holds Try.pinned (OpenSpec.upto ffgLeastSpec)

/-- 'landmarklaw13.FfgChains', WHERE WHAT IT READS IS OF BULK AT MOST 1048576: true; the input reads as it did. -/
def ffgChainsUptoRow : OpenClaim := { program := "ythlbpjkopkicbaa", sum := "015697b32d3493458c23041b47acf16db981a660f9150b83037abdbccbaaabaa", func := "landmark/landmarklaw13.FfgChains", spec := "ffgChains", unfollowed := true, recurses := true, plainKeys := false, apart := false, narrowed := true }
def FfgChainsUptoSaid : Prop := ffgChainsUptoRow.holds Try.pinned (OpenSpec.upto ffgChainsSpec)

end Rows
end Go.Proofs.Ythlbpjkopkicbaa
