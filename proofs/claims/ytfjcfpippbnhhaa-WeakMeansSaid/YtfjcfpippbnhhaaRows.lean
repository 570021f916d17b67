/-
  No cell of these rows narrows 'for every input' (looked for: loops, veiled, ifaces, maps, wideKeys, modest, calm, conditions, laid).
  DERIVED. THE GIVEN ROWS OF THIS SEAT. 5 by the template 'for every input the law returns true; each argument reads behind the call as it read before'; 0 by the template 'total and deterministic' (their statements: YtfjcfpippbnhhaaTotals.lean).
  GIVEN WITH THE SEED: the statements are not yours to turn. If you find one false, say at which input.
  Laid BY PROGRAM, IN A SANDBOX (cutbox-rows.mjs): the forced cells as the released guide's own fill.sh prints them over the translation f899b6efbc0f5323… (all of the seat's roots in one cut). By AI agents, Wed Nov 11 2026. No macro, syntax, notation, axiom, sorry.
-/
import Derived.Test.YtfjcfpippbnhhaaChecked
import GoSem.Claim
import GoSem.ClaimJoined
import GoSem.ClaimMapViews
import Derived.JoinedTies
import Derived.KernelRfl
namespace Go.Proofs.Ytfjcfpippbnhhaa
/- THE CELL 'sum', in the pinned program and in every row, IS THE sha256 OF THE DUMP (.gsa) THAT YtfjcfpippbnhhaaProg.lean LOADS. Nothing in Lean hashes anything: it is a label: what it is worth is what the hold of that sum in a sandbox is worth. -/
noncomputable def Try.pinned : Pinned := { name := "ytfjcfpippbnhhaa", sum := "f899b6efbc0f53231e5f00e9f796e09b70537765da8e3d0e1c91ce74a4b030f0", checked := Try.checked }
namespace Rows
def none {H : Type} : Left H := { results := [], args := [] }

/-- 'landmarklaw16.WeakWindows': WHATEVER THE INPUT: true; the input reads as it did. -/
def weakWindowsSpec : ChangeSpec := { name := "weakWindows", fn := fun _ => fun
  | [d1, d2] => { results := [.lit (.bool true)], args := [d1, d2] }
  | _ => none }
def weakWindowsRow : OpenClaim := { program := "ytfjcfpippbnhhaa", sum := "f899b6efbc0f53231e5f00e9f796e09b70537765da8e3d0e1c91ce74a4b030f0", func := "landmark/landmarklaw16.WeakWindows", spec := "weakWindows", unfollowed := true, recurses := true, apart := false }
def WeakWindowsSaid : Prop := weakWindowsRow.holds Try.pinned (OpenSpec.ofChange weakWindowsSpec)

/-- ITS FALSE NEIGHBOUR: 'it returns false'. Refute it at one input. -/
def weakWindowsWrong : ChangeSpec := { name := "weakWindows", fn := fun _ => fun
  | [d1, d2] => { results := [.lit (.bool false)], args := [d1, d2] }
  | _ => none }
def WeakWindowsWrongFalsely : Prop := weakWindowsRow.holds Try.pinned (OpenSpec.ofChange weakWindowsWrong)

/-- 'landmarklaw16.WeakTimes': WHATEVER THE INPUT: true; the input reads as it did. -/
def weakTimesSpec : ChangeSpec := { name := "weakTimes", fn := fun _ => fun
  | [d1, d2, d3] => { results := [.lit (.bool true)], args := [d1, d2, d3] }
  | _ => none }
def weakTimesRow : OpenClaim := { program := "ytfjcfpippbnhhaa", sum := "f899b6efbc0f53231e5f00e9f796e09b70537765da8e3d0e1c91ce74a4b030f0", func := "landmark/landmarklaw16.WeakTimes", spec := "weakTimes", unfollowed := true, recurses := true, apart := false }
def WeakTimesSaid : Prop := weakTimesRow.holds Try.pinned (OpenSpec.ofChange weakTimesSpec)

/-- ITS FALSE NEIGHBOUR: 'it returns false'. Refute it at one input. -/
def weakTimesWrong : ChangeSpec := { name := "weakTimes", fn := fun _ => fun
  | [d1, d2, d3] => { results := [.lit (.bool false)], args := [d1, d2, d3] }
  | _ => none }
def WeakTimesWrongFalsely : Prop := weakTimesRow.holds Try.pinned (OpenSpec.ofChange weakTimesWrong)

/-- 'landmarklaw16.WeakMeans': WHATEVER THE INPUT: true; the input reads as it did. -/
def weakMeansSpec : ChangeSpec := { name := "weakMeans", fn := fun _ => fun
  | [d1, d2, d3, d4, d5, d6, d7] => { results := [.lit (.bool true)], args := [d1, d2, d3, d4, d5, d6, d7] }
  | _ => none }
def weakMeansRow : OpenClaim := { program := "ytfjcfpippbnhhaa", sum := "f899b6efbc0f53231e5f00e9f796e09b70537765da8e3d0e1c91ce74a4b030f0", func := "landmark/landmarklaw16.WeakMeans", spec := "weakMeans", unfollowed := true, recurses := true, apart := false }
def WeakMeansSaid : Prop := weakMeansRow.holds Try.pinned (OpenSpec.ofChange weakMeansSpec)

/-- ITS FALSE NEIGHBOUR: 'it returns false'. Refute it at one input. -/
def weakMeansWrong : ChangeSpec := { name := "weakMeans", fn := fun _ => fun
  | [d1, d2, d3, d4, d5, d6, d7] => { results := [.lit (.bool false)], args := [d1, d2, d3, d4, d5, d6, d7] }
  | _ => none }
def WeakMeansWrongFalsely : Prop := weakMeansRow.holds Try.pinned (OpenSpec.ofChange weakMeansWrong)

/-- 'landmarklaw16.WeakEnds': WHATEVER THE INPUT: true; the input reads as it did. -/
def weakEndsSpec : ChangeSpec := { name := "weakEnds", fn := fun _ => fun
  | [d1, d2, d3] => { results := [.lit (.bool true)], args := [d1, d2, d3] }
  | _ => none }
def weakEndsRow : OpenClaim := { program := "ytfjcfpippbnhhaa", sum := "f899b6efbc0f53231e5f00e9f796e09b70537765da8e3d0e1c91ce74a4b030f0", func := "landmark/landmarklaw16.WeakEnds", spec := "weakEnds", unfollowed := true, recurses := true, apart := false }
def WeakEndsSaid : Prop := weakEndsRow.holds Try.pinned (OpenSpec.ofChange weakEndsSpec)

/-- ITS FALSE NEIGHBOUR: 'it returns false'. Refute it at one input. -/
def weakEndsWrong : ChangeSpec := { name := "weakEnds", fn := fun _ => fun
  | [d1, d2, d3] => { results := [.lit (.bool false)], args := [d1, d2, d3] }
  | _ => none }
def WeakEndsWrongFalsely : Prop := weakEndsRow.holds Try.pinned (OpenSpec.ofChange weakEndsWrong)

/-- 'landmarklaw16.WeakScales': WHATEVER THE INPUT: true; the input reads as it did. -/
def weakScalesSpec : ChangeSpec := { name := "weakScales", fn := fun _ => fun
  | [d1, d2, d3] => { results := [.lit (.bool true)], args := [d1, d2, d3] }
  | _ => none }
def weakScalesRow : OpenClaim := { program := "ytfjcfpippbnhhaa", sum := "f899b6efbc0f53231e5f00e9f796e09b70537765da8e3d0e1c91ce74a4b030f0", func := "landmark/landmarklaw16.WeakScales", spec := "weakScales", unfollowed := true, recurses := true, apart := false }
def WeakScalesSaid : Prop := weakScalesRow.holds Try.pinned (OpenSpec.ofChange weakScalesSpec)

/-- ITS FALSE NEIGHBOUR: 'it returns false'. Refute it at one input. -/
def weakScalesWrong : ChangeSpec := { name := "weakScales", fn := fun _ => fun
  | [d1, d2, d3] => { results := [.lit (.bool false)], args := [d1, d2, d3] }
  | _ => none }
def WeakScalesWrongFalsely : Prop := weakScalesRow.holds Try.pinned (OpenSpec.ofChange weakScalesWrong)

/- THE SECOND FORM. 'bulk': how many values and letters a reading holds, each counted each time it is reached (what is shared counts as often as it is met; a slice's spare places count too). A statement '..UptoSaid' is the law's where the arguments, and the package variables that the reading takes, are together of bulk at most 1048576: NARROWER than '..Said'. Prove '..Said' where nothing that the law and all that it calls make is longer than what came in: it says more and counts as full. Else prove '..UptoSaid'. A law counts once. -/
mutual
def uptoBulk {H : Type} : DataW H → Nat
  | .lit (.string bytes) => bytes.length + 1
  | .lit _ => 1
  | .nil => 1
  | .ptr d => uptoBulk d + 1
  | .slice elems spare => uptoBulkAll elems + uptoBulkAll spare + 1
  | .agg parts => uptoBulkAll parts + 1
  | .iface _ d => uptoBulk d + 1
  | .map entries => uptoBulkEntries entries + 1
  | .held _ => 1
def uptoBulkAll {H : Type} : List (DataW H) → Nat
  | [] => 0
  | d :: r => uptoBulk d + uptoBulkAll r
def uptoBulkEntries {H : Type} : List (Lit × DataW H) → Nat
  | [] => 0
  | x :: r => uptoBulkEntry x + uptoBulkEntries r
def uptoBulkEntry {H : Type} : Lit × DataW H → Nat
  | (.string bytes, d) => bytes.length + uptoBulk d + 1
  | (_, d) => uptoBulk d + 1
 end
def uptoSmall : (H : Type) → List (DataW H) → Bool := fun _ ds => decide (uptoBulkAll ds ≤ 1048576)
def OpenSpec.upto (s : _root_.Go.ChangeSpec) : _root_.Go.OpenSpec := { _root_.Go.OpenSpec.ofChange s with cond := some uptoSmall }

/-- 'landmarklaw16.WeakWindows', WHERE WHAT IT READS IS OF BULK AT MOST 1048576: true; the input reads as it did. -/
def weakWindowsUptoRow : OpenClaim := { program := "ytfjcfpippbnhhaa", sum := "f899b6efbc0f53231e5f00e9f796e09b70537765da8e3d0e1c91ce74a4b030f0", func := "landmark/landmarklaw16.WeakWindows", spec := "weakWindows", unfollowed := true, recurses := true, apart := false, narrowed := true }
def WeakWindowsUptoSaid : Prop := weakWindowsUptoRow.holds Try.pinned (OpenSpec.upto weakWindowsSpec)

/-- 'landmarklaw16.WeakTimes', WHERE WHAT IT READS IS OF BULK AT MOST 1048576: true; the input reads as it did. -/
def weakTimesUptoRow : OpenClaim := { program := "ytfjcfpippbnhhaa", sum := "f899b6efbc0f53231e5f00e9f796e09b70537765da8e3d0e1c91ce74a4b030f0", func := "landmark/landmarklaw16.WeakTimes", spec := "weakTimes", unfollowed := true, recurses := true, apart := false, narrowed := true }
def WeakTimesUptoSaid : Prop := weakTimesUptoRow.holds Try.pinned (OpenSpec.upto weakTimesSpec)

/-- 'landmarklaw16.WeakMeans', WHERE WHAT IT READS IS OF BULK AT MOST 1048576: true; the input reads as it did. -/
def weakMeansUptoRow : OpenClaim := { program := "ytfjcfpippbnhhaa", sum := "f899b6efbc0f53231e5f00e9f796e09b70537765da8e3d0e1c91ce74a4b030f0", func := "landmark/landmarklaw16.WeakMeans", spec := "weakMeans", unfollowed := true, recurses := true, apart := false, narrowed := true }
def WeakMeansUptoSaid : Prop := weakMeansUptoRow.holds Try.pinned (OpenSpec.upto weakMeansSpec)

/-- 'landmarklaw16.WeakEnds', WHERE WHAT IT READS IS OF BULK AT MOST 1048576: true; the input reads as it did. -/
def weakEndsUptoRow : OpenClaim := { program := "ytfjcfpippbnhhaa", sum := "f899b6efbc0f53231e5f00e9f796e09b70537765da8e3d0e1c91ce74a4b030f0", func := "landmark/landmarklaw16.WeakEnds", spec := "weakEnds", unfollowed := true, recurses := true, apart := false, narrowed := true }
def WeakEndsUptoSaid : Prop := weakEndsUptoRow.holds Try.pinned (OpenSpec.upto weakEndsSpec)

/-- 'landmarklaw16.WeakScales', WHERE WHAT IT READS IS OF BULK AT MOST 1048576: true; the input reads as it did. -/
def weakScalesUptoRow : OpenClaim := { program := "ytfjcfpippbnhhaa", sum := "f899b6efbc0f53231e5f00e9f796e09b70537765da8e3d0e1c91ce74a4b030f0", func := "landmark/landmarklaw16.WeakScales", spec := "weakScales", unfollowed := true, recurses := true, apart := false, narrowed := true }
def WeakScalesUptoSaid : Prop := weakScalesUptoRow.holds Try.pinned (OpenSpec.upto weakScalesSpec)

end Rows
end Go.Proofs.Ytfjcfpippbnhhaa
