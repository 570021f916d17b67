/-
  No cell of these rows narrows 'for every input' (looked for: loops, veiled, ifaces, maps, wideKeys, modest, calm, conditions, laid).
  DERIVED. THE GIVEN ROWS OF THIS SEAT. 4 by the template 'for every input the law returns true; each argument reads behind the call as it read before'; 0 by the template 'total and deterministic' (their statements: YtildenhbcpgiiaaTotals.lean).
  GIVEN WITH THE SEED: the statements are not yours to turn. If you find one false, say at which input.
  Laid BY PROGRAM, IN A SANDBOX (cutbox-rows.mjs): the forced cells as the released guide's own fill.sh prints them over the translation 30e027f945cc5e8f… (all of the seat's roots in one cut). By AI agents, Wed Nov 11 2026. No macro, syntax, notation, axiom, sorry.
-/
import Derived.Test.YtildenhbcpgiiaaChecked
import GoSem.Claim
import GoSem.ClaimJoined
import GoSem.ClaimMapViews
import Derived.JoinedTies
import Derived.KernelRfl
namespace Go.Proofs.Ytildenhbcpgiiaa
/- THE CELL 'sum', in the pinned program and in every row, IS THE sha256 OF THE DUMP (.gsa) THAT YtildenhbcpgiiaaProg.lean LOADS. Nothing in Lean hashes anything: it is a label: what it is worth is what the hold of that sum in a sandbox is worth. -/
noncomputable def Try.pinned : Pinned := { name := "ytildenhbcpgiiaa", sum := "30e027f945cc5e8fd0eb8a07c3ba62730c3eae2cf06849ab27629d110837b150", checked := Try.checked }
namespace Rows
def none {H : Type} : Left H := { results := [], args := [] }

/-- 'landmarklaw14.SlashBreaks': WHATEVER THE INPUT: true; the input reads as it did. -/
def slashBreaksSpec : ChangeSpec := { name := "slashBreaks", fn := fun _ => fun
  | [d1, d2] => { results := [.lit (.bool true)], args := [d1, d2] }
  | _ => none }
def slashBreaksRow : OpenClaim := { program := "ytildenhbcpgiiaa", sum := "30e027f945cc5e8fd0eb8a07c3ba62730c3eae2cf06849ab27629d110837b150", func := "landmark/landmarklaw14.SlashBreaks", spec := "slashBreaks", unfollowed := true, recurses := true, plainKeys := false, apart := false }
def SlashBreaksSaid : Prop := slashBreaksRow.holds Try.pinned (OpenSpec.ofChange slashBreaksSpec)

/-- ITS FALSE NEIGHBOUR: 'it returns false'. Refute it at one input. -/
def slashBreaksWrong : ChangeSpec := { name := "slashBreaks", fn := fun _ => fun
  | [d1, d2] => { results := [.lit (.bool false)], args := [d1, d2] }
  | _ => none }
def SlashBreaksWrongFalsely : Prop := slashBreaksRow.holds Try.pinned (OpenSpec.ofChange slashBreaksWrong)

/-- 'landmarklaw14.SlashFinds': WHATEVER THE INPUT: true; the input reads as it did. -/
def slashFindsSpec : ChangeSpec := { name := "slashFinds", fn := fun _ => fun
  | [d] => { results := [.lit (.bool true)], args := [d] }
  | _ => none }
def slashFindsRow : OpenClaim := { program := "ytildenhbcpgiiaa", sum := "30e027f945cc5e8fd0eb8a07c3ba62730c3eae2cf06849ab27629d110837b150", func := "landmark/landmarklaw14.SlashFinds", spec := "slashFinds", unfollowed := true, recurses := true, plainKeys := false, apart := false }
def SlashFindsSaid : Prop := slashFindsRow.holds Try.pinned (OpenSpec.ofChange slashFindsSpec)

/-- ITS FALSE NEIGHBOUR: 'it returns false'. Refute it at one input. -/
def slashFindsWrong : ChangeSpec := { name := "slashFinds", fn := fun _ => fun
  | [d] => { results := [.lit (.bool false)], args := [d] }
  | _ => none }
def SlashFindsWrongFalsely : Prop := slashFindsRow.holds Try.pinned (OpenSpec.ofChange slashFindsWrong)

/-- 'landmarklaw14.SlashSteps': WHATEVER THE INPUT: true; the input reads as it did. -/
def slashStepsSpec : ChangeSpec := { name := "slashSteps", fn := fun _ => fun
  | [d1, d2, d3] => { results := [.lit (.bool true)], args := [d1, d2, d3] }
  | _ => none }
def slashStepsRow : OpenClaim := { program := "ytildenhbcpgiiaa", sum := "30e027f945cc5e8fd0eb8a07c3ba62730c3eae2cf06849ab27629d110837b150", func := "landmark/landmarklaw14.SlashSteps", spec := "slashSteps", unfollowed := true, recurses := true, plainKeys := false, apart := false }
def SlashStepsSaid : Prop := slashStepsRow.holds Try.pinned (OpenSpec.ofChange slashStepsSpec)

/-- ITS FALSE NEIGHBOUR: 'it returns false'. Refute it at one input. -/
def slashStepsWrong : ChangeSpec := { name := "slashSteps", fn := fun _ => fun
  | [d1, d2, d3] => { results := [.lit (.bool false)], args := [d1, d2, d3] }
  | _ => none }
def SlashStepsWrongFalsely : Prop := slashStepsRow.holds Try.pinned (OpenSpec.ofChange slashStepsWrong)

/-- 'landmarklaw14.SlashNames': WHATEVER THE INPUT: true; the input reads as it did. -/
def slashNamesSpec : ChangeSpec := { name := "slashNames", fn := fun _ => fun
  | [d1, d2] => { results := [.lit (.bool true)], args := [d1, d2] }
  | _ => none }
def slashNamesRow : OpenClaim := { program := "ytildenhbcpgiiaa", sum := "30e027f945cc5e8fd0eb8a07c3ba62730c3eae2cf06849ab27629d110837b150", func := "landmark/landmarklaw14.SlashNames", spec := "slashNames", unfollowed := true, recurses := true, plainKeys := false, apart := false }
def SlashNamesSaid : Prop := slashNamesRow.holds Try.pinned (OpenSpec.ofChange slashNamesSpec)

/-- ITS FALSE NEIGHBOUR: 'it returns false'. Refute it at one input. -/
def slashNamesWrong : ChangeSpec := { name := "slashNames", fn := fun _ => fun
  | [d1, d2] => { results := [.lit (.bool false)], args := [d1, d2] }
  | _ => none }
def SlashNamesWrongFalsely : Prop := slashNamesRow.holds Try.pinned (OpenSpec.ofChange slashNamesWrong)

/- THE SECOND FORM. 'bulk': how many values and letters a reading holds, each counted each time it is reached (what is shared counts as often as it is met; a slice's spare places count too). A statement '..UptoSaid' is the law's where the arguments, and the package variables that the reading takes, are together of bulk at most 1048576: NARROWER than '..Said'. Prove '..Said' where nothing that the law and all that it calls make is longer than what came in: it says more and counts as full. Else prove '..UptoSaid'. A law counts once. -/
mutual
def uptoBulk {H : Type} : DataW H → Nat
  | .lit (.string bytes) => bytes.length + 1
  | .lit _ => 1
  | .nil => 1
  | .ptr d => uptoBulk d + 1
  | .slice elems spare => uptoBulkAll elems + uptoBulkAll spare + 1
  | .agg parts => uptoBulkAll parts + 1
  | .iface _ d => uptoBulk d + 1
  | .map entries => uptoBulkEntries entries + 1
  | .held _ => 1
def uptoBulkAll {H : Type} : List (DataW H) → Nat
  | [] => 0
  | d :: r => uptoBulk d + uptoBulkAll r
def uptoBulkEntries {H : Type} : List (Lit × DataW H) → Nat
  | [] => 0
  | x :: r => uptoBulkEntry x + uptoBulkEntries r
def uptoBulkEntry {H : Type} : Lit × DataW H → Nat
  | (.string bytes, d) => bytes.length + uptoBulk d + 1
  | (_, d) => uptoBulk d + 1
 end
def uptoSmall : (H : Type) → List (DataW H) → Bool := fun _ ds => decide (uptoBulkAll ds ≤ 1048576)
def OpenSpec.upto (s : _root_.Go.ChangeSpec) : _root_.Go.OpenSpec := { _root_.Go.OpenSpec.ofChange s with cond := some uptoSmall }

/-- 'landmarklaw14.SlashBreaks', WHERE WHAT IT READS IS OF BULK AT MOST 1048576: true; the input reads as it did. -/
def slashBreaksUptoRow : OpenClaim := { program := "ytildenhbcpgiiaa", sum := "30e027f945cc5e8fd0eb8a07c3ba62730c3eae2cf06849ab27629d110837b150", func := "landmark/landmarklaw14.SlashBreaks", spec := "slashBreaks", unfollowed := true, recurses := true, plainKeys := false, apart := false, narrowed := true }
def SlashBreaksUptoSaid : Prop := slashBreaksUptoRow.holds Try.pinned (OpenSpec.upto slashBreaksSpec)

/-- 'landmarklaw14.SlashFinds', WHERE WHAT IT READS IS OF BULK AT MOST 1048576: true; the input reads as it did. -/
def slashFindsUptoRow : OpenClaim := { program := "ytildenhbcpgiiaa", sum := "30e027f945cc5e8fd0eb8a07c3ba62730c3eae2cf06849ab27629d110837b150", func := "landmark/landmarklaw14.SlashFinds", spec := "slashFinds", unfollowed := true, recurses := true, plainKeys := false, apart := false, narrowed := true }
def SlashFindsUptoSaid : Prop := slashFindsUptoRow.holds Try.pinned (OpenSpec.upto slashFindsSpec)

/-- 'landmarklaw14.SlashSteps', WHERE WHAT IT READS IS OF BULK AT MOST 1048576: true; the input reads as it did. -/
def slashStepsUptoRow : OpenClaim := { program := "ytildenhbcpgiiaa", sum := "30e027f945cc5e8fd0eb8a07c3ba62730c3eae2cf06849ab27629d110837b150", func := "landmark/landmarklaw14.SlashSteps", spec := "slashSteps", unfollowed := true, recurses := true, plainKeys := false, apart := false, narrowed := true }
def SlashStepsUptoSaid : Prop := slashStepsUptoRow.holds Try.pinned (OpenSpec.upto slashStepsSpec)

/-- 'landmarklaw14.SlashNames', WHERE WHAT IT READS IS OF BULK AT MOST 1048576: true; the input reads as it did. -/
def slashNamesUptoRow : OpenClaim := { program := "ytildenhbcpgiiaa", sum := "30e027f945cc5e8fd0eb8a07c3ba62730c3eae2cf06849ab27629d110837b150", func := "landmark/landmarklaw14.SlashNames", spec := "slashNames", unfollowed := true, recurses := true, plainKeys := false, apart := false, narrowed := true }
def SlashNamesUptoSaid : Prop := slashNamesUptoRow.holds Try.pinned (OpenSpec.upto slashNamesSpec)

end Rows
end Go.Proofs.Ytildenhbcpgiiaa
