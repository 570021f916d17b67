/- A loop, a region of a function's text, by its place. -/
import Derived.Test.YtaoddppkijopmaaWoFill
namespace Go.Proofs.Ytaoddppkijopmaa
/-- The loops of a text, in its order. -/
def loopsOf : Code → List Code
  | .seq a b => loopsOf a ++ loopsOf b
  | .cond _ a b => loopsOf a ++ loopsOf b
  | .block _ c => loopsOf c
  | .loop c => .loop c :: loopsOf c
  | .scope c => loopsOf c
  | _ => []
/-- The region of a number. -/
def regionOf (i : Nat) : Code → Option Code
  | .region id ops d => if id = i then some (.region id ops d) else none
  | .seq a b => match regionOf i a with
    | some c => some c
    | none => regionOf i b
  | .cond _ a b => match regionOf i a with
    | some c => some c
    | none => regionOf i b
  | .block _ c => regionOf i c
  | .loop c => regionOf i c
  | .scope c => regionOf i c
  | _ => none
end Go.Proofs.Ytaoddppkijopmaa
