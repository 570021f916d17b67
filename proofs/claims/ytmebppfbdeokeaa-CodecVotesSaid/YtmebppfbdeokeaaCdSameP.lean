/- Are two votes the same? Plainly. -/
import Derived.Test.YtmebppfbdeokeaaCdMay
namespace Go.Proofs.Ytmebppfbdeokeaa
set_option linter.unusedVariables false

/-- Are two votes the same? -/
def sameVt (n : Int) (e1 : Nat) (l1 : List UInt8) (e2 : Nat) (l2 s : List UInt8) (n' : Int) (e1' : Nat) (l1' : List UInt8) (e2' : Nat) (l2' s' : List UInt8) : Bool :=
  (n == n') && (e1 == e1' && l1 == l1') && (e2 == e2' && l2 == l2') && (s == s')
end Go.Proofs.Ytmebppfbdeokeaa
