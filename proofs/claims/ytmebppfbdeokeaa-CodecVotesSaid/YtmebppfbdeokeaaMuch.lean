/- Contracts: the reference's Much (at 3000) and Room. -/
import Derived.Test.YtmebppfbdeokeaaPower
namespace Go.Proofs.Ytmebppfbdeokeaa
open Go.ChangeShapes Go.WideShapes Go.ChangeAt Go.RowKit
set_option linter.unusedVariables false

/-- What Much answers: where it says no, there is little. -/
def MuchP (L : List Pc) (w : World) (e : Ending) (w' : World) : Prop := ∃ b : Bool, e = .returned (.bool b) ∧ w = w' ∧ (b = false → L.length + (flat L).length ≤ 3000)

/-- What is left behind k lists. -/
def Lft (L : List Pc) (k : Nat) (z : Int) : Prop := 0 ≤ z → (L.length : Int) + ((flat (L.take k)).length : Int) + z = 3000
theorem Lft.step {L : List Pc} {k : Nat} {z m : Int} (h : Lft L k z) (hk : k < L.length) (h0 : 0 ≤ z) (hz : z ≤ 3000) (hm : m = min (L[k].2.2.length : Int) 3001) : Lft L (k + 1) (z - m) := by
  intro h1
  have := h h0
  rw [flat_take L k hk, List.length_append]
  omega


def roomB (n : Nat) (size : Int) : Bool := decide (1 ≤ size ∧ size ≤ 8 ∧ n < 256 ^ size.toNat)

end Go.Proofs.Ytmebppfbdeokeaa
