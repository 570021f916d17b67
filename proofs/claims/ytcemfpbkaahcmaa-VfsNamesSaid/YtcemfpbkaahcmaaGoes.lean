/- Words for memory: a slice of strings. -/
import Derived.Test.YtcemfpbkaahcmaaGoesP
import Derived.Test.YtcemfpbkaahcmaaRefMay
import Derived.Test.YtcemfpbkaahcmaaSteps
namespace Go.Proofs.Ytcemfpbkaahcmaa
open Go.RowKit Go.Shelf
set_option linter.unusedVariables false

/-- The slice at A reads as these strings, in a block below hi. -/
def RdT (w : World) (hi : Nat) (A : Option Addr) (L : List Str) : Prop :=
  0 < L.length → ∃ b off, A = some ⟨b, off, none⟩ ∧ b < hi ∧ ∀ j s, L[j]? = some s → w.cell? ⟨b, off + j, none⟩ = some (strV s)
theorem RdT.below {w w' : World} {hi B : Nat} {A : Option Addr} {L : List Str} (h : RdT w hi A L) (hb : Below B w w') (hB : hi ≤ B) : RdT w' hi A L := fun hn => by
  obtain ⟨b, off, e, h1, hc⟩ := h hn
  exact ⟨b, off, e, h1, fun j s hs => (hb.cell (p := ⟨b, off + j, none⟩) (by show b < B; omega)).trans (hc j s hs)⟩
theorem RdT.at_ {w : World} {hi : Nat} {A : Option Addr} {L : List Str} (h : RdT w hi A L) {j : Nat} (hj : j < L.length) :
    ∃ b off, A = some ⟨b, off, none⟩ ∧ b < hi ∧ w.cell? ⟨b, off + j, none⟩ = some (strV L[j]) := by
  obtain ⟨b, off, e, h1, hc⟩ := h (by omega)
  exact ⟨b, off, e, h1, hc j _ (List.getElem?_eq_getElem hj)⟩
end Go.Proofs.Ytcemfpbkaahcmaa
