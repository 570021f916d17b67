/- From arguments that can be read as data to what the walks of layer 4 ask of them: numbers, bytes. -/
import Derived.Test.YtcemfpbkaahcmaaLiftV
namespace Go.Proofs.Ytcemfpbkaahcmaa
open Go.ChangeShapes Go.WideShapes Go.ChangeAt Go.RowKit Go.Deep
set_option linter.unusedVariables false
set_option maxRecDepth 100000
section
variable {H : Type} {enc : TypeId × Value → H} {W : World}
/-- Numbers that came in. -/
theorem open_ints1 {base : Nat} {v : Value} {d : DataW H} {p : List MemPlace} (hv : Value.okWide Try.prog W .any base 23 v) (h : DataW.Trod enc Try.prog W 0 (fun _ => true) true 23 v d p) :
    ∃ (A : Option Addr) (l : List Int) (c : Nat), v = .slice A l.length c ∧ RdI W W.heap.size A l ∧ l.length ≤ c ∧ c ≤ maxLen := by
  obtain ⟨A, n, c, rfl⟩ := okWide_slice Try.underlying23 hv
  obtain ⟨fuel, hf⟩ := h
  obtain ⟨A', l, c', e, h1, h2, h3⟩ := open_ints_cell (v := .slice A n c) hf
  exact ⟨A', l, c', e, h1, h2, h3⟩
theorem open_bytesM {base : Nat} {v : Value} {d : DataW H} {p : List MemPlace} (hv : Value.okWide Try.prog W .any base 33 v) (h : DataW.Trod enc Try.prog W 0 (fun _ => true) true 33 v d p) :
    ∃ (A : Option Addr) (l : List UInt8) (c : Nat), v = .slice A l.length c ∧ Rd W 0 W.heap.size A l ∧ l.length ≤ c ∧ c ≤ maxLen := by
  obtain ⟨A, n, c, rfl⟩ := okWide_slice Try.underlying33 hv
  obtain ⟨fuel, hf⟩ := h
  obtain ⟨A', l, c', e, h1, h2, h3⟩ := open_bytes_cell (v := .slice A n c) hf
  exact ⟨A', l, c', e, h1, h2, h3⟩
end
end Go.Proofs.Ytcemfpbkaahcmaa
