/- A string of a slice of bytes that may be nil. -/
import Derived.Test.YtomfgopmgfoecaaMem
import Derived.Laws.IdiomStrings
import Derived.Lib.SlBytesConst
import Derived.Laws.BytesArg
namespace Go.Proofs.Ytomfgopmgfoecaa
open Go.RowKit
set_option linter.unusedVariables false

/-- A string of these bytes. -/
def strOf (l : List UInt8) : Value := .string ⟨l.toArray⟩
theorem run_str {w : World} {lo hi : Nat} {A : Option Addr} {l : List UInt8} (h : Rd w lo hi A l) (n c : Nat) (e : n = l.length) :
    (convert 38 9 (.slice A n c)).run Try.prog w = .ok (strOf l) w := by
  subst e
  rcases A with _ | ad
  · have hl : l = [] := by
      rcases l with _ | ⟨x, l⟩
      · rfl
      · obtain ⟨b, off, e, _⟩ := h (by simp)
        cases e
    subst hl
    exact run_convert_bytes_nil w 38 5 Try.underlying38 Try.underlying5 _ c 9 Try.underlying9
  · refine run_convert_bytes_back w 38 9 5 ad c l Try.underlying38 Try.underlying5 Try.underlying9 (fun j hj => ?_)
    obtain ⟨b, off, e, _, _, hcell⟩ := h (by omega)
    injection e with e
    subst e
    have hadd : (⟨b, off, none⟩ : Addr).add j = ⟨b, off + j, none⟩ := by
      unfold Addr.add
      split
      · next h0 => subst h0; rfl
      · rfl
    rw [hadd]
    exact hcell j _ (List.getElem?_eq_getElem hj)
end Go.Proofs.Ytomfgopmgfoecaa
