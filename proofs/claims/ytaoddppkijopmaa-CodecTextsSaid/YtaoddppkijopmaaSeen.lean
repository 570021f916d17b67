/- The chapter's own rows are answered as it says: 'known' answers true, and changes nothing that was there. -/
import Derived.Test.YtaoddppkijopmaaJoin
import Derived.Laws.IdiomStrings
import Derived.Lib.SlBytesConst
import Derived.Laws.BytesArg
namespace Go.Proofs.Ytaoddppkijopmaa
open Go.ChangeShapes Go.WideShapes Go.ChangeAt Go.RowKit
set_option linter.unusedVariables false

/-- A string of these bytes. -/
def strOf (l : List UInt8) : Value := .string ⟨l.toArray⟩
theorem run_str {w : World} {lo hi : Nat} {A : Option Addr} {l : List UInt8} (h : Rd w lo hi A l) (n c : Nat) (e : n = l.length) :
    (convert 30 9 (.slice A n c)).run Try.prog w = .ok (strOf l) w := by
  subst e
  rcases A with _ | ad
  · have hl : l = [] := by
      rcases l with _ | ⟨x, l⟩
      · rfl
      · obtain ⟨b, off, e, _⟩ := h (by simp)
        cases e
    subst hl
    exact run_convert_bytes_nil w 30 5 Try.underlying30 Try.underlying5 _ c 9 Try.underlying9
  · refine run_convert_bytes_back w 30 9 5 ad c l Try.underlying30 Try.underlying5 Try.underlying9 (fun j hj => ?_)
    obtain ⟨b, off, e, _, _, hcell⟩ := h (by omega)
    injection e with e
    subst e
    have hadd : (⟨b, off, none⟩ : Addr).add j = ⟨b, off + j, none⟩ := by
      unfold Addr.add
      split
      · next h0 => subst h0; rfl
      · rfl
    rw [hadd]
    exact hcell j _ (List.getElem?_eq_getElem hj)

theorem Rd.lit (w : World) (l : List UInt8) (fr : Nat × Nat) : Rd (w.alloc (.cells (l.map bv).toArray 5 fr)) 0 (w.heap.size + 1) (some ⟨w.heap.size, 0, none⟩) l := fun hn => by
  refine ⟨w.heap.size, 0, rfl, Nat.zero_le _, by omega, fun j x hx => ?_⟩
  rw [Nat.zero_add, cell_of_row _ w.heap.size j _ _ fr (heap_alloc_new w _)]
  simp [hx]

end Go.Proofs.Ytaoddppkijopmaa
