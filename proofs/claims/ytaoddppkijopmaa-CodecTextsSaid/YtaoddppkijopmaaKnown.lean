/- Contracts: Left, Failed, End, Read, Join, Blob; and that the chapter's rows are answered. -/
import Derived.Test.YtaoddppkijopmaaRdr
namespace Go.Proofs.Ytaoddppkijopmaa
open Go.ChangeShapes Go.WideShapes Go.ChangeAt Go.RowKit
set_option linter.unusedVariables false

theorem failed_at (lo p : Nat) (st : Option (List UInt8)) (w : World) (h : RS w lo p st) :
    Calls Try.prog 81 #[.pointer (some ⟨p, 0, none⟩)] w fun e w' => e = .returned (.bool st.isNone) ∧ w = w' := by
  cases st with
  | none => exact failed_yes p w (cells2 h).2.1
  | some l => obtain ⟨A, h, _⟩ := h; exact failed_no p w (cells2 h).2.1





/-- What Read answers: a reader of a copy. -/
def ReadP (w : World) (l : List UInt8) (e : Ending) (w' : World) : Prop :=
  ∃ p, e = .returned (.pointer (some ⟨p, 0, none⟩)) ∧ w.heap.size ≤ p ∧ RS w' w.heap.size p (some l) ∧ Below w.heap.size w w'

theorem read_any (A : Option Addr) (c : Nat) (l : List UInt8) (w : World) (h : Rd w 0 w.heap.size A l) (hl : l.length ≤ 140737488355328) :
    Calls Try.prog 55 #[.slice A l.length c] w (ReadP w l) := by
  go_enter Try.func55, Try.ntmps55
  go_wp2_with (go_at_call 75; refine (own_any A c l w h hl).mono ?_; rintro e w1 ⟨A1, rfl, ho, hb⟩)
  go_ret
  refine ⟨w1.heap.size, rfl, hb.size, ⟨A1, heap_alloc_new w1 _, ho.rd.alloc (Nat.le_refl _) _, hl⟩, hb.alloc hb.size _⟩
end Go.Proofs.Ytaoddppkijopmaa
