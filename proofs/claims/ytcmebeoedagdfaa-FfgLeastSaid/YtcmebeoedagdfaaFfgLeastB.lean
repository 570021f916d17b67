/- FfgLeast: lists of any lengths. -/
import Derived.Test.YtcmebeoedagdfaaFfgLeast
namespace Go.Proofs.Ytcmebeoedagdfaa
open Go.ChangeMaps Go.MapKept Go.Maps Go.WideElems Go.RowKit Go.ChangeShapes Go.WideShapes Go.ChangeAt
set_option linter.unusedVariables false
set_option maxRecDepth 100000

set_option maxHeartbeats 4000000 in
theorem ffgLeast_out (w : World) (a : Pt) (A : Option Addr) (nI cI : Nat) (h : 40 < nI) :
    Calls Try.prog 7 #[.agg (pv a), .slice A nI cI] w fun e w' => e = .returned (.bool true) ∧ Below w.heap.size w w' := by
  obtain ⟨W0, hW0⟩ : ∃ W0, W0 = w.alloc (.cells (pv a) 29) := ⟨_, rfl⟩
  have b0 : Below w.heap.size w W0 := by rw [hW0]; exact (Below.refl _ _).alloc (Nat.le_refl _) _
  have HW := Lib.hid hW0
  have B0 := Lib.hid b0
  have d1 : decide ((nI : Int) > 40) = true := by simp; omega
  clear hW0 b0
  go_enter Try.func7, Try.ntmps7
  go_upto_region 1 with fail
  rw [← HW.out]
  go_wp2_with fail
  refine (known_c W0).mono ?_
  rintro e w3 ⟨rfl, bk⟩
  go_wp2_with fail
  go_ret
  exact ⟨rfl, B0.out.trans (bk.mono B0.out.size)⟩
theorem ffgLeast_any (w : World) (a : Pt) (A : Option Addr) (L : List Lk) (cI : Nat) (hP : ∀ u, Below w.heap.size w u → ∀ (k : Nat) x, L[k]? = some x → ∃ b o, A = some ⟨b, o, none⟩ ∧ u.rangeAt b (o + k * 66) (lC x)) :
    Calls Try.prog 7 #[.agg (pv a), .slice A L.length cI] w fun e w' => e = .returned (.bool true) ∧ Below w.heap.size w w' := by
  by_cases h : 40 < L.length
  · exact ffgLeast_out w a A _ cI h
  · exact ffgLeast_main w a A _ cI L rfl (by omega) hP
end Go.Proofs.Ytcmebeoedagdfaa
