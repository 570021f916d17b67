/- FfgOrder: lists of any lengths. -/
import Derived.Test.YtcmebeoedagdfaaFfgOrder
namespace Go.Proofs.Ytcmebeoedagdfaa
open Go.ChangeMaps Go.MapKept Go.Maps Go.WideElems Go.RowKit Go.ChangeShapes Go.WideShapes Go.ChangeAt
set_option linter.unusedVariables false
set_option maxRecDepth 100000

set_option maxHeartbeats 4000000 in
theorem ffgOrder_out (w : World) (a : Pt) (A B : Option Addr) (nI cI nO cO : Nat) (h : 30 < nI ∨ 60 < nO) :
    Calls Try.prog 5 #[.agg (pv a), .slice A nI cI, .slice B nO cO] w fun e w' => e = .returned (.bool true) ∧ Below w.heap.size w w' := by
  obtain ⟨W0, hW0⟩ : ∃ W0, W0 = w.alloc (.cells (pv a) 29) := ⟨_, rfl⟩
  have b0 : Below w.heap.size w W0 := by rw [hW0]; exact (Below.refl _ _).alloc (Nat.le_refl _) _
  have HW := Lib.hid hW0
  have B0 := Lib.hid b0
  clear hW0 b0
  by_cases h1 : 30 < nI
  · have d1 : decide ((nI : Int) > 30) = true := by simp; omega
    have d1' : decide (30 < (nI : Int)) = true := by simp; omega
    clear h
    go_enter Try.func5, Try.ntmps5
    go_upto_region 1 with fail
    rw [← HW.out]
    go_wp2_with fail
    refine (known_c W0).mono ?_
    rintro e w3 ⟨rfl, bk⟩
    go_wp2_with fail
    go_ret
    exact ⟨rfl, B0.out.trans (bk.mono B0.out.size)⟩
  · have h2 : 60 < nO := by omega
    have d1 : decide ((nI : Int) > 30) = false := by simp; omega
    have d1' : decide (30 < (nI : Int)) = false := by simp; omega
    have d2 : decide ((nO : Int) > 60) = true := by simp; omega
    have d2' : decide (60 < (nO : Int)) = true := by simp; omega
    clear h
    go_enter Try.func5, Try.ntmps5
    go_upto_region 1 with fail
    rw [← HW.out]
    go_wp2_with fail
    refine (known_c W0).mono ?_
    rintro e w3 ⟨rfl, bk⟩
    go_wp2_with fail
    go_ret
    exact ⟨rfl, B0.out.trans (bk.mono B0.out.size)⟩
theorem ffgOrder_any (w : World) (a : Pt) (A B : Option Addr) (L : List Lk) (O : List Int) (cI cO : Nat) (hP : ∀ u, Below w.heap.size w u → ∀ (k : Nat) x, L[k]? = some x → ∃ b o, A = some ⟨b, o, none⟩ ∧ u.rangeAt b (o + k * 66) (lC x)) (hO : ∀ u, Below w.heap.size w u → ∀ (i : Nat) z, O[i]? = some z → ∃ xb, B = some xb ∧ u.cell? (xb.add i) = some (.int .i64 z)) :
    Calls Try.prog 5 #[.agg (pv a), .slice A L.length cI, .slice B O.length cO] w fun e w' => e = .returned (.bool true) ∧ Below w.heap.size w w' := by
  by_cases h : 30 < L.length ∨ 60 < O.length
  · exact ffgOrder_out w a A B _ cI _ cO h
  · exact ffgOrder_main w a A B _ cI _ cO L O rfl (by omega) rfl (by omega) hP hO
end Go.Proofs.Ytcmebeoedagdfaa
