/- Contracts of wire's smallest functions: a width, a reader's state. -/
import Derived.Test.YtaoddppkijopmaaRows
import Derived.WalkKit
import Derived.ProofKit
import Derived.OpenShut
import Derived.Below
import Derived.Lib.Hide
import Derived.Outline
import Derived.WalkSpells
import Derived.WalkLawsBesides
namespace Go.Proofs.Ytaoddppkijopmaa
open Go.ChangeShapes Go.WideShapes Go.ChangeAt Go.RowKit
set_option linter.unusedVariables false

def widthB (n : Int) : Bool := decide (1 ≤ n ∧ n ≤ 8)

theorem isWidth_any (n : Int) (w : World) :
    Calls Try.prog 77 #[.int .i64 n] w fun e w' => e = .returned (.bool (widthB n)) ∧ w = w' := by
  by_cases h1 : 1 ≤ n
  · by_cases h2 : n ≤ 8
    · have h1' : decide (1 ≤ n) = true := by simpa using h1
      have h2' : decide (n ≤ 8) = true := by simpa using h2
      have Hf := Lib.hid (show widthB n = true by simp [widthB, h1, h2])
      go_enter Try.func77, Try.ntmps77
      go_wp2
      go_ret
      exact ⟨by rw [Hf.out]; rfl, rfl⟩
    · have h1' : decide (1 ≤ n) = true := by simpa using h1
      have h2' : decide (n ≤ 8) = false := by simpa using h2
      have Hf := Lib.hid (show widthB n = false by simp [widthB, h1, h2])
      go_enter Try.func77, Try.ntmps77
      go_wp2
      go_ret
      exact ⟨by rw [Hf.out]; rfl, rfl⟩
  · have h1' : decide (1 ≤ n) = false := by simpa using h1
    have Hf := Lib.hid (show widthB n = false by simp [widthB, h1])
    go_enter Try.func77, Try.ntmps77
    go_wp2
    go_ret
    exact ⟨by rw [Hf.out]; rfl, rfl⟩


/-- A reader that is there: its rest and whether it is whole. -/
theorem failed_nil (w : World) :
    Calls Try.prog 81 #[.pointer none] w fun e w' => e = .returned (.bool true) ∧ w = w' := by
  go_enter Try.func81, Try.ntmps81
  go_wp2
  go_ret
  exact ⟨rfl, rfl⟩

theorem failed_no (p : Nat) (w : World) (h1 : w.cell? ⟨p, 1, none⟩ = some (.bool true)) :
    Calls Try.prog 81 #[.pointer (some ⟨p, 0, none⟩)] w fun e w' => e = .returned (.bool false) ∧ w = w' := by
  go_enter Try.func81, Try.ntmps81
  go_wp2
  go_ret
  exact ⟨rfl, rfl⟩

theorem failed_yes (p : Nat) (w : World) (h1 : w.cell? ⟨p, 1, none⟩ = some (.bool false)) :
    Calls Try.prog 81 #[.pointer (some ⟨p, 0, none⟩)] w fun e w' => e = .returned (.bool true) ∧ w = w' := by
  go_enter Try.func81, Try.ntmps81
  go_wp2
  go_ret
  exact ⟨rfl, rfl⟩
end Go.Proofs.Ytaoddppkijopmaa
