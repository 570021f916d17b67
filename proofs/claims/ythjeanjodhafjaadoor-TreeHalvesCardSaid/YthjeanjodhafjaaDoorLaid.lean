/- From the variables that the rows list to what the walks ask of them. -/
import Derived.Test.YthjeanjodhafjaaDoorSha
import Derived.Test.YthjeanjodhafjaaDoorTie
import Derived.Lib.LaidTab
import Derived.LaidMore
import Derived.ProofKit
import Derived.OpenShut
import Derived.Stop.Joined
import Derived.Stop.LaidErr
namespace Go.Proofs.YthjeanjodhafjaaDoor
open Go.ChangeShapes Go.WideShapes Go.ChangeAt Go.RowKit
set_option linter.unusedVariables false

abbrev laidL : List (String × DataW Unit) := [("landmark/sha.start", Rows.laid_landmark_sha_start), ("landmark/sha.constants", Rows.laid_landmark_sha_constants)]
theorem laid_start : (Rows.laid_landmark_sha_start : DataW Unit) = Lib.tabData .u32 (hL.map fun n => ((n : Nat) : Int)) := rfl
theorem laid_constants : (Rows.laid_landmark_sha_constants : DataW Unit) = Lib.tabData .u32 (kL.map fun n => ((n : Nat) : Int)) := rfl
theorem gS : Tryd.prog.globalNamed "landmark/sha.start" = some 0 := by kernel_rfl
theorem gC : Tryd.prog.globalNamed "landmark/sha.constants" = some 1 := by kernel_rfl
theorem tS : (Tryd.prog.globals[0]?).map (·.type) = some 50 := by kernel_rfl
theorem tC : (Tryd.prog.globals[1]?).map (·.type) = some 51 := by kernel_rfl
theorem c32 : Tryd.prog.cellsOf 49 = 1 := by kernel_rfl
theorem c8 : Tryd.prog.cellsOf 50 = 8 := by kernel_rfl
theorem c64 : Tryd.prog.cellsOf 51 = 64 := by kernel_rfl

theorem tabs_of_laid {W : World} (h : laidMetH Tryd.prog laidL W) : Tabs W := by
  rw [MakeChecks.laidMetH_plain _ _ _ (by kernel_rfl)] at h
  unfold laidL at h
  rw [laid_start, laid_constants] at h
  have hS := Lib.tabIs_of_head gS tS Tryd.underlying50 Tryd.underlying49 c32 c8 h
  have hC := Lib.tabIs_of_head gC tC Tryd.underlying51 Tryd.underlying49 c32 c64 (laidMet.tail h)
  have k1 : ∀ i, i < 8 → W.cell? ⟨0, i, none⟩ = some (rv (hN i)) := fun i hi => by
    have := hS.cell gS i (by rw [List.length_map]; exact hi)
    rw [this]
    unfold hN rv
    rw [List.getD_eq_getElem?_getD, List.getElem?_map, List.getElem?_eq_getElem (by exact hi), List.getD_eq_getElem?_getD, List.getElem?_eq_getElem (by exact hi)]
    rfl
  have k2 : ∀ i, i < 64 → W.cell? ⟨1, i, none⟩ = some (rv (kN i)) := fun i hi => by
    have := hC.cell gC i (by rw [List.length_map]; exact hi)
    rw [this]
    unfold kN rv
    rw [List.getD_eq_getElem?_getD, List.getElem?_map, List.getElem?_eq_getElem (by exact hi), List.getD_eq_getElem?_getD, List.getElem?_eq_getElem (by exact hi)]
    rfl
  have lt : ∀ (g : Nat) (v : Value), W.cell? ⟨g, 0, none⟩ = some v → g < W.heap.size := fun g v hv => by
    rcases Nat.lt_or_ge g W.heap.size with h | h
    · exact h
    · simp [World.cell?, Array.getElem?_eq_none h] at hv
  exact ⟨k1, k2, lt _ _ (k1 0 (by omega)), lt _ _ (k2 0 (by omega))⟩

theorem door_met (os : Os) (args : Array Value) : laidMetH Tryd.prog laidL ((World.doorLaid Tryd.prog 19 os).forCall (fun _ _ => 0) ⟨#[], args, []⟩).memory :=
  laidMetH_of_parts3 (fuel := 8) (laidMet_of_run' 8 (by kernel_rfl) (by kernel_rfl)) (by kernel_rfl) (by kernel_rfl)
theorem own_knob : ownKnob Tryd.prog.godebug = none := by kernel_rfl
theorem laid_out : laidOutB Tryd.prog = true := by kernel_rfl
end Go.Proofs.YthjeanjodhafjaaDoor
