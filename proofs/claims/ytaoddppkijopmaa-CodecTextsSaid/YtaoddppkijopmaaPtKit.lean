/- Checkpoints as rows of cells. -/
import Derived.Test.YtaoddppkijopmaaWoFill
import Derived.Deep.MidRow
import Derived.ChangeKeysEq
import Derived.Laws.StructEq
namespace Go.Proofs.Ytaoddppkijopmaa
open Go.ChangeShapes Go.WideShapes Go.ChangeAt Go.RowKit
set_option linter.unusedVariables false

/-- A checkpoint's cells: its epoch, its name. -/
def ptF (e : Nat) (l : List UInt8) : Nat → Value
  | 0 => .int .u64 (e : Int)
  | i + 1 => bv (l.getD i 0)
def ptV (e : Nat) (l : List UInt8) : Array Value := rowV 33 (ptF e l)
theorem ptF_one (e : Nat) (l : List UInt8) (i : Nat) : (ptF e l i).oneCell' = true := by
  cases i <;> rfl
theorem size_point : (Try.prog.info? 29).map (·.size) = some 33 := by kernel_rfl
theorem size_hashW : (Try.prog.info? 23).map (·.size) = some 32 := by kernel_rfl
theorem size_ptV (e : Nat) (l : List UInt8) : (Try.prog.info? 29).map (·.size) = some (ptV e l).size := by unfold ptV; rw [rowV_size]; exact size_point
theorem size_hashVW (f : Nat → Value) : (Try.prog.info? 23).map (·.size) = some (rowV 32 f).size := by rw [rowV_size]; exact size_hashW
/-- A checkpoint in a block of its own. -/
def PtB (g e : Nat) (l : List UInt8) (w : World) : Prop := Fill g 29 33 33 (ptF e l) w
section
variable {g e : Nat} {l : List UInt8} {w w' : World}
theorem PtB.new : PtB w.heap.size e l (w.alloc (.cells (ptV e l) 29)) := Fill.of_row (heap_alloc_new w _)
theorem PtB.below {B : Nat} (h : PtB g e l w) (hb : Below B w w') (hg : g < B) : PtB g e l w' := Fill.below h hb hg
theorem PtB.epoch (h : PtB g e l w) : w.cell? ⟨g, 0, none⟩ = some (.int .u64 (e : Int)) := Fill.at_ h 0 (by omega)
theorem PtB.rd (h : PtB g e l w) (hl : l.length = 32) {lo hi : Nat} (h1 : lo ≤ g) (h2 : g < hi) : Rd w lo hi (some ⟨g, 1, none⟩) l := fun _ =>
  ⟨g, 1, rfl, h1, h2, fun j x hx => by
    have hj : j < 32 := by
      rcases Nat.lt_or_ge j 32 with h | h
      · exact h
      · rw [List.getElem?_eq_none (by omega)] at hx; cases hx
    have := Fill.at_ h (j + 1) (by omega)
    rw [show 1 + j = j + 1 by omega, this]
    show some (bv (l.getD j 0)) = _
    rw [List.getD_eq_getElem?_getD, hx]
    rfl⟩
theorem PtB.lt (h : PtB g e l w) : g < w.heap.size := Fill.lt h
theorem PtB.row (h : PtB g e l w) : w.heap[g]? = some (.cells (ptV e l) 29 (0, 0)) := Fill.done h
theorem PtB.alloc (h : PtB g e l w) (o : Obj) : PtB g e l (w.alloc o) := h.below ((Below.refl w.heap.size w).alloc (Nat.le_refl _) o) h.lt
end
theorem mayPoint_c (e : Nat) (l : List UInt8) (w : World) :
    Calls Try.prog 41 #[.agg (ptV e l)] w fun x w' => x = .returned (.bool (decide (e ≤ 4611686018427387904))) ∧ Below w.heap.size w w' := by
  have h0 := (PtB.new (w := w) (e := e) (l := l)).epoch
  go_enter Try.func41, Try.ntmps41
  go_wp2_with fail
  go_ret
  exact ⟨congrArg (fun b => Ending.returned (.bool b)) (by simp; omega), (Below.refl _ _).alloc (Nat.le_refl _) _⟩
end Go.Proofs.Ytaoddppkijopmaa
