/- Contracts: operations; a deposit of nothing may not be. -/
import Derived.Test.YtaoddppkijopmaaCdHd
import Derived.Deep.QuietTactic
import Derived.BigQuiet
namespace Go.Proofs.Ytaoddppkijopmaa
open Go.ChangeShapes Go.WideShapes Go.ChangeAt Go.RowKit
set_option linter.unusedVariables false
set_option maxRecDepth 100000

/-- An operation's cells: its kind, its key, its stake, its validator, its evidence's slice. -/
def opF (k : Int) (l : List UInt8) (s : Nat) (v : Int) (sv : Value) (i : Nat) : Value :=
  if i = 0 then .int .i64 k else if i < 33 then bv (l.getD (i - 1) 0) else if i = 33 then .int .u64 (s : Int) else if i = 34 then .int .i64 v else sv
def opV (k : Int) (l : List UInt8) (s : Nat) (v : Int) (sv : Value) : Array Value := rowV 36 (opF k l s v sv)
theorem size_op : (Try.prog.info? 53).map (·.size) = some 36 := by kernel_rfl
theorem size_opV (k : Int) (l : List UInt8) (s : Nat) (v : Int) (sv : Value) : (Try.prog.info? 53).map (·.size) = some (opV k l s v sv).size := by unfold opV; rw [rowV_size]; exact size_op
theorem built_op1 (k : Int) : Try.prog.built 53 [(0, .int .i64 k)] = some (opV k zeros 0 0 (.slice none 0 0)) := by kernel_rfl
def OpB (g : Nat) (k : Int) (l : List UInt8) (s : Nat) (v : Int) (sv : Value) (w : World) : Prop := Fill g 53 36 36 (opF k l s v sv) w
def hsC (l : List UInt8) : List Value := (List.range 32).map (hF l)
theorem hsC_arr (l : List UInt8) : (hsC l).toArray = hashV l := rfl
section
variable {g : Nat} {k : Int} {l : List UInt8} {s : Nat} {v : Int} {sv : Value} {w w' : World}
theorem OpB.new : OpB w.heap.size k l s v sv (w.alloc (.cells (opV k l s v sv) 53)) := Fill.of_row (heap_alloc_new w _)
theorem OpB.kind (h : OpB g k l s v sv w) : w.cell? ⟨g, 0, none⟩ = some (.int .i64 k) := Fill.at_ h 0 (by omega)
theorem OpB.stake (h : OpB g k l s v sv w) : w.cell? ⟨g, 33, none⟩ = some (.int .u64 (s : Int)) := Fill.at_ h 33 (by omega)
theorem OpB.val (h : OpB g k l s v sv w) : w.cell? ⟨g, 34, none⟩ = some (.int .i64 v) := Fill.at_ h 34 (by omega)
theorem OpB.ev (h : OpB g k l s v sv w) : w.cell? ⟨g, 35, none⟩ = some sv := Fill.at_ h 35 (by omega)
theorem OpB.below {B : Nat} (h : OpB g k l s v sv w) (hb : Below B w w') (hg : g < B) : OpB g k l s v sv w' := Fill.below h hb hg
theorem OpB.lt (h : OpB g k l s v sv w) : g < w.heap.size := Fill.lt h
theorem OpB.key (h : OpB g k l s v sv w) : w.rangeAt g 1 (hsC l) := fun j u hu => by
  have hj : j < 32 := by
    rcases Nat.lt_or_ge j 32 with h | h
    · exact h
    · rw [List.getElem?_eq_none (by simp [hsC]; omega)] at hu; cases hu
  unfold hsC at hu
  rw [List.getElem?_map, List.getElem?_range hj] at hu
  have := Fill.at_ h (1 + j) (by omega)
  rw [this, ← hu]
  unfold opF
  rw [if_neg (by omega), if_pos (by omega), show 1 + j - 1 = j by omega]
  rfl
end
theorem named_1 (w : World) : Calls Try.prog 44 #[.int .i64 1] w fun e w' => e = .returned (.int .u64 6) ∧ w = w' := by
  go_enter Try.func44, Try.ntmps44
  go_wp2
  go_ret
  exact ⟨rfl, rfl⟩
theorem has_61 (w : World) : Calls Try.prog 46 #[.int .u64 6, .int .u64 1] w fun e w' => e = .returned (.bool false) ∧ w = w' := by
  go_enter Try.func46, Try.ntmps46
  go_wp2
  go_ret
  exact ⟨rfl, rfl⟩
theorem has_62 (w : World) : Calls Try.prog 46 #[.int .u64 6, .int .u64 2] w fun e w' => e = .returned (.bool true) ∧ w = w' := by
  go_enter Try.func46, Try.ntmps46
  go_wp2
  go_ret
  exact ⟨rfl, rfl⟩
theorem has_64 (w : World) : Calls Try.prog 46 #[.int .u64 6, .int .u64 4] w fun e w' => e = .returned (.bool true) ∧ w = w' := by
  go_enter Try.func46, Try.ntmps46
  go_wp2
  go_ret
  exact ⟨rfl, rfl⟩
/-- What the closure answers: the test of a part that is named, else whether it is zero. -/
theorem right_yes (m p : Int) (z y : Bool) (q : Nat) (w : World) (hq : w.cell? ⟨q, 0, none⟩ = some (.int .u64 m)) (hh : ∀ u, Calls Try.prog 46 #[.int .u64 m, .int .u64 p] u fun e w' => e = .returned (.bool true) ∧ u = w') :
    Calls Try.prog 45 #[.int .u64 p, .bool z, .bool y, .pointer (some ⟨q, 0, none⟩)] w fun e w' => e = .returned (.bool y) ∧ w = w' := by
  have HH := Lib.hid hh
  clear hh
  go_enter Try.func45, Try.ntmps45
  go_wp2_with (go_at_call 46; refine (HH.out _).mono ?_; rintro e w1 ⟨rfl, rfl⟩)
  go_ret
  exact ⟨rfl, rfl⟩
theorem right_no (m p : Int) (z y : Bool) (q : Nat) (w : World) (hq : w.cell? ⟨q, 0, none⟩ = some (.int .u64 m)) (hh : ∀ u, Calls Try.prog 46 #[.int .u64 m, .int .u64 p] u fun e w' => e = .returned (.bool false) ∧ u = w') :
    Calls Try.prog 45 #[.int .u64 p, .bool z, .bool y, .pointer (some ⟨q, 0, none⟩)] w fun e w' => e = .returned (.bool z) ∧ w = w' := by
  have HH := Lib.hid hh
  clear hh
  go_enter Try.func45, Try.ntmps45
  go_wp2_with (go_at_call 46; refine (HH.out _).mono ?_; rintro e w1 ⟨rfl, rfl⟩)
  go_ret
  exact ⟨rfl, rfl⟩
theorem mayStake_0 (w : World) : Calls Try.prog 48 #[.int .u64 0] w fun e w' => e = .returned (.bool false) ∧ w = w' := by
  go_enter Try.func48, Try.ntmps48
  go_wp2
  go_ret
  exact ⟨rfl, rfl⟩
theorem mayVal_0 (w : World) : Calls Try.prog 47 #[.int .i64 0] w fun e w' => e = .returned (.bool false) ∧ w = w' := mayValidator_c 0 w
end Go.Proofs.Ytaoddppkijopmaa
