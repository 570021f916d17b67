/- Contracts: a byte's digits; a hash's. -/
import Derived.Test.YtgdiffjobkfmoaaWoKit
namespace Go.Proofs.Ytgdiffjobkfmoaa
open Go.RowKit
set_option linter.unusedVariables false

theorem and3 (x : Nat) (h : x < 256) : bits .and .u8 (x : Int) 3 = (x : Int) % 4 := by
  have : (List.range 256).all (fun x => decide (bits .and .u8 ((x : Nat) : Int) 3 = ((x : Nat) : Int) % 4)) = true := by decide +kernel
  exact of_decide_eq_true (List.all_eq_true.1 this x (List.mem_range.2 h))
def natI (n : Nat) : Value := .int .i64 (n : Int)
theorem size_int4 : (Try.prog.info? 29).map (·.size) = some 4 := by kernel_rfl
/-- A byte's four digits. -/
def fourL (x : Nat) : List Nat := [x / 64 % 4, x / 16 % 4, x / 4 % 4, x % 4]
def fourV (x : Nat) : Array Value := #[natI (x / 64 % 4), natI (x / 16 % 4), natI (x / 4 % 4), natI (x % 4)]
set_option maxHeartbeats 1000000 in
theorem four_c (x : Nat) (hx : x < 256) (w : World) : Calls Try.prog 7 #[.int .u8 (x : Int)] w fun e w' => e = .returned (.agg (fourV x)) ∧ Below w.heap.size w w' := by
  have a1 : bits .and .u8 ((x : Int) / 16) 3 = ((x / 16 % 4 : Nat) : Int) := by have := and3 (x / 16) (by omega); rw [show (((x / 16 : Nat)) : Int) = (x : Int) / 16 by omega] at this; rw [this]; omega
  have a2 : bits .and .u8 ((x : Int) / 4) 3 = ((x / 4 % 4 : Nat) : Int) := by have := and3 (x / 4) (by omega); rw [show (((x / 4 : Nat)) : Int) = (x : Int) / 4 by omega] at this; rw [this]; omega
  have a3 : bits .and .u8 (x : Int) 3 = ((x % 4 : Nat) : Int) := by have := and3 x (by omega); rw [this]; omega
  have e0 : (x : Int) / 64 = ((x / 64 % 4 : Nat) : Int) := by omega
  have hv : (#[Value.int .i64 ((x : Int) / 64), .int .i64 ((x : Int) / 16 % 4), .int .i64 ((x : Int) / 4 % 4), .int .i64 ((x : Int) % 4)] : Array Value) = fourV x := by
    unfold fourV natI
    rw [e0, show (x : Int) / 16 % 4 = ((x / 16 % 4 : Nat) : Int) by omega, show (x : Int) / 4 % 4 = ((x / 4 % 4 : Nat) : Int) by omega, show (x : Int) % 4 = ((x % 4 : Nat) : Int) by omega]
  have HV := Lib.hid hv
  clear hv e0
  go_enter Try.func7, Try.ntmps7
  go_wp2_with fail
  rw [HV.out]
  exact bodyPost_ret (v := .agg (fourV x)) (results_cell_row rfl _ _ w.heap.size 29 (fourV x) (0, 0) _ rfl (heap_alloc_new w _) Try.underlying29 rfl size_int4) rfl ⟨rfl, (Below.refl _ _).alloc (Nat.le_refl _) _⟩
end Go.Proofs.Ytgdiffjobkfmoaa
