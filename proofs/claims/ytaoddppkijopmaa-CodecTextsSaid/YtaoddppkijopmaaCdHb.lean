/- Contracts: MayHeader and HeaderBytes of headers without operations. -/
import Derived.Test.YtaoddppkijopmaaCdHd
import Derived.BigFrame
namespace Go.Proofs.Ytaoddppkijopmaa
open Go.ChangeShapes Go.WideShapes Go.ChangeAt Go.RowKit
set_option linter.unusedVariables false
set_option maxRecDepth 100000

theorem mayHeader_zero (l : List UInt8) (sv : Value) (w : World) :
    Calls Try.prog 22 #[.agg (hdV l 0 sv)] w fun x w' => x = .returned (.bool false) ∧ Below w.heap.size w w' := by
  have h0 : (w.alloc (.cells (hdV l 0 sv) 27)).cell? ⟨w.heap.size, 32, none⟩ = some (.int .u64 0) := HdB.new.epoch
  go_enter Try.func22, Try.ntmps22
  go_wp2_with fail
  go_ret
  exact ⟨rfl, (Below.refl _ _).alloc (Nat.le_refl _) _⟩
set_option maxHeartbeats 2000000 in
theorem mayHeader_nil (l : List UInt8) (e : Nat) (A : Option Addr) (c : Nat) (w : World) (h1 : 1 ≤ e) (h2 : e ≤ 4611686018427387904) :
    Calls Try.prog 22 #[.agg (hdV l e (.slice A 0 c))] w fun x w' => x = .returned (.bool true) ∧ Below w.heap.size w w' := by
  have k0 : (w.alloc (.cells (hdV l e (.slice A 0 c)) 27)).cell? ⟨w.heap.size, 32, none⟩ = some (.int .u64 (e : Int)) := HdB.new.epoch
  have k1 : (w.alloc (.cells (hdV l e (.slice A 0 c)) 27)).cell? ⟨w.heap.size, 33, none⟩ = some (.slice A 0 c) := HdB.new.ops
  have d1 : decide ((1 : Int) ≤ (e : Int)) = true := by simp; omega
  have d1' : decide (1 ≤ e) = true := by simpa using h1
  have d2 : decide ((e : Int) ≤ 4611686018427387904) = true := by simp; omega
  have d2' : decide (e ≤ 4611686018427387904) = true := by simpa using h2
  clear h1 h2
  go_enter Try.func22, Try.ntmps22
  go_wp2_with (go_at_call 43; refine (allMay_op_nil A c 23 _).mono ?_; rintro x w1 ⟨rfl, rfl⟩)
  go_ret
  exact ⟨rfl, (Below.refl _ _).alloc (Nat.le_refl _) _⟩
theorem headerBytes_nil (l : List UInt8) (e : Nat) (A : Option Addr) (c : Nat) (w : World) (hl : l.length = 32) (h1 : 1 ≤ e) (h2 : e ≤ 4611686018427387904) :
    Calls Try.prog 8 #[.agg (hdV l e (.slice A 0 c))] w (RowP w (hdL l e 0)) := by
  have b0 : Below w.heap.size w (w.alloc (.cells (hdV l e (.slice A 0 c)) 27)) := (Below.refl _ _).alloc (Nat.le_refl _) _
  have HC := Lib.hid (rowOf_header_ok (hdV l e (.slice A 0 c)) (size_hdV _ _ _) 22 25 (enters_of Try.func22 (by kernel_rfl) rfl) (enters_of Try.func25 (by kernel_rfl) rfl) (hdL l e 0) (w.alloc (.cells (hdV l e (.slice A 0 c)) 27))
    (fun u _ => mayHeader_nil l e A c u h1 h2) (fun u _ => headerRow_nil l e A c u (by omega) hl))
  clear h1 h2 hl
  go_enter Try.func8, Try.ntmps8
  go_wp2_with (first | (refine wpList_load_row rfl 27 (.tmp 1) rfl w.heap.size rfl 27 (hdV l e (.slice A 0 c)) (0, 0) _ (heap_alloc_new w _) Try.underlying27 rfl (size_hdV _ _ _) ?_) | (go_at_call 24; refine HC.out.mono ?_; rintro x w1 ⟨A, c, rfl, hc, ho, b1⟩))
  go_ret2
  exact ⟨A, c, rfl, hc, ho.wide b0.size, b0.trans (b1.mono b0.size)⟩
end Go.Proofs.Ytaoddppkijopmaa
