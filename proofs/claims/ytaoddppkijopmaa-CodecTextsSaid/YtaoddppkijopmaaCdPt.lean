/- Contracts: a checkpoint's bytes. -/
import Derived.Test.YtaoddppkijopmaaCdRow
import Derived.Deep.RegionWith
namespace Go.Proofs.Ytaoddppkijopmaa
open Go.ChangeShapes Go.WideShapes Go.ChangeAt Go.RowKit
set_option linter.unusedVariables false

/-- A checkpoint's bytes. -/
def ptL (e : Nat) (l : List UInt8) : List UInt8 := putL e 8 ++ l
theorem ptL_length (e : Nat) (l : List UInt8) (hl : l.length = 32) : (ptL e l).length = 40 := by simp [ptL, putL_length, hl]

set_option maxHeartbeats 2000000 in
theorem pointRow_c (e : Nat) (l : List UInt8) (w : World) (he : e < 18446744073709551616) (hl : l.length = 32) :
    Calls Try.prog 42 #[.agg (ptV e l)] w (NewP w (ptL e l)) := by
  have h0 := (PtB.new (w := w) (e := e) (l := l)).epoch
  have HR : Hid (Rd (w.alloc (.cells (ptV e l) 29)).drew 0 (w.heap.size + 1) (some ⟨w.heap.size, 1, none⟩) l) := (PtB.new (w := w) (e := e) (l := l)).rd hl (lo := 0) (hi := w.heap.size + 1) (Nat.zero_le _) (by omega)
  have HL := Lib.hid hl
  clear hl
  go_enter Try.func42, Try.ntmps42
  go_wp2_with fail
  go_region_with (first
    | (go_at_call 51; refine (numberRow_c e 8 _ (by omega) (by omega) he (by simpa using he)).mono ?_; rintro x w1 ⟨A1, c1, rfl, hc1, o1, b1⟩)
    | (go_at_call 50; refine (join2 _ _ _ _ _ _ (putL e 8) l _ rfl HL.out.symm (o1.rd.wide (Nat.zero_le _) (Nat.le_refl _)) ((HR.out.below b1 (by simp)).wide (Nat.zero_le _) (by have := b1.size; simp at this; omega)) (by rw [putL_length, HL.out]; omega)).mono ?_; rintro x w2 ⟨A2, c2, rfl, hc2, o2, b2⟩))
  go_wp2_with fail
  go_ret
  have b0 : Below w.heap.size w (w.alloc (.cells (ptV e l) 29)).drew := ((Below.refl _ _).alloc (Nat.le_refl _) _).drew
  have b3 := b0.trans (b1.mono b0.size)
  exact ⟨A2, c2, congrArg (fun n => Ending.returned (.slice A2 n c2)) (by rw [ptL, List.length_append]), hc2, o2.wide b3.size, b3.trans (b2.mono b3.size)⟩

/-- A checkpoint's bytes, or the refusal. -/
theorem pointBytes_ok (e : Nat) (l : List UInt8) (w : World) (he : e ≤ 4611686018427387904) (hl : l.length = 32) :
    Calls Try.prog 21 #[.agg (ptV e l)] w (RowP w (ptL e l)) := by
  have b0 : Below w.heap.size w (w.alloc (.cells (ptV e l) 29)) := (Below.refl _ _).alloc (Nat.le_refl _) _
  have HC := Lib.hid (rowOf_point_ok (ptV e l) (size_ptV e l) 41 42 (enters_of Try.func41 (by kernel_rfl) rfl) (enters_of Try.func42 (by kernel_rfl) rfl) (ptL e l) (w.alloc (.cells (ptV e l) 29))
    (fun u _ => by have h := mayPoint_c e l u; rwa [show decide (e ≤ 4611686018427387904) = true by simpa using he] at h) (fun u _ => pointRow_c e l u (by omega) hl))
  clear he hl
  go_enter Try.func21, Try.ntmps21
  go_wp2_with (first | (refine wpList_load_row rfl 29 (.tmp 1) rfl w.heap.size rfl 29 (ptV e l) (0, 0) _ (heap_alloc_new w _) Try.underlying29 rfl (size_ptV e l) ?_) | (go_at_call 40; refine HC.out.mono ?_; rintro x w1 ⟨A, c, rfl, hc, ho, b1⟩))
  go_ret2
  exact ⟨A, c, rfl, hc, ho.wide b0.size, b0.trans (b1.mono b0.size)⟩
theorem pointBytes_no (e : Nat) (l : List UInt8) (w : World) (he : 4611686018427387904 < e) :
    Calls Try.prog 21 #[.agg (ptV e l)] w (NoP w) := by
  have b0 : Below w.heap.size w (w.alloc (.cells (ptV e l) 29)) := (Below.refl _ _).alloc (Nat.le_refl _) _
  have HC := Lib.hid (rowOf_point_no (ptV e l) (size_ptV e l) 41 42 (enters_of Try.func41 (by kernel_rfl) rfl) (w.alloc (.cells (ptV e l) 29))
    (fun u _ => by have h := mayPoint_c e l u; rwa [show decide (e ≤ 4611686018427387904) = false by simpa using he] at h))
  clear he
  go_enter Try.func21, Try.ntmps21
  go_wp2_with (first | (refine wpList_load_row rfl 29 (.tmp 1) rfl w.heap.size rfl 29 (ptV e l) (0, 0) _ (heap_alloc_new w _) Try.underlying29 rfl (size_ptV e l) ?_) | (go_at_call 40; refine HC.out.mono ?_; rintro x w1 ⟨rfl, b1⟩))
  go_ret2
  exact ⟨rfl, b0.trans (b1.mono b0.size)⟩
end Go.Proofs.Ytaoddppkijopmaa
