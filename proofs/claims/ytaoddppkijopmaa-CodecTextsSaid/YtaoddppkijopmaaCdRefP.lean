/- Contracts: the reference's Point, MayPoint, hash, point. -/
import Derived.Test.YtaoddppkijopmaaCdRPut
import Derived.Test.YtaoddppkijopmaaCdRead
import Derived.Test.YtaoddppkijopmaaCdPt
import Derived.Test.YtaoddppkijopmaaStep
import Derived.Deep.AppendLies
namespace Go.Proofs.Ytaoddppkijopmaa
open Go.ChangeShapes Go.WideShapes Go.ChangeAt Go.RowKit
set_option linter.unusedVariables false
set_option maxRecDepth 100000

theorem refMayPoint_c (e : Nat) (l : List UInt8) (w : World) :
    Calls Try.prog 67 #[.agg (ptV e l)] w fun x w' => x = .returned (.bool (decide (e ≤ 4611686018427387904))) ∧ Below w.heap.size w w' := by
  have h0 := (PtB.new (w := w) (e := e) (l := l)).epoch
  go_enter Try.func67, Try.ntmps67
  go_wp2_with fail
  go_ret
  exact ⟨congrArg (fun b => Ending.returned (.bool b)) (by simp; omega), (Below.refl _ _).alloc (Nat.le_refl _) _⟩

set_option maxHeartbeats 2000000 in
theorem refPointB_c (e : Nat) (l : List UInt8) (w : World) (he : e < 18446744073709551616) (hl : l.length = 32) :
    Calls Try.prog 69 #[.agg (ptV e l)] w (NewP w (ptL e l)) := by
  obtain ⟨j0, hj0, hy0, hy1, hy2⟩ := info_parts byte_info
  obtain ⟨W, hW⟩ : ∃ W, W = w.alloc (.cells (ptV e l) 29) := ⟨_, rfl⟩
  have hb : Below w.heap.size w W := by rw [hW]; exact (Below.refl _ _).alloc (Nat.le_refl _) _
  have p0 : PtB w.heap.size e l W := by rw [hW]; exact PtB.new
  have h0 : W.cell? ⟨w.heap.size, 0, none⟩ = some (.int .u64 (e : Int)) := p0.epoch
  have HR : Hid (Rd W.drew 0 (w.heap.size + 1) (some ⟨w.heap.size, 1, none⟩) l) := p0.rd hl (Nat.zero_le _) (by omega)
  have HS := Lib.hid (show W.heap.size = w.heap.size + 1 by rw [hW]; simp)
  have HC := Lib.hid (refPut_any e 8 W.drew he (by omega))
  have HW := Lib.hid hW
  have HB := Lib.hid hb
  have HL := Lib.hid hl
  clear hW hb p0 hl
  go_enter Try.func69, Try.ntmps69
  go_wp2_with fail
  rw [← HW.out]
  rename_i K hK
  go_region_law (first
    | (refine step_append_rd _ rfl (.tmp 5) (.tmp 7) 30 rfl (w.heap.size + 1) 5 j0 _ Try.underlying30 hj0 hy0 hy1 hy2 rfl _ _ _ rfl HO.out 0 (w.heap.size + 1) _ _ _ l HL.out.symm rfl (HR.out.below HB1.out (by have := HS.out; simp; omega)) (by rw [putL_length, HL.out]; omega) (by have := HB1.out.size; have := HS.out; simp at *; omega) ?_; intro v2 w2 o2 g2)
    | (go_simp; go_at_call 38; refine HC.out.mono ?_; rintro x w1 ⟨A1, c1, rfl, o1, b1⟩
       have HO : Hid (w1.ownsRow (w.heap.size + 1) 5 1 (.slice A1 (putL e 8).length c1) (putL e 8).length ((putL e 8).map bv)) := by rw [← HS.out]; exact o1
       have HB1 := Lib.hid b1
       clear o1 b1))
  all_goals
    apply hK
    clear hK K
    go_wp2_with fail
    go_ret
    obtain ⟨A2, c2, e2, _⟩ := own_form o2
    subst e2
    have hlen : (ptL e l).length = (putL e 8).length + l.length := by simp [ptL]
    have o3 : w2.ownsRow (w.heap.size + 1) 5 1 (.slice A2 ((putL e 8).length + l.length) c2) ((putL e 8).length + l.length) ((ptL e l).map bv) := by rw [ptL, List.map_append]; exact o2
    obtain ⟨h1, _, h3⟩ := Ow.of_own o3
    have b2 : Below w.heap.size w w2 := (HB.out.drew.trans (HB1.out.mono HB.out.size)).grown g2 (Nat.le_trans HB.out.size HB1.out.size) (fun g hg => by have := (HO.out.lt g hg).1; omega)
    exact ⟨A2, c2, congrArg (fun n => Ending.returned (.slice A2 n c2)) hlen.symm, by omega, h1.wide (by omega), b2⟩
end Go.Proofs.Ytaoddppkijopmaa
