/- Contract: Step, of a chain and a step that there are. -/
import Derived.Test.YtgdiffjobkfmoaaDoorRRWoWalk
namespace Go.Proofs.YtgdiffjobkfmoaaDoorRR
open Go.ChangeShapes Go.WideShapes Go.ChangeAt Go.RowKit
set_option linter.unusedVariables false

set_option maxHeartbeats 4000000 in
theorem stepOf_c (x : List UInt8) (hx : x.length = 16) (i k : Nat) (hi : i < 68) (hk : k < 3) (w : World) (ht : Tabs w) :
    Calls Tryd.prog 11 #[.agg (rowV 16 (hF x)), .int .i64 (i : Int), .int .i64 (k : Int)] w fun e w' => e = .returned (.tuple #[.agg (rowV 16 (hF (stepL i k x))), .int .i64 0]) ∧ Below w.heap.size w w' := by
  have hz16 := zero_node
  obtain ⟨W, hW⟩ : ∃ W, W = (w.alloc (.cells (rowV 16 (hF x)) 23)).alloc (.cells (rowV 16 z0) 23) := ⟨_, rfl⟩
  have hb : Below w.heap.size w W := by rw [hW]; exact ((Below.refl _ _).alloc (Nat.le_refl _) _).alloc (by simp) _
  have hsz : W.heap.size = w.heap.size + 2 := by rw [hW]; simp
  have h0 : W.heap[w.heap.size]? = some (.cells (rowV 16 (hF x)) 23 (0, 0)) := by
    rw [hW, heap_lt _ _ (by simp)]
    exact heap_alloc_new w _
  have f1 : Fill (w.heap.size + 1) 23 16 16 z0 W := by
    rw [hW]
    exact Fill.of_row (by have := heap_alloc_new (w.alloc (.cells (rowV 16 (hF x)) 23)) (.cells (rowV 16 z0) 23); simpa using this)
  have HST := Lib.hid (step_c x hx i k (by omega) (by omega) W (ht.below hb ht.2.2.1 ht.2.2.2))
  have HW := Lib.hid hW
  have HB := Lib.hid hb
  have H1 := Lib.hid f1
  rw [hW] at h0
  have q1 : ¬ (i : Int) < 0 := by omega
  have q2 : ¬ (68 : Int) ≤ (i : Int) := by omega
  have q3 : ¬ (k : Int) < 0 := by omega
  have q4 : ¬ (3 : Int) ≤ (k : Int) := by omega
  obtain ⟨y, hy⟩ : ∃ y, y = stepL i k x := ⟨_, rfl⟩
  rw [← hy] at HST ⊢
  clear hW hb f1 hy
  go_enter Tryd.func11, Tryd.ntmps11
  go_wp2_with (first
    | (refine wpList_load_row rfl 23 (.tmp 3) rfl w.heap.size rfl 23 (rowV 16 (hF x)) (0, 0) _ h0 Tryd.underlying23 rfl (size_nodeV _) ?_)
    | fail)
  rw [← HW.out]
  refine HST.out.mono ?_
  rintro e w5 ⟨rfl, hb5⟩
  have HB5 := Lib.hid hb5
  have h5 := (H1.out.below hb5 H1.out.lt).done
  clear hb5
  go_wp2_with (first
    | (refine wpList_store_row rfl 23 (.tmp 6) (.tmp 26) rfl (w.heap.size + 1) (rowV 16 (hF y)) rfl rfl 23 (rowV 16 z0) h5 (size_nodeV _) (by rw [rowV_size, rowV_size]) (rowV_one 16 _ (fun i => rfl)) ?_)
    | fail)
  have hlv := run_loadVar_row (P := Tryd.prog) (w5.setRow (w.heap.size + 1) (rowV 16 (hF y))) (w.heap.size + 1) 23 23 (rowV 16 (hF y)) (0, 0) _ (setRow_heap _ _ _ _ _ _ h5) Tryd.underlying23 rfl (size_nodeV _)
  exact bodyPost_ret (v := .tuple #[.agg (rowV 16 (hF y)), .int .i64 0]) (by simp [results, Tryd.results11, asAddr, hlv]) rfl ⟨rfl, below_setRow (HB.out.trans (HB5.out.mono (by omega))) (by omega) _⟩
end Go.Proofs.YtgdiffjobkfmoaaDoorRR
