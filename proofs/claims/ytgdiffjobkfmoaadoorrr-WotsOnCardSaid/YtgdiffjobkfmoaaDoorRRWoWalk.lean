/- Contracts: a walk in a chain; Step. -/
import Derived.Test.YtgdiffjobkfmoaaDoorRRWoStep
namespace Go.Proofs.YtgdiffjobkfmoaaDoorRR
open Go.ChangeShapes Go.WideShapes Go.ChangeAt Go.RowKit
set_option linter.unusedVariables false

set_option maxHeartbeats 4000000 in
theorem walk_c (x : List UInt8) (hx : x.length = 16) (i a b : Nat) (hi : i < 256) (hab : a ≤ b) (hb3 : b ≤ 3) (w : World) (ht : Tabs w) :
    Calls Tryd.prog 14 #[.agg (rowV 16 (hF x)), .int .i64 (i : Int), .int .i64 (a : Int), .int .i64 (b : Int)] w fun e w' => e = .returned (.agg (rowV 16 (hF (walkL i a b x)))) ∧ Below w.heap.size w w' := by
  have hz16 := zero_node
  obtain ⟨W, hW⟩ : ∃ W, W = (w.alloc (.cells (rowV 16 (hF x)) 23)).alloc (.cells (rowV 16 z0) 23) := ⟨_, rfl⟩
  have hb : Below w.heap.size w W := by rw [hW]; exact ((Below.refl _ _).alloc (Nat.le_refl _) _).alloc (by simp) _
  have hsz : W.heap.size = w.heap.size + 2 := by rw [hW]; simp
  have f0 : Fill w.heap.size 23 16 16 (hF x) W := by
    rw [hW]
    exact Fill.of_row (by rw [heap_lt _ _ (by simp)]; exact heap_alloc_new w _)
  have f1 : Fill (w.heap.size + 1) 23 16 16 z0 W := by
    rw [hW]
    exact Fill.of_row (by have := heap_alloc_new (w.alloc (.cells (rowV 16 (hF x)) 23)) (.cells (rowV 16 z0) 23); simpa using this)
  have HW := Lib.hid hW
  have HB := Lib.hid hb
  have H0 := Lib.hid f0
  have H1 := Lib.hid f1
  have HT : Hid (∀ u : World, Below w.heap.size w u → Tabs u) := fun u hu => ht.below hu ht.2.2.1 ht.2.2.2
  clear hW hb f0 f1
  go_enter Tryd.func14, Tryd.ntmps14
  go_wp2_with fail
  rw [← HW.out]
  go_loopw [9] (fun v wr => ∃ k : Nat, a ≤ k ∧ k ≤ b ∧ v = .int .i64 (k : Int) ∧ Fill w.heap.size 23 16 16 (hF (walkL i a k x)) wr ∧ Fill (w.heap.size + 1) 23 16 16 z0 wr ∧ Below w.heap.size W wr) (fun v _ => b - (intOf v).toNat)
  case atStart => exact ⟨a, Nat.le_refl _, hab, rfl, by rw [walkL_none i a a x (Nat.le_refl _)]; exact H0.out, H1.out, Below.refl _ _⟩
  case round =>
    obtain ⟨k, hk1, hk2, rfl, hn, hz1, hbw⟩ := hrel
    have hsw := hbw.size
    by_cases hlt : k < b
    · have q1 : (k : Int) < (b : Int) := by omega
      have h2 := hn.done
      have hlen := walkL_len i a k x hx
      have HS := Lib.hid (walkL_succ i a k x hk1)
      generalize walkL i a k x = y at *
      have hst := step_c y hlen i k hi (by omega) wr (HT.out _ (HB.out.trans hbw))
      have HN := Lib.hid hn
      have HZ1 := Lib.hid hz1
      have HBW := Lib.hid hbw
      clear hn hz1 hbw
      go_wp2_with (first
        | (refine wpList_load_row rfl 23 (.tmp 4) rfl w.heap.size rfl 23 (rowV 16 (hF y)) (0, 0) _ h2 Tryd.underlying23 rfl (size_nodeV _) ?_)
        | (go_at_call 24; refine hst.mono ?_; rintro e w5 ⟨rfl, hb5⟩; have HB5 := Lib.hid hb5; have h5 := (HN.out.below hb5 HN.out.lt).done; clear hb5)
        | (refine wpList_store_row rfl 23 (.tmp 4) (.tmp 19) rfl w.heap.size (rowV 16 (hF (stepL i k y))) rfl rfl 23 (rowV 16 (hF y)) h5 (size_nodeV _) (by rw [rowV_size, rowV_size]) (rowV_one 16 _ (fun i => rfl)) ?_)
        | fail)
      refine ⟨⟨k + 1, by omega, by omega, by go_num, by rw [HS.out]; exact Fill.of_row (setRow_heap _ _ _ _ _ _ h5), (HZ1.out.below HB5.out HZ1.out.lt).keep (setRow_other _ _ _ _ (by omega)), below_setRow (HBW.out.trans (HB5.out.mono (by omega))) (Nat.le_refl _) _⟩, by simp [intOf]; omega⟩
    · obtain rfl : k = b := by omega
      have h2 := hn.done
      have h3 := hz1.done
      have HBW := Lib.hid hbw
      obtain ⟨y, hy⟩ : ∃ y, y = walkL i a k x := ⟨_, rfl⟩
      rw [← hy] at h2
      have HY := Lib.hid hy
      clear hn hz1 hbw hy
      go_wp2_with (first
        | (refine wpList_load_row rfl 23 (.tmp 4) rfl w.heap.size rfl 23 (rowV 16 (hF y)) (0, 0) _ h2 Tryd.underlying23 rfl (size_nodeV _) ?_)
        | (refine wpList_store_row rfl 23 (.tmp 8) (.tmp 20) rfl (w.heap.size + 1) (rowV 16 (hF y)) rfl rfl 23 (rowV 16 z0) h3 (size_nodeV _) (by rw [rowV_size, rowV_size]) (rowV_one 16 _ (fun i => rfl)) ?_)
        | fail)
      exact bodyPost_ret (v := .agg (rowV 16 (hF y))) (results_cell_row rfl _ _ (w.heap.size + 1) 23 (rowV 16 (hF y)) (0, 0) _ rfl (setRow_heap _ _ _ _ _ _ h3) Tryd.underlying23 rfl (size_nodeV _)) rfl ⟨by rw [HY.out], below_setRow (HB.out.trans HBW.out) (by omega) _⟩
end Go.Proofs.YtgdiffjobkfmoaaDoorRR
