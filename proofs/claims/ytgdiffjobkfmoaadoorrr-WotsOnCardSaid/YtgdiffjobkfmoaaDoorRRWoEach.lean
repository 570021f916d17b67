/- Contract: what becomes of all nodes, one by one, by a closure. -/
import Derived.Test.YtgdiffjobkfmoaaDoorRRWoSum
import Derived.Shelf.Abstract
namespace Go.Proofs.YtgdiffjobkfmoaaDoorRR
open Go.ChangeShapes Go.WideShapes Go.ChangeAt Go.RowKit Go.Shelf
set_option linter.unusedVariables false

theorem row_extract (N m a : Nat) (f : Nat → Value) (h : a + m ≤ N) : (rowV N f).extract a (a + m) = rowV m (fun j => f (a + j)) := by
  apply Array.ext_getElem?
  intro j
  rw [Array.getElem?_extract]
  by_cases hj : j < m
  · rw [if_pos (by rw [rowV_size]; omega), rowV_at N f _ (by omega), rowV_at m _ j hj]
  · rw [if_neg (by rw [rowV_size]; omega), Array.getElem?_eq_none (by rw [rowV_size]; omega)]
/-- A node of a value of nodes. -/
theorem run_index_node (f : Nat → Value) (i : Nat) (u : World) (hi : i < 68) :
    (Instr.index 42 (.agg (rowV 1088 f)) (.int .i64 (i : Int))).run Tryd.prog u = .ok (.agg (rowV 16 (fun j => f (i * 16 + j)))) u := by
  obtain ⟨ti, hti, hsz⟩ := Option.map_eq_some_iff.1 size_node
  rw [← row_extract 1088 16 (i * 16) f (by omega)]
  simp [Instr.index, asIntOf, run_underlying Tryd.underlying42, hi, sizeOf, typeInfo, hti, hsz, isAgg, run_underlying Tryd.underlying23, go_sem]
theorem node_row (S : List UInt8) (i : Nat) : rowV 16 (fun j => hF S (i * 16 + j)) = rowV 16 (hF (nodeL S i)) := by
  apply Array.ext_getElem?
  intro j
  by_cases hj : j < 16
  · rw [rowV_at _ _ j hj, rowV_at _ _ j hj]
    unfold hF
    rw [nodeL_at S i j hj, Nat.mul_comm]
  · rw [Array.getElem?_eq_none (by rw [rowV_size]; omega), Array.getElem?_eq_none (by rw [rowV_size]; omega)]
/-- A node of a row of nodes is another one. -/
theorem fill_node {g n i o : Nat} {t : TypeId} {w : World} {A B y : List UInt8} (h : Fill g t n n (hF A) w) (ho : o = 16 * i) (hi : 16 * i + 16 ≤ n) (hs : ∀ j, B.getD j 0 = if 16 * i ≤ j ∧ j < 16 * i + 16 then y.getD (j - 16 * i) 0 else A.getD j 0) :
    Fill g t n n (hF B) (w.setCells g o (rowV 16 (hF y)).toList) := by
  subst ho
  have hl : (rowV 16 (hF y)).toList.length = 16 := by rw [Array.length_toList, rowV_size]
  refine Fill.cells (n := n) (rowV 16 (hF y)).toList (16 * i) (hF A) (hF B) w h (by rw [hl]; exact hi) (fun j hj => ?_)
  rw [hl]
  unfold hF
  rw [hs j]
  by_cases hj2 : 16 * i ≤ j ∧ j < 16 * i + 16
  · rw [if_pos hj2, if_pos hj2, rowV_list, List.getD_eq_getElem?_getD (l := List.map _ _), List.getElem?_map, List.getElem?_range (by omega)]
    rfl
  · rw [if_neg hj2, if_neg hj2]
set_option maxRecDepth 100000 in
set_option maxHeartbeats 4000000 in
theorem each_c (S : List UInt8) (hS : S.length = 1088) (gf : Nat → List UInt8 → List UInt8) (hg : ∀ i x, i < 68 → x.length = 16 → (gf i x).length = 16) (g : Nat) (cb : Array Value)
    (eg : ∀ args w, (callFunc g args).run Tryd.prog w = .ok (.enter g args) w) (w : World)
    (hdo : ∀ i, i < 68 → ∀ x, x.length = 16 → ∀ u, Below w.heap.size w u → Calls Tryd.prog g (#[.int .i64 (i : Int), .agg (rowV 16 (hF x))] ++ cb) u fun e w' => e = .returned (.agg (rowV 16 (hF (gf i x)))) ∧ Below u.heap.size u w') :
    Calls Tryd.prog 12 #[.agg (rowV 1088 (hF S)), .func (.func g) #[] cb] w fun e w' => e = .returned (.agg (rowV 1088 (hF (eachL gf S)))) ∧ Below w.heap.size w w' := by
  have hz := zero_nodes
  have hz16 := zero_node
  have HDO := Lib.hid hdo
  obtain ⟨W, hW⟩ : ∃ W, W = (w.alloc (.cells (rowV 1088 (hF S)) 42)).alloc (.cells (rowV 1088 z0) 42) := ⟨_, rfl⟩
  have hb : Below w.heap.size w W := by rw [hW]; exact ((Below.refl _ _).alloc (Nat.le_refl _) _).alloc (by simp) _
  have hsz : W.heap.size = w.heap.size + 2 := by rw [hW]; simp
  have f0 : Fill w.heap.size 42 1088 1088 (hF S) W := by
    rw [hW]
    exact Fill.of_row (by rw [heap_lt _ _ (by simp)]; exact heap_alloc_new w _)
  have f1 : Fill (w.heap.size + 1) 42 1088 1088 z0 W := by
    rw [hW]
    exact Fill.of_row (by have := heap_alloc_new (w.alloc (.cells (rowV 1088 (hF S)) 42)) (.cells (rowV 1088 z0) 42); simpa using this)
  have HW := Lib.hid hW
  have HB := Lib.hid hb
  have H0 := Lib.hid f0
  have H1 := Lib.hid f1
  have h0 := f0.done
  rw [hW] at h0
  have HIX : Hid (∀ i : Nat, i < 68 → ∀ u, (Instr.index 42 (.agg (rowV 1088 (hF S))) (.int .i64 (i : Int))).run Tryd.prog u = .ok (.agg (rowV 16 (hF (nodeL S i)))) u) := fun i hi u => by
    rw [run_index_node _ i u hi, node_row]
  have HEZ := Lib.hid (eachTo_zero (g := gf) (S := S))
  have HEA := Lib.hid (eachTo_all (g := gf) hS)
  clear hdo hb f0 f1
  go_enter Tryd.func12, Tryd.ntmps12
  go_wp2_with (first
    | (refine wpList_load_row rfl 42 (.tmp 2) rfl w.heap.size rfl 42 (rowV 1088 (hF S)) (0, 0) _ h0 Tryd.underlying42 rfl (size_nodes _) ?_)
    | fail)
  rw [← HW.out]
  go_loopw [8] (fun v wr => ∃ i : Nat, i ≤ 68 ∧ v = .int .i64 (i : Int) ∧ Fill w.heap.size 42 1088 1088 (hF (eachTo gf S i)) wr ∧ Fill (w.heap.size + 1) 42 1088 1088 z0 wr ∧ Below w.heap.size W wr) (fun v _ => 68 - (intOf v).toNat)
  case atStart => exact ⟨0, Nat.zero_le _, rfl, by rw [HEZ.out]; exact H0.out, H1.out, Below.refl _ _⟩
  case round =>
    clear h0 hz
    obtain ⟨i, hi, rfl, hn, hz1, hbw⟩ := hrel
    by_cases hlt : i < 68
    · have q1 : (i : Int) < 68 := by omega
      have hix := HIX.out i hlt
      have hsw := hbw.size
      have hnl := nodeL_len S hS i hlt
      have HNL := Lib.hid hnl
      have HSTEP := Lib.hid (eachTo_succ hg hS i hlt)
      have HGL := Lib.hid (hg i _ hlt hnl)
      have HDI := Lib.hid (HDO.out i hlt (nodeL S i) hnl)
      have HN := Lib.hid hn
      have HZ1 := Lib.hid hz1
      have HBW := Lib.hid hbw
      have hba := (Below.refl wr.heap.size wr).alloc (Nat.le_refl _) (.cells (rowV 16 z0) 23)
      have HR4 := Lib.hid (show ((wr.alloc (.cells (rowV 16 z0) 23)).setRow wr.heap.size (rowV 16 (hF (nodeL S i)))).heap[wr.heap.size]? = some (.cells (rowV 16 (hF (nodeL S i))) 23 (0, 0)) from setRow_heap _ _ _ _ _ _ (heap_alloc_new wr _))
      have HB4 := Lib.hid (below_setRow hba (Nat.le_refl _) (rowV 16 (hF (nodeL S i))))
      have hr4 := HR4.out
      clear hn hz1 hbw hnl hba
      go_wp2_with (first
        | (refine wpList_store_row rfl 23 (.tmp 6) (.tmp 11) rfl wr.heap.size (rowV 16 (hF (nodeL S i))) rfl rfl 23 (rowV 16 z0) (heap_alloc_new wr _) (size_nodeV _) (by rw [rowV_size, rowV_size]) (rowV_one 16 _ (fun i => rfl)) ?_)
        | (refine wpList_load_row rfl 23 (.tmp 6) rfl wr.heap.size rfl 23 (rowV 16 (hF (nodeL S i))) (0, 0) _ hr4 Tryd.underlying23 rfl (size_nodeV _) ?_)
        | (go_at_fn g; refine (HDI.out _ (HB.out.trans (HBW.out.trans (HB4.out.mono (by omega))))).mono ?_; rintro e w5 ⟨rfl, hb5⟩; have HB5 := Lib.hid (HB4.out.trans (hb5.mono HB4.out.size)); clear hb5)
        | (refine wpList_store_mid rfl 23 (.tmp 17) (.tmp 16) rfl w.heap.size (i * 16) (rowV 16 (hF (gf i (nodeL S i)))) rfl rfl (by rw [rowV_size]; exact (HN.out.below HB5.out HN.out.lt).there (i * 16) 16 (by omega)) (size_nodeV _) (rowV_one 16 _ (fun i => rfl)) ?_; obtain ⟨w6, hw6⟩ : ∃ w6, w6 = w5.setCells w.heap.size (i * 16) (rowV 16 (hF (gf i (nodeL S i)))).toList := ⟨_, rfl⟩; rw [← hw6]; have HW6 := Lib.hid hw6; clear hw6)
        | fail)
      refine ⟨⟨i + 1, by omega, by go_num, ?_, ?_, ?_⟩, by simp [intOf]; omega⟩ <;> rw [HW6.out]
      · exact fill_node (HN.out.below HB5.out HN.out.lt) (Nat.mul_comm i 16) (by omega) HSTEP.out
      · exact (HZ1.out.below HB5.out HZ1.out.lt).keep (setCells_block _ _ _ _ (by omega))
      · exact below_cells (HBW.out.trans (HB5.out.mono (by omega))) (Nat.le_refl _) _ _
    · obtain rfl : i = 68 := by omega
      rw [HEA.out] at hn
      have HBW := Lib.hid hbw
      have h2 := hn.done
      have h3 := hz1.done
      clear hbw hn hz1
      go_wp2_with (first
        | (refine wpList_load_row rfl 42 (.tmp 2) rfl w.heap.size rfl 42 (rowV 1088 (hF (eachL gf S))) (0, 0) _ h2 Tryd.underlying42 rfl (size_nodes _) ?_)
        | (refine wpList_store_row rfl 42 (.tmp 4) (.tmp 19) rfl (w.heap.size + 1) (rowV 1088 (hF (eachL gf S))) rfl rfl 42 (rowV 1088 z0) h3 (size_nodes _) (by rw [rowV_size, rowV_size]) (rowV_one 1088 _ (fun i => rfl)) ?_)
        | fail)
      exact bodyPost_ret (v := .agg (rowV 1088 (hF (eachL gf S)))) (results_cell_row rfl _ _ (w.heap.size + 1) 42 (rowV 1088 (hF (eachL gf S))) (0, 0) _ rfl (setRow_heap _ _ _ _ _ _ h3) Tryd.underlying42 rfl (size_nodes _)) rfl ⟨rfl, below_setRow (HB.out.trans HBW.out) (by omega) _⟩
end Go.Proofs.YtgdiffjobkfmoaaDoorRR
