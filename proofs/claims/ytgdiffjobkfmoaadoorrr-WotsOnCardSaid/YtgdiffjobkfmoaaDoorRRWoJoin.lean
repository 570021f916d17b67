/- Contracts: the nodes' bytes; a public. -/
import Derived.Test.YtgdiffjobkfmoaaDoorRRWoEach
namespace Go.Proofs.YtgdiffjobkfmoaaDoorRR
open Go.ChangeShapes Go.WideShapes Go.ChangeAt Go.RowKit
set_option linter.unusedVariables false

/-- The bytes of the first nodes. -/
def jnF (S : List UInt8) (i : Nat) : Nat → Value := fun j => if j < 16 * i then hF S j else z0 j
set_option maxRecDepth 100000 in
set_option maxHeartbeats 4000000 in
theorem join_c (S : List UInt8) (hS : S.length = 1088) (w : World) :
    Calls Tryd.prog 15 #[.agg (rowV 1088 (hF S))] w fun e w' => e = .returned (.agg (rowV 1088 (hF S))) ∧ Below w.heap.size w w' := by
  have hz := zero_bytes
  have hz16 := zero_node
  obtain ⟨W, hW⟩ : ∃ W, W = ((w.alloc (.cells (rowV 1088 (hF S)) 42)).alloc (.cells (rowV 1088 z0) 41)).alloc (.cells (rowV 1088 z0) 41) := ⟨_, rfl⟩
  have hb : Below w.heap.size w W := by rw [hW]; exact (((Below.refl _ _).alloc (Nat.le_refl _) _).alloc (by simp) _).alloc (by simp; omega) _
  have hsz : W.heap.size = w.heap.size + 3 := by rw [hW]; simp
  have h0 : W.heap[w.heap.size]? = some (.cells (rowV 1088 (hF S)) 42 (0, 0)) := by
    rw [hW, heap_lt _ _ (by simp; omega), heap_lt _ _ (by simp)]
    exact heap_alloc_new w _
  have f1 : Fill (w.heap.size + 1) 41 1088 1088 z0 W := by
    rw [hW]
    exact Fill.of_row (by rw [heap_lt _ _ (by simp)]; have := heap_alloc_new (w.alloc (.cells (rowV 1088 (hF S)) 42)) (.cells (rowV 1088 z0) 41); simpa using this)
  have f2 : Fill (w.heap.size + 2) 41 1088 1088 z0 W := by
    rw [hW]
    exact Fill.of_row (by have := heap_alloc_new ((w.alloc (.cells (rowV 1088 (hF S)) 42)).alloc (.cells (rowV 1088 z0) 41)) (.cells (rowV 1088 z0) 41); simpa using this)
  have HW := Lib.hid hW
  have HB := Lib.hid hb
  have H1 := Lib.hid f1
  have H2 := Lib.hid f2
  rw [hW] at h0
  have HIX : Hid (∀ i : Nat, i < 68 → ∀ u, (Instr.index 42 (.agg (rowV 1088 (hF S))) (.int .i64 (i : Int))).run Tryd.prog u = .ok (.agg (rowV 16 (hF (nodeL S i)))) u) := fun i hi u => by
    rw [run_index_node _ i u hi, node_row]
  clear hb f1 f2
  go_enter Tryd.func15, Tryd.ntmps15
  go_wp2_with (first
    | (refine wpList_load_row rfl 42 (.tmp 1) rfl w.heap.size rfl 42 (rowV 1088 (hF S)) (0, 0) _ h0 Tryd.underlying42 rfl (size_nodes _) ?_)
    | fail)
  rw [← HW.out]
  go_loopw [7] (fun v wr => ∃ i : Nat, i ≤ 68 ∧ v = .int .i64 (i : Int) ∧ Fill (w.heap.size + 2) 41 1088 1088 (jnF S i) wr ∧ Below (w.heap.size + 2) W wr) (fun v _ => 68 - (intOf v).toNat)
  case atStart => exact ⟨0, Nat.zero_le _, rfl, H2.out.same (fun j _ => by unfold jnF; rw [if_neg (by omega)]), Below.refl _ _⟩
  case round =>
    clear h0 hz
    obtain ⟨i, hi, rfl, hn, hbw⟩ := hrel
    have hsw := hbw.size
    by_cases hlt : i < 68
    · have q1 : (i : Int) < 68 := by omega
      have hix := HIX.out i hlt
      have hnl := nodeL_len S hS i hlt
      have hat : ∀ j, j < 16 → hF (nodeL S i) j = hF S (16 * i + j) := fun j hj => by unfold hF; rw [nodeL_at S i j hj]
      have HAT := Lib.hid hat
      have HNL := Lib.hid hnl
      have hba := (Below.refl wr.heap.size wr).alloc (Nat.le_refl _) (.cells (rowV 16 z0) 23)
      have HR4 := Lib.hid (show ((wr.alloc (.cells (rowV 16 z0) 23)).setRow wr.heap.size (rowV 16 (hF (nodeL S i)))).heap[wr.heap.size]? = some (.cells (rowV 16 (hF (nodeL S i))) 23 (0, 0)) from setRow_heap _ _ _ _ _ _ (heap_alloc_new wr _))
      have HB4 := Lib.hid (below_setRow hba (Nat.le_refl _) (rowV 16 (hF (nodeL S i))))
      have HN := Lib.hid hn
      have HBW := Lib.hid hbw
      clear hn hbw hnl hba hat
      go_wp2_with (first
        | (refine wpList_store_row rfl 23 (.tmp 5) (.tmp 10) rfl wr.heap.size (rowV 16 (hF (nodeL S i))) rfl rfl 23 (rowV 16 z0) (heap_alloc_new wr _) (size_nodeV _) (by rw [rowV_size, rowV_size]) (rowV_one 16 _ (fun i => rfl)) ?_; obtain ⟨w4, hw4⟩ : ∃ w4, w4 = (wr.alloc (.cells (rowV 16 z0) 23)).setRow wr.heap.size (rowV 16 (hF (nodeL S i))) := ⟨_, rfl⟩; rw [← hw4]; rw [← hw4] at HR4 HB4; clear hw4)
        | fail)
      have wA : IntKind.i64.wrap (16 * (i : Int)) = 16 * (i : Int) := IntWalk.i64_in _ (by omega)
      have wB : (16 * (i : Int)).toNat = 16 * i := by omega
      have wC : (0 : Int) ≤ 16 * (i : Int) := by omega
      have i5 : 16 * (i : Int) ≤ 1088 := by omega
      have i6 : ¬ (1088 = 16 * i) := by omega
      have HN4 := Lib.hid (HN.out.below HB4.out HN.out.lt)
      have hcl : ((nodeL S i).map bv).length = 16 := by rw [List.length_map]; exact HNL.out
      have HCL := Lib.hid hcl
      have HSP := Lib.hid (spliced_row 1088 (jnF S i) (jnF S (i + 1)) (16 * i) ((nodeL S i).map bv) (by rw [hcl]; omega) (fun j hj => by
        rw [hcl]
        unfold jnF
        by_cases hj2 : 16 * i ≤ j ∧ j < 16 * i + 16
        · have e := HAT.out (j - 16 * i) (by omega)
          rw [if_pos hj2, if_pos (by omega), List.getD_eq_getElem?_getD, hF_at _ (j - 16 * i) (by rw [HNL.out]; omega), Option.getD_some, e]
          congr 1
          omega
        · rw [if_neg hj2]
          by_cases hj3 : j < 16 * i
          · rw [if_pos hj3, if_pos (by omega)]
          · rw [if_neg hj3, if_neg (by omega)]))
      have HSR : Hid (∀ j v, ((nodeL S i).map bv)[j]? = some v → w4.cell? ⟨wr.heap.size, 0 + j, none⟩ = some v) := fun j v hv => by
        have hj : j < 16 := by rw [← HCL.out]; exact (List.getElem?_eq_some_iff.1 hv).1
        rw [Nat.zero_add, cell_of_row _ _ _ _ _ (0, 0) HR4.out, rowV_at 16 _ j hj, ← hF_at _ j (by rw [HNL.out]; exact hj)]
        exact hv
      have hlt4 : w.heap.size + 2 < wr.heap.size := by omega
      clear hcl
      rename_i K hK
      go_region_law (refine step_copy_splice rfl (.tmp 13) (.tmp 14) 28 28 rfl 5 Tryd.underlying28 size_u8 (some ⟨w.heap.size + 2, 16 * i, none⟩) (some ⟨wr.heap.size, 0, none⟩) (1088 - 16 * i) (1088 - 16 * i) 16 16 rfl rfl (w.heap.size + 2) (16 * i) (rowV 1088 (jnF S i)).toList 41 HN4.out.done ((nodeL S i).map bv) (by rw [HCL.out]; show 16 = min 16 (1088 - 16 * i); omega) (fun _ => ⟨rfl, _, rfl, fun j v hv => by rw [Addr.add_mid]; exact HSR.out j v hv⟩) (by rw [HCL.out, Array.length_toList, rowV_size]; omega) (bv_one _) (w.heap.size + 2) w4.drew (Below.refl _ _) (Nat.le_refl _) ?_; intro w5 hg5 hb5)
      all_goals
        have h5 := hg5.out
        rw [HSP.out] at h5
        have HG5 := Lib.hid h5
        have HB5 := Lib.hid (HBW.out.trans ((HB4.out.mono (show w.heap.size + 2 ≤ wr.heap.size by omega)).trans (((Below.refl (w.heap.size + 2) w4).drew).trans hb5)))
        clear h5 hg5 hb5
        go_wp2_with fail
        exact ⟨⟨i + 1, by omega, by go_num, Fill.of_row HG5.out, HB5.out⟩, by simp [intOf]; omega⟩
    · obtain rfl : i = 68 := by omega
      have hn2 : Fill (w.heap.size + 2) 41 1088 1088 (hF S) wr := hn.same (fun j hj => by unfold jnF; rw [if_pos (by omega)])
      have h2 := hn2.done
      have h3 := (H1.out.below hbw (by omega)).done
      have HBW := Lib.hid hbw
      clear hn hn2 hbw
      go_wp2_with (first
        | (refine wpList_load_row rfl 41 (.tmp 3) rfl (w.heap.size + 2) rfl 41 (rowV 1088 (hF S)) (0, 0) _ h2 Tryd.underlying41 rfl (size_bytes _) ?_)
        | (refine wpList_store_row rfl 41 (.tmp 2) (.tmp 17) rfl (w.heap.size + 1) (rowV 1088 (hF S)) rfl rfl 41 (rowV 1088 z0) h3 (size_bytes _) (by rw [rowV_size, rowV_size]) (rowV_one 1088 _ (fun i => rfl)) ?_)
        | fail)
      exact bodyPost_ret (v := .agg (rowV 1088 (hF S))) (results_cell_row rfl _ _ (w.heap.size + 1) 41 (rowV 1088 (hF S)) (0, 0) _ rfl (setRow_heap _ _ _ _ _ _ h3) Tryd.underlying41 rfl (size_bytes _)) rfl ⟨rfl, below_setRow (HB.out.trans (HBW.out.mono (by omega))) (by omega) _⟩
theorem lit1 (w : World) (t : TypeId) : Rd (w.alloc (.cells #[.int .u8 80] t)) 0 (w.heap.size + 1) (some ⟨w.heap.size, 0, none⟩) [80] := fun hn => by
  refine ⟨w.heap.size, 0, rfl, Nat.zero_le _, by omega, fun j x hx => ?_⟩
  rw [Nat.zero_add, cell_of_row _ w.heap.size j _ _ (0, 0) (heap_alloc_new w _)]
  match j, hx with
  | 0, hx => injection hx with hx; subst hx; rfl
set_option maxRecDepth 100000 in
set_option maxHeartbeats 4000000 in
theorem public_c (S : List UInt8) (hS : S.length = 1088) (w : World) (ht : Tabs w) :
    Calls Tryd.prog 18 #[.agg (rowV 1088 (hF S))] w fun e w' => e = .returned (.agg (hashV (pubL S))) ∧ Below w.heap.size w w' := by
  have hz := zero_bytes
  have hz32 := zero_hash
  obtain ⟨W, hW⟩ : ∃ W, W = (w.alloc (.cells (rowV 1088 (hF S)) 42)).alloc (.cells (rowV 32 z8) 27) := ⟨_, rfl⟩
  have hb : Below w.heap.size w W := by rw [hW]; exact ((Below.refl _ _).alloc (Nat.le_refl _) _).alloc (by simp) _
  have hsz : W.heap.size = w.heap.size + 2 := by rw [hW]; simp
  have h0 : W.heap[w.heap.size]? = some (.cells (rowV 1088 (hF S)) 42 (0, 0)) := by
    rw [hW, heap_lt _ _ (by simp)]
    exact heap_alloc_new w _
  have f1 : Fill (w.heap.size + 1) 27 32 32 z8 W := by
    rw [hW]
    exact Fill.of_row (by have := heap_alloc_new (w.alloc (.cells (rowV 1088 (hF S)) 42)) (.cells (rowV 32 z8) 27); simpa using this)
  have HW := Lib.hid hW
  have HB := Lib.hid hb
  have H1 := Lib.hid f1
  have HJ := Lib.hid (join_c S hS W)
  have HT : Hid (∀ u : World, Below w.heap.size w u → Tabs u) := fun u hu => ht.below hu ht.2.2.1 ht.2.2.2
  rw [hW] at h0
  clear hW hb f1
  go_enter Tryd.func18, Tryd.ntmps18
  go_wp2_with (first
    | (refine wpList_load_row rfl 42 (.tmp 1) rfl w.heap.size rfl 42 (rowV 1088 (hF S)) (0, 0) _ h0 Tryd.underlying42 rfl (size_nodes _) ?_)
    | fail)
  rw [← HW.out]
  refine HJ.out.mono ?_
  rintro e w3 ⟨rfl, hb3⟩
  have HB3 := Lib.hid hb3
  have hba := (Below.refl w3.heap.size w3).alloc (Nat.le_refl _) (.cells (rowV 1088 z0) 41)
  have HR4 := Lib.hid (show ((w3.alloc (.cells (rowV 1088 z0) 41)).setRow w3.heap.size (rowV 1088 (hF S))).heap[w3.heap.size]? = some (.cells (rowV 1088 (hF S)) 41 (0, 0)) from setRow_heap _ _ _ _ _ _ (heap_alloc_new w3 _))
  have HB4 := Lib.hid (below_setRow hba (Nat.le_refl _) (rowV 1088 (hF S)))
  have HZ4 := Lib.hid (show ((w3.alloc (.cells (rowV 1088 z0) 41)).setRow w3.heap.size (rowV 1088 (hF S))).heap.size = w3.heap.size + 1 by simp [World.setRow])
  clear hb3 hba h0
  go_wp2_with (first
    | (refine wpList_store_row rfl 41 (.tmp 3) (.tmp 5) rfl w3.heap.size (rowV 1088 (hF S)) rfl rfl 41 (rowV 1088 z0) (heap_alloc_new w3 _) (size_bytes _) (by rw [rowV_size, rowV_size]) (rowV_one 1088 _ (fun i => rfl)) ?_; obtain ⟨w4, hw4⟩ : ∃ w4, w4 = (w3.alloc (.cells (rowV 1088 z0) 41)).setRow w3.heap.size (rowV 1088 (hF S)) := ⟨_, rfl⟩; rw [← hw4]; rw [← hw4] at HR4 HB4 HZ4; clear hw4)
    | fail)
  have hb5 := (Below.refl w4.heap.size w4).alloc (Nat.le_refl _) (.cells #[.int .u8 80] 5)
  have hsz5 : (w4.alloc (.cells #[.int .u8 80] 5)).heap.size = w4.heap.size + 1 := heap_sz _ _
  have hf4 : Fill w3.heap.size 41 1088 1088 (hF S) w4 := Fill.of_row HR4.out
  have hsz4 := HZ4.out
  have hs3 := HB3.out.size
  have hs := sum2 (some ⟨w4.heap.size, 0, none⟩) (some ⟨w3.heap.size, 0, none⟩) 1 1088 1 1088 [80] S (w4.alloc (.cells #[.int .u8 80] 5)) rfl hS.symm (by rw [hsz5]; exact lit1 w4 _) (rd_row (hf4.below hb5 hf4.lt) hS) (by omega) (by omega) (by rw [hS]; simp) (HT.out _ ((HB.out.trans ((HB3.out.trans (HB4.out.mono HB3.out.size)).mono (by omega))).trans (hb5.mono (by have := HB3.out.size; omega))))
  rw [hsz5] at hs
  refine hs.mono ?_
  rintro e w6 ⟨rfl, hb6⟩
  have HB6 : Hid (Below W.heap.size W w6) := (HB3.out.trans (HB4.out.mono HB3.out.size)).trans ((hb5.mono (by have := HB3.out.size; omega)).trans (hb6.mono (by have := HB3.out.size; omega)))
  have h1 := (H1.out.below HB6.out H1.out.lt).done
  clear hs hb5 hb6 hf4
  obtain ⟨y, hy⟩ : ∃ y, y = shaL ([80] ++ S) := ⟨_, rfl⟩
  have HY := Lib.hid (show pubL S = y from hy.symm)
  rw [← hy]
  clear hy
  unfold hashV at *
  go_wp2_with (first
    | (refine wpList_store_row rfl 27 (.tmp 2) (.tmp 9) rfl (w.heap.size + 1) (rowV 32 (hF y)) rfl rfl 27 (rowV 32 z8) h1 (size_hashVW _) (by rw [rowV_size, rowV_size]) (rowV_one 32 _ (fun i => rfl)) ?_)
    | fail)
  exact bodyPost_ret (v := .agg (rowV 32 (hF y))) (results_cell_row rfl _ _ (w.heap.size + 1) 27 (rowV 32 (hF y)) (0, 0) _ rfl (setRow_heap _ _ _ _ _ _ h1) Tryd.underlying27 rfl (size_hashVW _)) rfl ⟨by rw [HY.out]; rfl, below_setRow (HB.out.trans (HB6.out.mono (by omega))) (by omega) _⟩
end Go.Proofs.YtgdiffjobkfmoaaDoorRR
