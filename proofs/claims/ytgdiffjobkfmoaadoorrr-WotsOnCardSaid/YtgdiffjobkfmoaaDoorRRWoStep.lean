/- Contracts: the front of a hash; a step. -/
import Derived.Test.YtgdiffjobkfmoaaDoorRRWoSum
import Derived.ChangeKeysEq
import Derived.Laws.StructEq
namespace Go.Proofs.YtgdiffjobkfmoaaDoorRR
open Go.ChangeShapes Go.WideShapes Go.ChangeAt Go.RowKit
set_option linter.unusedVariables false

theorem size_u8e : (Tryd.prog.info? 5).map (·.size) = some 1 := by kernel_rfl
theorem part_row (n : Nat) (l : List UInt8) (i : Nat) (hi : i < n) (w : World) : (Go.part 5 (rowV n (hF l)) (i * 1)).run Tryd.prog w = .ok (bv (l.getD i 0)) w := by
  have h := rowV_at n (hF l) i hi
  have a3 : (isAgg 5).run Tryd.prog w = .ok false w := by kernel_rfl
  simp [Go.part, a3, h, hF]
theorem eq_itemsN (n : Nat) (a b : List UInt8) (w : World) : ∀ is : List Nat, (∀ i ∈ is, i < n) → (Op.eqItems 9999 5 1 (rowV n (hF a)) (rowV n (hF b)) is).run Tryd.prog w = .ok (is.all fun i => a.getD i 0 == b.getD i 0) w := by
  intro is
  induction is with
  | nil => intro _; simp [Op.eqItems]
  | cons i is ih =>
    intro h
    have hi := h i (by simp)
    have ih' := ih (fun j hj => h j (by simp [hj]))
    have e := run_equalIn_int (P := Tryd.prog) w 9998 5 .u8 .u8 ((a.getD i 0).toNat : Int) ((b.getD i 0).toNat : Int) Tryd.underlying5
    have e2 : (((a.getD i 0).toNat : Int) == ((b.getD i 0).toNat : Int)) = (a.getD i 0 == b.getD i 0) := by
      rw [Bool.eq_iff_iff, beq_iff_eq, beq_iff_eq]
      constructor
      · intro h; exact UInt8.toNat_inj.1 (by omega)
      · intro h; rw [h]
    rw [e2] at e
    have e3 : (Op.equalIn 9999 5 (bv (a.getD i 0)) (bv (b.getD i 0))).run Tryd.prog w = .ok (a.getD i 0 == b.getD i 0) w := e
    simp only [Op.eqItems, Sem.run_bind, part_row n a i hi, part_row n b i hi, Result.andThen_ok, e3, List.all_cons]
    cases (a.getD i 0 == b.getD i 0)
    · simp
    · simpa using ih'
theorem eq_row (n : Nat) (ty : TypeId) (hu : Tryd.prog.underlying ty = some (.array n 5)) (a b : List UInt8) (ha : a.length = n) (hb : b.length = n) (w : World) : (Op.equalIn 10000 ty (.agg (rowV n (hF a))) (.agg (rowV n (hF b)))).run Tryd.prog w = .ok (a == b) w := by
  obtain ⟨i, hi, hz⟩ := Option.map_eq_some_iff.1 size_u8e
  have h := run_equalIn_array (P := Tryd.prog) w 9999 (rowV n (hF a)) (rowV n (hF b)) hu hi
  have c1 : Tryd.prog.cellsOf 5 = 1 := by kernel_rfl
  rw [c1, eq_itemsN n a b w _ (fun i hi => List.mem_range.1 hi)] at h
  rw [show (10000 : Nat) = 9999 + 1 from rfl, h]
  congr 1
  rw [Bool.eq_iff_iff, beq_iff_eq, List.all_eq_true]
  constructor
  · intro h
    apply List.ext_getElem?
    intro i
    by_cases hi : i < n
    · have h3 := beq_iff_eq.1 (h i (List.mem_range.2 hi))
      rw [List.getD_eq_getElem?_getD, List.getD_eq_getElem?_getD, List.getElem?_eq_getElem (by omega), List.getElem?_eq_getElem (by omega)] at h3
      rw [List.getElem?_eq_getElem (by omega), List.getElem?_eq_getElem (by omega)]
      exact congrArg some h3
    · rw [List.getElem?_eq_none (by omega), List.getElem?_eq_none (by omega)]
  · intro h i _
    rw [h]
    simp

theorem front_at (l : List UInt8) (j : Nat) (hj : j < 16) : hF (l.take 16) j = hF l j := by
  unfold hF
  rw [List.getD_eq_getElem?_getD, List.getElem?_take, if_pos hj, ← List.getD_eq_getElem?_getD]
set_option maxHeartbeats 2000000 in
theorem front_c (l : List UInt8) (hl : l.length = 32) (w : World) : Calls Tryd.prog 30 #[.agg (hashV l)] w fun e w' => e = .returned (.agg (rowV 16 (hF (l.take 16)))) ∧ Below w.heap.size w w' := by
  have hz16 := zero_node
  obtain ⟨W, hW⟩ : ∃ W, W = ((w.alloc (.cells (hashV l) 27)).alloc (.cells (rowV 16 z0) 23)).alloc (.cells (rowV 16 z0) 23) := ⟨_, rfl⟩
  have hb : Below w.heap.size w W := by rw [hW]; exact (((Below.refl _ _).alloc (Nat.le_refl _) _).alloc (by simp) _).alloc (by simp; omega) _
  have hsz : W.heap.size = w.heap.size + 3 := by rw [hW]; simp
  have f0 : Fill w.heap.size 27 32 32 (hF l) W := by
    rw [hW]
    exact Fill.of_row (by rw [heap_lt _ _ (by simp; omega), heap_lt _ _ (by simp)]; exact heap_alloc_new w _)
  have f1 : Fill (w.heap.size + 1) 23 16 16 z0 W := by
    rw [hW]
    exact Fill.of_row (by rw [heap_lt _ _ (by simp)]; have := heap_alloc_new (w.alloc (.cells (hashV l) 27)) (.cells (rowV 16 z0) 23); simpa using this)
  have f2 : Fill (w.heap.size + 2) 23 16 16 z0 W := by
    rw [hW]
    exact Fill.of_row (by have := heap_alloc_new ((w.alloc (.cells (hashV l) 27)).alloc (.cells (rowV 16 z0) 23)) (.cells (rowV 16 z0) 23); simpa using this)
  have HW := Lib.hid hW
  have HB := Lib.hid hb
  have H0 := Lib.hid f0
  have H1 := Lib.hid f1
  have H2 := Lib.hid f2
  have hlen : ((l.take 16).map bv).length = 16 := by rw [List.length_map, List.length_take, hl]; rfl
  have HL := Lib.hid hlen
  have HSP := Lib.hid (spliced_row 16 z0 (hF (l.take 16)) 0 ((l.take 16).map bv) (by rw [hlen]; omega) (fun j hj => by
    rw [hlen, if_pos ⟨Nat.zero_le _, by omega⟩, Nat.sub_zero, List.getD_eq_getElem?_getD, hF_at _ j (by rw [List.length_take, hl]; omega)]
    rfl))
  have HSR : Hid (∀ j v, ((l.take 16).map bv)[j]? = some v → W.cell? ⟨w.heap.size, 0 + j, none⟩ = some v) := fun j v hv => by
    have hj : j < 16 := by rw [← hlen]; exact (List.getElem?_eq_some_iff.1 hv).1
    rw [Nat.zero_add, f0.at_ j (by omega), ← front_at l j hj, ← hF_at _ j (by rw [List.length_take, hl]; omega)]
    exact hv
  clear hW hb f0 f1 f2 hlen
  go_enter Tryd.func30, Tryd.ntmps30
  go_wp2_with fail
  rw [← HW.out]
  rename_i K hK
  go_region_law (refine step_copy_splice rfl (.tmp 4) (.tmp 5) 28 28 rfl 5 Tryd.underlying28 size_u8 (some ⟨w.heap.size + 2, 0, none⟩) (some ⟨w.heap.size, 0, none⟩) 16 16 32 32 rfl rfl (w.heap.size + 2) 0 (rowV 16 z0).toList 23 H2.out.done ((l.take 16).map bv) (by rw [HL.out]; rfl) (fun _ => ⟨rfl, _, rfl, fun j v hv => by rw [Addr.add_mid]; exact HSR.out j v hv⟩) (by rw [HL.out, Array.length_toList, rowV_size]; omega) (bv_one _) (w.heap.size + 2) W.drew (Below.refl _ _) (Nat.le_refl _) ?_; intro w4 hg4 hb4)
  all_goals
    apply hK
    clear hK K
    have h2 := hg4.out
    rw [HSP.out] at h2
    have HB4 := Lib.hid (HB.out.trans (((Below.refl W.heap.size W).drew.mono (Nat.le_refl _)).mono (by omega)))
    have hb5 : Below (w.heap.size + 1) W w4 := ((Below.refl (w.heap.size + 1) W).drew).trans (hb4.mono (by omega))
    have h1 := (H1.out.keep (hb4.block (w.heap.size + 1) (by omega))).done
    have HB5 := Lib.hid (HB.out.trans (hb5.mono (by omega)))
    clear hg4 hb4 hb5
    go_wp2_with (first
      | (refine wpList_load_row rfl 23 (.tmp 3) rfl (w.heap.size + 2) rfl 23 (rowV 16 (hF (l.take 16))) (0, 0) _ h2 Tryd.underlying23 rfl (size_nodeV _) ?_)
      | (refine wpList_store_row rfl 23 (.tmp 2) (.tmp 7) rfl (w.heap.size + 1) (rowV 16 (hF (l.take 16))) rfl rfl 23 (rowV 16 z0) h1 (size_nodeV _) (by rw [rowV_size, rowV_size]) (rowV_one 16 _ (fun i => rfl)) ?_)
      | fail)
    exact bodyPost_ret (v := .agg (rowV 16 (hF (l.take 16)))) (results_cell_row rfl _ _ (w.heap.size + 1) 23 (rowV 16 (hF (l.take 16))) (0, 0) _ rfl (setRow_heap _ _ _ _ _ _ h1) Tryd.underlying23 rfl (size_nodeV _)) rfl ⟨rfl, below_setRow HB5.out (by omega) _⟩
set_option maxHeartbeats 2000000 in
theorem step_c (x : List UInt8) (hx : x.length = 16) (i k : Nat) (hi : i < 256) (hk : k < 256) (w : World) (ht : Tabs w) :
    Calls Tryd.prog 24 #[.agg (rowV 16 (hF x)), .int .i64 (i : Int), .int .i64 (k : Int)] w fun e w' => e = .returned (.agg (rowV 16 (hF (stepL i k x)))) ∧ Below w.heap.size w w' := by
  have hz16 := zero_node
  have q1 : (i : Int) < 256 := by omega
  have q2 : (k : Int) < 256 := by omega
  have hlit : (#[.int .u8 87, .int .u8 (i : Int), .int .u8 (k : Int)] : Array Value) = (([87, UInt8.ofNat i, UInt8.ofNat k] : List UInt8).map bv).toArray := by
    have e : ∀ n : Nat, n < 256 → Value.int .u8 (n : Int) = bv (UInt8.ofNat n) := fun n hn => by
      unfold bv
      rw [UInt8.toNat_ofNat']
      congr 2
      omega
    simp only [List.map_cons, List.map_nil]
    rw [e i hi, e k hk]
    rfl
  obtain ⟨W, hW⟩ : ∃ W, W = (w.alloc (.cells (rowV 16 (hF x)) 23)).alloc (.cells (rowV 16 z0) 23) := ⟨_, rfl⟩
  have hb : Below w.heap.size w W := by rw [hW]; exact ((Below.refl _ _).alloc (Nat.le_refl _) _).alloc (by simp) _
  have hsz : W.heap.size = w.heap.size + 2 := by rw [hW]; simp
  have f0 : Fill w.heap.size 23 16 16 (hF x) W := by
    rw [hW]
    exact Fill.of_row (by rw [heap_lt _ _ (by simp)]; exact heap_alloc_new w _)
  have f1 : Fill (w.heap.size + 1) 23 16 16 z0 W := by
    rw [hW]
    exact Fill.of_row (by have := heap_alloc_new (w.alloc (.cells (rowV 16 (hF x)) 23)) (.cells (rowV 16 z0) 23); simpa using this)
  have hbl := (Below.refl W.heap.size W).alloc (Nat.le_refl _) (.cells (([87, UInt8.ofNat i, UInt8.ofNat k] : List UInt8).map bv).toArray 5)
  have hszl : (W.alloc (.cells (([87, UInt8.ofNat i, UInt8.ofNat k] : List UInt8).map bv).toArray 5)).heap.size = W.heap.size + 1 := heap_sz _ _
  have hs := sum2 (some ⟨W.heap.size, 0, none⟩) (some ⟨w.heap.size, 0, none⟩) 3 16 3 16 [87, UInt8.ofNat i, UInt8.ofNat k] x (W.alloc (.cells (([87, UInt8.ofNat i, UInt8.ofNat k] : List UInt8).map bv).toArray 5)) rfl hx.symm (by rw [hszl]; exact Rd.lit W [87, UInt8.ofNat i, UInt8.ofNat k] (0, 0)) ((rd_row (f0.below hbl f0.lt) hx)) (by omega) (by omega) (by rw [hx]; simp) ((ht.below hb ht.2.2.1 ht.2.2.2).below hbl (by have := ht.2.2.1; omega) (by have := ht.2.2.2; omega))
  rw [hszl, ← hlit] at hs
  have HS := Lib.hid hs
  have HBL : Hid (Below W.heap.size W (W.alloc (.cells #[.int .u8 87, .int .u8 (i : Int), .int .u8 (k : Int)] 5))) := by rw [hlit]; exact hbl
  have hszl' : (W.alloc (.cells #[.int .u8 87, .int .u8 (i : Int), .int .u8 (k : Int)] 5)).heap.size = W.heap.size + 1 := heap_sz _ _
  have HW := Lib.hid hW
  have HB := Lib.hid hb
  have H1 := Lib.hid f1
  have HL := Lib.hid (shaL_length ([87, UInt8.ofNat i, UInt8.ofNat k] ++ x))
  clear hW hb f0 f1 hbl hszl hs hlit
  go_enter Tryd.func24, Tryd.ntmps24
  go_wp2_with fail
  rw [← HW.out, show w.heap.size + 1 + 1 = W.heap.size by omega]
  refine HS.out.mono ?_
  rintro e w5 ⟨rfl, hb5⟩
  have HB5 := Lib.hid (HBL.out.trans (hb5.mono (by omega)))
  clear hb5
  have hfr := front_c (shaL ([87, UInt8.ofNat i, UInt8.ofNat k] ++ x)) HL.out w5
  obtain ⟨y, hy⟩ : ∃ y, y = shaL ([87, UInt8.ofNat i, UInt8.ofNat k] ++ x) := ⟨_, rfl⟩
  have HY := Lib.hid (show stepL i k x = y.take 16 by rw [hy]; rfl)
  rw [← hy] at hfr ⊢
  clear hy
  go_wp2_with (first | (go_at_call 30; refine hfr.mono ?_; rintro e w6 ⟨rfl, hb6⟩; have HB6 := Lib.hid (HB5.out.trans (hb6.mono HB5.out.size)); have h1 := (H1.out.below HB6.out H1.out.lt).done; clear hb6) | (refine wpList_store_row rfl 23 (.tmp 6) (.tmp 15) rfl (w.heap.size + 1) (rowV 16 (hF (y.take 16))) rfl rfl 23 (rowV 16 z0) h1 (size_nodeV _) (by rw [rowV_size, rowV_size]) (rowV_one 16 _ (fun i => rfl)) ?_) | fail)
  rw [HY.out]
  exact bodyPost_ret (v := .agg (rowV 16 (hF (y.take 16)))) (results_cell_row rfl _ _ (w.heap.size + 1) 23 (rowV 16 (hF (y.take 16))) (0, 0) _ rfl (setRow_heap _ _ _ _ _ _ h1) Tryd.underlying23 rfl (size_nodeV _)) rfl ⟨rfl, below_setRow (HB.out.trans (HB6.out.mono (by omega))) (by omega) _⟩
end Go.Proofs.YtgdiffjobkfmoaaDoorRR
