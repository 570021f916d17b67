/- Contracts: the closures that go on in a chain up to a hash's digit, and from it. -/
import Derived.Test.YtgdiffjobkfmoaaDoorRRWoWalk
import Derived.Test.YtgdiffjobkfmoaaDoorRRWoDig
namespace Go.Proofs.YtgdiffjobkfmoaaDoorRR
open Go.ChangeShapes Go.WideShapes Go.ChangeAt Go.RowKit
set_option linter.unusedVariables false

theorem lt_of_cellW {w : World} {a : Addr} {v : Value} (h : w.cell? a = some v) : a.block < w.heap.size := World.block_lt_of_cell? w a h
section
variable {P : Program} {w : World}
/-- The store of a whole row as a step of a region that draws its order. -/
theorem step_store_rowW {ops : Array Oper} {o : Oper} {a : Act} {K : Act → World → Prop} {Q : Exit → Act → World → Prop} {E : Prop} (hgd : o.guard = none) (ty : TypeId) (x y : Operand) (ho : o.op = .store ty x y)
    (g : Nat) (cells : Array Value) (hx : a.eval x = .pointer (some ⟨g, 0, none⟩)) (hy : a.eval y = .agg cells) (t : TypeId) (cs : Array Value) (hg : w.heap[g]? = some (.cells cs t (0, 0)))
    (hi : (P.info? ty).map (·.size) = some cells.size) (hs : cs.size = cells.size) (h1 : cells.all (·.oneCell') = true) (dst : Option Tmp) (hdst : o.dst = dst)
    (h : K (a.put dst undef) (w.setRow g cells)) : if Region.wanted o (yielded ops a.tmps) = true then Oper.wp P o a w K Q else E := by
  subst hdst
  have hw : Region.wanted o (yielded ops a.tmps) = true := by simp [Region.wanted, hgd]
  rw [if_pos hw]
  exact wp_store_row ty x y ho g cells hx hy t cs hg hi hs h1 h
end
set_option maxHeartbeats 4000000 in
theorem signClo_c (x : List UInt8) (hx : x.length = 16) (i d pd g c : Nat) (hi : i < 68) (hd : d ≤ 3) (w : World) (ht : Tabs w) (h1 : w.cell? ⟨pd, 0, none⟩ = some (.slice (some ⟨g, 0, none⟩) 68 c)) (h2 : w.cell? ⟨g, i, none⟩ = some (.int .i64 (d : Int))) :
    Calls Tryd.prog 13 #[.int .i64 (i : Int), .agg (rowV 16 (hF x)), .pointer (some ⟨pd, 0, none⟩)] w fun e w' => e = .returned (.agg (rowV 16 (hF (walkL i 0 d x)))) ∧ Below w.heap.size w w' := by
  have hz16 := zero_node
  obtain ⟨W, hW⟩ : ∃ W, W = (w.alloc (.cells (rowV 16 (hF x)) 23)).alloc (.cells (rowV 16 z0) 23) := ⟨_, rfl⟩
  have hb : Below w.heap.size w W := by rw [hW]; exact ((Below.refl _ _).alloc (Nat.le_refl _) _).alloc (by simp) _
  have hsz : W.heap.size = w.heap.size + 2 := by rw [hW]; simp
  have f0 : Fill w.heap.size 23 16 16 (hF x) W := by
    rw [hW]
    exact Fill.of_row (by rw [heap_lt _ _ (by simp)]; exact heap_alloc_new w _)
  have f1 : Fill (w.heap.size + 1) 23 16 16 z0 W := by
    rw [hW]
    exact Fill.of_row (by have := heap_alloc_new (w.alloc (.cells (rowV 16 (hF x)) 23)) (.cells (rowV 16 z0) 23); simpa using this)
  obtain ⟨LA, hLA⟩ : ∃ LA, LA = (List.range 16).map (hF x) := ⟨_, rfl⟩
  have hiA : (Tryd.prog.info? 23).map (·.size) = some LA.length := by rw [hLA, List.length_map, List.length_range]; exact size_node
  have huN := Tryd.underlying23
  have HWK : Hid (∀ u : World, Below w.heap.size w u → Calls Tryd.prog 14 #[.agg LA.toArray, .int .i64 (i : Int), .int .i64 0, .int .i64 (d : Int)] u fun e w' => e = .returned (.agg (rowV 16 (hF (walkL i 0 d x)))) ∧ Below u.heap.size u w') := by
    rw [hLA]
    exact fun u hu => walk_c x hx i 0 d (by omega) (by omega) (by omega) u (ht.below hu ht.2.2.1 ht.2.2.2)
  have lpd := lt_of_cellW h1
  have lg := lt_of_cellW h2
  have HS : Hid (∀ u : World, Below w.heap.size w u → Fill w.heap.size 23 16 16 (hF x) u → u.rangeAt w.heap.size 0 LA ∧ u.cell? ⟨pd, 0, none⟩ = some (.slice (some ⟨g, 0, none⟩) 68 c) ∧ u.cell? ⟨g, i, none⟩ = some (.int .i64 (d : Int))) := by
    rw [hLA]
    exact fun u hu hf => ⟨hf.range 0 16 (hF x) (by omega) (fun j hj => by rw [Nat.zero_add]), (hu.cell (p := ⟨pd, 0, none⟩) lpd).trans h1, (hu.cell (p := ⟨g, i, none⟩) lg).trans h2⟩
  have k0 := HS.out _ hb.drew (f0.below (Below.refl W.heap.size W).drew f0.lt)
  have H0 := Lib.hid f0
  have HW := Lib.hid hW
  have HB := Lib.hid hb
  have H1 := Lib.hid f1
  have q1 : (i : Int) < 68 := by omega
  obtain ⟨y, hy⟩ : ∃ y, y = walkL i 0 d x := ⟨_, rfl⟩
  rw [← hy] at HWK ⊢
  clear hW hb f0 f1 hLA h1 h2 hy
  go_enter Tryd.func13, Tryd.ntmps13
  go_wp2_with fail
  rw [← HW.out]
  rename_i K1 hK1
  refine wp_region_noPanic ?_
  refine wp_region_held_drew (S := fun u => u.rangeAt w.heap.size 0 LA ∧ u.cell? ⟨pd, 0, none⟩ = some (.slice (some ⟨g, 0, none⟩) 68 c) ∧ u.cell? ⟨g, i, none⟩ = some (.int .i64 (d : Int))) (by kernel_rfl) k0 (fun hHeld => ?_)
  refine wpAnyH_take (i := 0) (oi := _) (v := .agg LA.toArray) rfl (by kernel_rfl) (by kernel_rfl) (by kernel_rfl) (fun _ _ _ h => h) (yieldsIf_load_mid (by rfl) _ _ rfl w.heap.size 0 rfl LA _ (fun w h => h.1) huN rfl hiA) hHeld ?_
  refine wpAnyH_take (i := 1) (oi := _) (v := .int .i64 (i : Int)) rfl (by kernel_rfl) (by kernel_rfl) (by kernel_rfl) (fun _ _ _ h => h) (Or.inl ⟨by rfl, by intro w hSw; go_simp⟩) hHeld ?_
  refine wpAnyH_take (i := 2) (oi := _) (v := .slice (some ⟨g, 0, none⟩) 68 c) rfl (by kernel_rfl) (by kernel_rfl) (by kernel_rfl) (fun _ _ _ h => h) (Or.inl ⟨by rfl, by rintro w ⟨_, s1, s2⟩; go_simp⟩) hHeld ?_
  refine wpAnyH_take (i := 3) (oi := _) (v := .int .i64 (i : Int)) rfl (by kernel_rfl) (by kernel_rfl) (by kernel_rfl) (fun _ _ _ h => h) (Or.inl ⟨by rfl, by intro w hSw; go_simp⟩) hHeld ?_
  refine wpAnyH_take (i := 4) (oi := _) (v := .pointer (some ⟨g, i, none⟩)) rfl (by kernel_rfl) (by kernel_rfl) (by kernel_rfl) (fun _ _ _ h => h) (Or.inl ⟨by rfl, by intro w hSw; go_simp⟩) hHeld ?_
  refine wpAnyH_take (i := 5) (oi := _) (v := .int .i64 (d : Int)) rfl (by kernel_rfl) (by kernel_rfl) (by kernel_rfl) (fun _ _ _ h => h) (Or.inl ⟨by rfl, by rintro w ⟨_, s1, s2⟩; go_simp⟩) hHeld ?_
  refine wpAnyH_ready (rs := [6]) (by kernel_rfl) (by simp) ?_
  refine AllReadyH.cons (o := _) rfl (fun K hK => ?_) AllReadyH.nil
  go_simp
  go_at_call 14
  refine (HWK.out _ (HB.out.trans (((Below.refl W.heap.size W).drew).mono (by omega)))).mono ?_
  rintro e w5 ⟨rfl, hb5⟩
  have HB5 := Lib.hid (((Below.refl W.heap.size W).drew).trans hb5)
  have hbw5 := HB.out.trans (HB5.out.mono (show w.heap.size ≤ W.heap.size by omega))
  have k1 := HS.out _ hbw5 (H0.out.below HB5.out H0.out.lt)
  have h5 := (H1.out.below HB5.out H1.out.lt).done
  clear hb5
  go_simp
  refine hK.out _ _ k1 (fun hHeld => ?_)
  clear hK K
  refine wpAnyH_ready (rs := [7]) (by kernel_rfl) (by simp) ?_
  refine AllReadyH.cons (o := _) rfl (fun K hK => ?_) AllReadyH.nil
  refine step_store_rowW rfl 23 (.tmp 5) (.tmp 12) rfl (w.heap.size + 1) (rowV 16 (hF y)) rfl rfl 23 (rowV 16 z0) h5 (size_nodeV _) (by rw [rowV_size, rowV_size]) (rowV_one 16 _ (fun i => rfl)) none rfl ?_
  have hbw6 := below_setRow hbw5 (Nat.le_succ _) (rowV 16 (hF y))
  have k2 := HS.out _ hbw6 ((H0.out.below HB5.out H0.out.lt).keep (setRow_other _ _ _ _ (by omega)))
  have h6 : (w5.setRow (w.heap.size + 1) (rowV 16 (hF y))).heap[w.heap.size + 1]? = some (.cells (rowV 16 (hF y)) 23 (0, 0)) := setRow_heap _ _ _ _ _ _ h5
  have HB6 := Lib.hid hbw6
  have H6 := Lib.hid h6
  clear hbw5 hbw6 h6
  refine hK.out _ _ k2 (fun hHeld => ?_)
  clear hK K
  refine wpAnyH_done (by kernel_rfl) ?_ _
  refine NoPanic.normal ?_
  apply hK1
  clear hK1 K1
  go_wp2_with fail
  exact bodyPost_ret (v := .agg (rowV 16 (hF y))) (results_cell_row rfl _ _ (w.heap.size + 1) 23 (rowV 16 (hF y)) (0, 0) _ rfl H6.out Tryd.underlying23 rfl (size_nodeV _)) rfl ⟨rfl, HB6.out⟩
set_option maxHeartbeats 4000000 in
theorem recClo_c (x : List UInt8) (hx : x.length = 16) (i d pd g c : Nat) (hi : i < 68) (hd : d ≤ 3) (w : World) (ht : Tabs w) (h1 : w.cell? ⟨pd, 0, none⟩ = some (.slice (some ⟨g, 0, none⟩) 68 c)) (h2 : w.cell? ⟨g, i, none⟩ = some (.int .i64 (d : Int))) :
    Calls Tryd.prog 17 #[.int .i64 (i : Int), .agg (rowV 16 (hF x)), .pointer (some ⟨pd, 0, none⟩)] w fun e w' => e = .returned (.agg (rowV 16 (hF (walkL i d 3 x)))) ∧ Below w.heap.size w w' := by
  have hz16 := zero_node
  obtain ⟨W, hW⟩ : ∃ W, W = (w.alloc (.cells (rowV 16 (hF x)) 23)).alloc (.cells (rowV 16 z0) 23) := ⟨_, rfl⟩
  have hb : Below w.heap.size w W := by rw [hW]; exact ((Below.refl _ _).alloc (Nat.le_refl _) _).alloc (by simp) _
  have hsz : W.heap.size = w.heap.size + 2 := by rw [hW]; simp
  have f0 : Fill w.heap.size 23 16 16 (hF x) W := by
    rw [hW]
    exact Fill.of_row (by rw [heap_lt _ _ (by simp)]; exact heap_alloc_new w _)
  have f1 : Fill (w.heap.size + 1) 23 16 16 z0 W := by
    rw [hW]
    exact Fill.of_row (by have := heap_alloc_new (w.alloc (.cells (rowV 16 (hF x)) 23)) (.cells (rowV 16 z0) 23); simpa using this)
  obtain ⟨LA, hLA⟩ : ∃ LA, LA = (List.range 16).map (hF x) := ⟨_, rfl⟩
  have hiA : (Tryd.prog.info? 23).map (·.size) = some LA.length := by rw [hLA, List.length_map, List.length_range]; exact size_node
  have huN := Tryd.underlying23
  have HWK : Hid (∀ u : World, Below w.heap.size w u → Calls Tryd.prog 14 #[.agg LA.toArray, .int .i64 (i : Int), .int .i64 (d : Int), .int .i64 3] u fun e w' => e = .returned (.agg (rowV 16 (hF (walkL i d 3 x)))) ∧ Below u.heap.size u w') := by
    rw [hLA]
    exact fun u hu => walk_c x hx i d 3 (by omega) (by omega) (by omega) u (ht.below hu ht.2.2.1 ht.2.2.2)
  have lpd := lt_of_cellW h1
  have lg := lt_of_cellW h2
  have HS : Hid (∀ u : World, Below w.heap.size w u → Fill w.heap.size 23 16 16 (hF x) u → u.rangeAt w.heap.size 0 LA ∧ u.cell? ⟨pd, 0, none⟩ = some (.slice (some ⟨g, 0, none⟩) 68 c) ∧ u.cell? ⟨g, i, none⟩ = some (.int .i64 (d : Int))) := by
    rw [hLA]
    exact fun u hu hf => ⟨hf.range 0 16 (hF x) (by omega) (fun j hj => by rw [Nat.zero_add]), (hu.cell (p := ⟨pd, 0, none⟩) lpd).trans h1, (hu.cell (p := ⟨g, i, none⟩) lg).trans h2⟩
  have k0 := HS.out _ hb.drew (f0.below (Below.refl W.heap.size W).drew f0.lt)
  have H0 := Lib.hid f0
  have HW := Lib.hid hW
  have HB := Lib.hid hb
  have H1 := Lib.hid f1
  have q1 : (i : Int) < 68 := by omega
  obtain ⟨y, hy⟩ : ∃ y, y = walkL i d 3 x := ⟨_, rfl⟩
  rw [← hy] at HWK ⊢
  clear hW hb f0 f1 hLA h1 h2 hy
  go_enter Tryd.func17, Tryd.ntmps17
  go_wp2_with fail
  rw [← HW.out]
  rename_i K1 hK1
  refine wp_region_noPanic ?_
  refine wp_region_held_drew (S := fun u => u.rangeAt w.heap.size 0 LA ∧ u.cell? ⟨pd, 0, none⟩ = some (.slice (some ⟨g, 0, none⟩) 68 c) ∧ u.cell? ⟨g, i, none⟩ = some (.int .i64 (d : Int))) (by kernel_rfl) k0 (fun hHeld => ?_)
  refine wpAnyH_take (i := 0) (oi := _) (v := .agg LA.toArray) rfl (by kernel_rfl) (by kernel_rfl) (by kernel_rfl) (fun _ _ _ h => h) (yieldsIf_load_mid (by rfl) _ _ rfl w.heap.size 0 rfl LA _ (fun w h => h.1) huN rfl hiA) hHeld ?_
  refine wpAnyH_take (i := 1) (oi := _) (v := .int .i64 (i : Int)) rfl (by kernel_rfl) (by kernel_rfl) (by kernel_rfl) (fun _ _ _ h => h) (Or.inl ⟨by rfl, by intro w hSw; go_simp⟩) hHeld ?_
  refine wpAnyH_take (i := 2) (oi := _) (v := .slice (some ⟨g, 0, none⟩) 68 c) rfl (by kernel_rfl) (by kernel_rfl) (by kernel_rfl) (fun _ _ _ h => h) (Or.inl ⟨by rfl, by rintro w ⟨_, s1, s2⟩; go_simp⟩) hHeld ?_
  refine wpAnyH_take (i := 3) (oi := _) (v := .int .i64 (i : Int)) rfl (by kernel_rfl) (by kernel_rfl) (by kernel_rfl) (fun _ _ _ h => h) (Or.inl ⟨by rfl, by intro w hSw; go_simp⟩) hHeld ?_
  refine wpAnyH_take (i := 4) (oi := _) (v := .pointer (some ⟨g, i, none⟩)) rfl (by kernel_rfl) (by kernel_rfl) (by kernel_rfl) (fun _ _ _ h => h) (Or.inl ⟨by rfl, by intro w hSw; go_simp⟩) hHeld ?_
  refine wpAnyH_take (i := 5) (oi := _) (v := .int .i64 (d : Int)) rfl (by kernel_rfl) (by kernel_rfl) (by kernel_rfl) (fun _ _ _ h => h) (Or.inl ⟨by rfl, by rintro w ⟨_, s1, s2⟩; go_simp⟩) hHeld ?_
  refine wpAnyH_ready (rs := [6]) (by kernel_rfl) (by simp) ?_
  refine AllReadyH.cons (o := _) rfl (fun K hK => ?_) AllReadyH.nil
  go_simp
  go_at_call 14
  refine (HWK.out _ (HB.out.trans (((Below.refl W.heap.size W).drew).mono (by omega)))).mono ?_
  rintro e w5 ⟨rfl, hb5⟩
  have HB5 := Lib.hid (((Below.refl W.heap.size W).drew).trans hb5)
  have hbw5 := HB.out.trans (HB5.out.mono (show w.heap.size ≤ W.heap.size by omega))
  have k1 := HS.out _ hbw5 (H0.out.below HB5.out H0.out.lt)
  have h5 := (H1.out.below HB5.out H1.out.lt).done
  clear hb5
  go_simp
  refine hK.out _ _ k1 (fun hHeld => ?_)
  clear hK K
  refine wpAnyH_ready (rs := [7]) (by kernel_rfl) (by simp) ?_
  refine AllReadyH.cons (o := _) rfl (fun K hK => ?_) AllReadyH.nil
  refine step_store_rowW rfl 23 (.tmp 5) (.tmp 12) rfl (w.heap.size + 1) (rowV 16 (hF y)) rfl rfl 23 (rowV 16 z0) h5 (size_nodeV _) (by rw [rowV_size, rowV_size]) (rowV_one 16 _ (fun i => rfl)) none rfl ?_
  have hbw6 := below_setRow hbw5 (Nat.le_succ _) (rowV 16 (hF y))
  have k2 := HS.out _ hbw6 ((H0.out.below HB5.out H0.out.lt).keep (setRow_other _ _ _ _ (by omega)))
  have h6 : (w5.setRow (w.heap.size + 1) (rowV 16 (hF y))).heap[w.heap.size + 1]? = some (.cells (rowV 16 (hF y)) 23 (0, 0)) := setRow_heap _ _ _ _ _ _ h5
  have HB6 := Lib.hid hbw6
  have H6 := Lib.hid h6
  clear hbw5 hbw6 h6
  refine hK.out _ _ k2 (fun hHeld => ?_)
  clear hK K
  refine wpAnyH_done (by kernel_rfl) ?_ _
  refine NoPanic.normal ?_
  apply hK1
  clear hK1 K1
  go_wp2_with fail
  exact bodyPost_ret (v := .agg (rowV 16 (hF y))) (results_cell_row rfl _ _ (w.heap.size + 1) 23 (rowV 16 (hF y)) (0, 0) _ rfl H6.out Tryd.underlying23 rfl (size_nodeV _)) rfl ⟨rfl, HB6.out⟩
set_option maxHeartbeats 4000000 in
theorem pubClo_c (x : List UInt8) (hx : x.length = 16) (i : Nat) (hi : i < 68) (w : World) (ht : Tabs w) :
    Calls Tryd.prog 22 #[.int .i64 (i : Int), .agg (rowV 16 (hF x))] w fun e w' => e = .returned (.agg (rowV 16 (hF (walkL i 0 3 x)))) ∧ Below w.heap.size w w' := by
  have hz16 := zero_node
  obtain ⟨W, hW⟩ : ∃ W, W = (w.alloc (.cells (rowV 16 (hF x)) 23)).alloc (.cells (rowV 16 z0) 23) := ⟨_, rfl⟩
  have hb : Below w.heap.size w W := by rw [hW]; exact ((Below.refl _ _).alloc (Nat.le_refl _) _).alloc (by simp) _
  have hsz : W.heap.size = w.heap.size + 2 := by rw [hW]; simp
  have h0 : W.heap[w.heap.size]? = some (.cells (rowV 16 (hF x)) 23 (0, 0)) := by
    rw [hW, heap_lt _ _ (by simp)]
    exact heap_alloc_new w _
  have f1 : Fill (w.heap.size + 1) 23 16 16 z0 W := by
    rw [hW]
    exact Fill.of_row (by have := heap_alloc_new (w.alloc (.cells (rowV 16 (hF x)) 23)) (.cells (rowV 16 z0) 23); simpa using this)
  have HWK : Hid (Calls Tryd.prog 14 #[.agg (rowV 16 (hF x)), .int .i64 (i : Int), .int .i64 0, .int .i64 3] W fun e w' => e = .returned (.agg (rowV 16 (hF (walkL i 0 3 x)))) ∧ Below W.heap.size W w') := walk_c x hx i 0 3 (by omega) (by omega) (by omega) W (ht.below hb ht.2.2.1 ht.2.2.2)
  have HW := Lib.hid hW
  have HB := Lib.hid hb
  have H1 := Lib.hid f1
  rw [hW] at h0
  obtain ⟨y, hy⟩ : ∃ y, y = walkL i 0 3 x := ⟨_, rfl⟩
  rw [← hy] at HWK ⊢
  clear hW hb f1 hy
  go_enter Tryd.func22, Tryd.ntmps22
  go_wp2_with (first
    | (refine wpList_load_row rfl 23 (.tmp 3) rfl w.heap.size rfl 23 (rowV 16 (hF x)) (0, 0) _ h0 Tryd.underlying23 rfl (size_nodeV _) ?_)
    | (rw [← HW.out]; refine HWK.out.mono ?_; rintro e w5 ⟨rfl, hb5⟩; have HB5 := Lib.hid hb5; have h5 := (H1.out.below hb5 H1.out.lt).done; clear hb5)
    | (refine wpList_store_row rfl 23 (.tmp 4) (.tmp 7) rfl (w.heap.size + 1) (rowV 16 (hF y)) rfl rfl 23 (rowV 16 z0) h5 (size_nodeV _) (by rw [rowV_size, rowV_size]) (rowV_one 16 _ (fun i => rfl)) ?_)
    | fail)
  exact bodyPost_ret (v := .agg (rowV 16 (hF y))) (results_cell_row rfl _ _ (w.heap.size + 1) 23 (rowV 16 (hF y)) (0, 0) _ rfl (setRow_heap _ _ _ _ _ _ h5) Tryd.underlying23 rfl (size_nodeV _)) rfl ⟨rfl, below_setRow (HB.out.trans (HB5.out.mono (by omega))) (by omega) _⟩
end Go.Proofs.YtgdiffjobkfmoaaDoorRR
