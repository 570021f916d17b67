/- Contracts: the node of two hashes. -/
import Derived.Test.YthjeanjodhafjaaDoorTrKit
import Derived.Test.YthjeanjodhafjaaDoorStep
import Derived.Test.YthjeanjodhafjaaDoorRefJoin
namespace Go.Proofs.YthjeanjodhafjaaDoor
open Go.ChangeShapes Go.WideShapes Go.ChangeAt Go.RowKit
set_option linter.unusedVariables false

section
variable {P : Program} {w : World}
/-- The store of a whole row as a step of a region that draws its order. -/
theorem step_store_rowT {ops : Array Oper} {o : Oper} {a : Act} {K : Act → World → Prop} {Q : Exit → Act → World → Prop} {E : Prop} (hgd : o.guard = none) (ty : TypeId) (x y : Operand) (ho : o.op = .store ty x y)
    (g : Nat) (cells : Array Value) (hx : a.eval x = .pointer (some ⟨g, 0, none⟩)) (hy : a.eval y = .agg cells) (t : TypeId) (cs : Array Value) (hg : w.heap[g]? = some (.cells cs t (0, 0)))
    (hi : (P.info? ty).map (·.size) = some cells.size) (hs : cs.size = cells.size) (h1 : cells.all (·.oneCell') = true) (dst : Option Tmp) (hdst : o.dst = dst)
    (h : K (a.put dst undef) (w.setRow g cells)) : if Region.wanted o (yielded ops a.tmps) = true then Oper.wp P o a w K Q else E := by
  subst hdst
  have hw : Region.wanted o (yielded ops a.tmps) = true := by simp [Region.wanted, hgd]
  rw [if_pos hw]
  exact wp_store_row ty x y ho g cells hx hy t cs hg hi hs h1 h
/-- The load of a whole row as a step of a region that draws its order. -/
theorem step_load_rowT {ops : Array Oper} {o : Oper} {a : Act} {K : Act → World → Prop} {Q : Exit → Act → World → Prop} {E : Prop} (hgd : o.guard = none) (ty : TypeId) (x : Operand) (ho : o.op = .load ty x)
    (g : Nat) (hx : a.eval x = .pointer (some ⟨g, 0, none⟩)) (t : TypeId) (cs : Array Value) (fr : Nat × Nat) (d : TypeDesc) (hg : w.heap[g]? = some (.cells cs t fr))
    (hu : P.underlying ty = some d) (hd : (match d with | .struct _ | .array _ _ => true | _ => false) = true) (hi : (P.info? ty).map (·.size) = some cs.size) (dst : Option Tmp) (hdst : o.dst = dst)
    (h : K (a.put dst (.agg cs)) w) : if Region.wanted o (yielded ops a.tmps) = true then Oper.wp P o a w K Q else E := by
  subst hdst
  have hw : Region.wanted o (yielded ops a.tmps) = true := by simp [Region.wanted, hgd]
  rw [if_pos hw]
  exact wp_load_row ty x ho g hx t cs fr d hg hu hd hi h
end

/-- Three blocks of hashes, one behind the other. -/
theorem three_hashes (w : World) (x y z : Nat → Value) (hx : ∀ i, (x i).oneCell' = true) : ∃ W, W = ((w.alloc (.cells (rowV 32 x) 25)).alloc (.cells (rowV 32 y) 25)).alloc (.cells (rowV 32 z) 25) ∧ Below w.heap.size w W ∧ W.heap.size = w.heap.size + 3 ∧ Fill w.heap.size 25 32 32 x W ∧ Fill (w.heap.size + 1) 25 32 32 y W ∧ Fill (w.heap.size + 2) 25 32 32 z W := by
  refine ⟨_, rfl, ((((Below.refl _ _).alloc (Nat.le_refl _) _).alloc (by simp) _).alloc (by simp; omega) _), by simp, ?_, ?_, ?_⟩
  · exact Fill.of_row (by rw [heap_lt _ _ (by simp; omega), heap_lt _ _ (by simp)]; exact heap_alloc_new w _)
  · exact Fill.of_row (by rw [heap_lt _ _ (by simp)]; have := heap_alloc_new (w.alloc (.cells (rowV 32 x) 25)) (.cells (rowV 32 y) 25); simpa using this)
  · exact Fill.of_row (by have := heap_alloc_new ((w.alloc (.cells (rowV 32 x) 25)).alloc (.cells (rowV 32 y) 25)) (.cells (rowV 32 z) 25); simpa using this)
set_option maxRecDepth 100000 in
set_option maxHeartbeats 4000000 in
theorem node_c (a b : List UInt8) (ha : a.length = 32) (hb : b.length = 32) (w : World) (ht : Tabs w) :
    Calls Tryd.prog 17 #[.agg (hashV a), .agg (hashV b)] w fun e w' => e = .returned (.agg (hashV (nd a b))) ∧ Below w.heap.size w w' := by
  have hz := zero_hash
  obtain ⟨W, hW, hbW, hsz, f0, f1, f2⟩ := three_hashes w (hF a) (hF b) z8 (fun i => rfl)
  have bl := (Below.refl W.heap.size W).drew.alloc (show W.heap.size ≤ W.drew.heap.size from Nat.le_refl _) (.cells #[.int .u8 78] 5)
  have hszl : (W.drew.alloc (.cells #[.int .u8 78] 5)).heap.size = W.heap.size + 1 := heap_sz W.drew _
  have hr1 : Rd (W.drew.alloc (.cells #[.int .u8 78] 5)) 0 (W.drew.alloc (.cells #[.int .u8 78] 5)).heap.size (some ⟨W.heap.size, 0, none⟩) [78] := (Rd.lit W.drew [78] (0, 0)).wide (Nat.le_refl _) (by simp)
  have hs := Lib.hid (sum3 (some ⟨W.heap.size, 0, none⟩) (some ⟨w.heap.size, 0, none⟩) (some ⟨w.heap.size + 1, 0, none⟩) 1 32 32 1 32 32 [78] a b (W.drew.alloc (.cells #[.int .u8 78] 5)) rfl ha.symm hb.symm hr1 (rd_row (f0.below bl f0.lt) ha) (rd_row (f1.below bl f1.lt) hb) (by omega) (by omega) (by omega) (by simp; omega) ((ht.below hbW ht.2.2.1 ht.2.2.2).below bl (by have := ht.2.2.1; omega) (by have := ht.2.2.2; omega)))
  rw [hszl, hsz] at hs
  obtain ⟨y, hy⟩ : ∃ y, y = nd a b := ⟨_, rfl⟩
  rw [show shaL ([78] ++ a ++ b) = y from hy.symm] at hs
  rw [← hy]
  clear hy
  have HW := Lib.hid (show W = ((w.alloc (.cells (hashV a) 25)).alloc (.cells (hashV b) 25)).alloc (.cells (rowV 32 z8) 25) from hW)
  have HB := Lib.hid hbW
  have HBL := Lib.hid bl
  have H2 := Lib.hid f2
  clear hW hbW f0 f1 f2 bl hr1
  go_enter Tryd.func17, Tryd.ntmps17
  go_wp2_with fail
  rename_i K1 hK1
  rw [← HW.out]
  refine wp_region_noPanic ?_
  refine wp_region_held_drew (S := fun _ => True) (by kernel_rfl) trivial (fun hHeld => ?_)
  refine wpAnyH_take (i := 1) (oi := _) (v := .slice (some ⟨w.heap.size, 0, none⟩) 32 32) rfl (by kernel_rfl) (by kernel_rfl) (by kernel_rfl) (fun _ _ _ h => h) (Or.inl ⟨by rfl, by intro w hSw; go_simp⟩) hHeld ?_
  refine wpAnyH_take (i := 2) (oi := _) (v := .slice (some ⟨w.heap.size + 1, 0, none⟩) 32 32) rfl (by kernel_rfl) (by kernel_rfl) (by kernel_rfl) (fun _ _ _ h => h) (Or.inl ⟨by rfl, by intro w hSw; go_simp⟩) hHeld ?_
  refine wpAnyH_ready (rs := [0]) (by kernel_rfl) (by simp) ?_
  refine AllReadyH.cons (o := _) rfl (fun K hK => ?_) AllReadyH.nil
  go_simp
  refine hK.out _ _ trivial (fun hHeld => ?_)
  clear hK K
  refine wpAnyH_ready (rs := [3]) (by kernel_rfl) (by simp) ?_
  refine AllReadyH.cons (o := _) rfl (fun K hK => ?_) AllReadyH.nil
  go_simp
  refine hK.out _ _ trivial (fun hHeld => ?_)
  clear hK K
  refine wpAnyH_ready (rs := [4]) (by kernel_rfl) (by simp) ?_
  refine AllReadyH.cons (o := _) rfl (fun K hK => ?_) AllReadyH.nil
  go_simp
  go_at_call 28
  refine hs.out.mono ?_
  rintro e w5 ⟨rfl, b5⟩
  have B5 := Lib.hid (HBL.out.trans (b5.mono (by omega)))
  have h5 := (H2.out.below B5.out (by omega)).done
  clear b5
  go_simp
  refine hK.out _ _ trivial (fun hHeld => ?_)
  clear hK K
  refine wpAnyH_ready (rs := [5]) (by kernel_rfl) (by simp) ?_
  refine AllReadyH.cons (o := _) rfl (fun K hK => ?_) AllReadyH.nil
  refine step_store_rowT rfl 25 (.tmp 4) (.tmp 9) rfl (w.heap.size + 1 + 1) (hashV y) rfl rfl 25 (rowV 32 z8) h5 (size_hashVW _) (by unfold hashV; rw [rowV_size, rowV_size]) (rowV_one 32 _ (fun i => rfl)) none rfl ?_
  go_simp
  refine hK.out _ _ trivial (fun hHeld => ?_)
  clear hK K
  refine wpAnyH_done (by kernel_rfl) ?_ _
  refine NoPanic.normal ?_
  apply hK1
  clear hK1 K1
  have hs5 := B5.out.size
  go_wp2_with fail
  exact bodyPost_ret (v := .agg (hashV y)) (results_cell_row rfl _ _ (w.heap.size + 1 + 1) 25 (hashV y) (0, 0) _ rfl (setRow_heap _ _ _ _ _ _ h5) Tryd.underlying25 rfl (size_hashVW _)) rfl ⟨rfl, below_setRow (HB.out.trans (B5.out.mono (by omega))) (by omega) _⟩
set_option maxRecDepth 100000 in
set_option maxHeartbeats 4000000 in
theorem refText_c (a b : List UInt8) (ha : a.length = 32) (hb : b.length = 32) (w : World) :
    Calls Tryd.prog 26 #[.agg (hashV a), .agg (hashV b)] w fun e w' => ∃ v, e = .returned v ∧ Below w.heap.size w w' ∧ w'.ownsRow w.heap.size 5 1 v 65 (([78] ++ a ++ b).map bv) := by
  obtain ⟨i0, hi0, hy0, hy1, hy2⟩ := info_parts byte_info
  obtain ⟨W, hW⟩ : ∃ W, W = (w.alloc (.cells (hashV a) 25)).alloc (.cells (hashV b) 25) := ⟨_, rfl⟩
  have hbW : Below w.heap.size w W := by rw [hW]; exact ((Below.refl _ _).alloc (Nat.le_refl _) _).alloc (by simp) _
  have hsz : W.heap.size = w.heap.size + 2 := by rw [hW]; simp
  have f0 : Fill w.heap.size 25 32 32 (hF a) W := by rw [hW]; exact Fill.of_row (heap_alloc2_old w _ _)
  have f1 : Fill (w.heap.size + 1) 25 32 32 (hF b) W := by rw [hW]; exact Fill.of_row (heap_alloc2_new w _ _)
  have bl := (Below.refl W.heap.size W).drew.alloc (show W.heap.size ≤ W.drew.heap.size from Nat.le_refl _) (.cells #[.int .u8 78] 5)
  have hszl : (W.drew.alloc (.cells #[.int .u8 78] 5)).heap.size = W.heap.size + 1 := heap_sz W.drew _
  have hown : (W.drew.alloc (.cells #[.int .u8 78] 5)).ownsRow (w.heap.size + 2) 5 1 (.slice (some ⟨w.heap.size + 2, 0, none⟩) 1 1) 1 [.int .u8 78] := by
    have := World.ownsRow_lit (base := w.heap.size + 2) (e := 5) (size := 1) W.drew #[.int .u8 78] 1 (by show w.heap.size + 2 ≤ W.heap.size; omega) (by simp only [maxLen]; omega) rfl
    rw [show W.drew.heap.size = w.heap.size + 2 from hsz] at this
    exact this
  have r0 := (rd_row f0 ha)
  have r1 := (rd_row f1 hb)
  have HR : Hid (∀ u : World, Below (w.heap.size + 2) W u → Rd u 0 u.heap.size (some ⟨w.heap.size, 0, none⟩) a ∧ Rd u 0 u.heap.size (some ⟨w.heap.size + 1, 0, none⟩) b) := fun u hu => And.intro ((r0.below hu (by omega)).wide (Nat.le_refl _) (by have := hu.size; omega)) ((r1.below hu (by omega)).wide (Nat.le_refl _) (by have := hu.size; omega))
  obtain ⟨T, hT⟩ : ∃ T, T = [78] ++ a ++ b := ⟨_, rfl⟩
  have HT2 : Hid ([Value.int .u8 78] ++ a.map bv ++ b.map bv = T.map bv) := by rw [hT, List.map_append, List.map_append]; rfl
  rw [← hT]
  have HW := Lib.hid hW
  have HB := Lib.hid hbW
  have HBL := Lib.hid (show Below (w.heap.size + 2) W _ from hsz ▸ bl)
  have HO := Lib.hid hown
  clear hW hbW f0 f1 bl hown r0 r1 hT
  go_enter Tryd.func26, Tryd.ntmps26
  go_wp2_with fail
  rename_i K1 hK1
  rw [← HW.out]
  refine wp_region_noPanic ?_
  refine wp_region_held_drew (S := fun _ => True) (by kernel_rfl) trivial (fun hHeld => ?_)
  refine wpAnyH_take (i := 1) (oi := _) (v := .slice (some ⟨w.heap.size, 0, none⟩) 32 32) rfl (by kernel_rfl) (by kernel_rfl) (by kernel_rfl) (fun _ _ _ h => h) (Or.inl ⟨by rfl, by intro w hSw; go_simp⟩) hHeld ?_
  refine wpAnyH_take (i := 3) (oi := _) (v := .slice (some ⟨w.heap.size + 1, 0, none⟩) 32 32) rfl (by kernel_rfl) (by kernel_rfl) (by kernel_rfl) (fun _ _ _ h => h) (Or.inl ⟨by rfl, by intro w hSw; go_simp⟩) hHeld ?_
  refine wpAnyH_ready (rs := [0]) (by kernel_rfl) (by simp) ?_
  refine AllReadyH.cons (o := _) rfl (fun K hK => ?_) AllReadyH.nil
  go_simp
  refine hK.out _ _ trivial (fun hHeld => ?_)
  clear hK K
  refine wpAnyH_ready (rs := [2]) (by kernel_rfl) (by simp) ?_
  refine AllReadyH.cons (o := _) rfl (fun K hK => ?_) AllReadyH.nil
  refine step_append_rd _ rfl (.tmp 5) (.tmp 6) 56 rfl (w.heap.size + 2) 5 i0 _ Tryd.underlying56 hi0 hy0 hy1 hy2 rfl (.slice (some ⟨w.heap.size + 2, 0, none⟩) 1 1) 1 _ rfl HO.out 0 _ (some ⟨w.heap.size, 0, none⟩) 32 32 a ha.symm rfl (HR.out _ HBL.out).1 (by omega) (by show _ ≤ (W.drew.alloc (.cells #[.int .u8 78] 5)).heap.size; omega) ?_
  intro v1 w1 ho1 hg1
  have HG1 := Lib.hid (HBL.out.grown hg1 (by have := HBL.out.size; omega) (fun g hg => (HO.out.lt g hg).1))
  have HO1 := Lib.hid ho1
  clear hg1 ho1
  refine hK.out _ _ trivial (fun hHeld => ?_)
  clear hK K
  refine wpAnyH_ready (rs := [4]) (by kernel_rfl) (by simp) ?_
  refine AllReadyH.cons (o := _) rfl (fun K hK => ?_) AllReadyH.nil
  refine step_append_rd _ rfl (.tmp 7) (.tmp 8) 56 rfl (w.heap.size + 2) 5 i0 _ Tryd.underlying56 hi0 hy0 hy1 hy2 rfl v1 (1 + a.length) _ rfl HO1.out 0 _ (some ⟨w.heap.size + 1, 0, none⟩) 32 32 b hb.symm rfl (HR.out _ HG1.out).2 (by omega) (by have := HG1.out.size; omega) ?_
  intro v2 w2 ho2 hg2
  have HG2 := Lib.hid (HG1.out.grown hg2 (by have := HG1.out.size; omega) (fun g hg => (HO1.out.lt g hg).1))
  rw [HT2.out, ha, hb, show 1 + 32 + 32 = 65 from rfl] at ho2
  have HO2 := Lib.hid ho2
  clear hg2 ho2
  refine hK.out _ _ trivial (fun hHeld => ?_)
  clear hK K
  refine wpAnyH_ready (rs := [5]) (by kernel_rfl) (by simp) ?_
  refine AllReadyH.cons (o := _) rfl (fun K hK => ?_) AllReadyH.nil
  go_simp
  refine hK.out _ _ trivial (fun hHeld => ?_)
  clear hK K
  refine wpAnyH_done (by kernel_rfl) ?_ _
  refine NoPanic.normal ?_
  apply hK1
  clear hK1 K1
  go_wp2_with fail
  go_ret
  exact ⟨_, rfl, HB.out.trans (HG2.out.mono (by omega)), rowBase HO2.out (by omega)⟩
set_option maxRecDepth 100000 in
set_option maxHeartbeats 4000000 in
theorem refNode_c (a b : List UInt8) (ha : a.length = 32) (hb : b.length = 32) (w : World) :
    Calls Tryd.prog 23 #[.agg (hashV a), .agg (hashV b)] w fun e w' => e = .returned (.agg (hashV (nd a b))) ∧ Below w.heap.size w w' := by
  have hz := zero_hash
  obtain ⟨W, hW, hbW, hsz, f0, f1, f2⟩ := three_hashes w (hF a) (hF b) z8 (fun i => rfl)
  have ht := Lib.hid (refText_c a b ha hb W)
  obtain ⟨y, hy⟩ : ∃ y, y = nd a b := ⟨_, rfl⟩
  rw [← hy]
  have HY := Lib.hid hy
  clear hy
  have HW := Lib.hid (show W = ((w.alloc (.cells (hashV a) 25)).alloc (.cells (hashV b) 25)).alloc (.cells (rowV 32 z8) 25) from hW)
  have HB := Lib.hid hbW
  have H2 := Lib.hid f2
  have h0 := f0.done
  have h1 := f1.done
  rw [HW.out] at h0 h1
  clear hW hbW f0 f1 f2
  go_enter Tryd.func23, Tryd.ntmps23
  go_wp2_with (first
    | (refine wpList_load_row rfl 25 (.tmp 2) rfl w.heap.size rfl 25 (hashV a) (0, 0) _ h0 Tryd.underlying25 rfl (size_hashVW _) ?_)
    | (refine wpList_load_row rfl 25 (.tmp 3) rfl (w.heap.size + 1) rfl 25 (hashV b) (0, 0) _ h1 Tryd.underlying25 rfl (size_hashVW _) ?_)
    | fail)
  rw [← HW.out]
  refine ht.out.mono ?_
  rintro e w1 ⟨v1, rfl, hb1, ho1⟩
  obtain ⟨A1, c1, rfl, _, _⟩ := rowForm ho1
  have hl : ([78] ++ a ++ b : List UInt8).length = 65 := by simp [ha, hb]
  have hs := refSum_any A1 c1 _ ([78] ++ a ++ b) w1 (Ow.of_own ho1).1.rd (by omega)
  rw [hl] at hs
  rw [show shaL ([78] ++ a ++ b) = y from HY.out.symm] at hs
  have HS := Lib.hid hs
  have HB1 := Lib.hid hb1
  clear hs hb1 ho1 hl h0 h1
  go_wp2_with fail
  refine HS.out.mono ?_
  rintro e w2 ⟨rfl, hb2⟩
  have HB2 := Lib.hid (HB1.out.trans (hb2.mono HB1.out.size))
  have h2 := (H2.out.below HB2.out H2.out.lt).done
  clear hb2
  go_wp2_with (first
    | (refine wpList_store_row rfl 25 (.tmp 4) (.tmp 8) rfl (w.heap.size + 1 + 1) (hashV y) rfl rfl 25 (rowV 32 z8) h2 (size_hashVW _) (by unfold hashV; rw [rowV_size, rowV_size]) (rowV_one 32 _ (fun i => rfl)) ?_)
    | fail)
  exact bodyPost_ret (v := .agg (hashV y)) (results_cell_row rfl _ _ (w.heap.size + 1 + 1) 25 (hashV y) (0, 0) _ rfl (setRow_heap _ _ _ _ _ _ h2) Tryd.underlying25 rfl (size_hashVW _)) rfl ⟨rfl, below_setRow (HB.out.trans (HB2.out.mono (by omega))) (by omega) _⟩
end Go.Proofs.YthjeanjodhafjaaDoor
