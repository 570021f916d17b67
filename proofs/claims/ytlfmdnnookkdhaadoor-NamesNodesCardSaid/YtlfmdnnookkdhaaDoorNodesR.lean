/- The first drawn region of NamesNodes. -/
import Derived.Test.YtlfmdnnookkdhaaDoorRsSum
import Derived.Test.YtlfmdnnookkdhaaDoorText
import Derived.Deep.MidRow
namespace Go.Proofs.YtlfmdnnookkdhaaDoor
open Go.ChangeShapes Go.WideShapes Go.ChangeAt Go.RowKit
set_option linter.unusedVariables false

section
variable {P : Program} {w : World}
/-- The store of a whole row as a step of a region that draws its order. -/
theorem step_store_row {ops : Array Oper} {o : Oper} {a : Act} {K : Act → World → Prop} {Q : Exit → Act → World → Prop} {E : Prop} (hgd : o.guard = none) (ty : TypeId) (x y : Operand) (ho : o.op = .store ty x y)
    (g : Nat) (cells : Array Value) (hx : a.eval x = .pointer (some ⟨g, 0, none⟩)) (hy : a.eval y = .agg cells) (t : TypeId) (cs : Array Value) (hg : w.heap[g]? = some (.cells cs t (0, 0)))
    (hi : (P.info? ty).map (·.size) = some cells.size) (hs : cs.size = cells.size) (h1 : cells.all (·.oneCell') = true) (dst : Option Tmp) (hdst : o.dst = dst)
    (h : K (a.put dst undef) (w.setRow g cells)) : if Region.wanted o (yielded ops a.tmps) = true then Oper.wp P o a w K Q else E := by
  subst hdst
  have hw : Region.wanted o (yielded ops a.tmps) = true := by simp [Region.wanted, hgd]
  rw [if_pos hw]
  exact wp_store_row ty x y ho g cells hx hy t cs hg hi hs h1 h
end

noncomputable def nodesR4 : Code := ((Tryd.f4.body.bind (regionOf 4))).getD .skip
set_option maxRecDepth 1000000 in
set_option maxHeartbeats 4000000 in
theorem nodes_r4 (c0 c1 c2 c3 c5 c6 c7 c8 c9 c10 c11 c12 c13 c14 c15 c16 c17 c18 c19 c20 c21 c22 c23 c24 c25 c26 c27 c28 c29 c30 c31 c32 c33 c34 c35 c36 c37 c38 c39 c40 c41 c42 c43 c44 c45 c46 c47 c48 : Value) (pb : Nat) (b : List UInt8) (w : World) (hB : Fill pb 28 32 32 (hF b) w)
    (Q : Exit → Act → World → Prop) (hQ : ∀ (u16 u17 : Value) (p8 p9 : Nat) (w' : World), p8 ≠ p9 → w.heap.size ≤ p8 → w.heap.size ≤ p9 → Fill p8 28 32 32 (hF b) w' → Fill p9 28 32 32 (hF b) w' → Below w.heap.size w w' → Q .normal ⟨#[c0, c1, c2, c3, .pointer (some ⟨pb, 0, none⟩), c5, c6, c7, .pointer (some ⟨p8, 0, none⟩), .pointer (some ⟨p9, 0, none⟩), c10, c11, c12, c13, c14, c15, u16, u17, c18, c19, c20, c21, c22, c23, c24, c25, c26, c27, c28, c29, c30, c31, c32, c33, c34, c35, c36, c37, c38, c39, c40, c41, c42, c43, c44, c45, c46, c47, c48], []⟩ w') :
    Code.wp Tryd.prog nodesR4 Q ⟨#[c0, c1, c2, c3, .pointer (some ⟨pb, 0, none⟩), c5, c6, c7, c8, c9, c10, c11, c12, c13, c14, c15, c16, c17, c18, c19, c20, c21, c22, c23, c24, c25, c26, c27, c28, c29, c30, c31, c32, c33, c34, c35, c36, c37, c38, c39, c40, c41, c42, c43, c44, c45, c46, c47, c48], []⟩ w := by
  conv => arg 2; whnf
  have hz2 := zero_hash
  obtain ⟨cs, hcs⟩ : ∃ cs, cs = (List.range 32).map (hF b) := ⟨_, rfl⟩
  have hi28 : (Tryd.prog.info? 28).map (·.size) = some cs.length := by rw [hcs, List.length_map, List.length_range]; exact size_hash
  have hu28 := Tryd.underlying28
  have HR : Hid (∀ u : World, Below w.heap.size w u → u.rangeAt pb 0 cs) := fun u hu j v hv => by
    rw [hcs, List.getElem?_map] at hv
    rcases Nat.lt_or_ge j 32 with h | h
    · rw [List.getElem?_range h] at hv
      rw [Nat.zero_add]
      exact ((hB.below hu hB.lt).at_ j h).trans hv
    · rw [List.getElem?_eq_none (by simpa using h)] at hv; cases hv
  have k0 := HR.out _ (Below.refl w.heap.size w).drew
  have b0 := (Below.refl w.heap.size w).drew
  have b1 := b0.alloc (show w.heap.size ≤ w.drew.heap.size from Nat.le_refl _) (.cells (rowV 32 z8) 28)
  have b2 := b1.alloc b1.size (.cells (rowV 32 z8) 28)
  have f1 : ((w.drew.alloc (.cells (rowV 32 z8) 28)).alloc (.cells (rowV 32 z8) 28)).heap[w.heap.size]? = some (.cells (rowV 32 z8) 28 (0, 0)) := heap_alloc2_old w.drew _ _
  have f2 : ((w.drew.alloc (.cells (rowV 32 z8) 28)).alloc (.cells (rowV 32 z8) 28)).heap[w.heap.size + 1]? = some (.cells (rowV 32 z8) 28 (0, 0)) := heap_alloc2_new w.drew _ _
  generalize hW : (w.drew.alloc (.cells (rowV 32 z8) 28)).alloc (.cells (rowV 32 z8) 28) = W at *
  have b32 : Below w.heap.size w (W.setRow w.heap.size cs.toArray) := below_setRow b2 (Nat.le_refl _) _
  have b33 : Below w.heap.size w (W.setRow (w.heap.size + 1) cs.toArray) := below_setRow b2 (by omega) _
  have e2 : (W.setRow w.heap.size cs.toArray).heap[w.heap.size + 1]? = some (.cells (rowV 32 z8) 28 (0, 0)) := (setRow_other W _ _ _ (by omega)).trans f2
  have e3 : (W.setRow (w.heap.size + 1) cs.toArray).heap[w.heap.size]? = some (.cells (rowV 32 z8) 28 (0, 0)) := (setRow_other W _ _ _ (by omega)).trans f1
  have b42 : Below w.heap.size w ((W.setRow w.heap.size cs.toArray).setRow (w.heap.size + 1) cs.toArray) := below_setRow b32 (by omega) _
  have b43 : Below w.heap.size w ((W.setRow (w.heap.size + 1) cs.toArray).setRow w.heap.size cs.toArray) := below_setRow b33 (Nat.le_refl _) _
  have hX : cs.toArray = rowV 32 (hF b) := by rw [hcs]; exact rfl
  have F2a : Fill w.heap.size 28 32 32 (hF b) ((W.setRow w.heap.size cs.toArray).setRow (w.heap.size + 1) cs.toArray) := Fill.of_row (by rw [setRow_other _ _ _ _ (by omega), setRow_heap W _ _ _ _ _ f1, hX])
  have F2b : Fill (w.heap.size + 1) 28 32 32 (hF b) ((W.setRow w.heap.size cs.toArray).setRow (w.heap.size + 1) cs.toArray) := Fill.of_row (by rw [setRow_heap _ _ _ _ _ _ e2, hX])
  have F3a : Fill (w.heap.size + 1) 28 32 32 (hF b) ((W.setRow (w.heap.size + 1) cs.toArray).setRow w.heap.size cs.toArray) := Fill.of_row (by rw [setRow_other _ _ _ _ (by omega), setRow_heap W _ _ _ _ _ f2, hX])
  have F3b : Fill w.heap.size 28 32 32 (hF b) ((W.setRow (w.heap.size + 1) cs.toArray).setRow w.heap.size cs.toArray) := Fill.of_row (by rw [setRow_heap _ _ _ _ _ _ e3, hX])
  have HF2a := Lib.hid F2a
  have HF2b := Lib.hid F2b
  have HF3a := Lib.hid F3a
  have HF3b := Lib.hid F3b
  clear F2a F2b F3a F3b hX
  subst hW
  have hi28' : (Tryd.prog.info? 28).map (·.size) = some cs.toArray.size := by rw [List.size_toArray]; exact hi28
  have hsz' : (rowV 32 z8).size = cs.toArray.size := by rw [rowV_size, List.size_toArray, hcs]; simp
  have h1' : cs.toArray.all (·.oneCell') = true := by rw [hcs]; exact rowV_one 32 _ (fun i => rfl)
  have HCS := Lib.hid hcs
  clear hcs
  refine wp_region_noPanic ?_
  refine wp_region_held_drew (S := fun u => u.rangeAt pb 0 cs) (by kernel_rfl) k0 (fun hHeld => ?_)
  refine wpAnyH_take (i := 0) (oi := _) (v := .agg cs.toArray) rfl (by kernel_rfl) (by kernel_rfl) (by kernel_rfl) (fun _ _ _ h => h) (yieldsIf_load_mid (by rfl) _ _ rfl pb 0 rfl cs _ (fun w h => h) hu28 rfl hi28) hHeld ?_
  refine wpAnyH_take (i := 1) (oi := _) (v := .agg cs.toArray) rfl (by kernel_rfl) (by kernel_rfl) (by kernel_rfl) (fun _ _ _ h => h) (yieldsIf_load_mid (by rfl) _ _ rfl pb 0 rfl cs _ (fun w h => h) hu28 rfl hi28) hHeld ?_
  refine wpAnyH_ready (rs := [2, 3]) (by kernel_rfl) (by simp) ?_
  refine AllReadyH.cons (o := _) rfl (fun K hK => ?_) (AllReadyH.cons (o := _) rfl (fun K hK => ?_) AllReadyH.nil)
  · go_simp
    refine hK.out _ _ (HR.out _ b1) (fun hHeld => ?_)
    clear hK K
    refine wpAnyH_ready (rs := [3]) (by kernel_rfl) (by simp) ?_
    refine AllReadyH.cons (o := _) rfl (fun K hK => ?_) AllReadyH.nil
    go_simp
    refine hK.out _ _ (HR.out _ b2) (fun hHeld => ?_)
    clear hK K
    refine wpAnyH_ready (rs := [4]) (by kernel_rfl) (by simp) ?_
    refine AllReadyH.cons (o := _) rfl (fun K hK => ?_) AllReadyH.nil
    refine step_store_row rfl 28 (.tmp 8) (.tmp 16) rfl w.heap.size cs.toArray rfl rfl 28 (rowV 32 z8) f1 hi28' hsz' h1' none rfl ?_
    go_simp
    refine hK.out _ _ (HR.out _ b32) (fun hHeld => ?_)
    clear hK K
    refine wpAnyH_ready (rs := [5]) (by kernel_rfl) (by simp) ?_
    refine AllReadyH.cons (o := _) rfl (fun K hK => ?_) AllReadyH.nil
    refine step_store_row rfl 28 (.tmp 9) (.tmp 17) rfl (w.heap.size + 1) cs.toArray rfl rfl 28 (rowV 32 z8) e2 hi28' hsz' h1' none rfl ?_
    go_simp
    refine hK.out _ _ (HR.out _ b42) (fun hHeld => ?_)
    clear hK K
    refine wpAnyH_done (by kernel_rfl) ?_ _
    refine NoPanic.normal ?_
    exact hQ _ _ w.heap.size (w.heap.size + 1) _ (by omega) (by omega) (by omega) HF2a.out HF2b.out b42
  · go_simp
    refine hK.out _ _ (HR.out _ b1) (fun hHeld => ?_)
    clear hK K
    refine wpAnyH_ready (rs := [2]) (by kernel_rfl) (by simp) ?_
    refine AllReadyH.cons (o := _) rfl (fun K hK => ?_) AllReadyH.nil
    go_simp
    refine hK.out _ _ (HR.out _ b2) (fun hHeld => ?_)
    clear hK K
    refine wpAnyH_ready (rs := [4]) (by kernel_rfl) (by simp) ?_
    refine AllReadyH.cons (o := _) rfl (fun K hK => ?_) AllReadyH.nil
    refine step_store_row rfl 28 (.tmp 8) (.tmp 16) rfl (w.heap.size + 1) cs.toArray rfl rfl 28 (rowV 32 z8) f2 hi28' hsz' h1' none rfl ?_
    go_simp
    refine hK.out _ _ (HR.out _ b33) (fun hHeld => ?_)
    clear hK K
    refine wpAnyH_ready (rs := [5]) (by kernel_rfl) (by simp) ?_
    refine AllReadyH.cons (o := _) rfl (fun K hK => ?_) AllReadyH.nil
    refine step_store_row rfl 28 (.tmp 9) (.tmp 17) rfl w.heap.size cs.toArray rfl rfl 28 (rowV 32 z8) e3 hi28' hsz' h1' none rfl ?_
    go_simp
    refine hK.out _ _ (HR.out _ b43) (fun hHeld => ?_)
    clear hK K
    refine wpAnyH_done (by kernel_rfl) ?_ _
    refine NoPanic.normal ?_
    exact hQ _ _ (w.heap.size + 1) w.heap.size _ (by omega) (by omega) (by omega) HF3a.out HF3b.out b43
end Go.Proofs.YtlfmdnnookkdhaaDoor
