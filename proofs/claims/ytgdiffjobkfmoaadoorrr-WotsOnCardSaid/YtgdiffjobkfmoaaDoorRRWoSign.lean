/- Contracts: what is signed of a hash. -/
import Derived.Test.YtgdiffjobkfmoaaDoorRRWoJoin
import Derived.Test.YtgdiffjobkfmoaaDoorRRWoClo
namespace Go.Proofs.YtgdiffjobkfmoaaDoorRR
open Go.ChangeShapes Go.WideShapes Go.ChangeAt Go.RowKit Go.Shelf
set_option linter.unusedVariables false

/-- Bytes in an array of their own. -/
def SigP (w : World) (x : List UInt8) (e : Ending) (w' : World) : Prop := ∃ g, e = .returned (.slice (some ⟨g, 0, none⟩) 1088 1088) ∧ w.heap.size ≤ g ∧ Fill g 41 1088 1088 (hF x) w' ∧ Below w.heap.size w w'
/-- The digits as they lie, read anew later. -/
theorem dig_cells {w : World} {base c : Nat} {A : Option Addr} {l : List UInt8} (h : w.ownsRow base 3 1 (.slice A 68 c) 68 ((List.range 68).map fun i => natI (dg l i))) : ∃ g, A = some ⟨g, 0, none⟩ ∧ base ≤ g ∧ g < w.heap.size ∧ ∀ i, i < 68 → w.cell? ⟨g, i, none⟩ = some (.int .i64 (dg l i : Int)) := by
  obtain ⟨g, hA, h1, h2, _⟩ := rowAt h (j := 0) (u := natI (dg l 0)) rfl
  refine ⟨g, hA, h1, h2, fun i hi => ?_⟩
  obtain ⟨g', hA', _, _, hc⟩ := rowAt h (j := i) (u := natI (dg l i)) (by rw [List.getElem?_map, List.getElem?_range hi]; rfl)
  rw [hA] at hA'
  injection hA' with e
  injection e with e _ _
  subst e
  exact hc
set_option maxRecDepth 100000 in
set_option maxHeartbeats 4000000 in
theorem sign_c (S h : List UInt8) (hS : S.length = 1088) (hh : h.length = 32) (w : World) (ht : Tabs w) :
    Calls Tryd.prog 5 #[.agg (rowV 1088 (hF S)), .agg (hashV h)] w (SigP w (signL S h)) := by
  have hz := zero_bytes
  obtain ⟨W, hW⟩ : ∃ W, W = (w.alloc (.cells (rowV 1088 (hF S)) 25)).alloc (.cells (hashV h) 27) := ⟨_, rfl⟩
  have hb : Below w.heap.size w W := by rw [hW]; exact ((Below.refl _ _).alloc (Nat.le_refl _) _).alloc (by simp) _
  have hsz : W.heap.size = w.heap.size + 2 := by rw [hW]; simp
  have f0 : Fill w.heap.size 25 1088 1088 (hF S) W := by
    rw [hW]
    exact Fill.of_row (by rw [heap_lt _ _ (by simp)]; exact heap_alloc_new w _)
  have h1 : W.heap[w.heap.size + 1]? = some (.cells (hashV h) 27 (0, 0)) := by
    rw [hW]
    have := heap_alloc_new (w.alloc (.cells (rowV 1088 (hF S)) 25)) (.cells (hashV h) 27)
    simpa using this
  have hdg := digits_c h hh W
  have HT : Hid (∀ u : World, Below w.heap.size w u → Tabs u) := fun u hu => ht.below hu ht.2.2.1 ht.2.2.2
  have HW := Lib.hid hW
  have HB := Lib.hid hb
  have H0 := Lib.hid f0
  rw [hW] at h1
  have HDG := Lib.hid hdg
  clear hW hb f0 hdg
  unfold SigP
  go_enter Tryd.func5, Tryd.ntmps5
  go_wp2_with (first
    | (refine wpList_load_row rfl 27 (.tmp 3) rfl (w.heap.size + 1) rfl 27 (hashV h) (0, 0) _ h1 Tryd.underlying27 rfl (size_hashVW _) ?_)
    | fail)
  rw [← HW.out]
  refine HDG.out.mono ?_
  rintro e w3 ⟨v, rfl, hb3, hr3⟩
  obtain ⟨A, c, rfl, hc, hA⟩ := rowForm hr3
  obtain ⟨g, rfl, hg1, hg2, hcell⟩ := dig_cells hr3
  have hb4 := (Below.refl w3.heap.size w3).alloc (Nat.le_refl _) (.cells #[.slice (some ⟨g, 0, none⟩) 68 c] 36)
  have hsz4 : (w3.alloc (.cells #[.slice (some ⟨g, 0, none⟩) 68 c] 36)).heap.size = w3.heap.size + 1 := heap_sz _ _
  have hbx : (w3.alloc (.cells #[.slice (some ⟨g, 0, none⟩) 68 c] 36)).cell? ⟨w3.heap.size, 0, none⟩ = some (.slice (some ⟨g, 0, none⟩) 68 c) := by rw [cell_of_row _ _ _ _ _ (0, 0) (heap_alloc_new w3 _)]; rfl
  have HB4 := Lib.hid (hb3.trans (hb4.mono hb3.size))
  have hs3 := hb3.size
  have HEA : Hid (Calls Tryd.prog 12 #[.agg (rowV 1088 (hF S)), .func (.func 13) #[] #[.pointer (some ⟨w3.heap.size, 0, none⟩)]] (w3.alloc (.cells #[.slice (some ⟨g, 0, none⟩) 68 c] 36)) fun e w' => e = .returned (.agg (rowV 1088 (hF (signL S h)))) ∧ Below (w3.alloc (.cells #[.slice (some ⟨g, 0, none⟩) 68 c] 36)).heap.size (w3.alloc (.cells #[.slice (some ⟨g, 0, none⟩) 68 c] 36)) w') :=
    each_c S hS (fun i x => walkL i 0 (dg h i) x) (walk_ok (fun _ => 0) (fun i => dg h i)) 13 #[.pointer (some ⟨w3.heap.size, 0, none⟩)] (enters_of Tryd.func13 (by kernel_rfl) rfl) _
      (fun i hi x hx u hu => signClo_c x hx i (dg h i) w3.heap.size g c hi (by have := dg_lt h i; omega) u (HT.out _ ((HB.out.trans (HB4.out.mono (by omega))).trans (hu.mono (by omega)))) ((hu.cell (p := ⟨w3.heap.size, 0, none⟩) (by rw [hsz4]; show w3.heap.size < w3.heap.size + 1; omega)).trans hbx) ((hu.cell (p := ⟨g, i, none⟩) (by rw [hsz4]; show g < w3.heap.size + 1; omega)).trans ((hb4.cell (p := ⟨g, i, none⟩) hg2).trans (hcell i hi))))
  obtain ⟨w4, hw4⟩ : ∃ w4, w4 = w3.alloc (.cells #[.slice (some ⟨g, 0, none⟩) 68 c] 36) := ⟨_, rfl⟩
  have HW4 := Lib.hid hw4
  rw [← hw4] at HEA HB4 hsz4
  have h0 := (H0.out.below HB4.out H0.out.lt).done
  clear hb3 hr3 hb4 hbx hcell hw4 hc hA h1
  rw [HW4.out] at h0
  go_wp2_with (first
    | (refine wpList_load_row rfl 25 (.tmp 2) rfl w.heap.size rfl 25 (rowV 1088 (hF S)) (0, 0) _ h0 Tryd.underlying25 rfl (size_secret _) ?_)
    | fail)
  rw [← HW4.out]
  refine HEA.out.mono ?_
  rintro e w5 ⟨rfl, hb5⟩
  have HB5 := Lib.hid (HB4.out.trans (hb5.mono (by omega)))
  have hj := join_c (signL S h) (signL_len S h hS) w5
  clear hb5 h0
  obtain ⟨Y, hY⟩ : ∃ Y, Y = signL S h := ⟨_, rfl⟩
  rw [← hY] at hj ⊢
  have HY := Lib.hid hY
  clear hY
  have HJ := Lib.hid hj
  clear hj
  go_wp2_with fail
  refine HJ.out.mono ?_
  rintro e w6 ⟨rfl, hb6⟩
  have HB6 := Lib.hid (HB5.out.trans (hb6.mono (by have := HB5.out.size; omega)))
  clear hb6
  have hba := (Below.refl w6.heap.size w6).alloc (Nat.le_refl _) (.cells (rowV 1088 z0) 41)
  have HR7 := Lib.hid (show ((w6.alloc (.cells (rowV 1088 z0) 41)).setRow w6.heap.size (rowV 1088 (hF Y))).heap[w6.heap.size]? = some (.cells (rowV 1088 (hF Y)) 41 (0, 0)) from setRow_heap _ _ _ _ _ _ (heap_alloc_new w6 _))
  have HB7 := Lib.hid (below_setRow hba (Nat.le_refl _) (rowV 1088 (hF Y)))
  clear hba
  go_wp2_with (first
    | (refine wpList_store_row rfl 41 (.tmp 6) (.tmp 12) rfl w6.heap.size (rowV 1088 (hF Y)) rfl rfl 41 (rowV 1088 z0) (heap_alloc_new w6 _) (size_bytes _) (by rw [rowV_size, rowV_size]) (rowV_one 1088 _ (fun i => rfl)) ?_; obtain ⟨w7, hw7⟩ : ∃ w7, w7 = (w6.alloc (.cells (rowV 1088 z0) 41)).setRow w6.heap.size (rowV 1088 (hF Y)) := ⟨_, rfl⟩; rw [← hw7]; rw [← hw7] at HR7 HB7; clear hw7)
    | fail)
  go_ret
  have hs6 := HB6.out.size
  exact ⟨w6.heap.size, rfl, by omega, by rw [← HY.out]; exact Fill.of_row HR7.out, (HB.out.trans (HB6.out.mono (by omega))).trans (HB7.out.mono (by omega))⟩
set_option maxRecDepth 100000 in
set_option maxHeartbeats 4000000 in
theorem publicOf_c (S : List UInt8) (hS : S.length = 1088) (w : World) (ht : Tabs w) :
    Calls Tryd.prog 8 #[.agg (rowV 1088 (hF S))] w fun e w' => e = .returned (.agg (hashV (pubL (endsL S)))) ∧ Below w.heap.size w w' := by
  have hz32 := zero_hash
  obtain ⟨W, hW⟩ : ∃ W, W = (w.alloc (.cells (rowV 1088 (hF S)) 25)).alloc (.cells (rowV 32 z8) 27) := ⟨_, rfl⟩
  have hb : Below w.heap.size w W := by rw [hW]; exact ((Below.refl _ _).alloc (Nat.le_refl _) _).alloc (by simp) _
  have hsz : W.heap.size = w.heap.size + 2 := by rw [hW]; simp
  have h0 : W.heap[w.heap.size]? = some (.cells (rowV 1088 (hF S)) 25 (0, 0)) := by
    rw [hW, heap_lt _ _ (by simp)]
    exact heap_alloc_new w _
  have f1 : Fill (w.heap.size + 1) 27 32 32 z8 W := by
    rw [hW]
    exact Fill.of_row (by have := heap_alloc_new (w.alloc (.cells (rowV 1088 (hF S)) 25)) (.cells (rowV 32 z8) 27); simpa using this)
  have HT : Hid (∀ u : World, Below w.heap.size w u → Tabs u) := fun u hu => ht.below hu ht.2.2.1 ht.2.2.2
  have HEA : Hid (Calls Tryd.prog 12 #[.agg (rowV 1088 (hF S)), .func (.func 22) #[] #[]] W fun e w' => e = .returned (.agg (rowV 1088 (hF (endsL S)))) ∧ Below W.heap.size W w') :=
    each_c S hS (fun i x => walkL i 0 3 x) (walk_ok (fun _ => 0) (fun _ => 3)) 22 #[] (enters_of Tryd.func22 (by kernel_rfl) rfl) W
      (fun i hi x hx u hu => pubClo_c x hx i hi u (HT.out _ (hb.trans (hu.mono (by omega)))))
  have HW := Lib.hid hW
  have HB := Lib.hid hb
  have H1 := Lib.hid f1
  have hEl := endsL_len S hS
  rw [hW] at h0
  obtain ⟨Y, hY⟩ : ∃ Y, Y = endsL S := ⟨_, rfl⟩
  rw [← hY] at HEA hEl ⊢
  clear hW hb f1 hY
  go_enter Tryd.func8, Tryd.ntmps8
  go_wp2_with (first
    | (refine wpList_load_row rfl 25 (.tmp 1) rfl w.heap.size rfl 25 (rowV 1088 (hF S)) (0, 0) _ h0 Tryd.underlying25 rfl (size_secret _) ?_)
    | fail)
  rw [← HW.out]
  refine HEA.out.mono ?_
  rintro e w5 ⟨rfl, hb5⟩
  have HB5 := Lib.hid hb5
  have HP := Lib.hid (public_c Y hEl w5 (HT.out _ (HB.out.trans (hb5.mono (by omega)))))
  clear hb5 h0
  obtain ⟨y, hy⟩ : ∃ y, y = pubL Y := ⟨_, rfl⟩
  rw [← hy] at HP
  have HY := Lib.hid hy
  clear hy
  unfold hashV at *
  go_wp2_with (first
    | (go_at_call 18; refine HP.out.mono ?_; rintro e w6 ⟨rfl, hb6⟩; have HB6 := Lib.hid (HB5.out.trans (hb6.mono HB5.out.size)); have h6 := (H1.out.below HB6.out H1.out.lt).done; clear hb6)
    | (refine wpList_store_row rfl 27 (.tmp 2) (.tmp 5) rfl (w.heap.size + 1) (rowV 32 (hF y)) rfl rfl 27 (rowV 32 z8) h6 (size_hashVW _) (by rw [rowV_size, rowV_size]) (rowV_one 32 _ (fun i => rfl)) ?_)
    | fail)
  exact bodyPost_ret (v := .agg (rowV 32 (hF y))) (results_cell_row rfl _ _ (w.heap.size + 1) 27 (rowV 32 (hF y)) (0, 0) _ rfl (setRow_heap _ _ _ _ _ _ h6) Tryd.underlying27 rfl (size_hashVW _)) rfl ⟨by rw [HY.out]; rfl, below_setRow (HB.out.trans (HB6.out.mono (by omega))) (by omega) _⟩
end Go.Proofs.YtgdiffjobkfmoaaDoorRR
