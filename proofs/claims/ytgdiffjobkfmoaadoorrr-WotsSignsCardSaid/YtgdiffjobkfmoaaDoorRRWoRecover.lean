/- Contract: the public that comes of a signature of the right size. -/
import Derived.Test.YtgdiffjobkfmoaaDoorRRWoSign
import Derived.Test.YtgdiffjobkfmoaaDoorRRWoCut
namespace Go.Proofs.YtgdiffjobkfmoaaDoorRR
open Go.ChangeShapes Go.WideShapes Go.ChangeAt Go.RowKit Go.Shelf
set_option linter.unusedVariables false

set_option maxRecDepth 100000 in
set_option maxHeartbeats 8000000 in
theorem recover_c (X h : List UInt8) (hX : X.length = 1088) (hh : h.length = 32) (A : Option Addr) (c lo : Nat) (w : World) (hr : Rd w lo w.heap.size A X) (ht : Tabs w) :
    Calls Tryd.prog 6 #[.slice A 1088 c, .agg (hashV h)] w fun e w' => e = .returned (.tuple #[.agg (hashV (pubL (onL X h))), .int .i64 0]) ∧ Below w.heap.size w w' := by
  have hz := zero_bytes
  have hz2 := zero_nodes
  have hz32 := zero_hash
  obtain ⟨bs, off, rfl, _, hbs, hcs⟩ := hr (by omega)
  obtain ⟨W, hW⟩ : ∃ W, W = ((w.alloc (.cells (hashV h) 27)).alloc (.cells (rowV 32 z8) 27)).alloc (.cells (rowV 1088 z0) 41) := ⟨_, rfl⟩
  have hb : Below w.heap.size w W := by rw [hW]; exact (((Below.refl _ _).alloc (Nat.le_refl _) _).alloc (by simp) _).alloc (by simp; omega) _
  have hsz : W.heap.size = w.heap.size + 3 := by rw [hW]; simp
  have f0 : Fill w.heap.size 27 32 32 (hF h) W := by
    rw [hW]
    exact Fill.of_row (by rw [heap_lt _ _ (by simp; omega), heap_lt _ _ (by simp)]; exact heap_alloc_new w _)
  have f1 : Fill (w.heap.size + 1) 27 32 32 z8 W := by
    rw [hW]
    exact Fill.of_row (by rw [heap_lt _ _ (by simp)]; have := heap_alloc_new (w.alloc (.cells (hashV h) 27)) (.cells (rowV 32 z8) 27); simpa using this)
  have f2 : Fill (w.heap.size + 2) 41 1088 1088 z0 W := by
    rw [hW]
    exact Fill.of_row (by have := heap_alloc_new ((w.alloc (.cells (hashV h) 27)).alloc (.cells (rowV 32 z8) 27)) (.cells (rowV 1088 z0) 41); simpa using this)
  have hcl : (X.map bv).length = 1088 := by rw [List.length_map]; exact hX
  have hsp := spliced_row 1088 z0 (hF X) 0 (X.map bv) (by rw [hcl]; omega) (fun j hj => by
    rw [hcl, if_pos ⟨Nat.zero_le _, by omega⟩, Nat.sub_zero, List.getD_eq_getElem?_getD, hF_at _ j (by rw [hX]; omega)]
    rfl)
  have hsr : ∀ j v, (X.map bv)[j]? = some v → W.cell? ((⟨bs, off, none⟩ : Addr).add j) = some v := fun j v hv => by
    rw [Addr.add_mid, hb.cell (p := ⟨bs, off + j, none⟩) hbs]
    rw [List.getElem?_map] at hv
    cases hx : X[j]? with
    | none => rw [hx] at hv; cases hv
    | some x => rw [hx] at hv; injection hv with hv; rw [← hv]; exact hcs j x hx
  obtain ⟨V, hV⟩ : ∃ V, V = W.setRow (w.heap.size + 2) (rowV 1088 (hF X)) := ⟨_, rfl⟩
  have hbV : Below w.heap.size w V := by rw [hV]; exact below_setRow hb (by omega) _
  have hszV : V.heap.size = w.heap.size + 3 := by rw [hV]; simp [World.setRow]; exact hsz
  have v0 : Fill w.heap.size 27 32 32 (hF h) V := by rw [hV]; exact f0.keep (setRow_other _ _ _ _ (by omega))
  have v1 : Fill (w.heap.size + 1) 27 32 32 z8 V := by rw [hV]; exact f1.keep (setRow_other _ _ _ _ (by omega))
  have v2 : Fill (w.heap.size + 2) 41 1088 1088 (hF X) V := by rw [hV]; exact Fill.of_row (setRow_heap _ _ _ _ _ _ f2.done)
  have HT : Hid (∀ u : World, Below w.heap.size w u → Tabs u) := fun u hu => ht.below hu ht.2.2.1 ht.2.2.2
  have HDG := Lib.hid (digits_c h hh V)
  have HW := Lib.hid hW
  have HV := Lib.hid hV
  have HBV := Lib.hid hbV
  have H0 := Lib.hid v0
  have H1 := Lib.hid v1
  have H2 := Lib.hid v2
  have HF2 := Lib.hid f2.done
  have HCL := Lib.hid hcl
  have HSP := Lib.hid hsp
  have HSR := Lib.hid hsr
  have h0 := v0.done
  have hol := onL_len X h hX
  have HOL := Lib.hid hol
  clear hb f0 f1 f2 hbV v0 v1 v2 hcl hsp hsr hcs hW hV hr hol
  unfold hashV at HDG HW
  go_enter Tryd.func6, Tryd.ntmps6
  unfold hashV
  go_wp2_with (first
    | (refine wpList_copy_own rfl (.tmp 13) (.tmp 14) 28 28 rfl 5 Tryd.underlying28 size_u8 (w.heap.size + 2) 0 1088 1088 ⟨bs, off, none⟩ 1088 c rfl rfl (rowV 1088 z0) 41 (by rw [← HW.out]; exact HF2.out) (X.map bv) (by rw [HCL.out]; rfl) (by rw [← HW.out]; exact HSR.out) (by rw [HCL.out, rowV_size]; omega) (bv_one _) ?_; rw [← HW.out, show ((rowV 1088 z0).toList.take 0 ++ (X.map bv ++ (rowV 1088 z0).toList.drop (0 + (X.map bv).length))).toArray = rowV 1088 (hF X) from HSP.out, ← HV.out])
    | (refine wpList_load_row rfl 27 (.tmp 3) rfl w.heap.size rfl 27 (rowV 32 (hF h)) (0, 0) _ h0 Tryd.underlying27 rfl (size_hashVW _) ?_)
    | fail)
  refine HDG.out.mono ?_
  rintro e w3 ⟨v, rfl, hb3, hr3⟩
  obtain ⟨A, c3, rfl, hc, hA⟩ := rowForm hr3
  obtain ⟨g, rfl, hg1, hg2, hcell⟩ := dig_cells hr3
  have hs3 := hb3.size
  have hb4 := (Below.refl w3.heap.size w3).alloc (Nat.le_refl _) (.cells #[.slice (some ⟨g, 0, none⟩) 68 c3] 36)
  have hsz4 : (w3.alloc (.cells #[.slice (some ⟨g, 0, none⟩) 68 c3] 36)).heap.size = w3.heap.size + 1 := heap_sz _ _
  have hbx : (w3.alloc (.cells #[.slice (some ⟨g, 0, none⟩) 68 c3] 36)).cell? ⟨w3.heap.size, 0, none⟩ = some (.slice (some ⟨g, 0, none⟩) 68 c3) := by rw [cell_of_row _ _ _ _ _ (0, 0) (heap_alloc_new w3 _)]; rfl
  have hbV4 := hb3.trans (hb4.mono hs3)
  obtain ⟨w4, hw4⟩ : ∃ w4, w4 = w3.alloc (.cells #[.slice (some ⟨g, 0, none⟩) 68 c3] 36) := ⟨_, rfl⟩
  rw [← hw4] at hb4 hsz4 hbx hbV4
  have HB4 := Lib.hid hbV4
  have HEA : Hid (∀ u : World, Below w4.heap.size w4 u → Calls Tryd.prog 12 #[.agg (rowV 1088 (hF X)), .func (.func 17) #[] #[.pointer (some ⟨w3.heap.size, 0, none⟩)]] u fun e w' => e = .returned (.agg (rowV 1088 (hF (onL X h)))) ∧ Below u.heap.size u w') := fun u hu =>
    each_c X hX (fun i x => walkL i (dg h i) 3 x) (walk_ok (fun i => dg h i) (fun _ => 3)) 17 #[.pointer (some ⟨w3.heap.size, 0, none⟩)] (enters_of Tryd.func17 (by kernel_rfl) rfl) u
      (fun i hi x hx u' hu' => recClo_c x hx i (dg h i) w3.heap.size g c3 hi (by have := dg_lt h i; omega) u' (HT.out _ (HBV.out.trans ((HB4.out.mono (by omega)).trans ((hu.mono (by omega)).trans (hu'.mono (by have := hu.size; omega)))))) (((hu.trans (hu'.mono hu.size)).cell (p := ⟨w3.heap.size, 0, none⟩) (by rw [hsz4]; show w3.heap.size < w3.heap.size + 1; omega)).trans hbx) (((hu.trans (hu'.mono hu.size)).cell (p := ⟨g, i, none⟩) (by rw [hsz4]; show g < w3.heap.size + 1; omega)).trans ((hb4.cell (p := ⟨g, i, none⟩) hg2).trans (hcell i hi))))
  have h2 := (H2.out.below HB4.out (by omega)).done
  have hcu := cut_c X hX w4
  have HW4 := Lib.hid hw4
  rw [hw4] at h2
  clear hb3 hr3 hb4 hbx hcell hw4 hc hA h0 hbV4
  go_wp2_with (first
    | (refine wpList_load_row rfl 41 (.tmp 6) rfl (w.heap.size + 2) rfl 41 (rowV 1088 (hF X)) (0, 0) _ h2 Tryd.underlying41 rfl (size_bytes _) ?_)
    | fail)
  rw [← HW4.out]
  refine hcu.mono ?_
  rintro e w5 ⟨rfl, hb5⟩
  have hea := HEA.out w5 hb5
  have HB5 := Lib.hid (HB4.out.trans (hb5.mono (by omega)))
  obtain ⟨Y, hY⟩ : ∃ Y, Y = onL X h := ⟨_, rfl⟩
  rw [← hY] at hea HOL
  have HY := Lib.hid hY
  clear hb5 hcu h2 hY
  go_wp2_with fail
  refine hea.mono ?_
  rintro e w6 ⟨rfl, hb6⟩
  have hs5 := HB5.out.size
  have HB6 := Lib.hid (HB5.out.trans (hb6.mono hs5))
  have hs6 := hb6.size
  have hba := (Below.refl w6.heap.size w6).alloc (Nat.le_refl _) (.cells (rowV 1088 z0) 42)
  have h7 : ((w6.alloc (.cells (rowV 1088 z0) 42)).setRow w6.heap.size (rowV 1088 (hF Y))).heap[w6.heap.size]? = some (.cells (rowV 1088 (hF Y)) 42 (0, 0)) := setRow_heap _ _ _ _ _ _ (heap_alloc_new w6 _)
  have hb7 := below_setRow hba (Nat.le_refl _) (rowV 1088 (hF Y))
  have HB7 := Lib.hid (HB6.out.trans (hb7.mono (by omega)))
  have hp := public_c Y HOL.out ((w6.alloc (.cells (rowV 1088 z0) 42)).setRow w6.heap.size (rowV 1088 (hF Y))) (HT.out _ (HBV.out.trans (HB7.out.mono (by omega))))
  obtain ⟨y, hy⟩ : ∃ y, y = pubL Y := ⟨_, rfl⟩
  rw [← hy] at hp
  have HYY := Lib.hid hy
  clear hb6 hba hb7 hy hea
  unfold hashV at hp
  go_wp2_with (first
    | (refine wpList_store_row rfl 42 (.tmp 8) (.tmp 21) rfl w6.heap.size (rowV 1088 (hF Y)) rfl rfl 42 (rowV 1088 z0) (heap_alloc_new w6 _) (size_nodes _) (by rw [rowV_size, rowV_size]) (rowV_one 1088 _ (fun i => rfl)) ?_; obtain ⟨w7, hw7⟩ : ∃ w7, w7 = (w6.alloc (.cells (rowV 1088 z0) 42)).setRow w6.heap.size (rowV 1088 (hF Y)) := ⟨_, rfl⟩; rw [← hw7]; rw [← hw7] at h7 HB7 hp; clear hw7)
    | (refine wpList_load_row rfl 42 (.tmp 8) rfl w6.heap.size rfl 42 (rowV 1088 (hF Y)) (0, 0) _ h7 Tryd.underlying42 rfl (size_nodes _) ?_)
    | (go_at_call 18; refine hp.mono ?_; rintro e w8 ⟨rfl, hb8⟩; have HB8 := Lib.hid (HB7.out.trans (hb8.mono HB7.out.size)); have h9 := (H1.out.below HB8.out (by omega)).done; clear hb8)
    | (refine wpList_store_row rfl 27 (.tmp 4) (.tmp 23) rfl (w.heap.size + 1) (rowV 32 (hF y)) rfl rfl 27 (rowV 32 z8) h9 (size_hashVW _) (by rw [rowV_size, rowV_size]) (rowV_one 32 _ (fun i => rfl)) ?_)
    | fail)
  have hlv := run_loadVar_row (P := Tryd.prog) (w8.setRow (w.heap.size + 1) (rowV 32 (hF y))) (w.heap.size + 1) 27 27 (rowV 32 (hF y)) (0, 0) _ (setRow_heap _ _ _ _ _ _ h9) Tryd.underlying27 rfl (size_hashVW _)
  exact bodyPost_ret (v := .tuple #[.agg (rowV 32 (hF y)), .int .i64 0]) (by simp [results, Tryd.results6, asAddr, hlv]) rfl ⟨by rw [HYY.out, HY.out], below_setRow (HBV.out.trans (HB8.out.mono (by omega))) (by omega) _⟩
end Go.Proofs.YtgdiffjobkfmoaaDoorRR
