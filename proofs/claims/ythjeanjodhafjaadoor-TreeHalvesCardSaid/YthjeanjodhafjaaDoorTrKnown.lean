/- The chapter's rows are answered as it says. -/
import Derived.Test.YthjeanjodhafjaaDoorTrFour
namespace Go.Proofs.YthjeanjodhafjaaDoor
open Go.ChangeShapes Go.WideShapes Go.ChangeAt Go.RowKit
set_option linter.unusedVariables false
theorem k7_set (b : UInt8) : (rowV 32 z8).setIfInBounds 0 (bv b) = hashV (k7 b) := by
  apply Array.ext_getElem?
  intro i
  rw [Array.getElem?_setIfInBounds]
  by_cases h : i < 32
  · unfold hashV
    rw [rowV_at 32 _ i h, rowV_at 32 _ i h, rowV_size]
    by_cases h0 : 0 = i
    · subst h0; rfl
    · rw [if_neg h0]
      unfold z8 hF k7
      match i, h0 with
      | i + 1, _ => rw [List.getD_cons_succ, List.getD_eq_getElem?_getD, List.getElem?_replicate]; split <;> rfl
  · rw [if_neg (by omega), Array.getElem?_eq_none (by rw [rowV_size]; omega), Array.getElem?_eq_none (by unfold hashV; rw [rowV_size]; omega)]
set_option maxRecDepth 100000 in
set_option maxHeartbeats 8000000 in
theorem known7 (w : World) (ht : Tabs w) : Calls Tryd.prog 6 #[] w fun e w' => e = .returned (.bool true) ∧ Below w.heap.size w w' := by
  have hz := zero_hash
  have s1 : (rowV 32 z8).setIfInBounds 0 (.int .u8 1) = hashV (k7 1) := k7_set 1
  have s2 : (rowV 32 z8).setIfInBounds 0 (.int .u8 2) = hashV (k7 2) := k7_set 2
  have s3 : (rowV 32 z8).setIfInBounds 0 (.int .u8 3) = hashV (k7 3) := k7_set 3
  have s4 : (rowV 32 z8).setIfInBounds 0 (.int .u8 4) = hashV (k7 4) := k7_set 4
  have hbs := k7_slice
  have HL : ∀ x ∈ [k7 1, k7 2, k7 3, k7 4], x.length = 32 := by intro x hx; simp at hx; rcases hx with rfl | rfl | rfl | rfl <;> rfl
  obtain ⟨R, hR⟩ : ∃ R, R = rootH 2 [k7 1, k7 2, k7 3, k7 4] := ⟨_, rfl⟩
  have HNZ : Hid ((R == List.replicate 32 0) = false) := by rw [hR, k7_root]; exact k7_ne
  generalize k7 1 = a at *
  generalize k7 2 = b at *
  generalize k7 3 = c at *
  generalize k7 4 = d at *
  obtain ⟨W, U, hW, hU, e0, e1, e2, e3, hb, hsz, f0, f1, f2, f3⟩ := four_hashes w a b c d
  have HW := Lib.hid hW
  obtain ⟨W1, hW1⟩ : ∃ W1, W1 = W.setRow w.heap.size (hashV a) := ⟨_, rfl⟩
  rw [← hW1] at hU e1 e2 e3
  have HW1 := Lib.hid hW1
  obtain ⟨W2, hW2⟩ : ∃ W2, W2 = W1.setRow (w.heap.size + 1) (hashV b) := ⟨_, rfl⟩
  rw [← hW2] at hU e2 e3
  have HW2 := Lib.hid hW2
  obtain ⟨W3, hW3⟩ : ∃ W3, W3 = W2.setRow (w.heap.size + 2) (hashV c) := ⟨_, rfl⟩
  rw [← hW3] at hU e3
  have HW3 := Lib.hid hW3
  have HU := Lib.hid hU
  clear hW1 hW2 hW3
  obtain ⟨V, hV⟩ : ∃ V, V = U.alloc (.cells (hcs [a, b, c, d]).toArray 25) := ⟨_, rfl⟩
  have hal : Below w.heap.size w V := by rw [hV]; exact hb.alloc (by omega) _
  have hrt := rootOk_c 2 [a, b, c, d] (some ⟨U.heap.size, 0, none⟩) 4 V (by omega) rfl (Nat.le_refl _) (by omega) HL (by rw [hV]; exact RdH.of_own (c := 4) (World.ownsRow_lit (base := 0) (e := 25) (size := 32) U _ 4 (Nat.zero_le _) (by simp only [maxLen]; omega) (by rw [List.size_toArray, hcs_len]; rfl))) (ht.below hal ht.2.2.1 ht.2.2.2)
  rw [← hR] at hrt
  have HRT := Lib.hid hrt
  have hUV : Below U.heap.size U V := by rw [hV]; exact (Below.refl _ _).alloc (Nat.le_refl _) _
  have HSV := Lib.hid (show V.heap.size = w.heap.size + 5 by rw [hV, heap_sz, hsz])
  have HF := Lib.hid (And.intro (f0.below hUV f0.lt) (And.intro (f1.below hUV f1.lt) (And.intro (f2.below hUV f2.lt) (f3.below hUV f3.lt))))
  have HT : Hid (∀ u : World, Below w.heap.size w u → Tabs u) := fun u hu => ht.below hu ht.2.2.1 ht.2.2.2
  clear hUV
  have HAL := Lib.hid hal
  clear hrt hal
  have HV := Lib.hid hV
  clear hV
  have h0 := f0.done
  have h1 := f1.done
  have h2 := f2.done
  have h3 := f3.done
  have HE := Lib.hid hsz
  have HR := Lib.hid hR
  have HLL := Lib.hid HL
  clear hW hU f0 f1 f2 f3 hb hsz hR HL ht
  go_enter Tryd.func6, Tryd.ntmps6
  go_wp2_with (first
    | (refine wpList_store_row rfl 25 (.tmp 1) (.tmp 7) rfl w.heap.size (hashV a) rfl rfl 25 (rowV 32 z8) (by rw [← HW.out]; exact e0) (size_hashVW _) (by unfold hashV; rw [rowV_size, rowV_size]) (rowV_one 32 _ (fun i => rfl)) ?_; rw [← HW.out, ← HW1.out])
    | (refine wpList_store_row rfl 25 (.tmp 2) (.tmp 8) rfl (w.heap.size + 1) (hashV b) rfl rfl 25 (rowV 32 z8) e1 (size_hashVW _) (by unfold hashV; rw [rowV_size, rowV_size]) (rowV_one 32 _ (fun i => rfl)) ?_; rw [← HW2.out])
    | (refine wpList_store_row rfl 25 (.tmp 3) (.tmp 9) rfl (w.heap.size + 2) (hashV c) rfl rfl 25 (rowV 32 z8) e2 (size_hashVW _) (by unfold hashV; rw [rowV_size, rowV_size]) (rowV_one 32 _ (fun i => rfl)) ?_; rw [← HW3.out])
    | (refine wpList_store_row rfl 25 (.tmp 4) (.tmp 10) rfl (w.heap.size + 3) (hashV d) rfl rfl 25 (rowV 32 z8) e3 (size_hashVW _) (by unfold hashV; rw [rowV_size, rowV_size]) (rowV_one 32 _ (fun i => rfl)) ?_; rw [← HU.out])
    | (refine wpList_load_row rfl 25 (.tmp 1) rfl w.heap.size rfl 25 (hashV a) (0, 0) _ h0 Tryd.underlying25 rfl (size_hashVW _) ?_)
    | (refine wpList_load_row rfl 25 (.tmp 2) rfl (w.heap.size + 1) rfl 25 (hashV b) (0, 0) _ h1 Tryd.underlying25 rfl (size_hashVW _) ?_)
    | (refine wpList_load_row rfl 25 (.tmp 3) rfl (w.heap.size + 2) rfl 25 (hashV c) (0, 0) _ h2 Tryd.underlying25 rfl (size_hashVW _) ?_)
    | (refine wpList_load_row rfl 25 (.tmp 4) rfl (w.heap.size + 3) rfl 25 (hashV d) (0, 0) _ h3 Tryd.underlying25 rfl (size_hashVW _) ?_)
    | (refine wpList_buildSlice_as (v := .slice (some ⟨U.heap.size, 0, none⟩) 4 4) (w' := V) rfl 22 4 #[(0, .tmp 12), (1, .tmp 13), (2, .tmp 14), (3, .tmp 15)] rfl ?hr ?_; case hr => (simp only [List.map_toArray, List.map_cons, List.map_nil]; rw [HV.out]; exact hbs U))
    | (go_at_call 7; refine HRT.out.mono ?_; rintro e w4 ⟨rfl, hb4⟩; have B4 := Lib.hid (HAL.out.trans (hb4.mono HAL.out.size)); have BV4 := Lib.hid hb4; clear hb4)
    | (refine wpList_store_row rfl 25 (.tmp 5) (.tmp 18) rfl w4.heap.size (hashV R) rfl rfl 25 (rowV 32 z8) (heap_alloc_new w4 _) (size_hashVW _) (by unfold hashV; rw [rowV_size, rowV_size]) (rowV_one 32 _ (fun i => rfl)) ?_; obtain ⟨w5, hw5⟩ : ∃ w5, w5 = (w4.alloc (.cells (rowV 32 z8) 25)).setRow w4.heap.size (hashV R) := ⟨_, rfl⟩; rw [← hw5]; have H5 := Lib.hid hw5; clear hw5)
    | fail)
  have B5 : Below w.heap.size w w5 := by rw [H5.out]; exact below_setRow (B4.out.trans ((Below.refl _ _).alloc (Nat.le_refl _) _ |>.mono B4.out.size)) B4.out.size _
  have F5 : Fill w4.heap.size 25 32 32 (hF R) w5 := by rw [H5.out]; exact Fill.of_row (setRow_heap _ _ _ _ _ _ (heap_alloc_new w4 _))
  have B45 : Below w4.heap.size w4 w5 := by rw [H5.out]; exact below_setRow ((Below.refl _ _).alloc (Nat.le_refl _) _) (Nat.le_refl _) _
  clear hbs s1 s2 s3 s4 e0 e1 e2 e3 h0 h1 h2 h3
  have la : a.length = 32 := HLL.out a (by simp)
  have lb : b.length = 32 := HLL.out b (by simp)
  have lc : c.length = 32 := HLL.out c (by simp)
  have ld : d.length = 32 := HLL.out d (by simp)
  obtain ⟨X, hX⟩ : ∃ X, X = nd a b := ⟨_, rfl⟩
  obtain ⟨Y, hY⟩ : ∃ Y, Y = nd c d := ⟨_, rfl⟩
  have lX : X.length = 32 := by rw [hX]; exact nd_len _ _
  have lY : Y.length = 32 := by rw [hY]; exact nd_len _ _
  have hRR : R = nd X Y := by rw [HR.out, hX, hY]; rfl
  have lR : R.length = 32 := by rw [hRR]; exact nd_len _ _
  have HK : Hid (∀ u : World, Below w5.heap.size w5 u → u.rangeAt w.heap.size 0 (hC a) ∧ u.rangeAt (w.heap.size + 1) 0 (hC b) ∧ u.rangeAt (w.heap.size + 1 + 1) 0 (hC c) ∧ u.rangeAt (w.heap.size + 1 + 1 + 1) 0 (hC d) ∧ u.rangeAt w4.heap.size 0 (hC R)) := fun u hu => by
    have hV := HSV.out
    have b1 := BV4.out.size
    have b2 := B45.size
    have hVu := BV4.out.trans ((B45.mono b1).trans (hu.mono (by omega)))
    exact ⟨(HF.out.1.below hVu (by omega)).whole, (HF.out.2.1.below hVu (by omega)).whole, (HF.out.2.2.1.below hVu (by omega)).whole, (HF.out.2.2.2.below hVu (by omega)).whole, (F5.below hu F5.lt).whole⟩
  have HTT : Hid (∀ u : World, Below w5.heap.size w5 u → Tabs u) := fun u hu => HT.out u (B5.trans (hu.mono B5.size))
  have HNX : Hid (∀ u : World, Tabs u → Calls Tryd.prog 17 #[.agg (hashV a), .agg (hashV b)] u fun e w' => e = .returned (.agg (hashV X)) ∧ Below u.heap.size u w') := by rw [hX]; exact fun u hu => node_c a b la lb u hu
  have HNY : Hid (∀ u : World, Tabs u → Calls Tryd.prog 17 #[.agg (hashV c), .agg (hashV d)] u fun e w' => e = .returned (.agg (hashV Y)) ∧ Below u.heap.size u w') := by rw [hY]; exact fun u hu => node_c c d lc ld u hu
  have HNR : Hid (∀ u : World, Tabs u → Calls Tryd.prog 17 #[.agg (hashV X), .agg (hashV Y)] u fun e w' => e = .returned (.agg (hashV R)) ∧ Below u.heap.size u w') := by rw [hRR]; exact fun u hu => node_c X Y lX lY u hu
  have HEQ : Hid (∀ u : World, (Op.equalIn 10000 25 (.agg (hC R).toArray) (.agg (hashV R))).run Tryd.prog u = .ok true u) := fun u => by
    have e := eq_row 32 25 Tryd.underlying25 R R lR lR u
    rw [beq_self_eq_true] at e
    exact e
  have HNE : Hid (∀ u : World, (Op.equalIn 10000 25 (.agg (hC R).toArray) (.agg (rowV 32 z8))).run Tryd.prog u = .ok false u) := fun u => by
    have e := eq_row 32 25 Tryd.underlying25 R (List.replicate 32 0) lR rfl u
    rw [HNZ.out] at e
    rw [z8_hash]
    exact e
  have k0 := HK.out _ (Below.refl w5.heap.size w5).drew
  have D5 := Lib.hid ((Below.refl w5.heap.size w5).drew)
  have BB5 := Lib.hid B5
  clear la lb lc ld hX hY lX lY hRR lR B5 F5 B45
  rename_i K1 hK1
  refine wp_region_noPanic ?_
  refine wp_region_held_drew (S := fun u => u.rangeAt w.heap.size 0 (hC a) ∧ u.rangeAt (w.heap.size + 1) 0 (hC b) ∧ u.rangeAt (w.heap.size + 1 + 1) 0 (hC c) ∧ u.rangeAt (w.heap.size + 1 + 1 + 1) 0 (hC d) ∧ u.rangeAt w4.heap.size 0 (hC R)) (by kernel_rfl) k0 (fun hHeld => ?_)
  refine wpAnyH_take (i := 0) (oi := _) (v := .int .i64 0) rfl (by kernel_rfl) (by kernel_rfl) (by kernel_rfl) (fun _ _ _ h => h) (Or.inl ⟨by rfl, by intro w hSw; go_simp⟩) hHeld ?_
  refine wpAnyH_take (i := 1) (oi := _) (v := .bool true) rfl (by kernel_rfl) (by kernel_rfl) (by kernel_rfl) (fun _ _ _ h => h) (Or.inl ⟨by rfl, by intro w hSw; go_simp⟩) hHeld ?_
  refine wpAnyH_take (i := 2) (oi := _) (v := .bool true) rfl (by kernel_rfl) (by kernel_rfl) (by kernel_rfl) (fun _ _ _ h => h) (Or.inl ⟨by rfl, by intro w hSw; go_simp⟩) hHeld ?_
  refine wpAnyH_take (i := 3) (oi := _) (v := .agg (hC R).toArray) rfl (by kernel_rfl) (by kernel_rfl) (by kernel_rfl) (fun _ _ _ h => h) (yieldsIf_load_mid (by rfl) _ _ rfl w4.heap.size 0 rfl (hC R) _ (fun w h => h.2.2.2.2) hash_under rfl (hash_info (hC_len R))) hHeld ?_
  refine wpAnyH_take (i := 4) (oi := _) (v := .agg (hC a).toArray) rfl (by kernel_rfl) (by kernel_rfl) (by kernel_rfl) (fun _ _ _ h => h) (yieldsIf_load_mid (by rfl) _ _ rfl w.heap.size 0 rfl (hC a) _ (fun w h => h.1) hash_under rfl (hash_info (hC_len a))) hHeld ?_
  refine wpAnyH_take (i := 5) (oi := _) (v := .agg (hC b).toArray) rfl (by kernel_rfl) (by kernel_rfl) (by kernel_rfl) (fun _ _ _ h => h) (yieldsIf_load_mid (by rfl) _ _ rfl (w.heap.size + 1) 0 rfl (hC b) _ (fun w h => h.2.1) hash_under rfl (hash_info (hC_len b))) hHeld ?_
  refine wpAnyH_take (i := 7) (oi := _) (v := .agg (hC c).toArray) rfl (by kernel_rfl) (by kernel_rfl) (by kernel_rfl) (fun _ _ _ h => h) (yieldsIf_load_mid (by rfl) _ _ rfl (w.heap.size + 1 + 1) 0 rfl (hC c) _ (fun w h => h.2.2.1) hash_under rfl (hash_info (hC_len c))) hHeld ?_
  refine wpAnyH_take (i := 8) (oi := _) (v := .agg (hC d).toArray) rfl (by kernel_rfl) (by kernel_rfl) (by kernel_rfl) (fun _ _ _ h => h) (yieldsIf_load_mid (by rfl) _ _ rfl (w.heap.size + 1 + 1 + 1) 0 rfl (hC d) _ (fun w h => h.2.2.2.1) hash_under rfl (hash_info (hC_len d))) hHeld ?_
  refine wpAnyH_ready (rs := [6]) (by kernel_rfl) (by simp) ?_
  refine AllReadyH.cons (o := _) rfl (fun K hK => ?_) AllReadyH.nil
  go_simp
  go_at_call 17
  refine (HNX.out _ (HTT.out _ D5.out)).mono ?_
  rintro e w6 ⟨rfl, b6⟩
  have D6 := Lib.hid (D5.out.trans (b6.mono D5.out.size))
  have k6 := HK.out _ D6.out
  clear b6
  go_simp
  refine hK.out _ _ k6 (fun hHeld => ?_)
  clear hK K
  refine wpAnyH_ready (rs := [9]) (by kernel_rfl) (by simp) ?_
  refine AllReadyH.cons (o := _) rfl (fun K hK => ?_) AllReadyH.nil
  go_simp
  go_at_call 17
  refine (HNY.out _ (HTT.out _ D6.out)).mono ?_
  rintro e w7 ⟨rfl, b7⟩
  have D7 := Lib.hid (D6.out.trans (b7.mono D6.out.size))
  have k7 := HK.out _ D7.out
  clear b7
  go_simp
  refine hK.out _ _ k7 (fun hHeld => ?_)
  clear hK K
  refine wpAnyH_ready (rs := [10]) (by kernel_rfl) (by simp) ?_
  refine AllReadyH.cons (o := _) rfl (fun K hK => ?_) AllReadyH.nil
  go_simp
  go_at_call 17
  refine (HNR.out _ (HTT.out _ D7.out)).mono ?_
  rintro e w8 ⟨rfl, b8⟩
  have D8 := Lib.hid (D7.out.trans (b8.mono D7.out.size))
  have k8 := HK.out _ D8.out
  clear b8
  have he := HEQ.out w8
  have hn := HNE.out w8
  go_simp
  refine hK.out _ _ k8 (fun hHeld => ?_)
  clear hK K
  refine wpAnyH_ready (rs := [11]) (by kernel_rfl) (by simp) ?_
  refine AllReadyH.cons (o := _) rfl (fun K hK => ?_) AllReadyH.nil
  go_simp
  refine hK.out _ _ k8 (fun hHeld => ?_)
  clear hK K
  refine wpAnyH_ready (rs := [12]) (by kernel_rfl) (by simp) ?_
  refine AllReadyH.cons (o := _) rfl (fun K hK => ?_) AllReadyH.nil
  go_simp
  refine hK.out _ _ k8 (fun hHeld => ?_)
  clear hK K
  refine wpAnyH_ready (rs := [13]) (by kernel_rfl) (by simp) ?_
  refine AllReadyH.cons (o := _) rfl (fun K hK => ?_) AllReadyH.nil
  go_simp
  refine hK.out _ _ k8 (fun hHeld => ?_)
  clear hK K
  refine wpAnyH_take (i := 14) (oi := _) (v := .agg (hC R).toArray) rfl (by kernel_rfl) (by kernel_rfl) (by kernel_rfl) (fun _ _ _ h => h) (yieldsIf_load_mid (by rfl) _ _ rfl w4.heap.size 0 rfl (hC R) _ (fun w h => h.2.2.2.2) hash_under rfl (hash_info (hC_len R))) hHeld ?_
  refine wpAnyH_ready (rs := [15]) (by kernel_rfl) (by simp) ?_
  refine AllReadyH.cons (o := _) rfl (fun K hK => ?_) AllReadyH.nil
  go_simp
  refine hK.out _ _ k8 (fun hHeld => ?_)
  clear hK K
  refine wpAnyH_ready (rs := [16]) (by kernel_rfl) (by simp) ?_
  refine AllReadyH.cons (o := _) rfl (fun K hK => ?_) AllReadyH.nil
  go_simp
  refine hK.out _ _ k8 (fun hHeld => ?_)
  clear hK K
  refine wpAnyH_ready (rs := [17]) (by kernel_rfl) (by simp) ?_
  refine AllReadyH.cons (o := _) rfl (fun K hK => ?_) AllReadyH.nil
  go_simp
  refine hK.out _ _ k8 (fun hHeld => ?_)
  clear hK K
  refine wpAnyH_ready (rs := [18]) (by kernel_rfl) (by simp) ?_
  refine AllReadyH.cons (o := _) rfl (fun K hK => ?_) AllReadyH.nil
  go_simp
  refine hK.out _ _ k8 (fun hHeld => ?_)
  clear hK K
  refine wpAnyH_done (by kernel_rfl) ?_ _
  refine NoPanic.normal ?_
  apply hK1
  clear hK1 K1
  go_wp2_with fail
  go_ret
  exact ⟨rfl, BB5.out.trans (D8.out.mono BB5.out.size)⟩
end Go.Proofs.YthjeanjodhafjaaDoor
