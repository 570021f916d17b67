/- The law's walk: what is signed, and what comes of it. -/
import Derived.Test.YtgdiffjobkfmoaaDoorRRWoRefSign
import Derived.Test.YtgdiffjobkfmoaaDoorRRWoRecover
import Derived.Test.YtgdiffjobkfmoaaDoorRRWoKnown
import Derived.Test.YtgdiffjobkfmoaaDoorRRStr
import Derived.Test.YtgdiffjobkfmoaaDoorRRWoKit
namespace Go.Proofs.YtgdiffjobkfmoaaDoorRR
open Go.ChangeShapes Go.WideShapes Go.ChangeAt Go.RowKit Go.Shelf
set_option linter.unusedVariables false

theorem rd_of_range {u : World} {g n : Nat} {l : List UInt8} (h : u.rangeAt g 0 ((List.range n).map (hF l))) (hl : l.length = n) : Rd u 0 u.heap.size (some ⟨g, 0, none⟩) l := fun hn => by
  have hc : ∀ j x, l[j]? = some x → u.cell? ⟨g, 0 + j, none⟩ = some (bv x) := fun j x hx => by
    have hj : j < n := by rw [← hl]; exact (List.getElem?_eq_some_iff.1 hx).1
    refine h j _ ?_
    rw [List.getElem?_map, List.getElem?_range hj, Option.map_some]
    unfold hF
    rw [List.getD_eq_getElem?_getD, hx]
    rfl
  refine ⟨g, 0, rfl, Nat.zero_le _, ?_, hc⟩
  have := hc 0 _ (List.getElem?_eq_getElem hn)
  exact World.block_lt_of_cell? u _ this
set_option maxRecDepth 100000 in
set_option maxHeartbeats 8000000 in
theorem wotsSigns_any (S h : List UInt8) (hS : S.length = 1088) (hh : h.length = 32) (w : World) (ht : Tabs w) :
    Calls Tryd.prog 3 #[.agg (rowV 1088 (hF S)), .agg (hashV h)] w fun e w' => e = .returned (.bool true) ∧ Below w.heap.size w w' := by
  have hz32 := zero_hash
  obtain ⟨W, hW⟩ : ∃ W, W = (w.alloc (.cells (rowV 1088 (hF S)) 25)).alloc (.cells (hashV h) 27) := ⟨_, rfl⟩
  have hb : Below w.heap.size w W := by rw [hW]; exact ((Below.refl _ _).alloc (Nat.le_refl _) _).alloc (by simp) _
  have hsz : W.heap.size = w.heap.size + 2 := by rw [hW]; simp
  have f0 : Fill w.heap.size 25 1088 1088 (hF S) W := by
    rw [hW]
    exact Fill.of_row (by rw [heap_lt _ _ (by simp)]; exact heap_alloc_new w _)
  have f1 : Fill (w.heap.size + 1) 27 32 32 (hF h) W := by
    rw [hW]
    have := heap_alloc_new (w.alloc (.cells (rowV 1088 (hF S)) 25)) (.cells (hashV h) 27)
    rw [heap_sz] at this
    exact Fill.of_row this
  have HT : Hid (∀ u : World, Below w.heap.size w u → Tabs u) := fun u hu => ht.below hu ht.2.2.1 ht.2.2.2
  have HSG := Lib.hid (sign_c S h hS hh W (HT.out _ hb))
  have h0 := f0.done
  have h1 := f1.done
  have HW := Lib.hid hW
  have HB := Lib.hid hb
  have H0 := Lib.hid f0
  have H1 := Lib.hid f1
  rw [hW] at h0 h1
  have HSL := Lib.hid (signL_len S h hS)
  have HON := Lib.hid (on_sign S h hS)
  clear hW hb f0 f1
  unfold SigP at HSG
  unfold hashV at *
  go_enter Tryd.func3, Tryd.ntmps3
  go_wp2_with (first
    | (refine wpList_load_row rfl 25 (.tmp 2) rfl w.heap.size rfl 25 (rowV 1088 (hF S)) (0, 0) _ h0 Tryd.underlying25 rfl (size_secret _) ?_)
    | (refine wpList_load_row rfl 27 (.tmp 3) rfl (w.heap.size + 1) rfl 27 (rowV 32 (hF h)) (0, 0) _ h1 Tryd.underlying27 rfl (size_hashVW _) ?_)
    | fail)
  rw [← HW.out]
  refine HSG.out.mono ?_
  rintro e w3 ⟨gs, rfl, hgs, hfs, hb3⟩
  have hs3 := hb3.size
  have h13 := (H1.out.below hb3 (by omega)).done
  have hrc := recover_c (signL S h) h HSL.out hh (some ⟨gs, 0, none⟩) 1088 0 w3 (rd_row hfs HSL.out) (HT.out _ (HB.out.trans (hb3.mono (by omega))))
  rw [HON.out] at hrc
  have hpl : (pubL (endsL S)).length = 32 := shaL_length _
  have hpo := publicOf_c S hS
  obtain ⟨Y, hY⟩ : ∃ Y, Y = signL S h := ⟨_, rfl⟩
  obtain ⟨R, hR⟩ : ∃ R, R = pubL (endsL S) := ⟨_, rfl⟩
  rw [← hR] at hrc hpl hpo
  rw [← hY] at hfs HSL
  have HY := Lib.hid hY
  have HRC := Lib.hid hrc
  have HPL := Lib.hid hpl
  have HPO := Lib.hid hpo
  have HFS := Lib.hid hfs
  have HB3 := Lib.hid hb3
  clear hfs hb3 hrc hY hR hpl hpo h0 h1
  unfold hashV at HRC HPO
  go_wp2_with (first
    | (refine wpList_load_row rfl 27 (.tmp 3) rfl (w.heap.size + 1) rfl 27 (rowV 32 (hF h)) (0, 0) _ h13 Tryd.underlying27 rfl (size_hashVW _) ?_)
    | fail)
  refine HRC.out.mono ?_
  rintro e w4 ⟨rfl, hb4⟩
  have HB4 := Lib.hid (HB3.out.trans (hb4.mono hs3))
  have hfs4 := HFS.out.below hb4 HFS.out.lt
  have hba := (Below.refl w4.heap.size w4).alloc (Nat.le_refl _) (.cells (rowV 32 z8) 27)
  have h5 : ((w4.alloc (.cells (rowV 32 z8) 27)).setRow w4.heap.size (rowV 32 (hF R))).heap[w4.heap.size]? = some (.cells (rowV 32 (hF R)) 27 (0, 0)) := setRow_heap _ _ _ _ _ _ (heap_alloc_new w4 _)
  have hb5 := below_setRow hba (Nat.le_refl _) (rowV 32 (hF R))
  have hz5 : ((w4.alloc (.cells (rowV 32 z8) 27)).setRow w4.heap.size (rowV 32 (hF R))).heap.size = w4.heap.size + 1 := by simp [World.setRow]
  obtain ⟨w5, hw5⟩ : ∃ w5, w5 = (w4.alloc (.cells (rowV 32 z8) 27)).setRow w4.heap.size (rowV 32 (hF R)) := ⟨_, rfl⟩
  have HW5 := Lib.hid hw5
  rw [← hw5] at h5 hb5 hz5
  have HFS5 := Lib.hid (hfs4.below hb5 hfs4.lt)
  have HF5 := Lib.hid (Fill.of_row h5)
  have HB5 := Lib.hid (HB4.out.trans (hb5.mono HB4.out.size))
  clear hb4 hfs4 hba h5 hb5 hw5 h13
  go_wp2_with (first
    | (refine wpList_store_row rfl 27 (.tmp 6) (.tmp 15) rfl w4.heap.size (rowV 32 (hF R)) rfl rfl 27 (rowV 32 z8) (heap_alloc_new w4 _) (size_hashVW _) (by rw [rowV_size, rowV_size]) (rowV_one 32 _ (fun i => rfl)) ?_; rw [← HW5.out])
    | fail)
  -- REGION 3
  obtain ⟨LS, hLS⟩ : ∃ LS, LS = (List.range 1088).map (hF S) := ⟨_, rfl⟩
  obtain ⟨LH, hLH⟩ : ∃ LH, LH = (List.range 32).map (hF h) := ⟨_, rfl⟩
  obtain ⟨LR, hLR⟩ : ∃ LR, LR = (List.range 32).map (hF R) := ⟨_, rfl⟩
  obtain ⟨LG, hLG⟩ : ∃ LG, LG = (List.range 1088).map (hF Y) := ⟨_, rfl⟩
  have hiS : (Tryd.prog.info? 25).map (·.size) = some LS.length := by rw [hLS, List.length_map, List.length_range]; have := size_secret (hF S); rwa [rowV_size] at this
  have hiH : (Tryd.prog.info? 27).map (·.size) = some LH.length := by rw [hLH, List.length_map, List.length_range]; exact size_hashW
  have hiR : (Tryd.prog.info? 27).map (·.size) = some LR.length := by rw [hLR, List.length_map, List.length_range]; exact size_hashW
  have huS := Tryd.underlying25
  have huH := Tryd.underlying27
  have HRS : Hid (∀ u, Calls Tryd.prog 7 #[.agg LS.toArray, .agg LH.toArray] u fun e w' => ∃ A c, e = .returned (.slice A 1088 c) ∧ Rd w' u.heap.size w'.heap.size A Y ∧ 1088 ≤ c ∧ Below u.heap.size u w') := by
    rw [hLS, hLH, HY.out]
    exact fun u => refSign_c S h hS hh u
  have HPU : Hid (∀ u, Tabs u → Calls Tryd.prog 8 #[.agg LS.toArray] u fun e w' => e = .returned (.agg LR.toArray) ∧ Below u.heap.size u w') := by
    rw [hLS, hLR]
    exact fun u hu => HPO.out u hu
  have HEQ : Hid (∀ u : World, (Op.equalIn 10000 27 (.agg LR.toArray) (.agg LR.toArray)).run Tryd.prog u = .ok true u) := fun u => by
    have e := eq_row 32 27 Tryd.underlying27 R R HPL.out HPL.out u
    rw [beq_self_eq_true] at e
    rw [hLR]
    exact e
  have HSTR : Hid (∀ u : World, u.rangeAt gs 0 LG → (convert 28 9 (.slice (some ⟨gs, 0, none⟩) 1088 1088)).run Tryd.prog u = .ok (strOf Y) u) := fun u hu => by
    rw [hLG] at hu
    exact run_str (rd_of_range hu HSL.out) 1088 1088 HSL.out.symm
  have HS : Hid (∀ u : World, Below w5.heap.size w5 u → u.rangeAt w.heap.size 0 LS ∧ u.rangeAt (w.heap.size + 1) 0 LH ∧ u.rangeAt w4.heap.size 0 LR ∧ u.rangeAt gs 0 LG) := by
    rw [hLS, hLH, hLR, hLG]
    have g0 := H0.out.below HB5.out H0.out.lt
    have g1 := H1.out.below HB5.out H1.out.lt
    exact fun u hu => ⟨(g0.below hu g0.lt).range 0 1088 (hF S) (by omega) (fun j _ => by rw [Nat.zero_add]), (g1.below hu g1.lt).range 0 32 (hF h) (by omega) (fun j _ => by rw [Nat.zero_add]), (HF5.out.below hu HF5.out.lt).range 0 32 (hF R) (by omega) (fun j _ => by rw [Nat.zero_add]), (HFS5.out.below hu HFS5.out.lt).range 0 1088 (hF Y) (by omega) (fun j _ => by rw [Nat.zero_add])⟩
  have k0 := HS.out _ (Below.refl w5.heap.size w5).drew
  have HTT : Hid (∀ u : World, Below w5.heap.size w5 u → Tabs u) := fun u hu => HT.out u (HB.out.trans ((HB5.out.trans (hu.mono HB5.out.size)).mono (by omega)))
  clear hLS hLH hLR hLG
  rename_i K1 hK1
  refine wp_region_noPanic ?_
  refine wp_region_held_drew (S := fun u => u.rangeAt w.heap.size 0 LS ∧ u.rangeAt (w.heap.size + 1) 0 LH ∧ u.rangeAt w4.heap.size 0 LR ∧ u.rangeAt gs 0 LG) (by kernel_rfl) k0 (fun hHeld => ?_)
  refine wpAnyH_take (i := 0) (oi := _) (v := .slice (some ⟨gs, 0, none⟩) 1088 1088) rfl (by kernel_rfl) (by kernel_rfl) (by kernel_rfl) (fun _ _ _ h => h) (Or.inl ⟨by rfl, by intro w hSw; go_simp⟩) hHeld ?_
  refine wpAnyH_take (i := 1) (oi := _) (v := strOf Y) rfl (by kernel_rfl) (by kernel_rfl) (by kernel_rfl) (fun _ _ _ h => h) (Or.inl ⟨by rfl, by
    rintro w ⟨_, _, _, s4⟩
    have hs := HSTR.out w s4
    unfold strOf at hs ⊢
    go_simp⟩) hHeld ?_
  refine wpAnyH_take (i := 2) (oi := _) (v := .agg LS.toArray) rfl (by kernel_rfl) (by kernel_rfl) (by kernel_rfl) (fun _ _ _ h => h) (yieldsIf_load_mid (by rfl) _ _ rfl w.heap.size 0 rfl LS _ (fun w h => h.1) huS rfl hiS) hHeld ?_
  refine wpAnyH_take (i := 3) (oi := _) (v := .agg LH.toArray) rfl (by kernel_rfl) (by kernel_rfl) (by kernel_rfl) (fun _ _ _ h => h) (yieldsIf_load_mid (by rfl) _ _ rfl (w.heap.size + 1) 0 rfl LH _ (fun w h => h.2.1) huH rfl hiH) hHeld ?_
  refine wpAnyH_ready (rs := [4]) (by kernel_rfl) (by simp) ?_
  refine AllReadyH.cons (o := _) rfl (fun K hK => ?_) AllReadyH.nil
  go_simp
  go_at_call 7
  refine (HRS.out _).mono ?_
  rintro e x5 ⟨A5, c5, rfl, hrd5, hc5, hb5⟩
  have HX5 := Lib.hid (((Below.refl w5.heap.size w5).drew).trans hb5)
  have k1 := HS.out _ HX5.out
  have hs5 := run_str hrd5 1088 c5 HSL.out.symm
  unfold strOf at hs5
  clear hb5 hrd5 hc5
  go_simp
  refine hK.out _ _ k1 (fun hHeld => ?_)
  clear hK K
  refine wpAnyH_ready (rs := [5]) (by kernel_rfl) (by simp) ?_
  refine AllReadyH.cons (o := _) rfl (fun K hK => ?_) AllReadyH.nil
  unfold strOf
  go_simp
  refine hK.out _ _ k1 (fun hHeld => ?_)
  clear hK K
  refine wpAnyH_ready (rs := [6]) (by kernel_rfl) (by simp) ?_
  refine AllReadyH.cons (o := _) rfl (fun K hK => ?_) AllReadyH.nil
  go_simp
  refine hK.out _ _ k1 (fun hHeld => ?_)
  clear hK K
  clear hs5
  refine wpAnyH_ready (rs := [7]) (by kernel_rfl) (by simp) ?_
  refine AllReadyH.cons (o := _) rfl (fun K hK => ?_) AllReadyH.nil
  go_simp
  refine hK.out _ _ k1 (fun hHeld => ?_)
  clear hK K
  refine wpAnyH_ready (rs := [8]) (by kernel_rfl) (by simp) ?_
  refine AllReadyH.cons (o := _) rfl (fun K hK => ?_) AllReadyH.nil
  go_simp
  refine hK.out _ _ k1 (fun hHeld => ?_)
  clear hK K
  refine wpAnyH_ready (rs := [9]) (by kernel_rfl) (by simp) ?_
  refine AllReadyH.cons (o := _) rfl (fun K hK => ?_) AllReadyH.nil
  go_simp
  refine hK.out _ _ k1 (fun hHeld => ?_)
  clear hK K
  refine wpAnyH_ready (rs := [10]) (by kernel_rfl) (by simp) ?_
  refine AllReadyH.cons (o := _) rfl (fun K hK => ?_) AllReadyH.nil
  go_simp
  refine hK.out _ _ k1 (fun hHeld => ?_)
  clear hK K
  refine wpAnyH_ready (rs := [11]) (by kernel_rfl) (by simp) ?_
  refine AllReadyH.cons (o := _) rfl (fun K hK => ?_) AllReadyH.nil
  go_simp
  refine hK.out _ _ k1 (fun hHeld => ?_)
  clear hK K
  refine wpAnyH_take (i := 12) (oi := _) (v := .agg LR.toArray) rfl (by kernel_rfl) (by kernel_rfl) (by kernel_rfl) (fun _ _ _ h => h) (yieldsIf_load_mid (by rfl) _ _ rfl w4.heap.size 0 rfl LR _ (fun w h => h.2.2.1) huH rfl hiR) hHeld ?_
  refine wpAnyH_take (i := 13) (oi := _) (v := .agg LS.toArray) rfl (by kernel_rfl) (by kernel_rfl) (by kernel_rfl) (fun _ _ _ h => h) (yieldsIf_load_mid (by rfl) _ _ rfl w.heap.size 0 rfl LS _ (fun w h => h.1) huS rfl hiS) hHeld ?_
  refine wpAnyH_ready (rs := [14]) (by kernel_rfl) (by simp) ?_
  refine AllReadyH.cons (o := _) rfl (fun K hK => ?_) AllReadyH.nil
  go_simp
  go_at_call 8
  refine (HPU.out _ (HTT.out _ HX5.out)).mono ?_
  rintro e x6 ⟨rfl, hb6⟩
  have HX6 := Lib.hid (HX5.out.trans (hb6.mono HX5.out.size))
  have k2 := HS.out _ HX6.out
  have he6 := HEQ.out x6
  clear hb6
  go_simp
  refine hK.out _ _ k2 (fun hHeld => ?_)
  clear hK K
  refine wpAnyH_ready (rs := [15]) (by kernel_rfl) (by simp) ?_
  refine AllReadyH.cons (o := _) rfl (fun K hK => ?_) AllReadyH.nil
  go_simp
  refine hK.out _ _ k2 (fun hHeld => ?_)
  clear hK K
  clear he6
  refine wpAnyH_ready (rs := [16]) (by kernel_rfl) (by simp) ?_
  refine AllReadyH.cons (o := _) rfl (fun K hK => ?_) AllReadyH.nil
  go_simp
  refine hK.out _ _ k2 (fun hHeld => ?_)
  clear hK K
  refine wpAnyH_ready (rs := [17]) (by kernel_rfl) (by simp) ?_
  refine AllReadyH.cons (o := _) rfl (fun K hK => ?_) AllReadyH.nil
  go_simp
  refine hK.out _ _ k2 (fun hHeld => ?_)
  clear hK K
  refine wpAnyH_ready (rs := [18]) (by kernel_rfl) (by simp) ?_
  refine AllReadyH.cons (o := _) rfl (fun K hK => ?_) AllReadyH.nil
  go_simp
  go_at_call 9
  refine (known6 _).mono ?_
  rintro e x7 ⟨rfl, hb7⟩
  have HX7 := Lib.hid (HX6.out.trans (hb7.mono HX6.out.size))
  have k3 := HS.out _ HX7.out
  clear hb7
  go_simp
  refine hK.out _ _ k3 (fun hHeld => ?_)
  clear hK K
  refine wpAnyH_ready (rs := [19]) (by kernel_rfl) (by simp) ?_
  refine AllReadyH.cons (o := _) rfl (fun K hK => ?_) AllReadyH.nil
  go_simp
  refine hK.out _ _ k3 (fun hHeld => ?_)
  clear hK K
  refine wpAnyH_ready (rs := [20]) (by kernel_rfl) (by simp) ?_
  refine AllReadyH.cons (o := _) rfl (fun K hK => ?_) AllReadyH.nil
  go_simp
  refine hK.out _ _ k3 (fun hHeld => ?_)
  clear hK K
  refine wpAnyH_done (by kernel_rfl) ?_ _
  refine NoPanic.normal ?_
  apply hK1
  clear hK1 K1
  go_wp2_with fail
  go_ret
  exact ⟨rfl, HB.out.trans ((HB5.out.trans (HX7.out.mono HB5.out.size)).mono (by omega))⟩
end Go.Proofs.YtgdiffjobkfmoaaDoorRR
