/- The reference: what a public sums; what is signed. -/
import Derived.Test.YtgdiffjobkfmoaaDoorRRWoRefWalk
import Derived.Test.YtgdiffjobkfmoaaDoorRRWoRefDig
namespace Go.Proofs.YtgdiffjobkfmoaaDoorRR
open Go.ChangeShapes Go.WideShapes Go.ChangeAt Go.RowKit Go.Shelf
set_option linter.unusedVariables false

theorem take_node (E : List UInt8) (i : Nat) : E.take (16 * (i + 1)) = E.take (16 * i) ++ nodeL E i := by
  unfold nodeL
  rw [show 16 * (i + 1) = 16 * i + 16 by omega, List.take_add]
set_option maxRecDepth 100000 in
set_option maxHeartbeats 4000000 in
theorem publicText_c (E : List UInt8) (hE : E.length = 1088) (w : World) :
    Calls Tryd.prog 21 #[.agg (rowV 1088 (hF E))] w (OwnB w ([80] ++ E)) := by
  obtain ⟨i0, hi0, hy0, hy1, hy2⟩ := info_parts byte_info
  obtain ⟨W, hW⟩ : ∃ W, W = w.alloc (.cells (rowV 1088 (hF E)) 25) := ⟨_, rfl⟩
  have hb : Below w.heap.size w W := by rw [hW]; exact (Below.refl _ _).alloc (Nat.le_refl _) _
  have hsz : W.heap.size = w.heap.size + 1 := by rw [hW]; simp
  have f0 : Fill w.heap.size 25 1088 1088 (hF E) W := by rw [hW]; exact Fill.of_row (heap_alloc_new w _)
  have hbl := (Below.refl W.heap.size W).alloc (Nat.le_refl _) (.cells #[.int .u8 80] 5)
  have hown : (W.alloc (.cells #[.int .u8 80] 5)).ownsRow W.heap.size 5 1 (.slice (some ⟨W.heap.size, 0, none⟩) 1 1) 1 [.int .u8 80] := World.ownsRow_lit W #[.int .u8 80] 1 (Nat.le_refl _) (by simp only [maxLen]; omega) rfl
  have HW := Lib.hid hW
  have HB := Lib.hid hb
  have HF := Lib.hid f0
  have HO := Lib.hid hown
  have HBL := Lib.hid hbl
  have HALL := Lib.hid (show [80] ++ E.take (16 * 68) = [80] ++ E by rw [List.take_of_length_le (by omega)])
  have HLEN := Lib.hid (show ([80] ++ E).length = 1089 by simp [hE])
  obtain ⟨T, hT⟩ : ∃ T, T = [80] ++ E := ⟨_, rfl⟩
  rw [← hT] at HALL HLEN ⊢
  clear hW hb f0 hbl hown hT
  unfold OwnB
  go_enter Tryd.func21, Tryd.ntmps21
  go_wp2_with fail
  rw [← HW.out, show w.heap.size + 1 = W.heap.size from hsz.symm]
  have HSZ := Lib.hid hsz
  clear hsz
  go_loopw [3, 4] (fun v i wr => ∃ k : Nat, k ≤ 68 ∧ i = .int .i64 (k : Int) ∧ Below W.heap.size W wr ∧ wr.ownsRow W.heap.size 5 1 v (1 + 16 * k) (([80] ++ E.take (16 * k)).map bv)) (fun _ i _ => 68 - (intOf i).toNat)
  case atStart => exact ⟨0, Nat.zero_le _, rfl, HBL.out, HO.out⟩
  case round =>
    obtain ⟨k, hk, rfl, hbw, hrw⟩ := hrel
    by_cases hlt : k < 68
    · have q1 : (k : Int) < 68 := by omega
      obtain ⟨A, c, rfl, hcc, hA⟩ := rowForm hrw
      have hnl := nodeL_len E hE k hlt
      have hsrc : ∀ j u, ((nodeL E k).map bv)[j]? = some u → wr.cell? ((⟨w.heap.size, k * 16, none⟩ : Addr).add j) = some u := fun j u hu => by
        have hj : j < 16 := by rw [← hnl, ← List.length_map (f := bv)]; exact (List.getElem?_eq_some_iff.1 hu).1
        have hat : hF (nodeL E k) j = hF E (16 * k + j) := by unfold hF; rw [nodeL_at E k j hj]
        rw [Addr.add_mid, Nat.mul_comm k 16, (HF.out.below hbw (by have := HSZ.out; omega)).at_ (16 * k + j) (by omega), ← hat, ← hF_at _ j (by omega)]
        exact hu
      have HSR := Lib.hid hsrc
      have HNL := Lib.hid hnl
      have HTN := Lib.hid (show [80] ++ E.take (16 * (k + 1)) = ([80] ++ E.take (16 * k)) ++ nodeL E k by rw [take_node, List.append_assoc])
      have HBW := Lib.hid hbw
      have HRW := Lib.hid hrw
      have hsw := hbw.size
      clear hbw hrw hsrc hnl
      go_wp2_with (first
        | (refine wpList_append_own _ rfl (.tmp 10) (.tmp 13) _ rfl W.heap.size 5 i0 _ 1 1 Tryd.underlying28 hi0 hy0 hy1 hy2 rfl (by decide) (.slice A (1 + 16 * k) c) _ _ rfl HRW.out ⟨w.heap.size, k * 16, none⟩ 16 16 ((nodeL E k).map bv) rfl (by rw [List.length_map, HNL.out]) HSR.out (bv_one _) (by unfold maxLen; omega) (by omega) hsw ?_; intro v1 w5 hown1 hg1 _; have HO1 := Lib.hid hown1; have HG := Lib.hid hg1; clear hown1 hg1)
        | fail)
      refine ⟨⟨k + 1, by omega, by go_num, HBW.out.grown HG.out hsw (fun g hg => (HRW.out.lt g hg).1), ?_⟩, by simp [intOf]; omega⟩
      rw [HTN.out, List.map_append, show 1 + 16 * (k + 1) = 1 + 16 * k + 16 by omega]
      exact HO1.out
    · obtain rfl : k = 68 := by omega
      rw [HALL.out] at hrw
      have HBW := Lib.hid hbw
      have HRW := Lib.hid hrw
      clear hbw hrw
      go_wp2_with fail
      go_ret
      refine ⟨_, rfl, HB.out.trans (HBW.out.mono (by have := HSZ.out; omega)), ?_⟩
      rw [HLEN.out]
      exact rowBase HRW.out (by have := HSZ.out; omega)
theorem add1_form {b s : Nat} {A : Option Addr} (h : A = none ∨ ∃ g, A = some ⟨g, 0, none⟩ ∧ b ≤ g ∧ g < s) : Option.map (fun x : Addr => x.add 1) A = Option.map (fun x : Addr => { block := x.block, off := x.off + 1 }) A := by
  rcases h with rfl | ⟨g, rfl, _⟩
  · rfl
  · rfl
set_option maxRecDepth 100000 in
set_option maxHeartbeats 8000000 in
theorem refSign_c (S h : List UInt8) (hS : S.length = 1088) (hh : h.length = 32) (w : World) :
    Calls Tryd.prog 7 #[.agg (rowV 1088 (hF S)), .agg (hashV h)] w fun e w' => ∃ A c, e = .returned (.slice A 1088 c) ∧ Rd w' w.heap.size w'.heap.size A (signL S h) ∧ 1088 ≤ c ∧ Below w.heap.size w w' := by
  have hz := zero_secret
  obtain ⟨W, hW⟩ : ∃ W, W = (w.alloc (.cells (rowV 1088 (hF S)) 25)).alloc (.cells (hashV h) 27) := ⟨_, rfl⟩
  have hb : Below w.heap.size w W := by rw [hW]; exact ((Below.refl _ _).alloc (Nat.le_refl _) _).alloc (by simp) _
  have hsz : W.heap.size = w.heap.size + 2 := by rw [hW]; simp
  have f0 : Fill w.heap.size 25 1088 1088 (hF S) W := by
    rw [hW]
    exact Fill.of_row (by rw [heap_lt _ _ (by simp)]; exact heap_alloc_new w _)
  have f1 : Fill (w.heap.size + 1) 27 32 32 (hF h) W := by
    rw [hW]
    have := heap_alloc_new (w.alloc (.cells (rowV 1088 (hF S)) 25)) (.cells (hashV h) 27)
    rw [heap_sz] at this
    exact Fill.of_row this
  obtain ⟨LS, hLS⟩ : ∃ LS, LS = (List.range 1088).map (hF S) := ⟨_, rfl⟩
  obtain ⟨LH, hLH⟩ : ∃ LH, LH = (List.range 32).map (hF h) := ⟨_, rfl⟩
  have hiS : (Tryd.prog.info? 25).map (·.size) = some LS.length := by rw [hLS, List.length_map, List.length_range]; have := size_secret (hF S); rwa [rowV_size] at this
  have hiH : (Tryd.prog.info? 27).map (·.size) = some LH.length := by rw [hLH, List.length_map, List.length_range]; exact size_hashW
  have huS := Tryd.underlying25
  have huH := Tryd.underlying27
  have HDG : Hid (∀ u, Calls Tryd.prog 20 #[.agg LH.toArray] u fun e w' => ∃ v, e = .returned v ∧ Below u.heap.size u w' ∧ w'.ownsRow u.heap.size 3 1 v 68 ((List.range 68).map fun i => natI (dg h i))) := by rw [hLH]; exact fun u => refDigits_c h hh u
  have HWK : Hid (∀ (g c : Nat) (u : World), g < u.heap.size → (∀ i, i < 68 → u.cell? ⟨g, i, none⟩ = some (.int .i64 (dg h i : Int))) → Calls Tryd.prog 19 #[.agg LS.toArray, .slice (some ⟨g, 0, none⟩) 68 c, .bool true] u fun e w' => e = .returned (.agg (rowV 1088 (hF (signL S h)))) ∧ Below u.heap.size u w') := by
    rw [hLS]
    exact fun g c u hg hc => refWalk_c S hS (dg h) (fun i _ => by have := dg_lt h i; omega) g c true u hg hc
  have HS : Hid (∀ u : World, Below W.heap.size W u → u.rangeAt w.heap.size 0 LS ∧ u.rangeAt (w.heap.size + 1) 0 LH) := by
    rw [hLS, hLH]
    exact fun u hu => ⟨(f0.below hu f0.lt).range 0 1088 (hF S) (by omega) (fun j _ => by rw [Nat.zero_add]), (f1.below hu f1.lt).range 0 32 (hF h) (by omega) (fun j _ => by rw [Nat.zero_add])⟩
  have k0 := HS.out _ (Below.refl W.heap.size W).drew
  have HW := Lib.hid hW
  have HB := Lib.hid hb
  have HSL := Lib.hid (signL_len S h hS)
  obtain ⟨Y, hY⟩ : ∃ Y, Y = signL S h := ⟨_, rfl⟩
  rw [← hY] at HWK HSL ⊢
  clear hW hb f0 f1 hLS hLH hY
  go_enter Tryd.func7, Tryd.ntmps7
  go_wp2_with fail
  rw [← HW.out]
  rename_i K1 hK1
  refine wp_region_noPanic ?_
  refine wp_region_held_drew (S := fun u => u.rangeAt w.heap.size 0 LS ∧ u.rangeAt (w.heap.size + 1) 0 LH) (by kernel_rfl) k0 (fun hHeld => ?_)
  refine wpAnyH_take (i := 0) (oi := _) (v := .agg LS.toArray) rfl (by kernel_rfl) (by kernel_rfl) (by kernel_rfl) (fun _ _ _ h => h) (yieldsIf_load_mid (by rfl) _ _ rfl w.heap.size 0 rfl LS _ (fun w h => h.1) huS rfl hiS) hHeld ?_
  refine wpAnyH_take (i := 1) (oi := _) (v := .agg LH.toArray) rfl (by kernel_rfl) (by kernel_rfl) (by kernel_rfl) (fun _ _ _ h => h) (yieldsIf_load_mid (by rfl) _ _ rfl (w.heap.size + 1) 0 rfl LH _ (fun w h => h.2) huH rfl hiH) hHeld ?_
  refine wpAnyH_ready (rs := [2, 4]) (by kernel_rfl) (by simp) ?_
  refine AllReadyH.cons (o := _) rfl (fun K hK => ?_) (AllReadyH.cons (o := _) rfl (fun K hK => ?_) AllReadyH.nil)
  · go_simp
    go_at_call 20
    refine (HDG.out _).mono ?_
    rintro e x2 ⟨v2, rfl, hb2, hr2⟩
    have HB2 := Lib.hid (((Below.refl W.heap.size W).drew).trans (hb2.mono (((Below.refl W.heap.size W).drew)).size))
    obtain ⟨A, c, rfl, hc, hA⟩ := rowForm hr2
    obtain ⟨g, rfl, hg1, hg2, hcell⟩ := dig_cells hr2
    have HDC := Lib.hid (fun (u : World) (hu : Below x2.heap.size x2 u) => And.intro (Nat.lt_of_lt_of_le hg2 hu.size) (fun i (hi : i < 68) => (hu.cell (p := ⟨g, i, none⟩) hg2).trans (hcell i hi)))
    clear hb2 hr2 hc hA hcell hg1 hg2
    go_simp
    refine hK.out _ _ (HS.out _ HB2.out) (fun hHeld => ?_)
    clear hK K
    refine wpAnyH_ready (rs := [3, 4]) (by kernel_rfl) (by simp) ?_
    refine AllReadyH.cons (o := _) rfl (fun K hK => ?_) (AllReadyH.cons (o := _) rfl (fun K hK => ?_) AllReadyH.nil)
    · go_simp
      go_at_call 19
      refine (HWK.out g c _ (HDC.out _ (Below.refl _ _)).1 (HDC.out _ (Below.refl _ _)).2).mono ?_
      rintro e x3 ⟨rfl, hb3⟩
      have HB3 := Lib.hid (HB2.out.trans (hb3.mono (HB2.out).size))
      clear hb3
      go_simp
      refine hK.out _ _ (HS.out _ HB3.out) (fun hHeld => ?_)
      clear hK K
      refine wpAnyH_ready (rs := [4]) (by kernel_rfl) (by simp) ?_
      refine AllReadyH.cons (o := _) rfl (fun K hK => ?_) AllReadyH.nil
      go_simp
      have HB4 := Lib.hid ((HB3.out.alloc (HB3.out).size (.cells (rowV 1088 z0) 25)))
      have HPZ : Hid (Fill x3.heap.size 25 1088 1088 z0 (x3.alloc (.cells (rowV 1088 z0) 25))) := Fill.of_row (heap_alloc_new _ _)
      have hpge : W.heap.size ≤ x3.heap.size := (HB3.out).size
      have HBA := Lib.hid (((Below.refl x3.heap.size x3).alloc (Nat.le_refl _) (.cells (rowV 1088 z0) 25)))
      obtain ⟨x4, hx4⟩ : ∃ x4, x4 = x3.alloc (.cells (rowV 1088 z0) 25) := ⟨_, rfl⟩
      rw [← hx4] at HPZ HB4 HBA ⊢
      clear hx4
      refine hK.out _ _ (HS.out _ HB4.out) (fun hHeld => ?_)
      clear hK K
      refine wpAnyH_ready (rs := [5]) (by kernel_rfl) (by simp) ?_
      refine AllReadyH.cons (o := _) rfl (fun K hK => ?_) AllReadyH.nil
      have hz5 := HPZ.out.done
      refine step_store_rowW rfl 25 (.tmp 5) (.tmp 9) rfl x3.heap.size (rowV 1088 (hF Y)) rfl rfl 25 (rowV 1088 z0) hz5 (size_secret _) (by rw [rowV_size, rowV_size]) (rowV_one 1088 _ (fun i => rfl)) none rfl ?_
      have hb9 := below_setRow HB4.out hpge (rowV 1088 (hF Y))
      have h9 : (x4.setRow x3.heap.size (rowV 1088 (hF Y))).heap[x3.heap.size]? = some (.cells (rowV 1088 (hF Y)) 25 (0, 0)) := setRow_heap _ _ _ _ _ _ hz5
      obtain ⟨x9, hx9⟩ : ∃ x9, x9 = x4.setRow x3.heap.size (rowV 1088 (hF Y)) := ⟨_, rfl⟩
      rw [← hx9] at hb9 h9 ⊢
      have HB9 := Lib.hid hb9
      clear hx9 hb9 hz5
      go_simp
      refine hK.out _ _ (HS.out _ HB9.out) (fun hHeld => ?_)
      clear hK K
      refine wpAnyH_done (by kernel_rfl) ?_ _
      refine NoPanic.normal ?_
      apply hK1
      clear hK1 K1
      have hpt := publicText_c Y HSL.out x9
      have HLY := Lib.hid (show ([80] ++ Y).length = 1089 by simp [HSL.out])
      have HDY := Lib.hid (show ([80] ++ Y).drop 1 = Y from rfl)
      obtain ⟨T, hT⟩ : ∃ T, T = [80] ++ Y := ⟨_, rfl⟩
      rw [← hT] at hpt HLY HDY
      clear hT
      go_wp2_with (first
        | (refine wpList_load_row rfl 25 (.tmp 5) rfl x3.heap.size rfl 25 (rowV 1088 (hF Y)) (0, 0) _ h9 Tryd.underlying25 rfl (size_secret _) ?_)
        | (go_at_call 21; refine hpt.mono ?_; rintro e x10 ⟨v10, rfl, hb10, hr10⟩; have HB10 := Lib.hid (HB9.out.trans (hb10.mono HB9.out.size)); obtain ⟨A9, c9, rfl, hc9, hA9⟩ := rowForm hr10; have HR10 := Lib.hid (Ow.of_own hr10).1.rd; have HHB := Lib.hid hb10; rw [HLY.out] at hc9 ⊢; have q8 : (1 : Int) ≤ 1089 := (by omega); have q9 : (1089 : Int) ≤ (c9 : Int) := (by omega); have HA9 := Lib.hid hA9; clear hr10 hb10 hA9)
        | fail)
      go_ret
      have hs9 := HB9.out.size
      have hs10 := HB10.out.size
      have hd := (HR10.out.drop (k := 1) (cap := c9) (by rw [HLY.out]; exact hc9))
      rw [HDY.out] at hd
      refine ⟨_, _, rfl, ?_, by omega, HB.out.trans (HB10.out.mono (by omega))⟩
      rw [if_neg (by omega), add1_form HA9.out] at hd
      exact hd.wide (by have := HB.out.size; omega) (Nat.le_refl _)
    · go_simp
      have HB4 := Lib.hid ((HB2.out.alloc (HB2.out).size (.cells (rowV 1088 z0) 25)))
      have HPZ : Hid (Fill x2.heap.size 25 1088 1088 z0 (x2.alloc (.cells (rowV 1088 z0) 25))) := Fill.of_row (heap_alloc_new _ _)
      have hpge : W.heap.size ≤ x2.heap.size := (HB2.out).size
      have HBA := Lib.hid (((Below.refl x2.heap.size x2).alloc (Nat.le_refl _) (.cells (rowV 1088 z0) 25)))
      obtain ⟨x4, hx4⟩ : ∃ x4, x4 = x2.alloc (.cells (rowV 1088 z0) 25) := ⟨_, rfl⟩
      rw [← hx4] at HPZ HB4 HBA ⊢
      clear hx4
      refine hK.out _ _ (HS.out _ HB4.out) (fun hHeld => ?_)
      clear hK K
      refine wpAnyH_ready (rs := [3]) (by kernel_rfl) (by simp) ?_
      refine AllReadyH.cons (o := _) rfl (fun K hK => ?_) AllReadyH.nil
      go_simp
      go_at_call 19
      refine (HWK.out g c _ (HDC.out _ HBA.out).1 (HDC.out _ HBA.out).2).mono ?_
      rintro e x3 ⟨rfl, hb3⟩
      have HB3 := Lib.hid (HB4.out.trans (hb3.mono (HB4.out).size))
      have HP3 := Lib.hid (HPZ.out.below hb3 HPZ.out.lt)
      clear hb3
      go_simp
      refine hK.out _ _ (HS.out _ HB3.out) (fun hHeld => ?_)
      clear hK K
      refine wpAnyH_ready (rs := [5]) (by kernel_rfl) (by simp) ?_
      refine AllReadyH.cons (o := _) rfl (fun K hK => ?_) AllReadyH.nil
      have hz5 := HP3.out.done
      refine step_store_rowW rfl 25 (.tmp 5) (.tmp 9) rfl x2.heap.size (rowV 1088 (hF Y)) rfl rfl 25 (rowV 1088 z0) hz5 (size_secret _) (by rw [rowV_size, rowV_size]) (rowV_one 1088 _ (fun i => rfl)) none rfl ?_
      have hb9 := below_setRow HB3.out hpge (rowV 1088 (hF Y))
      have h9 : (x3.setRow x2.heap.size (rowV 1088 (hF Y))).heap[x2.heap.size]? = some (.cells (rowV 1088 (hF Y)) 25 (0, 0)) := setRow_heap _ _ _ _ _ _ hz5
      obtain ⟨x9, hx9⟩ : ∃ x9, x9 = x3.setRow x2.heap.size (rowV 1088 (hF Y)) := ⟨_, rfl⟩
      rw [← hx9] at hb9 h9 ⊢
      have HB9 := Lib.hid hb9
      clear hx9 hb9 hz5
      go_simp
      refine hK.out _ _ (HS.out _ HB9.out) (fun hHeld => ?_)
      clear hK K
      refine wpAnyH_done (by kernel_rfl) ?_ _
      refine NoPanic.normal ?_
      apply hK1
      clear hK1 K1
      have hpt := publicText_c Y HSL.out x9
      have HLY := Lib.hid (show ([80] ++ Y).length = 1089 by simp [HSL.out])
      have HDY := Lib.hid (show ([80] ++ Y).drop 1 = Y from rfl)
      obtain ⟨T, hT⟩ : ∃ T, T = [80] ++ Y := ⟨_, rfl⟩
      rw [← hT] at hpt HLY HDY
      clear hT
      go_wp2_with (first
        | (refine wpList_load_row rfl 25 (.tmp 5) rfl x2.heap.size rfl 25 (rowV 1088 (hF Y)) (0, 0) _ h9 Tryd.underlying25 rfl (size_secret _) ?_)
        | (go_at_call 21; refine hpt.mono ?_; rintro e x10 ⟨v10, rfl, hb10, hr10⟩; have HB10 := Lib.hid (HB9.out.trans (hb10.mono HB9.out.size)); obtain ⟨A9, c9, rfl, hc9, hA9⟩ := rowForm hr10; have HR10 := Lib.hid (Ow.of_own hr10).1.rd; have HHB := Lib.hid hb10; rw [HLY.out] at hc9 ⊢; have q8 : (1 : Int) ≤ 1089 := (by omega); have q9 : (1089 : Int) ≤ (c9 : Int) := (by omega); have HA9 := Lib.hid hA9; clear hr10 hb10 hA9)
        | fail)
      go_ret
      have hs9 := HB9.out.size
      have hs10 := HB10.out.size
      have hd := (HR10.out.drop (k := 1) (cap := c9) (by rw [HLY.out]; exact hc9))
      rw [HDY.out] at hd
      refine ⟨_, _, rfl, ?_, by omega, HB.out.trans (HB10.out.mono (by omega))⟩
      rw [if_neg (by omega), add1_form HA9.out] at hd
      exact hd.wide (by have := HB.out.size; omega) (Nat.le_refl _)
  · go_simp
    have HB4 := Lib.hid (((Below.refl W.heap.size W).alloc (Nat.le_refl _) (.cells (rowV 1088 z0) 25)).drew)
    have HPZ : Hid (Fill (w.heap.size + 2) 25 1088 1088 z0 ((W.alloc (.cells (rowV 1088 z0) 25)).drew)) := Fill.of_row (by rw [← hsz]; exact heap_alloc_new W (.cells (rowV 1088 z0) 25))
    have hpge : W.heap.size ≤ (w.heap.size + 2) := (by omega)
    have HBA := Lib.hid (((Below.refl W.heap.size W).alloc (Nat.le_refl _) (.cells (rowV 1088 z0) 25)).drew)
    obtain ⟨x4, hx4⟩ : ∃ x4, x4 = (W.alloc (.cells (rowV 1088 z0) 25)).drew := ⟨_, rfl⟩
    rw [← hx4] at HPZ HB4 HBA ⊢
    clear hx4
    refine hK.out _ _ (HS.out _ HB4.out) (fun hHeld => ?_)
    clear hK K
    refine wpAnyH_ready (rs := [2]) (by kernel_rfl) (by simp) ?_
    refine AllReadyH.cons (o := _) rfl (fun K hK => ?_) AllReadyH.nil
    go_simp
    go_at_call 20
    refine (HDG.out _).mono ?_
    rintro e x2 ⟨v2, rfl, hb2, hr2⟩
    have HB2 := Lib.hid (HB4.out.trans (hb2.mono (HB4.out).size))
    obtain ⟨A, c, rfl, hc, hA⟩ := rowForm hr2
    obtain ⟨g, rfl, hg1, hg2, hcell⟩ := dig_cells hr2
    have HDC := Lib.hid (fun (u : World) (hu : Below x2.heap.size x2 u) => And.intro (Nat.lt_of_lt_of_le hg2 hu.size) (fun i (hi : i < 68) => (hu.cell (p := ⟨g, i, none⟩) hg2).trans (hcell i hi)))
    have HP2 := Lib.hid (HPZ.out.below hb2 HPZ.out.lt)
    clear hb2 hr2 hc hA hcell hg1 hg2
    go_simp
    refine hK.out _ _ (HS.out _ HB2.out) (fun hHeld => ?_)
    clear hK K
    refine wpAnyH_ready (rs := [3]) (by kernel_rfl) (by simp) ?_
    refine AllReadyH.cons (o := _) rfl (fun K hK => ?_) AllReadyH.nil
    go_simp
    go_at_call 19
    refine (HWK.out g c _ (HDC.out _ (Below.refl _ _)).1 (HDC.out _ (Below.refl _ _)).2).mono ?_
    rintro e x3 ⟨rfl, hb3⟩
    have HB3 := Lib.hid (HB2.out.trans (hb3.mono (HB2.out).size))
    have HP3 := Lib.hid (HP2.out.below hb3 HP2.out.lt)
    clear hb3
    go_simp
    refine hK.out _ _ (HS.out _ HB3.out) (fun hHeld => ?_)
    clear hK K
    refine wpAnyH_ready (rs := [5]) (by kernel_rfl) (by simp) ?_
    refine AllReadyH.cons (o := _) rfl (fun K hK => ?_) AllReadyH.nil
    have hz5 := HP3.out.done
    refine step_store_rowW rfl 25 (.tmp 5) (.tmp 9) rfl (w.heap.size + 2) (rowV 1088 (hF Y)) rfl rfl 25 (rowV 1088 z0) hz5 (size_secret _) (by rw [rowV_size, rowV_size]) (rowV_one 1088 _ (fun i => rfl)) none rfl ?_
    have hb9 := below_setRow HB3.out hpge (rowV 1088 (hF Y))
    have h9 : (x3.setRow (w.heap.size + 2) (rowV 1088 (hF Y))).heap[(w.heap.size + 2)]? = some (.cells (rowV 1088 (hF Y)) 25 (0, 0)) := setRow_heap _ _ _ _ _ _ hz5
    obtain ⟨x9, hx9⟩ : ∃ x9, x9 = x3.setRow (w.heap.size + 2) (rowV 1088 (hF Y)) := ⟨_, rfl⟩
    rw [← hx9] at hb9 h9 ⊢
    have HB9 := Lib.hid hb9
    clear hx9 hb9 hz5
    go_simp
    refine hK.out _ _ (HS.out _ HB9.out) (fun hHeld => ?_)
    clear hK K
    refine wpAnyH_done (by kernel_rfl) ?_ _
    refine NoPanic.normal ?_
    apply hK1
    clear hK1 K1
    have hpt := publicText_c Y HSL.out x9
    have HLY := Lib.hid (show ([80] ++ Y).length = 1089 by simp [HSL.out])
    have HDY := Lib.hid (show ([80] ++ Y).drop 1 = Y from rfl)
    obtain ⟨T, hT⟩ : ∃ T, T = [80] ++ Y := ⟨_, rfl⟩
    rw [← hT] at hpt HLY HDY
    clear hT
    go_wp2_with (first
      | (refine wpList_load_row rfl 25 (.tmp 5) rfl (w.heap.size + 2) rfl 25 (rowV 1088 (hF Y)) (0, 0) _ h9 Tryd.underlying25 rfl (size_secret _) ?_)
      | (go_at_call 21; refine hpt.mono ?_; rintro e x10 ⟨v10, rfl, hb10, hr10⟩; have HB10 := Lib.hid (HB9.out.trans (hb10.mono HB9.out.size)); obtain ⟨A9, c9, rfl, hc9, hA9⟩ := rowForm hr10; have HR10 := Lib.hid (Ow.of_own hr10).1.rd; have HHB := Lib.hid hb10; rw [HLY.out] at hc9 ⊢; have q8 : (1 : Int) ≤ 1089 := (by omega); have q9 : (1089 : Int) ≤ (c9 : Int) := (by omega); have HA9 := Lib.hid hA9; clear hr10 hb10 hA9)
      | fail)
    go_ret
    have hs9 := HB9.out.size
    have hs10 := HB10.out.size
    have hd := (HR10.out.drop (k := 1) (cap := c9) (by rw [HLY.out]; exact hc9))
    rw [HDY.out] at hd
    refine ⟨_, _, rfl, ?_, by omega, HB.out.trans (HB10.out.mono (by omega))⟩
    rw [if_neg (by omega), add1_form HA9.out] at hd
    exact hd.wide (by have := HB.out.size; omega) (Nat.le_refl _)
end Go.Proofs.YtgdiffjobkfmoaaDoorRR
