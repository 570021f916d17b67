/- The law's walk: from one signature on to another one. -/
import Derived.Test.YtgdiffjobkfmoaaDoorRRWoSign
import Derived.Test.YtgdiffjobkfmoaaDoorRRWoStepOf
import Derived.Test.YtgdiffjobkfmoaaDoorRRWoKnown
namespace Go.Proofs.YtgdiffjobkfmoaaDoorRR
open Go.ChangeShapes Go.WideShapes Go.ChangeAt Go.RowKit Go.Shelf
set_option linter.unusedVariables false

theorem heap_setCell_otherW (w : World) (a : Addr) (v : Value) (k : Nat) (h : k ≠ a.block) : (w.setCell a v).heap[k]? = w.heap[k]? := Below.heap_setCell _ _ _ _ h
set_option maxRecDepth 100000 in
set_option maxHeartbeats 8000000 in
theorem wotsOn_any (S h g : List UInt8) (hS : S.length = 1088) (hh : h.length = 32) (hg : g.length = 32) (w : World) (ht : Tabs w) :
    Calls Tryd.prog 4 #[.agg (rowV 1088 (hF S)), .agg (hashV h), .agg (hashV g)] w fun e w' => e = .returned (.bool true) ∧ Below w.heap.size w w' := by
  have hz16 := zero_node
  obtain ⟨W, hW⟩ : ∃ W, W = ((w.alloc (.cells (rowV 1088 (hF S)) 25)).alloc (.cells (hashV h) 27)).alloc (.cells (hashV g) 27) := ⟨_, rfl⟩
  have hb : Below w.heap.size w W := by rw [hW]; exact (((Below.refl _ _).alloc (Nat.le_refl _) _).alloc (by simp) _).alloc (by simp; omega) _
  have hsz : W.heap.size = w.heap.size + 3 := by rw [hW]; simp
  have f0 : Fill w.heap.size 25 1088 1088 (hF S) W := by
    rw [hW]
    exact Fill.of_row (by rw [heap_lt _ _ (by simp; omega), heap_lt _ _ (by simp)]; exact heap_alloc_new w _)
  have f1 : Fill (w.heap.size + 1) 27 32 32 (hF h) W := by
    rw [hW]
    have := heap_alloc_new (w.alloc (.cells (rowV 1088 (hF S)) 25)) (.cells (hashV h) 27)
    rw [heap_sz] at this
    exact Fill.of_row (by rw [heap_lt _ _ (by simp)]; exact this)
  have f2 : Fill (w.heap.size + 2) 27 32 32 (hF g) W := by
    rw [hW]
    have := heap_alloc_new ((w.alloc (.cells (rowV 1088 (hF S)) 25)).alloc (.cells (hashV h) 27)) (.cells (hashV g) 27)
    rw [heap_sz, heap_sz] at this
    exact Fill.of_row this
  have HT : Hid (∀ u : World, Below w.heap.size w u → Tabs u) := fun u hu => ht.below hu ht.2.2.1 ht.2.2.2
  obtain ⟨LS, hLS⟩ : ∃ LS, LS = (List.range 1088).map (hF S) := ⟨_, rfl⟩
  obtain ⟨LH, hLH⟩ : ∃ LH, LH = (List.range 32).map (hF h) := ⟨_, rfl⟩
  obtain ⟨LG, hLG⟩ : ∃ LG, LG = (List.range 32).map (hF g) := ⟨_, rfl⟩
  have hiS : (Tryd.prog.info? 25).map (·.size) = some LS.length := by rw [hLS, List.length_map, List.length_range]; have := size_secret (hF S); rwa [rowV_size] at this
  have hiH : (Tryd.prog.info? 27).map (·.size) = some LH.length := by rw [hLH, List.length_map, List.length_range]; exact size_hashW
  have hiG : (Tryd.prog.info? 27).map (·.size) = some LG.length := by rw [hLG, List.length_map, List.length_range]; exact size_hashW
  have huS := Tryd.underlying25
  have huH := Tryd.underlying27
  have HSH : Hid (∀ u, Tabs u → Calls Tryd.prog 5 #[.agg LS.toArray, .agg LH.toArray] u (SigP u (signL S h))) := by rw [hLS, hLH]; exact fun u hu => sign_c S h hS hh u hu
  have HSGG : Hid (∀ u, Tabs u → Calls Tryd.prog 5 #[.agg LS.toArray, .agg LG.toArray] u (SigP u (signL S g))) := by rw [hLS, hLG]; exact fun u hu => sign_c S g hS hg u hu
  have HDH : Hid (∀ u, Calls Tryd.prog 10 #[.agg LH.toArray] u fun e w' => ∃ v, e = .returned v ∧ Below u.heap.size u w' ∧ w'.ownsRow u.heap.size 3 1 v 68 ((List.range 68).map fun i => natI (dg h i))) := by rw [hLH]; exact fun u => digits_c h hh u
  have HDG : Hid (∀ u, Calls Tryd.prog 10 #[.agg LG.toArray] u fun e w' => ∃ v, e = .returned v ∧ Below u.heap.size u w' ∧ w'.ownsRow u.heap.size 3 1 v 68 ((List.range 68).map fun i => natI (dg g i))) := by rw [hLG]; exact fun u => digits_c g hg u
  have HS : Hid (∀ u : World, Below W.heap.size W u → u.rangeAt w.heap.size 0 LS ∧ u.rangeAt (w.heap.size + 1) 0 LH ∧ u.rangeAt (w.heap.size + 2) 0 LG) := by
    rw [hLS, hLH, hLG]
    exact fun u hu => ⟨(f0.below hu f0.lt).range 0 1088 (hF S) (by omega) (fun j _ => by rw [Nat.zero_add]), (f1.below hu f1.lt).range 0 32 (hF h) (by omega) (fun j _ => by rw [Nat.zero_add]), (f2.below hu f2.lt).range 0 32 (hF g) (by omega) (fun j _ => by rw [Nat.zero_add])⟩
  have HTT : Hid (∀ u : World, Below W.heap.size W u → Tabs u) := fun u hu => HT.out u (hb.trans (hu.mono (by omega)))
  have k0 := HS.out _ (Below.refl W.heap.size W).drew
  have HW := Lib.hid hW
  have HB := Lib.hid hb
  have HLA := Lib.hid (signL_len S h hS)
  have HLB := Lib.hid (signL_len S g hS)
  have HNA := Lib.hid (fun i hi => sign_goes S h g hS i hi)
  have HNB := Lib.hid (fun i hi => sign_goes S g h hS i hi)
  obtain ⟨XA, hXA⟩ : ∃ XA, XA = signL S h := ⟨_, rfl⟩
  obtain ⟨XB, hXB⟩ : ∃ XB, XB = signL S g := ⟨_, rfl⟩
  rw [← hXA] at HSH HLA HNA HNB
  rw [← hXB] at HSGG HLB HNA HNB
  unfold SigP at HSH HSGG
  clear hW hb f0 f1 f2 hLS hLH hLG hXA hXB
  unfold hashV at HW ⊢
  go_enter Tryd.func4, Tryd.ntmps4
  go_wp2_with fail
  rw [← HW.out]
  rename_i K1 hK1
  refine wp_region_noPanic ?_
  refine wp_region_held_drew (S := (fun u => u.rangeAt w.heap.size 0 LS ∧ u.rangeAt (w.heap.size + 1) 0 LH ∧ u.rangeAt (w.heap.size + 2) 0 LG)) (by kernel_rfl) k0 (fun hHeld => ?_)
  refine wpAnyH_take (i := 0) (oi := _) (v := .agg LS.toArray) rfl (by kernel_rfl) (by kernel_rfl) (by kernel_rfl) (fun _ _ _ h => h) (yieldsIf_load_mid (by rfl) _ _ rfl w.heap.size 0 rfl LS _ (fun w h => h.1) huS rfl hiS) hHeld ?_
  refine wpAnyH_take (i := 1) (oi := _) (v := .agg LH.toArray) rfl (by kernel_rfl) (by kernel_rfl) (by kernel_rfl) (fun _ _ _ h => h) (yieldsIf_load_mid (by rfl) _ _ rfl (w.heap.size + 1) 0 rfl LH _ (fun w h => h.2.1) huH rfl hiH) hHeld ?_
  refine wpAnyH_take (i := 3) (oi := _) (v := .agg LS.toArray) rfl (by kernel_rfl) (by kernel_rfl) (by kernel_rfl) (fun _ _ _ h => h) (yieldsIf_load_mid (by rfl) _ _ rfl w.heap.size 0 rfl LS _ (fun w h => h.1) huS rfl hiS) hHeld ?_
  refine wpAnyH_take (i := 4) (oi := _) (v := .agg LG.toArray) rfl (by kernel_rfl) (by kernel_rfl) (by kernel_rfl) (fun _ _ _ h => h) (yieldsIf_load_mid (by rfl) _ _ rfl (w.heap.size + 2) 0 rfl LG _ (fun w h => h.2.2) huH rfl hiG) hHeld ?_
  refine wpAnyH_ready (rs := [2]) (by kernel_rfl) (by simp) ?_
  refine AllReadyH.cons (o := _) rfl (fun K hK => ?_) AllReadyH.nil
  go_simp
  go_at_call 5
  refine (HSH.out _ (HTT.out _ ((Below.refl W.heap.size W).drew))).mono ?_
  rintro e x1 ⟨ga, rfl, hga, hfa, hb1⟩
  have HB1 := Lib.hid (((Below.refl W.heap.size W).drew).trans hb1)
  have HFA := Lib.hid hfa
  have k1 := HS.out _ HB1.out
  clear hb1 hfa
  go_simp
  refine hK.out _ _ k1 (fun hHeld => ?_)
  clear hK K
  refine wpAnyH_ready (rs := [5]) (by kernel_rfl) (by simp) ?_
  refine AllReadyH.cons (o := _) rfl (fun K hK => ?_) AllReadyH.nil
  go_simp
  go_at_call 5
  refine (HSGG.out _ (HTT.out _ HB1.out)).mono ?_
  rintro e x2 ⟨gb, rfl, hgb, hfb, hb2⟩
  have HB2 := Lib.hid (HB1.out.trans (hb2.mono HB1.out.size))
  have HFB := Lib.hid hfb
  have HFA2 := Lib.hid (HFA.out.below hb2 HFA.out.lt)
  have k2 := HS.out _ HB2.out
  clear hb2 hfb
  go_simp
  refine hK.out _ _ k2 (fun hHeld => ?_)
  clear hK K
  refine wpAnyH_ready (rs := [6]) (by kernel_rfl) (by simp) ?_
  refine AllReadyH.cons (o := _) rfl (fun K hK => ?_) AllReadyH.nil
  go_simp
  refine hK.out _ _ k2 (fun hHeld => ?_)
  clear hK K
  refine wpAnyH_ready (rs := [7]) (by kernel_rfl) (by simp) ?_
  refine AllReadyH.cons (o := _) rfl (fun K hK => ?_) AllReadyH.nil
  go_simp
  refine hK.out _ _ k2 (fun hHeld => ?_)
  clear hK K
  refine wpAnyH_done (by kernel_rfl) ?_ _
  refine NoPanic.normal ?_
  apply hK1
  clear hK1 K1 k0 k1 k2
  go_wp2_with fail
  have k3 := HS.out _ HB2.out.drew
  rename_i K1 hK1
  refine wp_region_noPanic ?_
  refine wp_region_held_drew (S := (fun u => u.rangeAt w.heap.size 0 LS ∧ u.rangeAt (w.heap.size + 1) 0 LH ∧ u.rangeAt (w.heap.size + 2) 0 LG)) (by kernel_rfl) k3 (fun hHeld => ?_)
  refine wpAnyH_take (i := 0) (oi := _) (v := .agg LH.toArray) rfl (by kernel_rfl) (by kernel_rfl) (by kernel_rfl) (fun _ _ _ h => h) (yieldsIf_load_mid (by rfl) _ _ rfl (w.heap.size + 1) 0 rfl LH _ (fun w h => h.2.1) huH rfl hiH) hHeld ?_
  refine wpAnyH_take (i := 2) (oi := _) (v := .agg LG.toArray) rfl (by kernel_rfl) (by kernel_rfl) (by kernel_rfl) (fun _ _ _ h => h) (yieldsIf_load_mid (by rfl) _ _ rfl (w.heap.size + 2) 0 rfl LG _ (fun w h => h.2.2) huH rfl hiG) hHeld ?_
  refine wpAnyH_ready (rs := [1]) (by kernel_rfl) (by simp) ?_
  refine AllReadyH.cons (o := _) rfl (fun K hK => ?_) AllReadyH.nil
  go_simp
  go_at_call 10
  refine (HDH.out _).mono ?_
  rintro e x3 ⟨v3, rfl, hb3, hr3⟩
  have HB3 := Lib.hid (HB2.out.drew.trans (hb3.mono HB2.out.drew.size))
  have HFA3 := Lib.hid ((HFA2.out.drewN 1).below hb3 HFA2.out.lt)
  have HFB3 := Lib.hid ((HFB.out.drewN 1).below hb3 HFB.out.lt)
  have k4 := HS.out _ HB3.out
  obtain ⟨A3, c3, rfl, hc3, hA3⟩ := rowForm hr3
  have HR3 := Lib.hid hr3
  clear hb3 hr3 hA3 hc3
  go_simp
  refine hK.out _ _ k4 (fun hHeld => ?_)
  clear hK K
  refine wpAnyH_ready (rs := [3]) (by kernel_rfl) (by simp) ?_
  refine AllReadyH.cons (o := _) rfl (fun K hK => ?_) AllReadyH.nil
  go_simp
  go_at_call 10
  refine (HDG.out _).mono ?_
  rintro e x4 ⟨v4, rfl, hb4, hr4⟩
  have HB4 := Lib.hid (HB3.out.trans (hb4.mono HB3.out.size))
  have HFA4 := Lib.hid (HFA3.out.below hb4 HFA3.out.lt)
  have HFB4 := Lib.hid (HFB3.out.below hb4 HFB3.out.lt)
  have k5 := HS.out _ HB4.out
  obtain ⟨A4, c4, rfl, hc4, hA4⟩ := rowForm hr4
  obtain ⟨gd, rfl, hgd1, hgd2, hcd⟩ := dig_cells (rowBelow HR3.out hb4 (Nat.le_refl _))
  obtain ⟨ge, rfl, hge1, hge2, hce⟩ := dig_cells hr4
  have HCD := Lib.hid hcd
  have HCE := Lib.hid hce
  clear hb4 hr4 hA4 hc4 hcd hce
  go_simp
  refine hK.out _ _ k5 (fun hHeld => ?_)
  clear hK K
  refine wpAnyH_ready (rs := [4]) (by kernel_rfl) (by simp) ?_
  refine AllReadyH.cons (o := _) rfl (fun K hK => ?_) AllReadyH.nil
  go_simp
  refine hK.out _ _ k5 (fun hHeld => ?_)
  clear hK K
  refine wpAnyH_ready (rs := [5]) (by kernel_rfl) (by simp) ?_
  refine AllReadyH.cons (o := _) rfl (fun K hK => ?_) AllReadyH.nil
  go_simp
  refine hK.out _ _ k5 (fun hHeld => ?_)
  clear hK K
  refine wpAnyH_done (by kernel_rfl) ?_ _
  refine NoPanic.normal ?_
  apply hK1
  clear hK1 K1 k3 k4 k5
  clear hiS hiH hiG huS huH
  go_wp2_with fail
  go_loopw [11] (fun v wr => ∃ i : Nat, i ≤ 68 ∧ v = .int .i64 (i : Int) ∧ Below x4.heap.size x4 wr) (fun v _ => 68 - (intOf v).toNat)
  case atStart => exact ⟨0, Nat.zero_le _, rfl, Below.refl _ _⟩
  case round =>
    obtain ⟨i, hi, rfl, hbw⟩ := hrel
    have hsw := hbw.size
    by_cases hlt : i < 68
    · have q1 : (i : Int) < 68 := by omega
      have e1 := (hbw.cell (p := ⟨gd, i, none⟩) hgd2).trans (HCD.out i hlt)
      have e2 := (hbw.cell (p := ⟨ge, i, none⟩) hge2).trans (HCE.out i hlt)
      have hd3 := dg_lt h i
      have he3 := dg_lt g i
      have HGO1 := Lib.hid (HNA.out i hlt)
      have HGO2 := Lib.hid (HNB.out i hlt)
      have hla := nodeL_len XA HLA.out i hlt
      have hlb := nodeL_len XB HLB.out i hlt
      have HAA : Hid (∀ u : World, Below wr.heap.size wr u → ∀ k, k < 16 → u.cell? ⟨ga, 16 * i + k, none⟩ = some (hF (nodeL XA i) k)) := fun u hu k hk => by
        rw [((HFA4.out.below hbw HFA4.out.lt).below hu (Nat.lt_of_lt_of_le HFA4.out.lt hsw)).at_ (16 * i + k) (by omega)]
        unfold hF
        rw [nodeL_at XA i k hk]
      have HAB : Hid (∀ u : World, Below wr.heap.size wr u → ∀ k, k < 16 → u.cell? ⟨gb, 16 * i + k, none⟩ = some (hF (nodeL XB i) k)) := fun u hu k hk => by
        rw [((HFB4.out.below hbw HFB4.out.lt).below hu (Nat.lt_of_lt_of_le HFB4.out.lt hsw)).at_ (16 * i + k) (by omega)]
        unfold hF
        rw [nodeL_at XB i k hk]
      obtain ⟨W8, hW8⟩ : ∃ W8, W8 = (wr.alloc (.cells (rowV 16 z0) 23)).alloc (.cells (rowV 16 z0) 23) := ⟨_, rfl⟩
      have hb8 : Below wr.heap.size wr W8 := by rw [hW8]; exact ((Below.refl _ _).alloc (Nat.le_refl _) _).alloc (by simp) _
      have hz8 : W8.heap.size = wr.heap.size + 2 := by rw [hW8]; simp
      have fp : Fill wr.heap.size 23 16 0 (hF (nodeL XA i)) W8 := by
        rw [hW8]
        exact ⟨_, (heap_lt _ _ (by simp)).trans (heap_alloc_new wr _), rowV_size _ _, fun j hj => absurd hj (by omega)⟩
      have fq : Fill (wr.heap.size + 1) 23 16 0 (hF (nodeL XB i)) W8 := by
        rw [hW8]
        have := heap_alloc_new (wr.alloc (.cells (rowV 16 z0) 23)) (.cells (rowV 16 z0) 23)
        rw [heap_sz] at this
        exact ⟨_, this, rowV_size _ _, fun j hj => absurd hj (by omega)⟩
      have HW8 := Lib.hid hW8
      have HB8 := Lib.hid hb8
      have HFP := Lib.hid fp
      have HFQ := Lib.hid fq
      have HBW := Lib.hid hbw
      have HE12 : Hid (∀ u : World, Below wr.heap.size wr u → u.cell? ⟨gd, i, none⟩ = some (.int .i64 (dg h i : Int)) ∧ u.cell? ⟨ge, i, none⟩ = some (.int .i64 (dg g i : Int))) := fun u hu => ⟨(hu.cell (p := ⟨gd, i, none⟩) (Nat.lt_of_lt_of_le hgd2 hsw)).trans e1, (hu.cell (p := ⟨ge, i, none⟩) (Nat.lt_of_lt_of_le hge2 hsw)).trans e2⟩
      have HTW : Hid (∀ u : World, Below wr.heap.size wr u → Tabs u) := fun u hu => HTT.out u (HB4.out.trans ((hbw.trans (hu.mono hsw)).mono HB4.out.size))
      clear hW8 hb8 fp fq hbw e1 e2
      obtain ⟨p, hp⟩ : ∃ p, p = wr.heap.size := ⟨_, rfl⟩
      have HP := Lib.hid hp
      go_wp2_with fail
      rw [← HW8.out]
      obtain ⟨wq, hwq⟩ : ∃ wq, wq = wr := ⟨_, rfl⟩
      have wN : ∀ k : Nat, k < 16 → (16 * (i : Int) + (k : Int)).toNat = 16 * i + k := fun k hk => by omega
      go_loopw [14] (fun v wz => ∃ k : Nat, k ≤ 16 ∧ v = .int .i64 (k : Int) ∧ Fill wr.heap.size 23 16 k (hF (nodeL XA i)) wz ∧ Fill (wr.heap.size + 1) 23 16 k (hF (nodeL XB i)) wz ∧ Below wr.heap.size wr wz) (fun v _ => 16 - (intOf v).toNat)
      case atStart => exact ⟨0, Nat.zero_le _, rfl, HFP.out, HFQ.out, HB8.out⟩
      case round =>
        obtain ⟨k, hk, rfl, hn, hm, hbz⟩ := hrel
        subst hwq
        have hsz2 := hbz.size
        by_cases hlt2 : k < 16
        · have q2 : (k : Int) < 16 := by omega
          have q5 : 16 * (i : Int) + (k : Int) < 1088 := by omega
          have q6 : (0 : Int) ≤ 16 * (i : Int) + (k : Int) := by omega
          have wNk := wN k hlt2
          have c1 := HAA.out _ hbz k hlt2
          have c2 := HAB.out _ hbz k hlt2
          have hv1 : hF (nodeL XA i) k = .int .u8 (((nodeL XA i).getD k 0).toNat : Int) := rfl
          have hv2 : hF (nodeL XB i) k = .int .u8 (((nodeL XB i).getD k 0).toNat : Int) := rfl
          rw [hv1] at c1
          rw [hv2] at c2
          have HV1 := Lib.hid hv1
          have HV2 := Lib.hid hv2
          obtain ⟨u0, hu0, hf0⟩ := hn.cell k hlt2
          obtain ⟨u1, hu1, hf1⟩ := hm.cell k hlt2
          generalize ((nodeL XA i).getD k 0).toNat = za at *
          generalize ((nodeL XB i).getD k 0).toNat = zb at *
          have HN := Lib.hid hn
          have HM := Lib.hid hm
          have HBZ := Lib.hid hbz
          have hgbl : gb < wq.heap.size := Nat.lt_of_lt_of_le HFB4.out.lt hsw
          have c2' : (wr.setCell ⟨wq.heap.size, k, none⟩ (.int .u8 (za : Int))).cell? ⟨gb, 16 * i + k, none⟩ = some (.int .u8 (zb : Int)) := (World.cell?_setCell_other _ _ _ _ (fun e => by injection e with e _ _; omega)).trans c2
          have hu1' : (wr.setCell ⟨wq.heap.size, k, none⟩ (.int .u8 (za : Int))).cell? ⟨wq.heap.size + 1, k, none⟩ = some u1 := (World.cell?_setCell_other _ _ _ _ (fun e => by injection e with e _ _; omega)).trans hu1
          clear hn hm hbz hv1 hv2 wN
          go_wp2_with fail
          refine ⟨⟨k + 1, by omega, by go_num, ?_, ?_, (HBZ.out.setCell (Nat.le_refl _) _).setCell (Nat.le_succ _) _⟩, by simp [intOf]; omega⟩
          · exact (HN.out.step hlt2 HV1.out.symm).keep (heap_setCell_otherW _ _ _ _ (by simp))
          · exact (HM.out.keep (heap_setCell_otherW _ _ _ _ (by simp))).step hlt2 HV2.out.symm
        · obtain rfl : k = 16 := by omega
          have HN := Lib.hid hn
          have HM := Lib.hid hm
          have HBZ := Lib.hid hbz
          obtain ⟨e1, e2⟩ := HE12.out _ hbz
          clear hn hm hbz wN
          by_cases hgt : dg g i < dg h i
          · have hgt' : (dg g i : Int) < (dg h i : Int) := by omega
            have r12 := (HN.out.drewN 1).done
            have r13 := (HM.out.drewN 1).done
            go_wp2_with fail
            go_quiet (fail)
            have r12 : (wr.drewN nq).heap[wq.heap.size]? = some (.cells (rowV 16 (hF (nodeL XA i))) 23 (0, 0)) := HN.out.done
            have r13 : (wr.drewN nq).heap[wq.heap.size + 1]? = some (.cells (rowV 16 (hF (nodeL XB i))) 23 (0, 0)) := HM.out.done
            obtain ⟨y0, hy0⟩ : ∃ y0, y0 = wr.drewN nq := ⟨_, rfl⟩
            have HBY := Lib.hid (show Below wq.heap.size wq y0 by rw [hy0]; exact below_drewN HBZ.out nq)
            rw [← hy0] at r12 r13 ⊢
            clear hy0
            have r13' : (y0.setRow wq.heap.size (rowV 16 (hF (nodeL XB i)))).heap[wq.heap.size + 1]? = some (.cells (rowV 16 (hF (nodeL XB i))) 23 (0, 0)) := (setRow_other _ _ _ _ (by omega)).trans r13
            have r12' : (y0.setRow wq.heap.size (rowV 16 (hF (nodeL XB i)))).heap[wq.heap.size]? = some (.cells (rowV 16 (hF (nodeL XB i))) 23 (0, 0)) := setRow_heap _ _ _ _ _ _ r12
            obtain ⟨y1, hy1⟩ : ∃ y1, y1 = y0.setRow wq.heap.size (rowV 16 (hF (nodeL XB i))) := ⟨_, rfl⟩
            have HY1 := Lib.hid hy1
            have HBY1 := Lib.hid (show Below wq.heap.size wq y1 by rw [hy1]; exact below_setRow HBY.out (Nat.le_refl _) _)
            rw [← hy1] at r12' r13'
            clear hy1
            have HF0 := Lib.hid (show Fill wq.heap.size 23 16 16 (hF (nodeL XB i)) (y1.setRow (wq.heap.size + 1) (rowV 16 (hF (nodeL XA i)))) from (Fill.of_row r12').keep (setRow_other _ _ _ _ (by omega)))
            have HF1 := Lib.hid (show Fill (wq.heap.size + 1) 23 16 16 (hF (nodeL XA i)) (y1.setRow (wq.heap.size + 1) (rowV 16 (hF (nodeL XA i)))) from Fill.of_row (setRow_heap _ _ _ _ _ _ r13'))
            have HBQ := Lib.hid (below_setRow HBY1.out (Nat.le_succ _) (rowV 16 (hF (nodeL XA i))))
            obtain ⟨y2, hy2⟩ : ∃ y2, y2 = y1.setRow (wq.heap.size + 1) (rowV 16 (hF (nodeL XA i))) := ⟨_, rfl⟩
            rw [← hy2] at HF0 HF1 HBQ
            have HY2 := Lib.hid hy2
            clear hy2
            go_wp2_with (first
              | (refine wpList_load_row rfl 23 (.tmp 13) rfl (wq.heap.size + 1) rfl 23 (rowV 16 (hF (nodeL XB i))) (0, 0) _ r13 Tryd.underlying23 rfl (size_nodeV _) ?_)
              | (refine wpList_load_row rfl 23 (.tmp 12) rfl wq.heap.size rfl 23 (rowV 16 (hF (nodeL XA i))) (0, 0) _ r12 Tryd.underlying23 rfl (size_nodeV _) ?_)
              | (refine wpList_store_row rfl 23 (.tmp 12) (.tmp 87) rfl wq.heap.size (rowV 16 (hF (nodeL XB i))) rfl rfl 23 (rowV 16 (hF (nodeL XA i))) r12 (size_nodeV _) (by rw [rowV_size, rowV_size]) (rowV_one 16 _ (fun i => rfl)) ?_; rw [← HY1.out])
              | (refine wpList_store_row rfl 23 (.tmp 13) (.tmp 88) rfl (wq.heap.size + 1) (rowV 16 (hF (nodeL XA i))) rfl rfl 23 (rowV 16 (hF (nodeL XB i))) r13' (size_nodeV _) (by rw [rowV_size, rowV_size]) (rowV_one 16 _ (fun i => rfl)) ?_; rw [← HY2.out])
              | fail)
            clear r12 r13 r12' r13'
            go_loopw [17] (fun v wz => ∃ k : Nat, (dg g i) ≤ k ∧ k ≤ (dg h i) ∧ v = .int .i64 (k : Int) ∧ Fill wq.heap.size 23 16 16 (hF (walkL i (dg g i) k (nodeL XB i))) wz ∧ Fill (wq.heap.size + 1) 23 16 16 (hF (nodeL XA i)) wz ∧ Below wq.heap.size wq wz) (fun v _ => (dg h i) - (intOf v).toNat)
            case atStart => exact ⟨dg g i, Nat.le_refl _, by omega, rfl, by rw [walkL_none _ _ _ _ (Nat.le_refl _)]; exact HF0.out, HF1.out, HBQ.out⟩
            case round =>
              obtain ⟨k, hk1, hk2, rfl, hn, hm, hbz⟩ := hrel
              have hsz2 := hbz.size
              by_cases hlt3 : k < dg h i
              · have q3 : (k : Int) < (dg h i : Int) := by omega
                have hln := walkL_len i (dg g i) k (nodeL XB i) hlb
                have HS := Lib.hid (walkL_succ i (dg g i) k (nodeL XB i) hk1)
                have h5 := hn.done
                generalize walkL i (dg g i) k (nodeL XB i) = y at *
                have hst := stepOf_c y hln i k hlt (by omega) wr (HTW.out _ hbz)
                have HN := Lib.hid hn
                have HM := Lib.hid hm
                have HBZ := Lib.hid hbz
                clear hn hm hbz
                go_wp2_with (first
                  | (refine wpList_load_row rfl 23 (.tmp 12) rfl wq.heap.size rfl 23 (rowV 16 (hF y)) (0, 0) _ h5 Tryd.underlying23 rfl (size_nodeV _) ?_)
                  | fail)
                refine hst.mono ?_
                rintro e y5 ⟨rfl, hb5⟩
                have hba := (Below.refl y5.heap.size y5).alloc (Nat.le_refl _) (.cells (rowV 16 z0) 23)
                have h6 : ((y5.alloc (.cells (rowV 16 z0) 23)).setRow y5.heap.size (rowV 16 (hF (stepL i k y)))).heap[y5.heap.size]? = some (.cells (rowV 16 (hF (stepL i k y))) 23 (0, 0)) := setRow_heap _ _ _ _ _ _ (heap_alloc_new y5 _)
                have hb6 := below_setRow hba (Nat.le_refl _) (rowV 16 (hF (stepL i k y)))
                obtain ⟨y6, hy6⟩ : ∃ y6, y6 = (y5.alloc (.cells (rowV 16 z0) 23)).setRow y5.heap.size (rowV 16 (hF (stepL i k y))) := ⟨_, rfl⟩
                have HY6 := Lib.hid hy6
                rw [← hy6] at h6 hb6
                have hb56 : Below wr.heap.size wr y6 := hb5.trans (hb6.mono hb5.size)
                have hn6 := HN.out.below hb56 HN.out.lt
                have h7 := hn6.done
                have HM6 := Lib.hid (HM.out.below hb56 HM.out.lt)
                have HBZ6 := Lib.hid (HBZ.out.trans (hb56.mono hsz2))
                clear hy6 hba hb5 hb6 hn6 hb56
                go_wp2_with (first
                  | (refine wpList_store_row rfl 23 (.tmp 18) (.tmp 100) rfl y5.heap.size (rowV 16 (hF (stepL i k y))) rfl rfl 23 (rowV 16 z0) (heap_alloc_new y5 _) (size_nodeV _) (by rw [rowV_size, rowV_size]) (rowV_one 16 _ (fun i => rfl)) ?_; rw [← HY6.out])
                  | (refine wpList_load_row rfl 23 (.tmp 18) rfl y5.heap.size rfl 23 (rowV 16 (hF (stepL i k y))) (0, 0) _ h6 Tryd.underlying23 rfl (size_nodeV _) ?_)
                  | (refine wpList_store_row rfl 23 (.tmp 12) (.tmp 104) rfl wq.heap.size (rowV 16 (hF (stepL i k y))) rfl rfl 23 (rowV 16 (hF y)) h7 (size_nodeV _) (by rw [rowV_size, rowV_size]) (rowV_one 16 _ (fun i => rfl)) ?_)
                  | fail)
                refine ⟨⟨k + 1, by omega, by omega, by go_num, by rw [HS.out]; exact Fill.of_row (setRow_heap _ _ _ _ _ _ h7), HM6.out.keep (setRow_other _ _ _ _ (by omega)), below_setRow HBZ6.out (Nat.le_refl _) _⟩, by simp [intOf]; omega⟩
              · obtain rfl : k = dg h i := by omega
                rw [HGO2.out (by omega)] at hn
                have h5 := hn.done
                have h6 := hm.done
                have he := eq_row 16 23 Tryd.underlying23 (nodeL XA i) (nodeL XA i) hla hla
                simp only [beq_self_eq_true] at he
                have HBZ := Lib.hid (HBW.out.trans (hbz.mono hsw))
                clear hn hm hbz
                go_wp2_with (first
                  | (refine wpList_load_row rfl 23 (.tmp 12) rfl wq.heap.size rfl 23 (rowV 16 (hF (nodeL XA i))) (0, 0) _ h5 Tryd.underlying23 rfl (size_nodeV _) ?_)
                  | (refine wpList_load_row rfl 23 (.tmp 13) rfl (wq.heap.size + 1) rfl 23 (rowV 16 (hF (nodeL XA i))) (0, 0) _ h6 Tryd.underlying23 rfl (size_nodeV _) ?_)
                  | fail)
                exact ⟨⟨i + 1, by omega, by go_num, HBZ.out⟩, by simp [intOf]; omega⟩
          · have hgt' : ¬ (dg g i : Int) < (dg h i : Int) := by omega
            go_wp2_with fail
            go_quiet (fail)
            have HF0 := Lib.hid (HN.out.drewN nq)
            have HF1 := Lib.hid (HM.out.drewN nq)
            have HBQ := Lib.hid (below_drewN HBZ.out nq)
            go_wp2_with fail
            go_loopw [17] (fun v wz => ∃ k : Nat, (dg h i) ≤ k ∧ k ≤ (dg g i) ∧ v = .int .i64 (k : Int) ∧ Fill wq.heap.size 23 16 16 (hF (walkL i (dg h i) k (nodeL XA i))) wz ∧ Fill (wq.heap.size + 1) 23 16 16 (hF (nodeL XB i)) wz ∧ Below wq.heap.size wq wz) (fun v _ => (dg g i) - (intOf v).toNat)
            case atStart => exact ⟨dg h i, Nat.le_refl _, by omega, rfl, by rw [walkL_none _ _ _ _ (Nat.le_refl _)]; exact HF0.out, HF1.out, HBQ.out⟩
            case round =>
              obtain ⟨k, hk1, hk2, rfl, hn, hm, hbz⟩ := hrel
              have hsz2 := hbz.size
              by_cases hlt3 : k < dg g i
              · have q3 : (k : Int) < (dg g i : Int) := by omega
                have hln := walkL_len i (dg h i) k (nodeL XA i) hla
                have HS := Lib.hid (walkL_succ i (dg h i) k (nodeL XA i) hk1)
                have h5 := hn.done
                generalize walkL i (dg h i) k (nodeL XA i) = y at *
                have hst := stepOf_c y hln i k hlt (by omega) wr (HTW.out _ hbz)
                have HN := Lib.hid hn
                have HM := Lib.hid hm
                have HBZ := Lib.hid hbz
                clear hn hm hbz
                go_wp2_with (first
                  | (refine wpList_load_row rfl 23 (.tmp 12) rfl wq.heap.size rfl 23 (rowV 16 (hF y)) (0, 0) _ h5 Tryd.underlying23 rfl (size_nodeV _) ?_)
                  | fail)
                refine hst.mono ?_
                rintro e y5 ⟨rfl, hb5⟩
                have hba := (Below.refl y5.heap.size y5).alloc (Nat.le_refl _) (.cells (rowV 16 z0) 23)
                have h6 : ((y5.alloc (.cells (rowV 16 z0) 23)).setRow y5.heap.size (rowV 16 (hF (stepL i k y)))).heap[y5.heap.size]? = some (.cells (rowV 16 (hF (stepL i k y))) 23 (0, 0)) := setRow_heap _ _ _ _ _ _ (heap_alloc_new y5 _)
                have hb6 := below_setRow hba (Nat.le_refl _) (rowV 16 (hF (stepL i k y)))
                obtain ⟨y6, hy6⟩ : ∃ y6, y6 = (y5.alloc (.cells (rowV 16 z0) 23)).setRow y5.heap.size (rowV 16 (hF (stepL i k y))) := ⟨_, rfl⟩
                have HY6 := Lib.hid hy6
                rw [← hy6] at h6 hb6
                have hb56 : Below wr.heap.size wr y6 := hb5.trans (hb6.mono hb5.size)
                have hn6 := HN.out.below hb56 HN.out.lt
                have h7 := hn6.done
                have HM6 := Lib.hid (HM.out.below hb56 HM.out.lt)
                have HBZ6 := Lib.hid (HBZ.out.trans (hb56.mono hsz2))
                clear hy6 hba hb5 hb6 hn6 hb56
                go_wp2_with (first
                  | (refine wpList_store_row rfl 23 (.tmp 18) (.tmp 100) rfl y5.heap.size (rowV 16 (hF (stepL i k y))) rfl rfl 23 (rowV 16 z0) (heap_alloc_new y5 _) (size_nodeV _) (by rw [rowV_size, rowV_size]) (rowV_one 16 _ (fun i => rfl)) ?_; rw [← HY6.out])
                  | (refine wpList_load_row rfl 23 (.tmp 18) rfl y5.heap.size rfl 23 (rowV 16 (hF (stepL i k y))) (0, 0) _ h6 Tryd.underlying23 rfl (size_nodeV _) ?_)
                  | (refine wpList_store_row rfl 23 (.tmp 12) (.tmp 104) rfl wq.heap.size (rowV 16 (hF (stepL i k y))) rfl rfl 23 (rowV 16 (hF y)) h7 (size_nodeV _) (by rw [rowV_size, rowV_size]) (rowV_one 16 _ (fun i => rfl)) ?_)
                  | fail)
                refine ⟨⟨k + 1, by omega, by omega, by go_num, by rw [HS.out]; exact Fill.of_row (setRow_heap _ _ _ _ _ _ h7), HM6.out.keep (setRow_other _ _ _ _ (by omega)), below_setRow HBZ6.out (Nat.le_refl _) _⟩, by simp [intOf]; omega⟩
              · obtain rfl : k = dg g i := by omega
                rw [HGO1.out (by omega)] at hn
                have h5 := hn.done
                have h6 := hm.done
                have he := eq_row 16 23 Tryd.underlying23 (nodeL XB i) (nodeL XB i) hlb hlb
                simp only [beq_self_eq_true] at he
                have HBZ := Lib.hid (HBW.out.trans (hbz.mono hsw))
                clear hn hm hbz
                go_wp2_with (first
                  | (refine wpList_load_row rfl 23 (.tmp 12) rfl wq.heap.size rfl 23 (rowV 16 (hF (nodeL XB i))) (0, 0) _ h5 Tryd.underlying23 rfl (size_nodeV _) ?_)
                  | (refine wpList_load_row rfl 23 (.tmp 13) rfl (wq.heap.size + 1) rfl 23 (rowV 16 (hF (nodeL XB i))) (0, 0) _ h6 Tryd.underlying23 rfl (size_nodeV _) ?_)
                  | fail)
                exact ⟨⟨i + 1, by omega, by go_num, HBZ.out⟩, by simp [intOf]; omega⟩
    · obtain rfl : i = 68 := by omega
      have hkn := known6 wr
      have HBW := Lib.hid hbw
      clear hbw
      go_wp2_with (first | (go_at_call 9; refine hkn.mono ?_; rintro e y9 ⟨rfl, hb9⟩; have HB9 := Lib.hid hb9; clear hb9) | fail)
      go_ret
      exact ⟨rfl, HB.out.trans ((HB4.out.trans ((HBW.out.trans (HB9.out.mono hsw)).mono HB4.out.size)).mono (by omega))⟩
end Go.Proofs.YtgdiffjobkfmoaaDoorRR
