/- The law's walk: two hashes' digits. -/
import Derived.Test.YtgdiffjobkfmoaaWoKnown
namespace Go.Proofs.Ytgdiffjobkfmoaa
open Go.RowKit
set_option linter.unusedVariables false

theorem hash_under : Try.prog.underlying 23 = some (.array 32 5) := Try.underlying23
theorem size_hash6 : (Try.prog.info? 23).map (·.size) = some 32 := by kernel_rfl
/-- A hash read whole. -/
theorem load_hash {u : World} {g : Nat} {l : List UInt8} (h : u.rangeAt g 0 ((List.range 32).map (hF l))) : (Instr.loadAt 23 (.pointer (some ⟨g, 0, none⟩))).run Try.prog u = .ok (.agg (hashV l)) u :=
  run_loadAt_mid u g 0 23 ((List.range 32).map (hF l)) _ h hash_under rfl (by rw [List.length_map, List.length_range]; exact size_hash6)
theorem Fill.whole {g : Nat} {t : TypeId} {l : List UInt8} {u : World} (h : Fill g t 32 32 (hF l) u) : u.rangeAt g 0 ((List.range 32).map (hF l)) := h.range 0 32 (hF l) (by omega) (fun j hj => by rw [Nat.zero_add])
set_option maxHeartbeats 4000000 in
theorem wotsDigits_any (a b : List UInt8) (ha : a.length = 32) (hb : b.length = 32) (w : World) :
    Calls Try.prog 3 #[.agg (hashV a), .agg (hashV b)] w fun e w' => e = .returned (.bool true) ∧ Below w.heap.size w w' := by
  have g0 : Fill w.heap.size 23 32 32 (hF a) ((w.alloc (.cells (hashV a) 23)).alloc (.cells (hashV b) 23)) := Fill.of_row (heap_alloc2_old w _ _)
  have g1 : Fill (w.heap.size + 1) 23 32 32 (hF b) ((w.alloc (.cells (hashV a) 23)).alloc (.cells (hashV b) 23)) := Fill.of_row (heap_alloc2_new w _ _)
  have b0 : Below w.heap.size w ((w.alloc (.cells (hashV a) 23)).alloc (.cells (hashV b) 23)) := ((Below.refl _ _).alloc (Nat.le_refl _) _).alloc (by simp) _
  have hsz : ((w.alloc (.cells (hashV a) 23)).alloc (.cells (hashV b) 23)).heap.size = w.heap.size + 2 := by simp
  obtain ⟨W, hW⟩ : ∃ W, W = (w.alloc (.cells (hashV a) 23)).alloc (.cells (hashV b) 23) := ⟨_, rfl⟩
  rw [← hW] at g0 g1 b0 hsz
  have HW := Lib.hid hW
  have HG := Lib.hid (And.intro g0 g1)
  have HB0 := Lib.hid b0
  obtain ⟨LA, hLA⟩ : ∃ LA, LA = (List.range 32).map (hF a) := ⟨_, rfl⟩
  obtain ⟨LB, hLB⟩ : ∃ LB, LB = (List.range 32).map (hF b) := ⟨_, rfl⟩
  have hiA : (Try.prog.info? 23).map (·.size) = some LA.length := by rw [hLA, List.length_map, List.length_range]; exact size_hash6
  have hiB : (Try.prog.info? 23).map (·.size) = some LB.length := by rw [hLB, List.length_map, List.length_range]; exact size_hash6
  have hu23 := hash_under
  have HDA : Hid (∀ u, Calls Try.prog 4 #[.agg LA.toArray] u fun e w' => ∃ v, e = .returned v ∧ Below u.heap.size u w' ∧ w'.ownsRow u.heap.size 3 1 v 68 ((List.range 68).map fun i => natI (dg a i))) := by rw [hLA]; exact fun u => digits_c a ha u
  have HDB : Hid (∀ u, Calls Try.prog 4 #[.agg LB.toArray] u fun e w' => ∃ v, e = .returned v ∧ Below u.heap.size u w' ∧ w'.ownsRow u.heap.size 3 1 v 68 ((List.range 68).map fun i => natI (dg b i))) := by rw [hLB]; exact fun u => digits_c b hb u
  have HRA : Hid (∀ u, Calls Try.prog 5 #[.agg LA.toArray] u fun e w' => ∃ v, e = .returned v ∧ Below u.heap.size u w' ∧ w'.ownsRow u.heap.size 3 1 v 68 ((List.range 68).map fun i => natI (dg a i))) := by rw [hLA]; exact fun u => refDigits_c a ha u
  have HS : Hid (∀ u : World, Below W.heap.size W u → u.rangeAt w.heap.size 0 LA ∧ u.rangeAt (w.heap.size + 1) 0 LB) := by
    rw [hLA, hLB]
    exact fun u hu => And.intro (g0.below hu g0.lt).whole (g1.below hu g1.lt).whole
  have k0 := HS.out _ (Below.refl W.heap.size W).drew
  clear hLA hLB
  clear g0 g1 b0 hW
  go_enter Try.func3, Try.ntmps3
  go_wp2_with fail
  rw [← HW.out]
  rename_i K1 hK1
  refine wp_region_noPanic ?_
  refine wp_region_held_drew (S := fun u => u.rangeAt w.heap.size 0 LA ∧ u.rangeAt (w.heap.size + 1) 0 LB) (by kernel_rfl) k0 (fun hHeld => ?_)
  refine wpAnyH_take (i := 0) (oi := _) (v := .agg LA.toArray) rfl (by kernel_rfl) (by kernel_rfl) (by kernel_rfl) (fun _ _ _ h => h) (yieldsIf_load_mid (by rfl) _ _ rfl w.heap.size 0 rfl LA _ (fun w h => h.1) hu23 rfl hiA) hHeld ?_
  refine wpAnyH_take (i := 2) (oi := _) (v := .agg LB.toArray) rfl (by kernel_rfl) (by kernel_rfl) (by kernel_rfl) (fun _ _ _ h => h) (yieldsIf_load_mid (by rfl) _ _ rfl (w.heap.size + 1) 0 rfl LB _ (fun w h => h.2) hu23 rfl hiB) hHeld ?_
  refine wpAnyH_ready (rs := [1]) (by kernel_rfl) (by simp) ?_
  refine AllReadyH.cons (o := _) rfl (fun K hK => ?_) AllReadyH.nil
  go_simp
  go_at_call 4
  refine (HDA.out _).mono ?_
  rintro e w1 ⟨v1, rfl, hb1, hr1⟩
  have HB1 := Lib.hid ((Below.refl W.heap.size W).drew.trans hb1)
  have k1 := HS.out _ HB1.out
  obtain ⟨A1, c1, rfl, hc1, hA1⟩ := rowForm hr1
  have HR1 := Lib.hid hr1
  clear hb1 hr1 hc1 hA1
  go_simp
  refine hK.out _ _ k1 (fun hHeld => ?_)
  clear hK K
  refine wpAnyH_ready (rs := [3]) (by kernel_rfl) (by simp) ?_
  refine AllReadyH.cons (o := _) rfl (fun K hK => ?_) AllReadyH.nil
  go_simp
  go_at_call 4
  refine (HDB.out _).mono ?_
  rintro e w2 ⟨v2, rfl, hb2, hr2⟩
  have HB2 := Lib.hid (HB1.out.trans (hb2.mono HB1.out.size))
  have k2 := HS.out _ HB2.out
  obtain ⟨A2, c2, rfl, hc2, hA2⟩ := rowForm hr2
  have HR2 := Lib.hid hr2
  have HR3 := Lib.hid (rowBelow HR1.out hb2 (Nat.le_refl _))
  clear hb2 hr2 hc2 hA2
  go_simp
  refine hK.out _ _ k2 (fun hHeld => ?_)
  clear hK K
  refine wpAnyH_ready (rs := [4]) (by kernel_rfl) (by simp) ?_
  refine AllReadyH.cons (o := _) rfl (fun K hK => ?_) AllReadyH.nil
  go_simp
  refine hK.out _ _ k2 (fun hHeld => ?_)
  clear hK K
  refine wpAnyH_ready (rs := [5]) (by kernel_rfl) (by simp) ?_
  refine AllReadyH.cons (o := _) rfl (fun K hK => ?_) AllReadyH.nil
  go_simp
  refine hK.out _ _ k2 (fun hHeld => ?_)
  clear hK K
  refine wpAnyH_done (by kernel_rfl) ?_ _
  refine NoPanic.normal ?_
  apply hK1
  clear hK1 K1
  clear hiB
  have hq0 := HS.out _ HB2.out
  go_wp2_with (first
    | (refine wpList_load_mid rfl 23 (.tmp 2) rfl w.heap.size 0 rfl LA _ hq0.1 hu23 rfl hiA ?_)
    | (go_at_call 5; refine (HRA.out _).mono ?_; rintro e w3 ⟨v3, rfl, hb3, hr3⟩; have HB3 := Lib.hid (HB2.out.trans (hb3.mono HB2.out.size)); obtain ⟨A3, c3, rfl, hc3, hA3⟩ := rowForm hr3; have HD3 : Hid (DigAt w3 w2.heap.size (.slice A3 68 c3) a) := hr3; have HD2 : Hid (DigAt w3 w1.heap.size (.slice A2 68 c2) b) := rowBelow HR2.out hb3 (Nat.le_refl _); have HD1 : Hid (DigAt w3 W.drew.heap.size (.slice A1 68 c1) a) := rowBelow HR3.out hb3 (Nat.le_refl _); clear hb3 hr3 hc3 hA3 hq0 k0 k1 k2)
    | fail)
  clear hiA hu23
  obtain ⟨g1, rfl, l1, l1', hc1⟩ := HD1.out.at_
  obtain ⟨g2, rfl, l2, l2', hc2⟩ := HD2.out.at_
  obtain ⟨g3, rfl, l3, l3', hc3⟩ := HD3.out.at_
  have HC1 := Lib.hid hc1
  have HC2 := Lib.hid hc2
  have HC3 := Lib.hid hc3
  clear hc1 hc2 hc3
  go_loopw [9, 10, 11] (fun x y v wr => ∃ i : Nat, i ≤ 68 ∧ v = .int .i64 (i : Int) ∧ x = .bool (lessTo a b i) ∧ y = .bool (lessTo b a i) ∧ Below w3.heap.size w3 wr) (fun _ _ v _ => 68 - (intOf v).toNat)
  case atStart => exact ⟨0, Nat.zero_le _, rfl, rfl, rfl, Below.refl _ _⟩
  case round =>
    obtain ⟨i, hi, rfl, rfl, rfl, hbw⟩ := hrel
    by_cases hlt : i < 68
    · have q1 : (i : Int) < 68 := by omega
      have e1 := (hbw.cell (p := ⟨g1, i, none⟩) l1').trans (HC1.out i hlt)
      have e2 := (hbw.cell (p := ⟨g2, i, none⟩) l2').trans (HC2.out i hlt)
      have e3 := (hbw.cell (p := ⟨g3, i, none⟩) l3').trans (HC3.out i hlt)
      have HL := Lib.hid (lessTo_succ a b i)
      have HM := Lib.hid (lessTo_succ b a i)
      have HBW := Lib.hid hbw
      generalize dg a i = x at *
      generalize dg b i = y at *
      generalize lessTo a b i = r at *
      generalize lessTo b a i = s at *
      clear hbw
      go_wp2_with fail
      go_quiet (fail)
      go_wp2_with fail
      cases r
      all_goals
        go_quiet (fail)
        go_wp2_with fail
        cases s
      all_goals
        go_quiet (fail)
        go_wp2_with fail
      all_goals exact ⟨⟨i + 1, by omega, by go_num, by rw [HL.out]; rfl, by rw [HM.out]; rfl, below_drewN HBW.out _⟩, by simp [intOf]; omega⟩
    · obtain rfl : i = 68 := by omega
      have hFa := (HG.out.1).below (HB3.out.trans (hbw.mono HB3.out.size)) HG.out.1.lt
      have hFb := (HG.out.2).below (HB3.out.trans (hbw.mono HB3.out.size)) HG.out.2.lt
      have HFA := Lib.hid hFa
      have HFB := Lib.hid hFb
      have HBW := Lib.hid ((HB0.out.trans ((HB3.out.trans (hbw.mono HB3.out.size)).mono HB0.out.size)))
      have HT := Lib.hid (digits_tell a b)
      clear hbw hFa hFb
      generalize lessTo a b 68 = r at *
      generalize lessTo b a 68 = s at *
      go_wp2_with fail
      go_loopw [8, 12] (fun x v wx => ∃ i : Nat, i ≤ 16 ∧ v = .int .i64 (i : Int) ∧ x = .bool (sameTo a b i) ∧ ∃ n, wx = wr.drewN n) (fun _ v _ => 16 - (intOf v).toNat)
      case atStart => exact ⟨0, Nat.zero_le _, rfl, rfl, 0, rfl⟩
      case round =>
        obtain ⟨i, hi, rfl, rfl, n, rfl⟩ := hrel
        by_cases hlt : i < 16
        · have q1 : (i : Int) < 16 := by omega
          have q2 : (i : Int) < 32 := by omega
          have q3 : i < 32 := by omega
          have e1 := HFA.out.at_ i (by omega)
          have e2 := HFB.out.at_ i (by omega)
          have HE := Lib.hid (sameTo_succ a b i)
          have HQ := Lib.hid (UInt8.toNat_inj (a := a.getD i 0) (b := b.getD i 0))
          unfold hF bv at e1 e2
          generalize a.getD i 0 = x at *
          generalize b.getD i 0 = y at *
          generalize sameTo a b i = t at *
          by_cases hxy : x = y
          · have d1 : (((x.toNat : Int)) == ((y.toNat : Int))) = true := by rw [hxy]; simp
            have HE2 := Lib.hid (show sameTo a b (i + 1) = t by rw [HE.out, hxy]; simp)
            clear hxy
            cases t
            all_goals
              go_wp2_with fail
              go_quiet (fail)
              go_wp2_with fail
            all_goals exact ⟨⟨i + 1, by omega, by go_num, by rw [HE2.out], n + _, rfl⟩, by simp [intOf]; omega⟩
          · have hn : ¬ x.toNat = y.toNat := fun h => hxy (HQ.out.1 h)
            have d1 : (((x.toNat : Int)) == ((y.toNat : Int))) = false := by
              rw [beq_eq_false_iff_ne]
              intro h
              exact hn (by omega)
            have HE2 := Lib.hid (show sameTo a b (i + 1) = false by rw [HE.out, (beq_eq_false_iff_ne (a := x) (b := y)).2 hxy]; simp)
            clear hxy hn
            cases t
            all_goals
              go_wp2_with fail
              go_quiet (fail)
              go_wp2_with fail
            all_goals exact ⟨⟨i + 1, by omega, by go_num, by rw [HE2.out], n + _, rfl⟩, by simp [intOf]; omega⟩
        · obtain rfl : i = 16 := by omega
          have HX := Lib.hid (below_drewN HBW.out n)
          have hkn := known6 (wr.drewN n)
          obtain ⟨wn, hwn⟩ : ∃ wn, wn = wr.drewN n := ⟨_, rfl⟩
          rw [← hwn] at HX hkn ⊢
          clear hwn
          generalize sameTo a b 16 = t at *
          have ht := HT.out
          cases t
          · simp at ht
            obtain ⟨rfl, rfl⟩ := ht
            go_wp2_with (go_at_call 6; refine hkn.mono ?_; rintro e w5 ⟨rfl, hb5⟩; have HB5 := Lib.hid hb5; clear hb5)
            go_ret
            exact ⟨rfl, HX.out.trans (HB5.out.mono HX.out.size)⟩
          · simp at ht
            obtain ⟨rfl, rfl⟩ := ht
            go_wp2_with (go_at_call 6; refine hkn.mono ?_; rintro e w5 ⟨rfl, hb5⟩; have HB5 := Lib.hid hb5; clear hb5)
            go_ret
            exact ⟨rfl, HX.out.trans (HB5.out.mono HX.out.size)⟩
end Go.Proofs.Ytgdiffjobkfmoaa
