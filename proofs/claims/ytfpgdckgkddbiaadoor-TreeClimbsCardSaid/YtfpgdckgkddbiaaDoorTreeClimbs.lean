/- The law's walk: what comes of any leaf, number and path. -/
import Derived.Test.YtfpgdckgkddbiaaDoorTrKnown
namespace Go.Proofs.YtfpgdckgkddbiaaDoor
open Go.ChangeShapes Go.WideShapes Go.ChangeAt Go.RowKit
set_option linter.unusedVariables false

theorem eqz (u : World) : (Op.equalIn 10000 25 (.agg (rowV 32 z8)) (.agg (rowV 32 z8))).run Tryd.prog u = .ok true u := by
  have e := eq_row 32 25 Tryd.underlying25 (List.replicate 32 0) (List.replicate 32 0) rfl rfl u
  rw [beq_self_eq_true] at e
  rw [z8_hash]
  exact e
set_option maxRecDepth 100000 in
set_option maxHeartbeats 4000000 in
theorem tc_big (x : List UInt8) (i : Int) (A : Option Addr) (c n : Nat) (hn : n ≤ 9223372036854775807) (h20 : 20 < n) (w : World) (ht : Tabs w) :
    Calls Tryd.prog 4 #[.agg (hashV x), .int .i64 i, .slice A n c] w fun e w' => e = .returned (.bool true) ∧ Below w.heap.size w w' := by
  obtain ⟨W, hW⟩ : ∃ W, W = w.alloc (.cells (hashV x) 25) := ⟨_, rfl⟩
  have hb : Below w.heap.size w W := by rw [hW]; exact (Below.refl _ _).alloc (Nat.le_refl _) _
  have HW := Lib.hid hW
  have HB := Lib.hid hb
  have hk := Lib.hid (known7 W (ht.below hb ht.2.2.1 ht.2.2.2))
  have q1 : decide ((20 : Int) < (n : Int)) = true := by simp; omega
  clear hW hb ht
  go_enter Tryd.func4, Tryd.ntmps4
  go_wp2_with fail
  rw [← HW.out]
  refine hk.out.mono ?_
  rintro e w1 ⟨rfl, b1⟩
  have B1 := Lib.hid (HB.out.trans (b1.mono HB.out.size))
  clear b1
  go_wp2_with fail
  go_ret
  exact ⟨rfl, B1.out⟩

set_option maxRecDepth 100000 in
set_option maxHeartbeats 8000000 in
theorem tc_no (x : List UInt8) (i : Int) (A : Option Addr) (c n : Nat) (h20 : n ≤ 20) (hm : ¬ mayC i n) (w : World) (ht : Tabs w) :
    Calls Tryd.prog 4 #[.agg (hashV x), .int .i64 i, .slice A n c] w fun e w' => e = .returned (.bool true) ∧ Below w.heap.size w w' := by
  have hz := zero_hash
  have hez := eqz
  obtain ⟨W, hW⟩ : ∃ W, W = w.alloc (.cells (hashV x) 25) := ⟨_, rfl⟩
  have hb : Below w.heap.size w W := by rw [hW]; exact (Below.refl _ _).alloc (Nat.le_refl _) _
  have h0 : W.heap[w.heap.size]? = some (.cells (hashV x) 25 (0, 0)) := by rw [hW]; exact heap_alloc_new w _
  have HW := Lib.hid hW
  have HB := Lib.hid hb
  have HT : Hid (∀ u : World, Below w.heap.size w u → Tabs u) := fun u hu => ht.below hu ht.2.2.1 ht.2.2.2
  have hc := Lib.hid (climb_no x i A c n (by omega) hm W)
  have HM := Lib.hid hm
  clear hW hb ht hm
  have q1 : decide ((20 : Int) < (n : Int)) = false := by simp; omega
  by_cases h8 : n ≤ 8
  · have q2 : decide ((n : Int) ≤ 8) = true := by simp; omega
    by_cases hi0 : 0 ≤ i
    · have q3 : decide (0 ≤ i) = true := by simp; omega
      have HN := Lib.hid (show ¬ i < ((2 ^ n : Nat) : Int) from fun h => HM.out ⟨h8, hi0, h⟩)
      go_enter Tryd.func4, Tryd.ntmps4
      go_wp2_with (first
        | (refine wpList_load_row rfl 25 (.tmp 3) rfl w.heap.size rfl 25 (hashV x) (0, 0) _ (by rw [← HW.out]; exact h0) Tryd.underlying25 rfl (size_hashVW _) ?_; rw [← HW.out])
        | (go_at_call 13; refine hc.out.mono ?_; rintro e w1 ⟨rfl, b1⟩; have B1 := Lib.hid (HB.out.trans (b1.mono HB.out.size)); clear b1)
        | (refine wpList_store_row rfl 25 (.tmp 7) (.tmp 21) rfl w1.heap.size (rowV 32 z8) rfl rfl 25 (rowV 32 z8) (heap_alloc_new w1 _) (size_hashVW _) rfl (rowV_one 32 _ (fun i => rfl)) ?_; obtain ⟨w2, hw2⟩ : ∃ w2, w2 = (w1.alloc (.cells (rowV 32 z8) 25)).setRow w1.heap.size (rowV 32 z8) := ⟨_, rfl⟩; rw [← hw2]; have B2 := Lib.hid (show Below w.heap.size w w2 by rw [hw2]; exact below_setRow (B1.out.trans (((Below.refl _ _).alloc (Nat.le_refl _) _).mono B1.out.size)) B1.out.size _); have g2 := setRow_heap _ _ _ (rowV 32 z8) _ _ (heap_alloc_new w1 (.cells (rowV 32 z8) 25)); rw [← hw2] at g2; clear hw2)
        | fail)
      go_loop [10, 11] (fun p k => ∃ j : Nat, j ≤ n ∧ k = .int .i64 (j : Int) ∧ p = .int .i64 ((2 ^ j : Nat) : Int)) (fun _ k => n - (intOf k).toNat)
      case atStart => exact ⟨0, Nat.zero_le _, rfl, rfl⟩
      case round =>
        obtain ⟨j, hj, rfl, rfl⟩ := hrel
        by_cases hlt : j < n
        · have h2 := two_le j (by omega)
          have HP := Lib.hid h2.2.2
          have hp := h2.1
          clear h2
          generalize 2 ^ j = p at *
          go_wp2_with fail
          exact ⟨⟨j + 1, by omega, by go_num, by rw [HP.out]; go_num⟩, by simp [intOf]; omega⟩
        · obtain rfl : j = n := by omega
          have h2 := two_le j (by omega)
          have hp := h2.1
          have q4 : decide (i < ((2 ^ j : Nat) : Int)) = false := decide_eq_false (by have := HN.out; omega)
          clear h2 HN HM
          generalize 2 ^ j = p at *
          go_wp2_with (first
            | (refine BigFrame.wpList_want rfl (fun K hK => ?_); refine wp_load_row 25 (.tmp 7) rfl w1.heap.size rfl 25 (rowV 32 z8) (0, 0) _ g2 Tryd.underlying25 rfl (size_hashVW _) ?_; refine hK _ _ ?_; clear hK K; have hk := Lib.hid (known7 w2 (HT.out _ B2.out)))
            | (go_at_call 7; refine hk.out.mono ?_; rintro e w3 ⟨rfl, b3⟩; have B3 := Lib.hid (B2.out.trans (b3.mono B2.out.size)); clear b3)
            | fail)
          go_ret
          exact ⟨rfl, B3.out⟩
    · have q3 : decide (0 ≤ i) = false := by simp; omega
      go_enter Tryd.func4, Tryd.ntmps4
      go_wp2_with (first
        | (refine wpList_load_row rfl 25 (.tmp 3) rfl w.heap.size rfl 25 (hashV x) (0, 0) _ (by rw [← HW.out]; exact h0) Tryd.underlying25 rfl (size_hashVW _) ?_; rw [← HW.out])
        | (go_at_call 13; refine hc.out.mono ?_; rintro e w1 ⟨rfl, b1⟩; have B1 := Lib.hid (HB.out.trans (b1.mono HB.out.size)); clear b1)
        | (refine wpList_store_row rfl 25 (.tmp 7) (.tmp 21) rfl w1.heap.size (rowV 32 z8) rfl rfl 25 (rowV 32 z8) (heap_alloc_new w1 _) (size_hashVW _) rfl (rowV_one 32 _ (fun i => rfl)) ?_; obtain ⟨w2, hw2⟩ : ∃ w2, w2 = (w1.alloc (.cells (rowV 32 z8) 25)).setRow w1.heap.size (rowV 32 z8) := ⟨_, rfl⟩; rw [← hw2]; have B2 := Lib.hid (show Below w.heap.size w w2 by rw [hw2]; exact below_setRow (B1.out.trans (((Below.refl _ _).alloc (Nat.le_refl _) _).mono B1.out.size)) B1.out.size _); have g2 := setRow_heap _ _ _ (rowV 32 z8) _ _ (heap_alloc_new w1 (.cells (rowV 32 z8) 25)); rw [← hw2] at g2; clear hw2)
        | (refine BigFrame.wpList_want rfl (fun K hK => ?_); refine wp_load_row 25 (.tmp 7) rfl w1.heap.size rfl 25 (rowV 32 z8) (0, 0) _ g2 Tryd.underlying25 rfl (size_hashVW _) ?_; refine hK _ _ ?_; clear hK K; have hk := Lib.hid (known7 w2 (HT.out _ B2.out)))
        | (go_at_call 7; refine hk.out.mono ?_; rintro e w3 ⟨rfl, b3⟩; have B3 := Lib.hid (B2.out.trans (b3.mono B2.out.size)); clear b3)
        | fail)
      go_ret
      exact ⟨rfl, B3.out⟩
  · have q2 : decide ((n : Int) ≤ 8) = false := by simp; omega
    go_enter Tryd.func4, Tryd.ntmps4
    go_wp2_with (first
      | (refine wpList_load_row rfl 25 (.tmp 3) rfl w.heap.size rfl 25 (hashV x) (0, 0) _ (by rw [← HW.out]; exact h0) Tryd.underlying25 rfl (size_hashVW _) ?_; rw [← HW.out])
      | (go_at_call 13; refine hc.out.mono ?_; rintro e w1 ⟨rfl, b1⟩; have B1 := Lib.hid (HB.out.trans (b1.mono HB.out.size)); clear b1)
      | (refine wpList_store_row rfl 25 (.tmp 7) (.tmp 21) rfl w1.heap.size (rowV 32 z8) rfl rfl 25 (rowV 32 z8) (heap_alloc_new w1 _) (size_hashVW _) rfl (rowV_one 32 _ (fun i => rfl)) ?_; obtain ⟨w2, hw2⟩ : ∃ w2, w2 = (w1.alloc (.cells (rowV 32 z8) 25)).setRow w1.heap.size (rowV 32 z8) := ⟨_, rfl⟩; rw [← hw2]; have B2 := Lib.hid (show Below w.heap.size w w2 by rw [hw2]; exact below_setRow (B1.out.trans (((Below.refl _ _).alloc (Nat.le_refl _) _).mono B1.out.size)) B1.out.size _); have g2 := setRow_heap _ _ _ (rowV 32 z8) _ _ (heap_alloc_new w1 (.cells (rowV 32 z8) 25)); rw [← hw2] at g2; clear hw2)
      | (refine BigFrame.wpList_want rfl (fun K hK => ?_); refine wp_load_row 25 (.tmp 7) rfl w1.heap.size rfl 25 (rowV 32 z8) (0, 0) _ g2 Tryd.underlying25 rfl (size_hashVW _) ?_; refine hK _ _ ?_; clear hK K; have hk := Lib.hid (known7 w2 (HT.out _ B2.out)))
      | (go_at_call 7; refine hk.out.mono ?_; rintro e w3 ⟨rfl, b3⟩; have B3 := Lib.hid (B2.out.trans (b3.mono B2.out.size)); clear b3)
      | fail)
    go_ret
    exact ⟨rfl, B3.out⟩

set_option maxRecDepth 100000 in
set_option maxHeartbeats 8000000 in
theorem tc_yes (x : List UInt8) (hx : x.length = 32) (i : Nat) (A : Option Addr) (c : Nat) (P : List (List UInt8)) (hP : ∀ p ∈ P, p.length = 32) (w : World) (hR : RdH w w.heap.size A P) (hm : mayC (i : Int) P.length) (ht : Tabs w) :
    Calls Tryd.prog 4 #[.agg (hashV x), .int .i64 (i : Int), .slice A P.length c] w fun e w' => e = .returned (.bool true) ∧ Below w.heap.size w w' := by
  have hz := zero_hash
  have h8 := hm.1
  have hi : i < 256 := by
    have h1 := hm.2.2
    have h2 := Nat.pow_le_pow_right (n := 2) (by decide) h8
    have h3 : i < 2 ^ P.length := by omega
    exact Nat.lt_of_lt_of_le h3 h2
  have HN := Lib.hid hm.2.2
  obtain ⟨n, hn⟩ : ∃ n, n = P.length := ⟨_, rfl⟩
  obtain ⟨R, hRR⟩ : ∃ R, R = climbN i x P P.length := ⟨_, rfl⟩
  have lR : R.length = 32 := by rw [hRR]; exact climbN_len i x P hx _
  obtain ⟨W, hW⟩ : ∃ W, W = w.alloc (.cells (hashV x) 25) := ⟨_, rfl⟩
  have hb : Below w.heap.size w W := by rw [hW]; exact (Below.refl _ _).alloc (Nat.le_refl _) _
  have h0 : W.heap[w.heap.size]? = some (.cells (hashV x) 25 (0, 0)) := by rw [hW]; exact heap_alloc_new w _
  have hc := Lib.hid (climb_c x hx i A c P hP W ((hR.below hb (Nat.le_refl _)).wide hb.size) hm (ht.below hb ht.2.2.1 ht.2.2.2))
  have HRC : Hid (∀ u : World, Below w.heap.size w u → Calls Tryd.prog 16 #[.agg (hashV x), .int .i64 (i : Int), .slice A n c] u fun e w' => e = .returned (.agg (hashV R)) ∧ Below u.heap.size u w') := fun u hu => by
    rw [hn, hRR]
    exact refClimb_c x hx i A c P hP u ((hR.below hu (Nat.le_refl _)).wide hu.size) (by omega) (by omega)
  rw [← hRR, ← hn] at hc
  rw [← hn] at h8 HN
  have HT : Hid (∀ u : World, Below w.heap.size w u → Tabs u) := fun u hu => ht.below hu ht.2.2.1 ht.2.2.2
  have HEQ : Hid (∀ u : World, (Op.equalIn 10000 25 (.agg (hC R).toArray) (.agg (hashV R))).run Tryd.prog u = .ok true u) := fun u => by
    have e := eq_row 32 25 Tryd.underlying25 R R lR lR u
    rw [beq_self_eq_true] at e
    exact e
  have HX : Hid (Fill w.heap.size 25 32 32 (hF x) W) := Fill.of_row h0
  have HW := Lib.hid hW
  have HB := Lib.hid hb
  rw [← hn]
  clear hW hb ht hm hRR lR hn hR hP hx
  have q1 : decide ((20 : Int) < (n : Int)) = false := by simp; omega
  have q2 : decide ((n : Int) ≤ 8) = true := by simp; omega
  go_enter Tryd.func4, Tryd.ntmps4
  go_wp2_with (first
    | (refine wpList_load_row rfl 25 (.tmp 3) rfl w.heap.size rfl 25 (hashV x) (0, 0) _ (by rw [← HW.out]; exact h0) Tryd.underlying25 rfl (size_hashVW _) ?_; rw [← HW.out])
    | (go_at_call 13; refine hc.out.mono ?_; rintro e w1 ⟨rfl, b1⟩; have B1 := Lib.hid (HB.out.trans (b1.mono HB.out.size)); have BW1 := Lib.hid b1; clear b1)
    | (refine wpList_store_row rfl 25 (.tmp 7) (.tmp 21) rfl w1.heap.size (hashV R) rfl rfl 25 (rowV 32 z8) (heap_alloc_new w1 _) (size_hashVW _) (by unfold hashV; rw [rowV_size, rowV_size]) (rowV_one 32 _ (fun i => rfl)) ?_; obtain ⟨w2, hw2⟩ : ∃ w2, w2 = (w1.alloc (.cells (rowV 32 z8) 25)).setRow w1.heap.size (hashV R) := ⟨_, rfl⟩; rw [← hw2]; have B2 := Lib.hid (show Below w.heap.size w w2 by rw [hw2]; exact below_setRow (B1.out.trans (((Below.refl _ _).alloc (Nat.le_refl _) _).mono B1.out.size)) B1.out.size _); have F2 : Hid (Fill w1.heap.size 25 32 32 (hF R) w2) := (by rw [hw2]; exact Fill.of_row (setRow_heap _ _ _ _ _ _ (heap_alloc_new w1 _))); have B12 := Lib.hid (show Below w1.heap.size w1 w2 by rw [hw2]; exact below_setRow ((Below.refl _ _).alloc (Nat.le_refl _) _) (Nat.le_refl _) _); clear hw2)
    | fail)
  go_loop [10, 11] (fun p k => ∃ j : Nat, j ≤ n ∧ k = .int .i64 (j : Int) ∧ p = .int .i64 ((2 ^ j : Nat) : Int)) (fun _ k => n - (intOf k).toNat)
  case atStart => exact ⟨0, Nat.zero_le _, rfl, rfl⟩
  case round =>
    obtain ⟨j, hj, rfl, rfl⟩ := hrel
    by_cases hlt : j < n
    · have h2 := two_le j (by omega)
      have HP := Lib.hid h2.2.2
      have hp := h2.1
      clear h2
      generalize 2 ^ j = p at *
      go_wp2_with fail
      exact ⟨⟨j + 1, by omega, by go_num, by rw [HP.out]; go_num⟩, by simp [intOf]; omega⟩
    · obtain rfl : j = n := by omega
      have h2 := two_le j (by omega)
      have hp := h2.1
      have q4 : decide (i < 2 ^ j) = true := decide_eq_true (by have := HN.out; omega)
      clear h2 HN
      generalize 2 ^ j = p at *
      go_wp2_with fail
      have HK : Hid (∀ u : World, Below w2.heap.size w2 u → u.rangeAt w.heap.size 0 (hC x) ∧ u.rangeAt w1.heap.size 0 (hC R)) := fun u hu => by
        have b1 := B1.out.size
        have b2 := B12.out.size
        have bW := BW1.out.size
        have hVu := BW1.out.trans ((B12.out.mono (show W.heap.size ≤ w1.heap.size by omega)).trans (hu.mono (by omega)))
        exact ⟨(HX.out.below hVu HX.out.lt).whole, (F2.out.below hu F2.out.lt).whole⟩
      have k0 := HK.out _ (Below.refl w2.heap.size w2).drew
      have D5 := Lib.hid ((Below.refl w2.heap.size w2).drew)
      rename_i K1 hK1
      refine wp_region_noPanic ?_
      refine wp_region_held_drew (S := fun u => u.rangeAt w.heap.size 0 (hC x) ∧ u.rangeAt w1.heap.size 0 (hC R)) (by kernel_rfl) k0 (fun hHeld => ?_)
      refine wpAnyH_take (i := 0) (oi := _) (v := .int .i64 0) rfl (by kernel_rfl) (by kernel_rfl) (by kernel_rfl) (fun _ _ _ h => h) (Or.inl ⟨by rfl, by intro w hSw; go_simp⟩) hHeld ?_
      refine wpAnyH_take (i := 1) (oi := _) (v := .bool true) rfl (by kernel_rfl) (by kernel_rfl) (by kernel_rfl) (fun _ _ _ h => h) (Or.inl ⟨by rfl, by intro w hSw; go_simp⟩) hHeld ?_
      refine wpAnyH_take (i := 2) (oi := _) (v := .bool true) rfl (by kernel_rfl) (by kernel_rfl) (by kernel_rfl) (fun _ _ _ h => h) (Or.inl ⟨by rfl, by intro w hSw; go_simp⟩) hHeld ?_
      refine wpAnyH_take (i := 3) (oi := _) (v := .agg (hC R).toArray) rfl (by kernel_rfl) (by kernel_rfl) (by kernel_rfl) (fun _ _ _ h => h) (yieldsIf_load_mid (by rfl) _ _ rfl w1.heap.size 0 rfl (hC R) _ (fun w h => h.2) hash_under rfl (hash_info (hC_len R))) hHeld ?_
      refine wpAnyH_take (i := 4) (oi := _) (v := .agg (hC x).toArray) rfl (by kernel_rfl) (by kernel_rfl) (by kernel_rfl) (fun _ _ _ h => h) (yieldsIf_load_mid (by rfl) _ _ rfl w.heap.size 0 rfl (hC x) _ (fun w h => h.1) hash_under rfl (hash_info (hC_len x))) hHeld ?_
      refine wpAnyH_take (i := 5) (oi := _) (v := .int .i64 (i : Int)) rfl (by kernel_rfl) (by kernel_rfl) (by kernel_rfl) (fun _ _ _ h => h) (Or.inl ⟨by rfl, by intro w hSw; go_simp⟩) hHeld ?_
      refine wpAnyH_take (i := 6) (oi := _) (v := .slice A j c) rfl (by kernel_rfl) (by kernel_rfl) (by kernel_rfl) (fun _ _ _ h => h) (Or.inl ⟨by rfl, by intro w hSw; go_simp⟩) hHeld ?_
      refine wpAnyH_ready (rs := [7]) (by kernel_rfl) (by simp) ?_
      refine AllReadyH.cons (o := _) rfl (fun K hK => ?_) AllReadyH.nil
      go_simp
      go_at_call 16
      refine (HRC.out _ (B2.out.trans (D5.out.mono B2.out.size))).mono ?_
      rintro e w6 ⟨rfl, b6⟩
      have D6 := Lib.hid (D5.out.trans (b6.mono D5.out.size))
      have k6 := HK.out _ D6.out
      clear b6
      have he := HEQ.out w6
      go_simp
      refine hK.out _ _ k6 (fun hHeld => ?_)
      clear hK K
      refine wpAnyH_ready (rs := [8]) (by kernel_rfl) (by simp) ?_
      refine AllReadyH.cons (o := _) rfl (fun K hK => ?_) AllReadyH.nil
      go_simp
      refine hK.out _ _ k6 (fun hHeld => ?_)
      clear hK K
      refine wpAnyH_ready (rs := [9]) (by kernel_rfl) (by simp) ?_
      refine AllReadyH.cons (o := _) rfl (fun K hK => ?_) AllReadyH.nil
      go_simp
      refine hK.out _ _ k6 (fun hHeld => ?_)
      clear hK K
      refine wpAnyH_ready (rs := [10]) (by kernel_rfl) (by simp) ?_
      refine AllReadyH.cons (o := _) rfl (fun K hK => ?_) AllReadyH.nil
      go_simp
      refine hK.out _ _ k6 (fun hHeld => ?_)
      clear hK K
      refine wpAnyH_ready (rs := [11]) (by kernel_rfl) (by simp) ?_
      refine AllReadyH.cons (o := _) rfl (fun K hK => ?_) AllReadyH.nil
      go_simp
      go_at_call 7
      refine (known7 _ (HT.out _ (B2.out.trans (D6.out.mono B2.out.size)))).mono ?_
      rintro e w7 ⟨rfl, b7⟩
      have D7 := Lib.hid (D6.out.trans (b7.mono D6.out.size))
      have k7 := HK.out _ D7.out
      clear b7
      go_simp
      refine hK.out _ _ k7 (fun hHeld => ?_)
      clear hK K
      refine wpAnyH_ready (rs := [12]) (by kernel_rfl) (by simp) ?_
      refine AllReadyH.cons (o := _) rfl (fun K hK => ?_) AllReadyH.nil
      go_simp
      refine hK.out _ _ k7 (fun hHeld => ?_)
      clear hK K
      refine wpAnyH_ready (rs := [13]) (by kernel_rfl) (by simp) ?_
      refine AllReadyH.cons (o := _) rfl (fun K hK => ?_) AllReadyH.nil
      go_simp
      refine hK.out _ _ k7 (fun hHeld => ?_)
      clear hK K
      refine wpAnyH_done (by kernel_rfl) ?_ _
      refine NoPanic.normal ?_
      first
        | apply hK1
        | apply K1
      clear hK1 K1
      go_wp2_with fail
      go_ret
      exact ⟨rfl, B2.out.trans (D7.out.mono B2.out.size)⟩

theorem treeClimbs_any (x : List UInt8) (hx : x.length = 32) (i : Int) (A : Option Addr) (c : Nat) (P : List (List UInt8)) (hP : ∀ p ∈ P, p.length = 32) (w : World) (hR : RdH w w.heap.size A P) (hl : P.length ≤ 9223372036854775807) (ht : Tabs w) :
    Calls Tryd.prog 4 #[.agg (hashV x), .int .i64 i, .slice A P.length c] w fun e w' => e = .returned (.bool true) ∧ Below w.heap.size w w' := by
  by_cases h20 : 20 < P.length
  · exact tc_big x i A c P.length hl h20 w ht
  · by_cases hm : mayC i P.length
    · obtain ⟨m, rfl⟩ : ∃ m : Nat, i = (m : Int) := ⟨i.toNat, by have := hm.2.1; omega⟩
      exact tc_yes x hx m A c P hP w hR hm ht
    · exact tc_no x i A c P.length (by omega) hm w ht
end Go.Proofs.YtfpgdckgkddbiaaDoor
