/- Contracts: the reference's climb. -/
import Derived.Test.YtfpgdckgkddbiaaDoorTrClimb
namespace Go.Proofs.YtfpgdckgkddbiaaDoor
open Go.ChangeShapes Go.WideShapes Go.ChangeAt Go.RowKit
set_option linter.unusedVariables false

theorem rangeAt_below {w w' : World} {B bl off : Nat} {cs : List Value} (hb : Below B w w') (h : bl < B) (hr : w.rangeAt bl off cs) : w'.rangeAt bl off cs := fun j v hv =>
  (hb.cell (p := ⟨bl, off + j, none⟩) h).trans (hr j v hv)
theorem rangeAt_setRow {w : World} {B bl off g : Nat} {cs : List Value} {row : Array Value} (h : bl < B) (hr : w.rangeAt bl off cs) (hg : B ≤ g := by omega) : (w.setRow g row).rangeAt bl off cs :=
  rangeAt_below (below_setRow (Below.refl B w) hg row) h hr
set_option maxRecDepth 100000 in
set_option maxHeartbeats 8000000 in
theorem refClimb_c (x : List UInt8) (hx : x.length = 32) (i : Nat) (A : Option Addr) (c : Nat) (P : List (List UInt8)) (hP : ∀ p ∈ P, p.length = 32) (w : World) (hR : RdH w w.heap.size A P) (hi : i < 9223372036854775808) (hn : P.length ≤ 9223372036854775807) :
    Calls Tryd.prog 16 #[.agg (hashV x), .int .i64 (i : Int), .slice A P.length c] w fun e w' => e = .returned (.agg (hashV (climbN i x P P.length))) ∧ Below w.heap.size w w' := by
  have hz := zero_hash
  obtain ⟨W, hW⟩ : ∃ W, W = (w.alloc (.cells (hashV x) 25)).alloc (.cells (rowV 32 z8) 25) := ⟨_, rfl⟩
  have hb : Below w.heap.size w W := by rw [hW]; exact ((Below.refl _ _).alloc (Nat.le_refl _) _).alloc (by simp) _
  have hsz : W.heap.size = w.heap.size + 2 := by rw [hW]; simp
  have f0 : Fill w.heap.size 25 32 32 (hF x) W := by rw [hW]; exact Fill.of_row (heap_alloc2_old w _ _)
  have f1 : Fill (w.heap.size + 1) 25 32 32 z8 W := by rw [hW]; exact Fill.of_row (heap_alloc2_new w _ _)
  have HW := Lib.hid hW
  have HB := Lib.hid hb
  have H1 := Lib.hid f1
  have H0 := Lib.hid f0
  clear hW hb f0 f1
  go_enter Tryd.func16, Tryd.ntmps16
  go_wp2_with fail
  rw [← HW.out]
  go_loopw [1, 7] (fun u v wr => ∃ k : Nat, k ≤ P.length ∧ v = .int .i64 (k : Int) ∧ u = .int .i64 ((i / 2 ^ k : Nat) : Int) ∧ Fill w.heap.size 25 32 32 (hF (climbN i x P k)) wr ∧ Fill (w.heap.size + 1) 25 32 32 z8 wr ∧ Below w.heap.size w wr) (fun _ v _ => P.length - (intOf v).toNat)
  case atStart => exact ⟨0, by omega, rfl, by simp, H0.out, H1.out, HB.out⟩
  case round =>
    obtain ⟨k, hk, rfl, rfl, g2, g1, gb⟩ := hrel
    by_cases hlt : k < P.length
    · obtain ⟨bl, off, rfl, hbl, hcell⟩ := hR.below gb (Nat.le_refl _) (by omega)
      have hy : (P.getD k []).length = 32 := by rw [List.getD_eq_getElem?_getD, List.getElem?_eq_getElem hlt]; exact hP _ (List.getElem_mem hlt)
      have hc := hcell k hlt
      have hxk := climbN_len i x P hx k
      have HN := Lib.hid (show climbN i x P (k + 1) = up i k (climbN i x P k) (P.getD k []) from rfl)
      have HD := Lib.hid (show i / 2 ^ (k + 1) = i / 2 ^ k / 2 by rw [Nat.pow_succ, Nat.div_div_eq_div_mul])
      have hdl : i / 2 ^ k < 9223372036854775808 := Nat.lt_of_le_of_lt (Nat.div_le_self _ _) hi
      have HUP := Lib.hid (show ∀ y p, up i k y p = if (i / 2 ^ k) % 2 = 1 then nd p y else nd y p from fun _ _ => rfl)
      have q2 : (k : Int) < (P.length : Int) := by omega
      generalize climbN i x P k = y at *
      generalize P.getD k [] = p at *
      generalize i / 2 ^ k = d at *
      clear hcell
      have G2 := Lib.hid g2
      have G1 := Lib.hid g1
      have GB := Lib.hid gb
      clear g2 g1 gb
      by_cases hbit : d % 2 = 1
      · have hd : ((d : Int) % 2 == 0) = false := by rw [beq_eq_false_iff_ne]; omega
        have hN := Lib.hid (refNode_c p y hy hxk wr.drew)
        obtain ⟨z, hz'⟩ : ∃ z, z = nd p y := ⟨_, rfl⟩
        rw [← hz'] at hN
        have HU := Lib.hid (show climbN i x P (k + 1) = z by rw [HN.out, hz', HUP.out, if_pos hbit])
        clear hz' hbit
        go_wp2_with fail
        rename_i K1 hK1
        refine wp_region_noPanic ?_
        refine wp_region_held_drew (S := fun u => u.rangeAt bl (off + k * 32) (hC p)) (by kernel_rfl) hc (fun hHeld => ?_)
        refine wpAnyH_take (i := 0) (oi := _) (v := .slice (some ⟨bl, off, none⟩) P.length c) rfl (by kernel_rfl) (by kernel_rfl) (by kernel_rfl) (fun _ _ _ h => h) (Or.inl ⟨by rfl, by intro w hSw; go_simp⟩) hHeld ?_
        refine wpAnyH_take (i := 1) (oi := _) (v := .int .i64 (k : Int)) rfl (by kernel_rfl) (by kernel_rfl) (by kernel_rfl) (fun _ _ _ h => h) (Or.inl ⟨by rfl, by intro w hSw; go_simp⟩) hHeld ?_
        refine wpAnyH_take (i := 2) (oi := _) (v := .pointer (some ⟨bl, off + k * 32, none⟩)) rfl (by kernel_rfl) (by kernel_rfl) (by kernel_rfl) (fun _ _ _ h => h) (Or.inl ⟨by rfl, by intro w hSw; go_simp⟩) hHeld ?_
        refine wpAnyH_take (i := 3) (oi := _) (v := .agg (hC p).toArray) rfl (by kernel_rfl) (by kernel_rfl) (by kernel_rfl) (fun _ _ _ h => h) (yieldsIf_load_mid (by rfl) _ _ rfl bl (off + k * 32) rfl (hC p) _ (fun w h => h) hash_under rfl (hash_info (hC_len p))) hHeld ?_
        refine wpAnyH_ready (rs := [4]) (by kernel_rfl) (by simp) ?_
        refine AllReadyH.cons (o := _) rfl (fun K hK => ?_) AllReadyH.nil
        refine step_load_rowT rfl 25 (.tmp 3) rfl w.heap.size rfl 25 (hashV y) (0, 0) _ G2.out.done Tryd.underlying25 rfl (size_hashVW _) _ rfl ?_
        try go_simp
        refine hK.out _ _ hc (fun hHeld => ?_)
        clear hK K
        refine wpAnyH_ready (rs := [5]) (by kernel_rfl) (by simp) ?_
        refine AllReadyH.cons (o := _) rfl (fun K hK => ?_) AllReadyH.nil
        go_simp
        go_at_call 25
        refine hN.out.mono ?_
        rintro e w5 ⟨rfl, b5'⟩
        have b5 : Below wr.heap.size wr w5 := ((Below.refl wr.heap.size wr).drew).trans b5'
        have B5 := Lib.hid (GB.out.trans (b5.mono GB.out.size))
        have Y5 := Lib.hid ((G2.out.below b5 G2.out.lt).done)
        have G15 := Lib.hid (G1.out.below b5 G1.out.lt)
        have hc5 := (rangeAt_below b5 (Nat.lt_of_lt_of_le hbl GB.out.size)) hc
        clear b5 b5'
        go_simp
        refine hK.out _ _ hc5 (fun hHeld => ?_)
        clear hK K
        refine wpAnyH_ready (rs := [6]) (by kernel_rfl) (by simp) ?_
        refine AllReadyH.cons (o := _) rfl (fun K hK => ?_) AllReadyH.nil
        refine step_store_rowT rfl 25 (.tmp 3) (.tmp 28) rfl w.heap.size (hashV z) rfl rfl 25 (hashV y) Y5.out (size_hashVW _) (by unfold hashV; rw [rowV_size, rowV_size]) (rowV_one 32 _ (fun i => rfl)) none rfl ?_
        go_simp
        refine hK.out _ _ (rangeAt_setRow hbl hc5) (fun hHeld => ?_)
        clear hK K
        refine wpAnyH_done (by kernel_rfl) ?_ _
        refine NoPanic.normal ?_
        apply hK1
        clear hK1 K1
        go_wp2_with fail
        exact ⟨⟨k + 1, by omega, by go_num, by rw [HD.out]; go_num, by rw [HU.out]; exact Fill.of_row (setRow_heap _ _ _ _ _ _ Y5.out), G15.out.keep (setRow_other _ _ _ _ (by omega)), below_setRow B5.out (Nat.le_refl _) _⟩, by simp [intOf]; omega⟩
      · have hd : ((d : Int) % 2 == 0) = true := by rw [beq_iff_eq]; omega
        have hN := Lib.hid (refNode_c y p hxk hy wr.drew)
        obtain ⟨z, hz'⟩ : ∃ z, z = nd y p := ⟨_, rfl⟩
        rw [← hz'] at hN
        have HU := Lib.hid (show climbN i x P (k + 1) = z by rw [HN.out, hz', HUP.out, if_neg hbit])
        clear hz' hbit
        go_wp2_with fail
        rename_i K1 hK1
        refine wp_region_noPanic ?_
        refine wp_region_held_drew (S := fun u => u.rangeAt bl (off + k * 32) (hC p)) (by kernel_rfl) hc (fun hHeld => ?_)
        refine wpAnyH_take (i := 1) (oi := _) (v := .slice (some ⟨bl, off, none⟩) P.length c) rfl (by kernel_rfl) (by kernel_rfl) (by kernel_rfl) (fun _ _ _ h => h) (Or.inl ⟨by rfl, by intro w hSw; go_simp⟩) hHeld ?_
        refine wpAnyH_take (i := 2) (oi := _) (v := .int .i64 (k : Int)) rfl (by kernel_rfl) (by kernel_rfl) (by kernel_rfl) (fun _ _ _ h => h) (Or.inl ⟨by rfl, by intro w hSw; go_simp⟩) hHeld ?_
        refine wpAnyH_take (i := 3) (oi := _) (v := .pointer (some ⟨bl, off + k * 32, none⟩)) rfl (by kernel_rfl) (by kernel_rfl) (by kernel_rfl) (fun _ _ _ h => h) (Or.inl ⟨by rfl, by intro w hSw; go_simp⟩) hHeld ?_
        refine wpAnyH_take (i := 4) (oi := _) (v := .agg (hC p).toArray) rfl (by kernel_rfl) (by kernel_rfl) (by kernel_rfl) (fun _ _ _ h => h) (yieldsIf_load_mid (by rfl) _ _ rfl bl (off + k * 32) rfl (hC p) _ (fun w h => h) hash_under rfl (hash_info (hC_len p))) hHeld ?_
        refine wpAnyH_ready (rs := [0]) (by kernel_rfl) (by simp) ?_
        refine AllReadyH.cons (o := _) rfl (fun K hK => ?_) AllReadyH.nil
        refine step_load_rowT rfl 25 (.tmp 3) rfl w.heap.size rfl 25 (hashV y) (0, 0) _ G2.out.done Tryd.underlying25 rfl (size_hashVW _) _ rfl ?_
        try go_simp
        refine hK.out _ _ hc (fun hHeld => ?_)
        clear hK K
        refine wpAnyH_ready (rs := [5]) (by kernel_rfl) (by simp) ?_
        refine AllReadyH.cons (o := _) rfl (fun K hK => ?_) AllReadyH.nil
        go_simp
        go_at_call 25
        refine hN.out.mono ?_
        rintro e w5 ⟨rfl, b5'⟩
        have b5 : Below wr.heap.size wr w5 := ((Below.refl wr.heap.size wr).drew).trans b5'
        have B5 := Lib.hid (GB.out.trans (b5.mono GB.out.size))
        have Y5 := Lib.hid ((G2.out.below b5 G2.out.lt).done)
        have G15 := Lib.hid (G1.out.below b5 G1.out.lt)
        have hc5 := (rangeAt_below b5 (Nat.lt_of_lt_of_le hbl GB.out.size)) hc
        clear b5 b5'
        go_simp
        refine hK.out _ _ hc5 (fun hHeld => ?_)
        clear hK K
        refine wpAnyH_ready (rs := [6]) (by kernel_rfl) (by simp) ?_
        refine AllReadyH.cons (o := _) rfl (fun K hK => ?_) AllReadyH.nil
        refine step_store_rowT rfl 25 (.tmp 3) (.tmp 22) rfl w.heap.size (hashV z) rfl rfl 25 (hashV y) Y5.out (size_hashVW _) (by unfold hashV; rw [rowV_size, rowV_size]) (rowV_one 32 _ (fun i => rfl)) none rfl ?_
        go_simp
        refine hK.out _ _ (rangeAt_setRow hbl hc5) (fun hHeld => ?_)
        clear hK K
        refine wpAnyH_done (by kernel_rfl) ?_ _
        refine NoPanic.normal ?_
        apply hK1
        clear hK1 K1
        go_wp2_with fail
        exact ⟨⟨k + 1, by omega, by go_num, by rw [HD.out]; go_num, by rw [HU.out]; exact Fill.of_row (setRow_heap _ _ _ _ _ _ Y5.out), G15.out.keep (setRow_other _ _ _ _ (by omega)), below_setRow B5.out (Nat.le_refl _) _⟩, by simp [intOf]; omega⟩
    · obtain rfl : k = P.length := by omega
      obtain ⟨y, hy⟩ : ∃ y, y = climbN i x P P.length := ⟨_, rfl⟩
      rw [← hy] at g2
      have h2 := g2.done
      have h1 := g1.done
      have HY := Lib.hid hy
      have GB := Lib.hid gb
      clear g2 g1 gb hy
      go_wp2_with (first
        | (refine wpList_load_row rfl 25 (.tmp 3) rfl w.heap.size rfl 25 (hashV y) (0, 0) _ h2 Tryd.underlying25 rfl (size_hashVW _) ?_)
        | (refine wpList_store_row rfl 25 (.tmp 6) (.tmp 31) rfl (w.heap.size + 1) (hashV y) rfl rfl 25 (rowV 32 z8) h1 (size_hashVW _) (by unfold hashV; rw [rowV_size, rowV_size]) (rowV_one 32 _ (fun i => rfl)) ?_)
        | fail)
      rw [← HY.out]
      exact bodyPost_ret (v := .agg (hashV y)) (results_cell_row rfl _ _ (w.heap.size + 1) 25 (hashV y) (0, 0) _ rfl (setRow_heap _ _ _ _ _ _ h1) Tryd.underlying25 rfl (size_hashVW _)) rfl ⟨rfl, below_setRow GB.out (by omega) _⟩
end Go.Proofs.YtfpgdckgkddbiaaDoor
