/- The reference's digits; the chapter's rows. -/
import Derived.Test.YtgdiffjobkfmoaaDoorRRWoDig
namespace Go.Proofs.YtgdiffjobkfmoaaDoorRR
open Go.RowKit
set_option linter.unusedVariables false

theorem tmod4 (y : Nat) : ((y : Nat) : Int).tmod 4 = ((y % 4 : Nat) : Int) := by
  rw [Int.tmod_eq_emod_of_nonneg (by omega)]
  omega
theorem ref_digit (x r : Nat) (hx : x < 256) (hr : r < 4) : (wrap64 ((x : Int) / 2 ^ (6 - 2 * r))).tmod 4 = ((x / 4 ^ (3 - r) % 4 : Nat) : Int) := by
  rw [← tmod4]
  congr 1
  match r, hr with
  | 0, _ => show wrap64 ((x : Int) / 64) = ((x / 64 : Nat) : Int); unfold wrap64; omega
  | 1, _ => show wrap64 ((x : Int) / 16) = ((x / 16 : Nat) : Int); unfold wrap64; omega
  | 2, _ => show wrap64 ((x : Int) / 4) = ((x / 4 : Nat) : Int); unfold wrap64; omega
  | 3, _ => show wrap64 ((x : Int) / 1) = ((x / 1 : Nat) : Int); unfold wrap64; omega
set_option maxHeartbeats 2000000 in
theorem refDigits_c (l : List UInt8) (hl : l.length = 32) (w : World) : Calls Tryd.prog 20 #[.agg (hashV l)] w fun e w' => ∃ v, e = .returned v ∧ Below w.heap.size w w' ∧ w'.ownsRow w.heap.size 3 1 v 68 ((List.range 68).map fun i => natI (dg l i)) := by
  have hF32 : Fill w.heap.size 27 32 32 (hF l) (w.alloc (.cells (hashV l) 27)) := Fill.of_row (heap_alloc_new w _)
  have hb1 := (Below.refl w.heap.size w).alloc (Nat.le_refl _) (.cells (hashV l) 27)
  have hsz1 : (w.alloc (.cells (hashV l) 27)).heap.size = w.heap.size + 1 := heap_sz w _
  obtain ⟨i0, hi0, hz0, hz1, hz2⟩ := info_parts int_info
  have HF := Lib.hid hF32
  have HB1 := Lib.hid hb1
  obtain ⟨w1, hw1⟩ : ∃ w1, w1 = w.alloc (.cells (hashV l) 27) := ⟨_, rfl⟩
  rw [← hw1] at HF HB1 hsz1
  have HW1 := Lib.hid hw1
  clear hF32 hb1 hw1
  go_enter Tryd.func20, Tryd.ntmps20
  go_wp2_with fail
  rw [← HW1.out]
  go_loopw [3, 4, 5] (fun v z i wr => ∃ k : Nat, k ≤ 64 ∧ i = .int .i64 (k : Int) ∧ z = .int .i64 (lk l k : Int) ∧ Below w1.heap.size w1 wr ∧ wr.ownsRow w1.heap.size 3 1 v k ((List.range k).map fun j => natI (md l j))) (fun _ _ i _ => 64 - (intOf i).toNat)
  case atStart => exact ⟨0, Nat.zero_le _, rfl, rfl, Below.refl _ _, rfl, .inl ⟨rfl, rfl⟩⟩
  case round =>
    obtain ⟨k, hk, rfl, rfl, hbw, hrw⟩ := hrel
    by_cases hlt : k < 64
    · have q4 : (k : Int) < 64 := by omega
      obtain ⟨A, c, rfl, hcc, hA⟩ := rowForm hrw
      have hc := ((HF.out.below hbw (by omega)).at_ (k / 4) (by omega))
      have hx := (l.getD (k / 4) 0).toNat_lt
      have hM : md l k = (l.getD (k / 4) 0).toNat / 4 ^ (3 - k % 4) % 4 := rfl
      have HK := Lib.hid (show lk l (k + 1) = lk l k + (3 - md l k) from rfl)
      have HQ := Lib.hid (show ((List.range (k + 1)).map fun j => natI (md l j)) = ((List.range k).map fun j => natI (md l j)) ++ [natI (md l k)] by rw [List.range_succ, List.map_append]; rfl)
      have hle := lk_le l k
      have hd4 := md_lt l k
      unfold hF bv at hc
      generalize (l.getD (k / 4) 0).toNat = x at *
      have HBW := Lib.hid hbw
      have HRW := Lib.hid hrw
      generalize lk l k = y at *
      generalize md l k = d at *
      have HM := Lib.hid hM
      clear hbw hrw hM
      have hr : (k : Int) % 4 = 0 ∨ (k : Int) % 4 = 1 ∨ (k : Int) % 4 = 2 ∨ (k : Int) % 4 = 3 := by omega
      rcases hr with hr | hr | hr | hr
      · have HV : Hid (d = x / 64 % 4) := by
          have h := HM.out
          rw [show k % 4 = 0 by omega] at h
          exact h
        have HV2 : Hid ((d : Int) = (x : Int) / 64 % 4) := by
          have := HV.out
          show (d : Int) = (x : Int) / 64 % 4
          omega
        have HB4 := Lib.hid ((Below.refl wr.heap.size wr).alloc (Nat.le_refl _) (.cells #[.int .i64 ((x : Int) / 64 % 4)] 3))
        have HR4 := Lib.hid (heap_alloc_new wr (.cells #[.int .i64 ((x : Int) / 64 % 4)] 3))
        clear hd4
        go_wp2_with (first
          | (refine wpList_append_own _ rfl (.tmp 23) (.tmp 25) _ rfl w1.heap.size 3 i0 _ 1 8 Tryd.underlying36 hi0 hz0 hz1 hz2 rfl (by decide) (.slice A k c) _ _ rfl (rowBelow HRW.out HB4.out (Nat.le_refl _)) ⟨wr.heap.size, 0, none⟩ 1 1 [.int .i64 ((x : Int) / 64 % 4)] rfl rfl (fun j u hu => by rw [Addr.add_mid, Nat.zero_add, cell_of_row _ _ _ _ _ (0, 0) HR4.out, ← Array.getElem?_toList]; exact hu) (fun u hu => by rw [List.mem_singleton] at hu; subst hu; rfl) (by unfold maxLen; omega) (by omega) (Nat.le_trans HBW.out.size HB4.out.size) ?_; intro v1 w5 hown1 hg1 _; have HO := Lib.hid hown1; have HG := Lib.hid hg1; clear hown1 hg1)
          | fail)
        have hd4 := HV2.out
        refine ⟨⟨k + 1, by omega, by go_num, ?_, (HBW.out.trans (HB4.out.mono HBW.out.size)).grown HG.out (Nat.le_trans HBW.out.size HB4.out.size) (fun g hg => (HRW.out.lt g hg).1), ?_⟩, by simp [intOf]; omega⟩
        · rw [HK.out]
          congr 1
          omega
        · rw [HQ.out]
          unfold natI
          rw [hd4]
          exact HO.out
      · have HV : Hid (d = x / 16 % 4) := by
          have h := HM.out
          rw [show k % 4 = 1 by omega] at h
          exact h
        have HV2 : Hid ((d : Int) = (x : Int) / 16 % 4) := by
          have := HV.out
          show (d : Int) = (x : Int) / 16 % 4
          omega
        have HB4 := Lib.hid ((Below.refl wr.heap.size wr).alloc (Nat.le_refl _) (.cells #[.int .i64 ((x : Int) / 16 % 4)] 3))
        have HR4 := Lib.hid (heap_alloc_new wr (.cells #[.int .i64 ((x : Int) / 16 % 4)] 3))
        clear hd4
        go_wp2_with (first
          | (refine wpList_append_own _ rfl (.tmp 23) (.tmp 25) _ rfl w1.heap.size 3 i0 _ 1 8 Tryd.underlying36 hi0 hz0 hz1 hz2 rfl (by decide) (.slice A k c) _ _ rfl (rowBelow HRW.out HB4.out (Nat.le_refl _)) ⟨wr.heap.size, 0, none⟩ 1 1 [.int .i64 ((x : Int) / 16 % 4)] rfl rfl (fun j u hu => by rw [Addr.add_mid, Nat.zero_add, cell_of_row _ _ _ _ _ (0, 0) HR4.out, ← Array.getElem?_toList]; exact hu) (fun u hu => by rw [List.mem_singleton] at hu; subst hu; rfl) (by unfold maxLen; omega) (by omega) (Nat.le_trans HBW.out.size HB4.out.size) ?_; intro v1 w5 hown1 hg1 _; have HO := Lib.hid hown1; have HG := Lib.hid hg1; clear hown1 hg1)
          | fail)
        have hd4 := HV2.out
        refine ⟨⟨k + 1, by omega, by go_num, ?_, (HBW.out.trans (HB4.out.mono HBW.out.size)).grown HG.out (Nat.le_trans HBW.out.size HB4.out.size) (fun g hg => (HRW.out.lt g hg).1), ?_⟩, by simp [intOf]; omega⟩
        · rw [HK.out]
          congr 1
          omega
        · rw [HQ.out]
          unfold natI
          rw [hd4]
          exact HO.out
      · have HV : Hid (d = x / 4 % 4) := by
          have h := HM.out
          rw [show k % 4 = 2 by omega] at h
          exact h
        have HV2 : Hid ((d : Int) = (x : Int) / 4 % 4) := by
          have := HV.out
          show (d : Int) = (x : Int) / 4 % 4
          omega
        have HB4 := Lib.hid ((Below.refl wr.heap.size wr).alloc (Nat.le_refl _) (.cells #[.int .i64 ((x : Int) / 4 % 4)] 3))
        have HR4 := Lib.hid (heap_alloc_new wr (.cells #[.int .i64 ((x : Int) / 4 % 4)] 3))
        clear hd4
        go_wp2_with (first
          | (refine wpList_append_own _ rfl (.tmp 23) (.tmp 25) _ rfl w1.heap.size 3 i0 _ 1 8 Tryd.underlying36 hi0 hz0 hz1 hz2 rfl (by decide) (.slice A k c) _ _ rfl (rowBelow HRW.out HB4.out (Nat.le_refl _)) ⟨wr.heap.size, 0, none⟩ 1 1 [.int .i64 ((x : Int) / 4 % 4)] rfl rfl (fun j u hu => by rw [Addr.add_mid, Nat.zero_add, cell_of_row _ _ _ _ _ (0, 0) HR4.out, ← Array.getElem?_toList]; exact hu) (fun u hu => by rw [List.mem_singleton] at hu; subst hu; rfl) (by unfold maxLen; omega) (by omega) (Nat.le_trans HBW.out.size HB4.out.size) ?_; intro v1 w5 hown1 hg1 _; have HO := Lib.hid hown1; have HG := Lib.hid hg1; clear hown1 hg1)
          | fail)
        have hd4 := HV2.out
        refine ⟨⟨k + 1, by omega, by go_num, ?_, (HBW.out.trans (HB4.out.mono HBW.out.size)).grown HG.out (Nat.le_trans HBW.out.size HB4.out.size) (fun g hg => (HRW.out.lt g hg).1), ?_⟩, by simp [intOf]; omega⟩
        · rw [HK.out]
          congr 1
          omega
        · rw [HQ.out]
          unfold natI
          rw [hd4]
          exact HO.out
      · have HV : Hid (d = x / 1 % 4) := by
          have h := HM.out
          rw [show k % 4 = 3 by omega] at h
          exact h
        have HV2 : Hid ((d : Int) = (x : Int) % 4) := by
          have := HV.out
          show (d : Int) = (x : Int) % 4
          omega
        have HB4 := Lib.hid ((Below.refl wr.heap.size wr).alloc (Nat.le_refl _) (.cells #[.int .i64 ((x : Int) % 4)] 3))
        have HR4 := Lib.hid (heap_alloc_new wr (.cells #[.int .i64 ((x : Int) % 4)] 3))
        clear hd4
        go_wp2_with (first
          | (refine wpList_append_own _ rfl (.tmp 23) (.tmp 25) _ rfl w1.heap.size 3 i0 _ 1 8 Tryd.underlying36 hi0 hz0 hz1 hz2 rfl (by decide) (.slice A k c) _ _ rfl (rowBelow HRW.out HB4.out (Nat.le_refl _)) ⟨wr.heap.size, 0, none⟩ 1 1 [.int .i64 ((x : Int) % 4)] rfl rfl (fun j u hu => by rw [Addr.add_mid, Nat.zero_add, cell_of_row _ _ _ _ _ (0, 0) HR4.out, ← Array.getElem?_toList]; exact hu) (fun u hu => by rw [List.mem_singleton] at hu; subst hu; rfl) (by unfold maxLen; omega) (by omega) (Nat.le_trans HBW.out.size HB4.out.size) ?_; intro v1 w5 hown1 hg1 _; have HO := Lib.hid hown1; have HG := Lib.hid hg1; clear hown1 hg1)
          | fail)
        have hd4 := HV2.out
        refine ⟨⟨k + 1, by omega, by go_num, ?_, (HBW.out.trans (HB4.out.mono HBW.out.size)).grown HG.out (Nat.le_trans HBW.out.size HB4.out.size) (fun g hg => (HRW.out.lt g hg).1), ?_⟩, by simp [intOf]; omega⟩
        · rw [HK.out]
          congr 1
          omega
        · rw [HQ.out]
          unfold natI
          rw [hd4]
          exact HO.out
    · obtain rfl : k = 64 := by omega
      obtain ⟨A, c, rfl, hcc, hA⟩ := rowForm hrw
      have hl64 : lk l 64 < 256 := by have := lk_le l 64; omega
      have HE := Lib.hid (digs_eq l)
      have HE2 := Lib.hid (show ((List.range 64).map fun j => natI (md l j)) = (digB l 16).map natI by
        apply List.ext_getElem?
        intro j
        rcases Nat.lt_or_ge j 64 with h | h
        · rw [List.getElem?_map, List.getElem?_range h, List.getElem?_map, digB_at l 16 j (by omega)]; rfl
        · rw [List.getElem?_eq_none (by simpa using h), List.getElem?_eq_none (by rw [List.length_map, digB_len]; omega)])
      have HBW := Lib.hid hbw
      have HRW := Lib.hid hrw
      clear hbw hrw
      generalize lk l 64 = x at *
      have HV : Hid ([Value.int .i64 ((x : Int) / 64), .int .i64 ((x : Int) / 16 % 4), .int .i64 ((x : Int) / 4 % 4), .int .i64 ((x : Int) % 4)] = (fourL x).map natI) := by
        show _ = _
        unfold fourL natI
        simp only [List.map_cons, List.map_nil]
        rw [show (x : Int) / 64 = ((x / 64 % 4 : Nat) : Int) by omega, show (x : Int) / 16 % 4 = ((x / 16 % 4 : Nat) : Int) by omega, show (x : Int) / 4 % 4 = ((x / 4 % 4 : Nat) : Int) by omega, show (x : Int) % 4 = ((x % 4 : Nat) : Int) by omega]
      have HB4 := Lib.hid ((Below.refl wr.heap.size wr).alloc (Nat.le_refl _) (.cells #[.int .i64 ((x : Int) / 64), .int .i64 ((x : Int) / 16 % 4), .int .i64 ((x : Int) / 4 % 4), .int .i64 ((x : Int) % 4)] 3))
      have HR4 := Lib.hid (heap_alloc_new wr (.cells #[.int .i64 ((x : Int) / 64), .int .i64 ((x : Int) / 16 % 4), .int .i64 ((x : Int) / 4 % 4), .int .i64 ((x : Int) % 4)] 3))
      go_wp2_with (first
        | (refine wpList_append_own _ rfl (.tmp 31) (.tmp 42) _ rfl w1.heap.size 3 i0 _ 1 8 Tryd.underlying36 hi0 hz0 hz1 hz2 rfl (by decide) (.slice A 64 c) _ _ rfl (rowBelow HRW.out HB4.out (Nat.le_refl _)) ⟨wr.heap.size, 0, none⟩ 4 4 [.int .i64 ((x : Int) / 64), .int .i64 ((x : Int) / 16 % 4), .int .i64 ((x : Int) / 4 % 4), .int .i64 ((x : Int) % 4)] rfl rfl (fun j u hu => by rw [Addr.add_mid, Nat.zero_add, cell_of_row _ _ _ _ _ (0, 0) HR4.out, ← Array.getElem?_toList]; exact hu) (fun u hu => by simp only [List.mem_cons, List.not_mem_nil, or_false] at hu; rcases hu with rfl | rfl | rfl | rfl <;> rfl) (by unfold maxLen; omega) (by omega) (Nat.le_trans HBW.out.size HB4.out.size) ?_; intro v1 w5 hown1 hg1 _; have HO := Lib.hid hown1; have HG := Lib.hid hg1; clear hown1 hg1)
        | fail)
      go_ret
      have hbe := (HBW.out.trans (HB4.out.mono HBW.out.size)).grown HG.out (Nat.le_trans HBW.out.size HB4.out.size) (fun g hg => (HRW.out.lt g hg).1)
      refine ⟨_, rfl, HB1.out.trans (hbe.mono (by omega)), ?_⟩
      rw [← HE.out, ← HE2.out, ← HV.out]
      exact rowBase HO.out (by omega)
end Go.Proofs.YtgdiffjobkfmoaaDoorRR
