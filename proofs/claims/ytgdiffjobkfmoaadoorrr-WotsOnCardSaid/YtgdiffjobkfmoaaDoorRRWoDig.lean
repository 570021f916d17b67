/- Contract: a hash's digits. -/
import Derived.Test.YtgdiffjobkfmoaaDoorRRWoKit
namespace Go.Proofs.YtgdiffjobkfmoaaDoorRR
open Go.RowKit
set_option linter.unusedVariables false

theorem and3 (x : Nat) (h : x < 256) : bits .and .u8 (x : Int) 3 = (x : Int) % 4 := by
  have : (List.range 256).all (fun x => decide (bits .and .u8 ((x : Nat) : Int) 3 = ((x : Nat) : Int) % 4)) = true := by decide +kernel
  exact of_decide_eq_true (List.all_eq_true.1 this x (List.mem_range.2 h))
def natI (n : Nat) : Value := .int .i64 (n : Int)
theorem size_int4 : (Tryd.prog.info? 51).map (·.size) = some 4 := by kernel_rfl
/-- A byte's four digits. -/
def fourL (x : Nat) : List Nat := [x / 64 % 4, x / 16 % 4, x / 4 % 4, x % 4]
def fourV (x : Nat) : Array Value := #[natI (x / 64 % 4), natI (x / 16 % 4), natI (x / 4 % 4), natI (x % 4)]
set_option maxHeartbeats 1000000 in
theorem four_c (x : Nat) (hx : x < 256) (w : World) : Calls Tryd.prog 23 #[.int .u8 (x : Int)] w fun e w' => e = .returned (.agg (fourV x)) ∧ Below w.heap.size w w' := by
  have a1 : bits .and .u8 ((x : Int) / 16) 3 = ((x / 16 % 4 : Nat) : Int) := by have := and3 (x / 16) (by omega); rw [show (((x / 16 : Nat)) : Int) = (x : Int) / 16 by omega] at this; rw [this]; omega
  have a2 : bits .and .u8 ((x : Int) / 4) 3 = ((x / 4 % 4 : Nat) : Int) := by have := and3 (x / 4) (by omega); rw [show (((x / 4 : Nat)) : Int) = (x : Int) / 4 by omega] at this; rw [this]; omega
  have a3 : bits .and .u8 (x : Int) 3 = ((x % 4 : Nat) : Int) := by have := and3 x (by omega); rw [this]; omega
  have e0 : (x : Int) / 64 = ((x / 64 % 4 : Nat) : Int) := by omega
  have hv : (#[Value.int .i64 ((x : Int) / 64), .int .i64 ((x : Int) / 16 % 4), .int .i64 ((x : Int) / 4 % 4), .int .i64 ((x : Int) % 4)] : Array Value) = fourV x := by
    unfold fourV natI
    rw [e0, show (x : Int) / 16 % 4 = ((x / 16 % 4 : Nat) : Int) by omega, show (x : Int) / 4 % 4 = ((x / 4 % 4 : Nat) : Int) by omega, show (x : Int) % 4 = ((x % 4 : Nat) : Int) by omega]
  have HV := Lib.hid hv
  clear hv e0
  go_enter Tryd.func23, Tryd.ntmps23
  go_wp2_with fail
  rw [HV.out]
  exact bodyPost_ret (v := .agg (fourV x)) (results_cell_row rfl _ _ w.heap.size 51 (fourV x) (0, 0) _ rfl (heap_alloc_new w _) Tryd.underlying51 rfl size_int4) rfl ⟨rfl, (Below.refl _ _).alloc (Nat.le_refl _) _⟩

theorem int_info : (Tryd.prog.info? 3).map (fun i => (i.zero, i.size, i.bytes)) = some (some (.int .i64 0), 1, 8) := by kernel_rfl
/-- The digits of so many bytes. -/
def digB (l : List UInt8) (k : Nat) : List Nat := (List.range k).flatMap fun i => fourL (l.getD i 0).toNat
theorem digB_succ (l : List UInt8) (k : Nat) : digB l (k + 1) = digB l k ++ fourL (l.getD k 0).toNat := by
  unfold digB
  rw [List.range_succ, List.flatMap_append]
  simp
theorem digB_len (l : List UInt8) (k : Nat) : (digB l k).length = 4 * k := by
  induction k with
  | zero => rfl
  | succ k ih => rw [digB_succ, List.length_append, ih]; rfl
theorem digB_at (l : List UInt8) (k : Nat) : ∀ j, j < 4 * k → (digB l k)[j]? = some (md l j) := by
  induction k with
  | zero => intro j h; omega
  | succ k ih =>
    intro j hj
    rw [digB_succ]
    rcases Nat.lt_or_ge j (4 * k) with h | h
    · rw [List.getElem?_append_left (by rw [digB_len]; exact h)]
      exact ih j h
    · rw [List.getElem?_append_right (by rw [digB_len]; exact h), digB_len]
      obtain ⟨r, rfl⟩ : ∃ r, j = 4 * k + r := ⟨j - 4 * k, by omega⟩
      have hr : r < 4 := by omega
      unfold md
      rw [show 4 * k + r - 4 * k = r by omega, show (4 * k + r) / 4 = k by omega, show (4 * k + r) % 4 = r by omega]
      match r, hr with
      | 0, _ => rfl
      | 1, _ => rfl
      | 2, _ => rfl
      | 3, _ => simp [fourL]
theorem digs_eq (l : List UInt8) : (digB l 16).map natI ++ (fourL (lk l 64)).map natI = (List.range 68).map fun i => natI (dg l i) := by
  rw [← List.map_append]
  have key : digB l 16 ++ fourL (lk l 64) = (List.range 68).map (dg l) := by
    apply List.ext_getElem?
    intro i
    rcases Nat.lt_or_ge i 64 with h | h
    · rw [List.getElem?_append_left (by rw [digB_len]; omega), digB_at l 16 i (by omega), List.getElem?_map, List.getElem?_range (by omega)]
      unfold dg
      rw [Option.map_some, if_pos h]
    · rw [List.getElem?_append_right (by rw [digB_len]; omega), digB_len]
      rcases Nat.lt_or_ge i 68 with h2 | h2
      · rw [List.getElem?_map, List.getElem?_range h2]
        obtain ⟨r, rfl⟩ : ∃ r, i = 64 + r := ⟨i - 64, by omega⟩
        have hr : r < 4 := by omega
        unfold dg
        rw [Option.map_some, if_neg (by omega), show 64 + r - 4 * 16 = r by omega]
        match r, hr with
        | 0, _ => rfl
        | 1, _ => rfl
        | 2, _ => rfl
        | 3, _ => simp [fourL]
      · rw [List.getElem?_eq_none (by simp [fourL]; omega), List.getElem?_eq_none (by simp; omega)]
  rw [key, List.map_map]
  rfl
theorem fourV_list (x : Nat) : (fourV x).toList = (fourL x).map natI := rfl
theorem fourV_one (x : Nat) : (fourV x).all (·.oneCell') = true := by
  rw [Array.all_eq_true_iff_forall_mem]
  intro u hu
  simp only [fourV, natI, List.mem_toArray, List.mem_cons, List.not_mem_nil, or_false] at hu
  rcases hu with rfl | rfl | rfl | rfl <;> rfl
theorem zero_int4 (u : World) : (zeroValue 51).run Tryd.prog u = .ok (.agg #[natI 0, natI 0, natI 0, natI 0]) u := by kernel_rfl
theorem made68 (u : World) : (Instr.makeSlice 36 (.int .i64 0) (.int .i64 68)).run Tryd.prog u = .ok (.slice (some ⟨u.heap.size, 0, none⟩) 0 68) (u.alloc (.cells (madeCells #[.int .i64 0] 68) 3)) := by
  obtain ⟨i0, hi0, hz0, hz1, hz2⟩ := info_parts int_info
  have h := run_make (P := Tryd.prog) u 36 3 i0 (.int .i64 0) Tryd.underlying36 hi0 hz0 .i64 .i64 0 68 (by omega) (by omega) (by rw [hz2]; omega) (by omega)
  simpa [hz1, Value.cells] using h
set_option maxHeartbeats 2000000 in
theorem digits_c (l : List UInt8) (hl : l.length = 32) (w : World) : Calls Tryd.prog 10 #[.agg (hashV l)] w fun e w' => ∃ v, e = .returned v ∧ Below w.heap.size w w' ∧ w'.ownsRow w.heap.size 3 1 v 68 ((List.range 68).map fun i => natI (dg l i)) := by
  have hF32 : Fill w.heap.size 27 32 32 (hF l) (w.alloc (.cells (hashV l) 27)) := Fill.of_row (heap_alloc_new w _)
  have hb1 := (Below.refl w.heap.size w).alloc (Nat.le_refl _) (.cells (hashV l) 27)
  have hsz1 : (w.alloc (.cells (hashV l) 27)).heap.size = w.heap.size + 1 := heap_sz w _
  obtain ⟨i0, hi0, hz0, hz1, hz2⟩ := info_parts int_info
  have HF := Lib.hid hF32
  have HB1 := Lib.hid hb1
  have hmk := made68
  obtain ⟨w1, hw1⟩ : ∃ w1, w1 = w.alloc (.cells (hashV l) 27) := ⟨_, rfl⟩
  rw [← hw1] at HF HB1 hsz1
  have HW1 := Lib.hid hw1
  clear hF32 hb1 hw1
  go_enter Tryd.func10, Tryd.ntmps10
  go_wp2_with fail
  rw [← HW1.out]
  go_loopw [3, 14] (fun v i wr => ∃ k : Nat, k ≤ 16 ∧ i = .int .i64 (k : Int) ∧ Below w1.heap.size w1 wr ∧ wr.ownsRow w1.heap.size 3 1 v (4 * k) ((digB l k).map natI)) (fun _ i _ => 16 - (intOf i).toNat)
  case atStart => exact ⟨0, Nat.zero_le _, rfl, (Below.refl _ _).alloc (Nat.le_refl _) _, by rw [← hsz1]; exact World.ownsRow_made (base := w1.heap.size) (e := 3) (size := 1) w1 _ _ (Nat.le_refl _) (by simp only [maxLen]; omega) (by simp [madeCells])⟩
  case round =>
    obtain ⟨k, hk, rfl, hbw, hrw⟩ := hrel
    by_cases hlt : k < 16
    · have q4 : (k : Int) < 16 := by omega
      obtain ⟨A, c, rfl, hcc, hA⟩ := rowForm hrw
      have hc := ((HF.out.below hbw (by omega)).at_ k (by omega))
      have hx := (l.getD k 0).toNat_lt
      have HD := Lib.hid (digB_succ l k)
      unfold hF bv at hc
      generalize (l.getD k 0).toNat = x at *
      have h4 := fun u => four_c x hx u
      have HBW := Lib.hid hbw
      have HRW := Lib.hid hrw
      clear hbw hrw
      go_wp2_with (first
        | (go_at_call 23; refine (h4 _).mono ?_; rintro e w3 ⟨rfl, hb3⟩; have HB4 := Lib.hid (below_setRow (hb3.alloc hb3.size (.cells #[.int .i64 0, .int .i64 0, .int .i64 0, .int .i64 0] 51)) hb3.size (fourV x)); have HR4 := Lib.hid (show ((w3.alloc (.cells #[.int .i64 0, .int .i64 0, .int .i64 0, .int .i64 0] 51)).setRow w3.heap.size (fourV x)).heap[w3.heap.size]? = some (.cells (fourV x) 51 (0, 0)) from setRow_heap _ _ _ _ _ _ (heap_alloc_new w3 _)); clear hb3)
        | (refine wpList_store_row rfl 51 (.tmp 6) (.tmp 19) rfl w3.heap.size (fourV x) rfl rfl 51 #[.int .i64 0, .int .i64 0, .int .i64 0, .int .i64 0] (heap_alloc_new w3 _) size_int4 rfl (fourV_one x) ?_)
        | (refine wpList_append_own _ rfl (.tmp 20) (.tmp 21) _ rfl w1.heap.size 3 i0 _ 1 8 Tryd.underlying36 hi0 hz0 hz1 hz2 rfl (by decide) (.slice A (4 * k) c) _ _ rfl (rowBelow HRW.out HB4.out (Nat.le_refl _)) ⟨w3.heap.size, 0, none⟩ 4 4 ((fourL x).map natI) rfl rfl (fun j u hu => by rw [Addr.add_mid, Nat.zero_add, cell_of_row _ _ _ _ _ (0, 0) HR4.out, ← Array.getElem?_toList, fourV_list]; exact hu) (fun u hu => (Array.all_eq_true_iff_forall_mem.1 (fourV_one x)) u (by rw [← Array.mem_toList_iff, fourV_list]; exact hu)) (by unfold maxLen; omega) (by omega) (Nat.le_trans HBW.out.size HB4.out.size) ?_; intro v1 w5 hown1 hg1 _; have HO := Lib.hid hown1; have HG := Lib.hid hg1; clear hown1 hg1)
        | fail)
      refine ⟨⟨k + 1, by omega, by go_num, (HBW.out.trans (HB4.out.mono HBW.out.size)).grown HG.out (Nat.le_trans HBW.out.size HB4.out.size) (fun g hg => (HRW.out.lt g hg).1), ?_⟩, by simp [intOf]; omega⟩
      rw [HD.out, List.map_append]
      exact HO.out
    · obtain rfl : k = 16 := by omega
      obtain ⟨A, c, rfl, hcc, hA⟩ := rowForm hrw
      have HBW := Lib.hid hbw
      have HRW := Lib.hid hrw
      clear hbw hrw
      have hat : ∀ j, j < 64 → ∃ g, A = some ⟨g, 0, none⟩ ∧ w1.heap.size ≤ g ∧ g < wr.heap.size ∧ wr.cell? ⟨g, j, none⟩ = some (natI (md l j)) := fun j hj => rowAt HRW.out (by rw [List.getElem?_map, digB_at l 16 j (by omega)]; rfl)
      have HAT := Lib.hid hat
      clear hat
      go_wp2_with fail
      go_loopw [7, 26] (fun v i wx => ∃ k : Nat, k ≤ 64 ∧ i = .int .i64 (k : Int) ∧ v = .int .i64 (lk l k : Int) ∧ ∃ n, wx = wr.drewN n) (fun _ i _ => 64 - (intOf i).toNat)
      case atStart => exact ⟨0, Nat.zero_le _, rfl, rfl, 0, rfl⟩
      case round =>
        obtain ⟨k, hk, rfl, rfl, n, rfl⟩ := hrel
        have hle := lk_le l k
        by_cases hlt : k < 64
        · have q4 : (k : Int) < 64 := by omega
          obtain ⟨g, rfl, hg1, hg2, hc⟩ := HAT.out k hlt
          have hm := md_lt l k
          have HK := Lib.hid (show lk l (k + 1) = lk l k + (3 - md l k) from rfl)
          unfold natI at hc
          generalize md l k = x at *
          generalize lk l k = y at *
          go_wp2_with fail
          refine ⟨⟨k + 1, by omega, by go_num, ?_, n, rfl⟩, by simp [intOf]; omega⟩
          rw [HK.out]
          congr 1
          omega
        · obtain rfl : k = 64 := by omega
          have hl64 : lk l 64 < 256 := by omega
          have HE := Lib.hid (digs_eq l)
          have h4 := fun u => four_c (lk l 64) hl64 u
          generalize lk l 64 = x at *
          have HRN := Lib.hid (rowBelow (B := wr.heap.size) HRW.out (below_drewN (Below.refl _ _) n) (Nat.le_refl _))
          have HBN := Lib.hid (HBW.out.trans ((below_drewN (Below.refl wr.heap.size wr) n).mono HBW.out.size))
          have hszn : (wr.drewN n).heap.size = wr.heap.size := rfl
          obtain ⟨wn, hwn⟩ : ∃ wn, wn = wr.drewN n := ⟨_, rfl⟩
          rw [← hwn] at HRN HBN hszn ⊢
          clear hwn
          go_wp2_with (first
            | (go_at_call 23; refine (h4 _).mono ?_; rintro e w3 ⟨rfl, hb3⟩; have HB4 := Lib.hid (below_setRow (hb3.alloc hb3.size (.cells #[.int .i64 0, .int .i64 0, .int .i64 0, .int .i64 0] 51)) hb3.size (fourV x)); have HR4 := Lib.hid (show ((w3.alloc (.cells #[.int .i64 0, .int .i64 0, .int .i64 0, .int .i64 0] 51)).setRow w3.heap.size (fourV x)).heap[w3.heap.size]? = some (.cells (fourV x) 51 (0, 0)) from setRow_heap _ _ _ _ _ _ (heap_alloc_new w3 _)); clear hb3)
            | (refine wpList_store_row rfl 51 (.tmp 10) (.tmp 37) rfl w3.heap.size (fourV x) rfl rfl 51 #[.int .i64 0, .int .i64 0, .int .i64 0, .int .i64 0] (heap_alloc_new w3 _) size_int4 rfl (fourV_one x) ?_)
            | (refine wpList_append_own _ rfl (.tmp 38) (.tmp 39) _ rfl w1.heap.size 3 i0 _ 1 8 Tryd.underlying36 hi0 hz0 hz1 hz2 rfl (by decide) (.slice A (4 * 16) c) _ _ rfl (rowBelow HRN.out HB4.out (Nat.le_refl _)) ⟨w3.heap.size, 0, none⟩ 4 4 ((fourL x).map natI) rfl rfl (fun j u hu => by rw [Addr.add_mid, Nat.zero_add, cell_of_row _ _ _ _ _ (0, 0) HR4.out, ← Array.getElem?_toList, fourV_list]; exact hu) (fun u hu => (Array.all_eq_true_iff_forall_mem.1 (fourV_one x)) u (by rw [← Array.mem_toList_iff, fourV_list]; exact hu)) (by unfold maxLen; omega) (by omega) (Nat.le_trans HBN.out.size HB4.out.size) ?_; intro v1 w5 hown1 hg1 _; have HO := Lib.hid hown1; have HG := Lib.hid hg1; clear hown1 hg1)
            | fail)
          go_ret
          have hbe := (HBN.out.trans (HB4.out.mono HBN.out.size)).grown HG.out (Nat.le_trans HBN.out.size HB4.out.size) (fun g hg => (HRN.out.lt g hg).1)
          refine ⟨_, rfl, HB1.out.trans (hbe.mono (by omega)), ?_⟩
          rw [← HE.out]
          exact rowBase HO.out (by omega)
end Go.Proofs.YtgdiffjobkfmoaaDoorRR
