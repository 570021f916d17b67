/- What one that is not there answers, on. -/
import Derived.Test.YtdgkgkopjbnimaaFgNone
import Derived.Laws.IdiomRangeMap
namespace Go.Proofs.Ytdgkgkopjbnimaa
open Go.ChangeMaps Go.MapKept Go.Maps Go.WideElems Go.RowKit
set_option linter.unusedVariables false
set_option maxRecDepth 100000

theorem strong_n (v : Value) (x : Lk) (w : World) (h : NoG v w) : Calls Try.prog 13 #[v, .agg (lv x)] w fun e w' => e = .returned (.int .i64 1) ∧ Below w.heap.size w w' := by
  obtain ⟨W, hW⟩ : ∃ W, W = w.alloc (.cells (lv x) 36) := ⟨_, rfl⟩
  have HB : Hid (Below w.heap.size w W) := by rw [hW]; exact (Below.refl _ _).alloc (Nat.le_refl _) _
  have HI := Lib.hid (isNone_n v W (h.below HB.out))
  have HW := Lib.hid hW
  clear hW h
  go_enter Try.func13, Try.ntmps13
  go_wp2_with fail
  rw [← HW.out]
  refine HI.out.mono ?_
  rintro e w1 ⟨rfl, rfl⟩
  go_wp2_with fail
  go_ret
  exact ⟨rfl, HB.out⟩
theorem copy_n (v : Value) (w : World) (h : NoG v w) : Calls Try.prog 24 #[v] w fun e w' => e = .returned (.pointer none) ∧ w' = w := by
  have HI := Lib.hid (isNone_n v w h)
  go_enter Try.func24, Try.ntmps24
  go_wp2_with fail
  refine HI.out.mono ?_
  rintro e w1 ⟨rfl, rfl⟩
  go_wp2_with fail
  go_ret
  exact ⟨rfl, rfl⟩
theorem clone_n (w : World) : Calls Try.prog 38 #[.slice none 0 0] w fun e w' => e = .returned (.slice none 0 0) ∧ w' = w := by
  have hq : (Sem.run Try.prog (binOp .eql 30 (.slice none 0 0) (.slice none 0 0)) w) = .ok (.bool true) w := by kernel_rfl
  go_enter Try.func38, Try.ntmps38
  go_wp2_with fail
  go_ret
  exact ⟨rfl, rfl⟩
theorem links_n (v : Value) (w : World) (h : NoG v w) : Calls Try.prog 21 #[v] w fun e w' => e = .returned (.slice none 0 0) ∧ Below w.heap.size w w' := by
  obtain ⟨W, hW⟩ : ∃ W, W = w.alloc (.cells noStore 73) := ⟨_, rfl⟩
  have HB : Hid (Below w.heap.size w W) := by rw [hW]; exact (Below.refl _ _).alloc (Nat.le_refl _) _
  have HI := Lib.hid (seen_n v w h)
  rw [← hW] at HI
  have r1 : W.heap[w.heap.size]? = some (.cells noStore 73) := by rw [hW]; exact heap_alloc_new w _
  have hc : W.cell? ⟨w.heap.size, 0, none⟩ = some (.slice none 0 0) := cell_of_row W w.heap.size 0 _ _ (0, 0) r1
  clear hW h r1
  go_enter Try.func21, Try.ntmps21
  go_wp2_with fail
  refine HI.out.mono ?_
  rintro e w1 ⟨rfl, rfl⟩
  go_wp2_with fail
  refine (clone_n w1).mono ?_
  rintro e w2 ⟨rfl, rfl⟩
  go_wp2_with fail
  go_ret
  exact ⟨rfl, HB.out⟩
theorem all_n (s least : Nat) (w : World) (h : w.heap[s]? = some (.cells noStore 73)) : Calls Try.prog 49 #[.pointer (some ⟨s, 0, none⟩), .int .i64 (least : Int)] w fun e w' => e = .returned (.slice none 0 0) ∧ Below w.heap.size w w' := by
  have hc : w.cell? ⟨s, 2, none⟩ = some (.map none) := cell_of_row w s 2 _ _ (0, 0) h
  have hr := run_range_nilMap (P := Try.prog) w 70 _ _ Try.underlying70
  have hn := fun ty => run_next_nilMap (P := Try.prog) w ty 0 0 #[]
  have HB := Lib.hid ((Below.refl w.heap.size w).alloc (Nat.le_refl _) (.mapIter none 0 #[] 0))
  clear h
  go_enter Try.func49, Try.ntmps49
  go_wp2_with fail
  refine wp_loop_rounds 1 ?_
  rw [rounds_succ]
  go_wp2_with fail
  go_ret
  exact ⟨rfl, HB.out⟩
set_option maxRecDepth 1000000 in
set_option maxHeartbeats 4000000 in
theorem last_n (s least : Nat) (w : World) (h : w.heap[s]? = some (.cells noStore 73)) : Calls Try.prog 37 #[.pointer (some ⟨s, 0, none⟩), .int .i64 (least : Int)] w fun e w' => e = .returned (.agg (pv ptZ)) ∧ Below w.heap.size w w' := by
  have hzp := zero_pt
  obtain ⟨Z, hZ⟩ : ∃ q : Pt, q = ptZ := ⟨_, rfl⟩
  have hz0 : Try.prog.built 29 [] = some (pv Z) := by rw [hZ]; kernel_rfl
  rw [← hZ]
  have HZQ := Lib.hid hZ
  have hs : s < w.heap.size := by
    rcases Nat.lt_or_ge s w.heap.size with h' | h'
    · exact h'
    · rw [Array.getElem?_eq_none h'] at h; cases h
  obtain ⟨W0, hW0⟩ : ∃ W0, W0 = w.alloc (.cells (pv ptZ) 29) := ⟨_, rfl⟩
  have b0 : Below w.heap.size w W0 := by rw [hW0]; exact (Below.refl _ _).alloc (Nat.le_refl _) _
  have z0 : W0.heap.size = w.heap.size + 1 := by rw [hW0]; simp
  have r0 : W0.heap[w.heap.size]? = some (.cells (pv ptZ) 29 (0, 0)) := by rw [hW0]; exact heap_alloc_new w _
  have H0 := Lib.hid (all_n s least W0 ((b0.block s hs).trans h))
  have B0 := Lib.hid b0
  have Z0 := Lib.hid z0
  have R0 := Lib.hid r0
  have HW0 := Lib.hid hW0
  clear hW0 b0 z0 r0 h hs hZ
  go_enter Try.func37, Try.ntmps37
  go_wp2_with fail
  rw [← HW0.out]
  refine H0.out.mono ?_
  rintro e w1 ⟨rfl, b1⟩
  have B1 := Lib.hid (B0.out.trans (b1.mono B0.out.size))
  have e2 : w1.heap[w.heap.size]? = some (.cells (pv ptZ) 29 (0, 0)) := (b1.block _ (by have := Z0.out; omega)).trans R0.out
  clear b1
  go_wp2_with (first
    | (refine wpList_build_as' rfl 29 #[] rfl _ _ hz0 (by kernel_rfl) ?_)
    | (refine wpList_store_row rfl 29 (.tmp 4) (.tmp 12) rfl w.heap.size (pv Z) rfl rfl 29 (pv ptZ) e2 (size_pv Z) (by rw [show (pv Z).size = 33 from rowV_size _ _]; exact rowV_size _ _) (rowV_one 33 _ (pf_one Z)) ?_)
    | fail)
  exact bodyPost_ret (v := .agg (pv Z)) (results_cell_row rfl _ _ w.heap.size 29 (pv Z) (0, 0) _ rfl (setRow_heap _ _ _ _ _ _ e2) Try.underlying29 rfl (size_pv Z)) rfl ⟨rfl, below_setRow B1.out (Nat.le_refl _) _⟩
set_option maxRecDepth 1000000 in
set_option maxHeartbeats 4000000 in
theorem best_n (v : Value) (w : World) (h : NoG v w) : Calls Try.prog 19 #[v] w fun e w' => e = .returned (.agg (pv ptZ)) ∧ Below w.heap.size w w' := by
  have hzp := zero_pt
  obtain ⟨W0, hW0⟩ : ∃ W0, W0 = w.alloc (.cells (pv ptZ) 29) := ⟨_, rfl⟩
  obtain ⟨W1, hW1⟩ : ∃ W1, W1 = W0.alloc (.cells noStore 73) := ⟨_, rfl⟩
  have b0 : Below w.heap.size w W0 := by rw [hW0]; exact (Below.refl _ _).alloc (Nat.le_refl _) _
  have b1 : Below W0.heap.size W0 W1 := by rw [hW1]; exact (Below.refl _ _).alloc (Nat.le_refl _) _
  have z0 : W0.heap.size = w.heap.size + 1 := by rw [hW0]; simp
  have z1 : W1.heap.size = W0.heap.size + 1 := by rw [hW1]; simp
  have r0 : W1.heap[w.heap.size]? = some (.cells (pv ptZ) 29 (0, 0)) := (b1.block _ (by omega)).trans (by rw [hW0]; exact heap_alloc_new w _)
  have HS := Lib.hid (seen_n v W0 (h.below b0))
  rw [← hW1] at HS
  obtain ⟨Z, hZ⟩ : ∃ q : Pt, q = ptZ := ⟨_, rfl⟩
  have HL := Lib.hid (last_n W0.heap.size 2 W1 (by rw [hW1]; exact heap_alloc_new W0 _))
  rw [← hZ] at HL ⊢
  have HZQ := Lib.hid hZ
  have B1 := Lib.hid (b0.trans (b1.mono b0.size))
  have Z1 := Lib.hid (show w.heap.size < W1.heap.size by omega)
  have R0 := Lib.hid r0
  have HW0 := Lib.hid hW0
  clear hW0 hW1 b0 b1 z0 z1 r0 h hZ
  go_enter Try.func19, Try.ntmps19
  go_wp2_with fail
  rw [← HW0.out]
  refine HS.out.mono ?_
  rintro e w1 ⟨rfl, rfl⟩
  go_wp2_with fail
  refine HL.out.mono ?_
  rintro e w2 ⟨rfl, b2⟩
  have B2 := Lib.hid (B1.out.trans (b2.mono B1.out.size))
  have e2 : w2.heap[w.heap.size]? = some (.cells (pv ptZ) 29 (0, 0)) := (b2.block _ Z1.out).trans R0.out
  clear b2
  go_wp2_with (first
    | (refine wpList_store_row rfl 29 (.tmp 2) (.tmp 5) rfl w.heap.size (pv Z) rfl rfl 29 (pv ptZ) e2 (size_pv Z) (by rw [show (pv Z).size = 33 from rowV_size _ _]; exact rowV_size _ _) (rowV_one 33 _ (pf_one Z)) ?_)
    | fail)
  exact bodyPost_ret (v := .agg (pv Z)) (results_cell_row rfl _ _ w.heap.size 29 (pv Z) (0, 0) _ rfl (setRow_heap _ _ _ _ _ _ e2) Try.underlying29 rfl (size_pv Z)) rfl ⟨rfl, below_setRow B2.out (Nat.le_refl _) _⟩
set_option maxRecDepth 1000000 in
set_option maxHeartbeats 4000000 in
theorem highest_n (v : Value) (w : World) (h : NoG v w) : Calls Try.prog 20 #[v] w fun e w' => e = .returned (.agg (pv ptZ)) ∧ Below w.heap.size w w' := by
  have hzp := zero_pt
  obtain ⟨W0, hW0⟩ : ∃ W0, W0 = w.alloc (.cells (pv ptZ) 29) := ⟨_, rfl⟩
  obtain ⟨W1, hW1⟩ : ∃ W1, W1 = W0.alloc (.cells noStore 73) := ⟨_, rfl⟩
  have b0 : Below w.heap.size w W0 := by rw [hW0]; exact (Below.refl _ _).alloc (Nat.le_refl _) _
  have b1 : Below W0.heap.size W0 W1 := by rw [hW1]; exact (Below.refl _ _).alloc (Nat.le_refl _) _
  have z0 : W0.heap.size = w.heap.size + 1 := by rw [hW0]; simp
  have z1 : W1.heap.size = W0.heap.size + 1 := by rw [hW1]; simp
  have r0 : W1.heap[w.heap.size]? = some (.cells (pv ptZ) 29 (0, 0)) := (b1.block _ (by omega)).trans (by rw [hW0]; exact heap_alloc_new w _)
  have HS := Lib.hid (seen_n v W0 (h.below b0))
  rw [← hW1] at HS
  obtain ⟨Z, hZ⟩ : ∃ q : Pt, q = ptZ := ⟨_, rfl⟩
  have HL := Lib.hid (last_n W0.heap.size 1 W1 (by rw [hW1]; exact heap_alloc_new W0 _))
  rw [← hZ] at HL ⊢
  have HZQ := Lib.hid hZ
  have B1 := Lib.hid (b0.trans (b1.mono b0.size))
  have Z1 := Lib.hid (show w.heap.size < W1.heap.size by omega)
  have R0 := Lib.hid r0
  have HW0 := Lib.hid hW0
  clear hW0 hW1 b0 b1 z0 z1 r0 h hZ
  go_enter Try.func20, Try.ntmps20
  go_wp2_with fail
  rw [← HW0.out]
  refine HS.out.mono ?_
  rintro e w1 ⟨rfl, rfl⟩
  go_wp2_with fail
  refine HL.out.mono ?_
  rintro e w2 ⟨rfl, b2⟩
  have B2 := Lib.hid (B1.out.trans (b2.mono B1.out.size))
  have e2 : w2.heap[w.heap.size]? = some (.cells (pv ptZ) 29 (0, 0)) := (b2.block _ Z1.out).trans R0.out
  clear b2
  go_wp2_with (first
    | (refine wpList_store_row rfl 29 (.tmp 2) (.tmp 5) rfl w.heap.size (pv Z) rfl rfl 29 (pv ptZ) e2 (size_pv Z) (by rw [show (pv Z).size = 33 from rowV_size _ _]; exact rowV_size _ _) (rowV_one 33 _ (pf_one Z)) ?_)
    | fail)
  exact bodyPost_ret (v := .agg (pv Z)) (results_cell_row rfl _ _ w.heap.size 29 (pv Z) (0, 0) _ rfl (setRow_heap _ _ _ _ _ _ e2) Try.underlying29 rfl (size_pv Z)) rfl ⟨rfl, below_setRow B2.out (Nat.le_refl _) _⟩
end Go.Proofs.Ytdgkgkopjbnimaa
