/- Do two votes break the rules: the document's answer; the chapter's rows. -/
import Derived.Test.YtildenhbcpgiiaaSlVote
namespace Go.Proofs.Ytildenhbcpgiiaa
open Go.ChangeShapes Go.WideShapes Go.ChangeAt Go.RowKit
set_option linter.unusedVariables false
set_option maxRecDepth 100000

set_option maxHeartbeats 4000000 in
theorem refRound_c (n m : Int) (x y : Lk) (sv su : Value) (w : World) : Calls Try.prog 15 #[.agg (vtw n x sv), .agg (vtw m y su)] w fun e w' => e = .returned (.bool (rnd x y)) ∧ Below w.heap.size w w' := by
  obtain ⟨W0, hW0⟩ : ∃ W0, W0 = w.alloc (.cells (vtw n x sv) 29) := ⟨_, rfl⟩
  obtain ⟨W1, hW1⟩ : ∃ W1, W1 = W0.alloc (.cells (vtw m y su) 29) := ⟨_, rfl⟩
  have b0 : Below w.heap.size w W0 := by rw [hW0]; exact (Below.refl _ _).alloc (Nat.le_refl _) _
  have b1 : Below W0.heap.size W0 W1 := by rw [hW1]; exact (Below.refl _ _).alloc (Nat.le_refl _) _
  have v0 : VtK w.heap.size n x sv W0 := by rw [hW0]; exact VtK.new
  have v1 := v0.below b1 v0.lt
  have u1 : VtK W0.heap.size m y su W1 := by rw [hW1]; exact VtK.new
  have s1 := v1.epoch
  have s2 := v1.epochT
  have z0 : W0.heap.size = w.heap.size + 1 := by rw [hW0]; simp
  have s3 := u1.epoch
  have s4 := u1.epochT
  rw [z0] at s3 s4
  have HW0 := Lib.hid hW0
  have HW1 := Lib.hid hW1
  have HB := Lib.hid (b0.trans (b1.mono b0.size))
  clear hW0 hW1 b0 b1 v0 v1 u1 z0
  by_cases c1 : x.s.e < y.s.e
  · have d1 : decide ((x.s.e : Int) < (y.s.e : Int)) = true := by rw [lt_n]; exact decide_eq_true c1
    go_enter Try.func15, Try.ntmps15
    go_upto_region 1 with fail
    rw [← HW0.out, ← HW1.out]
    go_wp2_with fail
    go_ret
    exact ⟨by rw [rnd, decide_eq_true c1, Bool.true_and]; simp, HB.out⟩
  · have d1 : decide ((x.s.e : Int) < (y.s.e : Int)) = false := by rw [lt_n]; exact decide_eq_false c1
    go_enter Try.func15, Try.ntmps15
    go_upto_region 1 with fail
    rw [← HW0.out, ← HW1.out]
    go_wp2_with fail
    go_ret
    exact ⟨by rw [rnd, decide_eq_false c1, Bool.false_and]; simp, HB.out⟩
set_option maxHeartbeats 8000000 in
theorem rb_t (n m : Int) (x y : Lk) (sv su : Value) (w : World) (h1 : decide (x.s = y.s) = true) (h2 : decide (x.t = y.t) = true)  : Calls Try.prog 7 #[.agg (vtw n x sv), .agg (vtw m y su)] w fun e w' => e = .returned (.bool false) ∧ Below w.heap.size w w' := by
  obtain ⟨W0, hW0⟩ : ∃ W0, W0 = w.alloc (.cells (vtw n x sv) 29) := ⟨_, rfl⟩
  obtain ⟨W1, hW1⟩ : ∃ W1, W1 = W0.alloc (.cells (vtw m y su) 29) := ⟨_, rfl⟩
  have b0 : Below w.heap.size w W0 := by rw [hW0]; exact (Below.refl _ _).alloc (Nat.le_refl _) _
  have b1 : Below W0.heap.size W0 W1 := by rw [hW1]; exact (Below.refl _ _).alloc (Nat.le_refl _) _
  have v0 : VtK w.heap.size n x sv W0 := by rw [hW0]; exact VtK.new
  have v1 := v0.below b1 v0.lt
  have z0 : W0.heap.size = w.heap.size + 1 := by rw [hW0]; simp
  have u1 : VtK (w.heap.size + 1) m y su W1 := by rw [← z0, hW1]; exact VtK.new
  obtain ⟨gx, hgx⟩ : ∃ gx, gx = w.heap.size := ⟨_, rfl⟩
  obtain ⟨gy, hgy⟩ : ∃ gy, gy = w.heap.size + 1 := ⟨_, rfl⟩
  rw [← hgx] at v1
  rw [← hgy] at u1
  have GX := Lib.hid hgx
  have GY := Lib.hid hgy
  have V1 := Lib.hid (And.intro v1 u1)
  have VS := Lib.hid (And.intro v1.src u1.src)
  have VT := Lib.hid (And.intro v1.tgt u1.tgt)
  have VA := Lib.hid (And.intro v1.all u1.all)
  have s1 := v1.epochT
  have s2 := u1.epochT
  have HW0 := Lib.hid hW0
  have HW1 := Lib.hid hW1
  have HB := Lib.hid (b0.trans (b1.mono b0.size))
  clear hW0 hW1 b0 b1 v0 v1 u1 z0 hgx hgy
  have E1 := Lib.hid h1
  have E2 := Lib.hid h2
  clear h1 h2
  go_enter Try.func7, Try.ntmps7
  go_upto_region 1 with fail
  rw [← HW0.out, ← HW1.out]
  rw [← GY.out, ← GX.out]
  go_wp2_with (first
    | (refine BigFrame.wpList_want rfl (fun K hK => ?_); refine wp_load_midC 26 (.tmp 5) rfl gx 1 rfl (pC x.s) _ (pC_arr _) _ VS.out.1 Try.underlying26 rfl (size_pv _) ?_; refine hK _ _ ?_; clear hK K)
    | (refine BigFrame.wpList_want rfl (fun K hK => ?_); refine wp_load_midC 26 (.tmp 7) rfl gy 1 rfl (pC y.s) _ (pC_arr _) _ VS.out.2 Try.underlying26 rfl (size_pv _) ?_; refine hK _ _ ?_; clear hK K)
    | (refine BigFrame.wpList_want rfl (fun K hK => ?_); refine wp_load_midC 26 (.tmp 11) rfl gx 34 rfl (pC x.t) _ (pC_arr _) _ VT.out.1 Try.underlying26 rfl (size_pv _) ?_; refine hK _ _ ?_; clear hK K)
    | (refine BigFrame.wpList_want rfl (fun K hK => ?_); refine wp_load_midC 26 (.tmp 13) rfl gy 34 rfl (pC y.t) _ (pC_arr _) _ VT.out.2 Try.underlying26 rfl (size_pv _) ?_; refine hK _ _ ?_; clear hK K)
    | (refine BigFrame.wpList_want rfl (fun K hK => ?_); refine wp_eql 26 26 (.tmp 6) (.tmp 8) rfl (pv x.s) (pv y.s) rfl rfl guard_point _ (eq_point9 x.s y.s _) ?_; rw [E1.out]; refine hK _ _ ?_; clear hK K)
    | (refine BigFrame.wpList_want rfl (fun K hK => ?_); refine wp_eql 26 26 (.tmp 12) (.tmp 14) rfl (pv x.t) (pv y.t) rfl rfl guard_point _ (eq_point9 x.t y.t _) ?_; rw [E2.out]; refine hK _ _ ?_; clear hK K)
    | (refine BigFrame.wpList_want rfl (fun K hK => ?_); refine wp_load_midC 29 (.tmp 2) rfl gx 0 rfl (vtC n x sv) _ (vtC_arr n x sv) _ VA.out.1 Try.underlying29 rfl (size_vtw n x sv) ?_; refine hK _ _ ?_; clear hK K)
    | (refine BigFrame.wpList_want rfl (fun K hK => ?_); refine wp_load_midC 29 (.tmp 3) rfl gy 0 rfl (vtC m y su) _ (vtC_arr m y su) _ VA.out.2 Try.underlying29 rfl (size_vtw m y su) ?_; refine hK _ _ ?_; clear hK K)
    | fail)
  go_ret
  exact ⟨rfl, HB.out⟩
set_option maxHeartbeats 8000000 in
theorem rb_sb (n m : Int) (x y : Lk) (sv su : Value) (w : World) (h1 : decide (x.s = y.s) = false) (h3 : x.t.e = y.t.e) : Calls Try.prog 7 #[.agg (vtw n x sv), .agg (vtw m y su)] w fun e w' => e = .returned (.bool true) ∧ Below w.heap.size w w' := by
  obtain ⟨W0, hW0⟩ : ∃ W0, W0 = w.alloc (.cells (vtw n x sv) 29) := ⟨_, rfl⟩
  obtain ⟨W1, hW1⟩ : ∃ W1, W1 = W0.alloc (.cells (vtw m y su) 29) := ⟨_, rfl⟩
  have b0 : Below w.heap.size w W0 := by rw [hW0]; exact (Below.refl _ _).alloc (Nat.le_refl _) _
  have b1 : Below W0.heap.size W0 W1 := by rw [hW1]; exact (Below.refl _ _).alloc (Nat.le_refl _) _
  have v0 : VtK w.heap.size n x sv W0 := by rw [hW0]; exact VtK.new
  have v1 := v0.below b1 v0.lt
  have z0 : W0.heap.size = w.heap.size + 1 := by rw [hW0]; simp
  have u1 : VtK (w.heap.size + 1) m y su W1 := by rw [← z0, hW1]; exact VtK.new
  obtain ⟨gx, hgx⟩ : ∃ gx, gx = w.heap.size := ⟨_, rfl⟩
  obtain ⟨gy, hgy⟩ : ∃ gy, gy = w.heap.size + 1 := ⟨_, rfl⟩
  rw [← hgx] at v1
  rw [← hgy] at u1
  have GX := Lib.hid hgx
  have GY := Lib.hid hgy
  have V1 := Lib.hid (And.intro v1 u1)
  have VS := Lib.hid (And.intro v1.src u1.src)
  have VT := Lib.hid (And.intro v1.tgt u1.tgt)
  have VA := Lib.hid (And.intro v1.all u1.all)
  have s1 := v1.epochT
  have s2 := u1.epochT
  have HW0 := Lib.hid hW0
  have HW1 := Lib.hid hW1
  have HB := Lib.hid (b0.trans (b1.mono b0.size))
  clear hW0 hW1 b0 b1 v0 v1 u1 z0 hgx hgy
  have E1 := Lib.hid h1
  have d3 : ((x.t.e : Int) == (y.t.e : Int)) = true := by rw [beq_iff_eq]; omega
  clear h1 h3
  go_enter Try.func7, Try.ntmps7
  go_upto_region 1 with fail
  rw [← HW0.out, ← HW1.out]
  rw [← GY.out, ← GX.out]
  go_wp2_with (first
    | (refine BigFrame.wpList_want rfl (fun K hK => ?_); refine wp_load_midC 26 (.tmp 5) rfl gx 1 rfl (pC x.s) _ (pC_arr _) _ VS.out.1 Try.underlying26 rfl (size_pv _) ?_; refine hK _ _ ?_; clear hK K)
    | (refine BigFrame.wpList_want rfl (fun K hK => ?_); refine wp_load_midC 26 (.tmp 7) rfl gy 1 rfl (pC y.s) _ (pC_arr _) _ VS.out.2 Try.underlying26 rfl (size_pv _) ?_; refine hK _ _ ?_; clear hK K)
    | (refine BigFrame.wpList_want rfl (fun K hK => ?_); refine wp_load_midC 26 (.tmp 11) rfl gx 34 rfl (pC x.t) _ (pC_arr _) _ VT.out.1 Try.underlying26 rfl (size_pv _) ?_; refine hK _ _ ?_; clear hK K)
    | (refine BigFrame.wpList_want rfl (fun K hK => ?_); refine wp_load_midC 26 (.tmp 13) rfl gy 34 rfl (pC y.t) _ (pC_arr _) _ VT.out.2 Try.underlying26 rfl (size_pv _) ?_; refine hK _ _ ?_; clear hK K)
    | (refine BigFrame.wpList_want rfl (fun K hK => ?_); refine wp_eql 26 26 (.tmp 6) (.tmp 8) rfl (pv x.s) (pv y.s) rfl rfl guard_point _ (eq_point9 x.s y.s _) ?_; rw [E1.out]; refine hK _ _ ?_; clear hK K)
    | (refine BigFrame.wpList_want rfl (fun K hK => ?_); refine wp_eql 26 26 (.tmp 12) (.tmp 14) rfl (pv x.t) (pv y.t) rfl rfl guard_point _ (eq_point9 x.t y.t _) ?_; rw [E2.out]; refine hK _ _ ?_; clear hK K)
    | (refine BigFrame.wpList_want rfl (fun K hK => ?_); refine wp_load_midC 29 (.tmp 2) rfl gx 0 rfl (vtC n x sv) _ (vtC_arr n x sv) _ VA.out.1 Try.underlying29 rfl (size_vtw n x sv) ?_; refine hK _ _ ?_; clear hK K)
    | (refine BigFrame.wpList_want rfl (fun K hK => ?_); refine wp_load_midC 29 (.tmp 3) rfl gy 0 rfl (vtC m y su) _ (vtC_arr m y su) _ VA.out.2 Try.underlying29 rfl (size_vtw m y su) ?_; refine hK _ _ ?_; clear hK K)
    | fail)
  go_ret
  exact ⟨rfl, HB.out⟩
set_option maxHeartbeats 8000000 in
theorem rb_sc (n m : Int) (x y : Lk) (sv su : Value) (w : World) (h1 : decide (x.s = y.s) = false) (h3 : x.t.e ≠ y.t.e) (h4 : rnd x y = true) : Calls Try.prog 7 #[.agg (vtw n x sv), .agg (vtw m y su)] w fun e w' => e = .returned (.bool true) ∧ Below w.heap.size w w' := by
  obtain ⟨W0, hW0⟩ : ∃ W0, W0 = w.alloc (.cells (vtw n x sv) 29) := ⟨_, rfl⟩
  obtain ⟨W1, hW1⟩ : ∃ W1, W1 = W0.alloc (.cells (vtw m y su) 29) := ⟨_, rfl⟩
  have b0 : Below w.heap.size w W0 := by rw [hW0]; exact (Below.refl _ _).alloc (Nat.le_refl _) _
  have b1 : Below W0.heap.size W0 W1 := by rw [hW1]; exact (Below.refl _ _).alloc (Nat.le_refl _) _
  have v0 : VtK w.heap.size n x sv W0 := by rw [hW0]; exact VtK.new
  have v1 := v0.below b1 v0.lt
  have z0 : W0.heap.size = w.heap.size + 1 := by rw [hW0]; simp
  have u1 : VtK (w.heap.size + 1) m y su W1 := by rw [← z0, hW1]; exact VtK.new
  obtain ⟨gx, hgx⟩ : ∃ gx, gx = w.heap.size := ⟨_, rfl⟩
  obtain ⟨gy, hgy⟩ : ∃ gy, gy = w.heap.size + 1 := ⟨_, rfl⟩
  rw [← hgx] at v1
  rw [← hgy] at u1
  have GX := Lib.hid hgx
  have GY := Lib.hid hgy
  have V1 := Lib.hid (And.intro v1 u1)
  have VS := Lib.hid (And.intro v1.src u1.src)
  have VT := Lib.hid (And.intro v1.tgt u1.tgt)
  have VA := Lib.hid (And.intro v1.all u1.all)
  have s1 := v1.epochT
  have s2 := u1.epochT
  have HW0 := Lib.hid hW0
  have HW1 := Lib.hid hW1
  have HB := Lib.hid (b0.trans (b1.mono b0.size))
  clear hW0 hW1 b0 b1 v0 v1 u1 z0 hgx hgy
  have E1 := Lib.hid h1
  have d3 : ((x.t.e : Int) == (y.t.e : Int)) = false := by rw [beq_eq_false_iff_ne]; omega
  have E4 := Lib.hid h4
  clear h1 h3 h4
  go_enter Try.func7, Try.ntmps7
  go_upto_region 1 with fail
  rw [← HW0.out, ← HW1.out]
  rw [← GY.out, ← GX.out]
  go_wp2_with (first
    | (refine BigFrame.wpList_want rfl (fun K hK => ?_); refine wp_load_midC 26 (.tmp 5) rfl gx 1 rfl (pC x.s) _ (pC_arr _) _ VS.out.1 Try.underlying26 rfl (size_pv _) ?_; refine hK _ _ ?_; clear hK K)
    | (refine BigFrame.wpList_want rfl (fun K hK => ?_); refine wp_load_midC 26 (.tmp 7) rfl gy 1 rfl (pC y.s) _ (pC_arr _) _ VS.out.2 Try.underlying26 rfl (size_pv _) ?_; refine hK _ _ ?_; clear hK K)
    | (refine BigFrame.wpList_want rfl (fun K hK => ?_); refine wp_load_midC 26 (.tmp 11) rfl gx 34 rfl (pC x.t) _ (pC_arr _) _ VT.out.1 Try.underlying26 rfl (size_pv _) ?_; refine hK _ _ ?_; clear hK K)
    | (refine BigFrame.wpList_want rfl (fun K hK => ?_); refine wp_load_midC 26 (.tmp 13) rfl gy 34 rfl (pC y.t) _ (pC_arr _) _ VT.out.2 Try.underlying26 rfl (size_pv _) ?_; refine hK _ _ ?_; clear hK K)
    | (refine BigFrame.wpList_want rfl (fun K hK => ?_); refine wp_eql 26 26 (.tmp 6) (.tmp 8) rfl (pv x.s) (pv y.s) rfl rfl guard_point _ (eq_point9 x.s y.s _) ?_; rw [E1.out]; refine hK _ _ ?_; clear hK K)
    | (refine BigFrame.wpList_want rfl (fun K hK => ?_); refine wp_eql 26 26 (.tmp 12) (.tmp 14) rfl (pv x.t) (pv y.t) rfl rfl guard_point _ (eq_point9 x.t y.t _) ?_; rw [E2.out]; refine hK _ _ ?_; clear hK K)
    | (refine BigFrame.wpList_want rfl (fun K hK => ?_); refine wp_load_midC 29 (.tmp 2) rfl gx 0 rfl (vtC n x sv) _ (vtC_arr n x sv) _ VA.out.1 Try.underlying29 rfl (size_vtw n x sv) ?_; refine hK _ _ ?_; clear hK K)
    | (refine BigFrame.wpList_want rfl (fun K hK => ?_); refine wp_load_midC 29 (.tmp 3) rfl gy 0 rfl (vtC m y su) _ (vtC_arr m y su) _ VA.out.2 Try.underlying29 rfl (size_vtw m y su) ?_; refine hK _ _ ?_; clear hK K)
    | fail)
  refine (refRound_c n m x y sv su _).mono ?_
  rintro e w2 ⟨rfl, b2⟩
  rw [E4.out]
  have VB := Lib.hid (And.intro (V1.out.1.below b2 V1.out.1.lt).all (V1.out.2.below b2 V1.out.2.lt).all)
  have B2 := Lib.hid (HB.out.trans (b2.mono HB.out.size))
  clear b2
  go_wp2_with (first
    | (refine BigFrame.wpList_want rfl (fun K hK => ?_); refine wp_load_midC 29 (.tmp 2) rfl gx 0 rfl (vtC n x sv) _ (vtC_arr n x sv) _ VB.out.1 Try.underlying29 rfl (size_vtw n x sv) ?_; refine hK _ _ ?_; clear hK K)
    | (refine BigFrame.wpList_want rfl (fun K hK => ?_); refine wp_load_midC 29 (.tmp 3) rfl gy 0 rfl (vtC m y su) _ (vtC_arr m y su) _ VB.out.2 Try.underlying29 rfl (size_vtw m y su) ?_; refine hK _ _ ?_; clear hK K)
    | fail)
  go_ret
  exact ⟨rfl, B2.out⟩
set_option maxHeartbeats 8000000 in
theorem rb_sd (n m : Int) (x y : Lk) (sv su : Value) (w : World) (h1 : decide (x.s = y.s) = false) (h3 : x.t.e ≠ y.t.e) (h4 : rnd x y = false) : Calls Try.prog 7 #[.agg (vtw n x sv), .agg (vtw m y su)] w fun e w' => e = .returned (.bool (rnd y x)) ∧ Below w.heap.size w w' := by
  obtain ⟨W0, hW0⟩ : ∃ W0, W0 = w.alloc (.cells (vtw n x sv) 29) := ⟨_, rfl⟩
  obtain ⟨W1, hW1⟩ : ∃ W1, W1 = W0.alloc (.cells (vtw m y su) 29) := ⟨_, rfl⟩
  have b0 : Below w.heap.size w W0 := by rw [hW0]; exact (Below.refl _ _).alloc (Nat.le_refl _) _
  have b1 : Below W0.heap.size W0 W1 := by rw [hW1]; exact (Below.refl _ _).alloc (Nat.le_refl _) _
  have v0 : VtK w.heap.size n x sv W0 := by rw [hW0]; exact VtK.new
  have v1 := v0.below b1 v0.lt
  have z0 : W0.heap.size = w.heap.size + 1 := by rw [hW0]; simp
  have u1 : VtK (w.heap.size + 1) m y su W1 := by rw [← z0, hW1]; exact VtK.new
  obtain ⟨gx, hgx⟩ : ∃ gx, gx = w.heap.size := ⟨_, rfl⟩
  obtain ⟨gy, hgy⟩ : ∃ gy, gy = w.heap.size + 1 := ⟨_, rfl⟩
  rw [← hgx] at v1
  rw [← hgy] at u1
  have GX := Lib.hid hgx
  have GY := Lib.hid hgy
  have V1 := Lib.hid (And.intro v1 u1)
  have VS := Lib.hid (And.intro v1.src u1.src)
  have VT := Lib.hid (And.intro v1.tgt u1.tgt)
  have VA := Lib.hid (And.intro v1.all u1.all)
  have s1 := v1.epochT
  have s2 := u1.epochT
  have HW0 := Lib.hid hW0
  have HW1 := Lib.hid hW1
  have HB := Lib.hid (b0.trans (b1.mono b0.size))
  clear hW0 hW1 b0 b1 v0 v1 u1 z0 hgx hgy
  have E1 := Lib.hid h1
  have d3 : ((x.t.e : Int) == (y.t.e : Int)) = false := by rw [beq_eq_false_iff_ne]; omega
  have E4 := Lib.hid h4
  clear h1 h3 h4
  go_enter Try.func7, Try.ntmps7
  go_upto_region 1 with fail
  rw [← HW0.out, ← HW1.out]
  rw [← GY.out, ← GX.out]
  go_wp2_with (first
    | (refine BigFrame.wpList_want rfl (fun K hK => ?_); refine wp_load_midC 26 (.tmp 5) rfl gx 1 rfl (pC x.s) _ (pC_arr _) _ VS.out.1 Try.underlying26 rfl (size_pv _) ?_; refine hK _ _ ?_; clear hK K)
    | (refine BigFrame.wpList_want rfl (fun K hK => ?_); refine wp_load_midC 26 (.tmp 7) rfl gy 1 rfl (pC y.s) _ (pC_arr _) _ VS.out.2 Try.underlying26 rfl (size_pv _) ?_; refine hK _ _ ?_; clear hK K)
    | (refine BigFrame.wpList_want rfl (fun K hK => ?_); refine wp_load_midC 26 (.tmp 11) rfl gx 34 rfl (pC x.t) _ (pC_arr _) _ VT.out.1 Try.underlying26 rfl (size_pv _) ?_; refine hK _ _ ?_; clear hK K)
    | (refine BigFrame.wpList_want rfl (fun K hK => ?_); refine wp_load_midC 26 (.tmp 13) rfl gy 34 rfl (pC y.t) _ (pC_arr _) _ VT.out.2 Try.underlying26 rfl (size_pv _) ?_; refine hK _ _ ?_; clear hK K)
    | (refine BigFrame.wpList_want rfl (fun K hK => ?_); refine wp_eql 26 26 (.tmp 6) (.tmp 8) rfl (pv x.s) (pv y.s) rfl rfl guard_point _ (eq_point9 x.s y.s _) ?_; rw [E1.out]; refine hK _ _ ?_; clear hK K)
    | (refine BigFrame.wpList_want rfl (fun K hK => ?_); refine wp_eql 26 26 (.tmp 12) (.tmp 14) rfl (pv x.t) (pv y.t) rfl rfl guard_point _ (eq_point9 x.t y.t _) ?_; rw [E2.out]; refine hK _ _ ?_; clear hK K)
    | (refine BigFrame.wpList_want rfl (fun K hK => ?_); refine wp_load_midC 29 (.tmp 2) rfl gx 0 rfl (vtC n x sv) _ (vtC_arr n x sv) _ VA.out.1 Try.underlying29 rfl (size_vtw n x sv) ?_; refine hK _ _ ?_; clear hK K)
    | (refine BigFrame.wpList_want rfl (fun K hK => ?_); refine wp_load_midC 29 (.tmp 3) rfl gy 0 rfl (vtC m y su) _ (vtC_arr m y su) _ VA.out.2 Try.underlying29 rfl (size_vtw m y su) ?_; refine hK _ _ ?_; clear hK K)
    | fail)
  refine (refRound_c n m x y sv su _).mono ?_
  rintro e w2 ⟨rfl, b2⟩
  rw [E4.out]
  have VB := Lib.hid (And.intro (V1.out.1.below b2 V1.out.1.lt).all (V1.out.2.below b2 V1.out.2.lt).all)
  have B2 := Lib.hid (HB.out.trans (b2.mono HB.out.size))
  clear b2
  go_wp2_with (first
    | (refine BigFrame.wpList_want rfl (fun K hK => ?_); refine wp_load_midC 29 (.tmp 2) rfl gx 0 rfl (vtC n x sv) _ (vtC_arr n x sv) _ VB.out.1 Try.underlying29 rfl (size_vtw n x sv) ?_; refine hK _ _ ?_; clear hK K)
    | (refine BigFrame.wpList_want rfl (fun K hK => ?_); refine wp_load_midC 29 (.tmp 3) rfl gy 0 rfl (vtC m y su) _ (vtC_arr m y su) _ VB.out.2 Try.underlying29 rfl (size_vtw m y su) ?_; refine hK _ _ ?_; clear hK K)
    | fail)
  refine (refRound_c m n y x su sv _).mono ?_
  rintro e w3 ⟨rfl, b3⟩
  go_wp2_with fail
  go_ret
  exact ⟨rfl, B2.out.trans (b3.mono B2.out.size)⟩
set_option maxHeartbeats 8000000 in
theorem rb_nb (n m : Int) (x y : Lk) (sv su : Value) (w : World) (h1 : decide (x.s = y.s) = true) (h2 : decide (x.t = y.t) = false) (h3 : x.t.e = y.t.e) : Calls Try.prog 7 #[.agg (vtw n x sv), .agg (vtw m y su)] w fun e w' => e = .returned (.bool true) ∧ Below w.heap.size w w' := by
  obtain ⟨W0, hW0⟩ : ∃ W0, W0 = w.alloc (.cells (vtw n x sv) 29) := ⟨_, rfl⟩
  obtain ⟨W1, hW1⟩ : ∃ W1, W1 = W0.alloc (.cells (vtw m y su) 29) := ⟨_, rfl⟩
  have b0 : Below w.heap.size w W0 := by rw [hW0]; exact (Below.refl _ _).alloc (Nat.le_refl _) _
  have b1 : Below W0.heap.size W0 W1 := by rw [hW1]; exact (Below.refl _ _).alloc (Nat.le_refl _) _
  have v0 : VtK w.heap.size n x sv W0 := by rw [hW0]; exact VtK.new
  have v1 := v0.below b1 v0.lt
  have z0 : W0.heap.size = w.heap.size + 1 := by rw [hW0]; simp
  have u1 : VtK (w.heap.size + 1) m y su W1 := by rw [← z0, hW1]; exact VtK.new
  obtain ⟨gx, hgx⟩ : ∃ gx, gx = w.heap.size := ⟨_, rfl⟩
  obtain ⟨gy, hgy⟩ : ∃ gy, gy = w.heap.size + 1 := ⟨_, rfl⟩
  rw [← hgx] at v1
  rw [← hgy] at u1
  have GX := Lib.hid hgx
  have GY := Lib.hid hgy
  have V1 := Lib.hid (And.intro v1 u1)
  have VS := Lib.hid (And.intro v1.src u1.src)
  have VT := Lib.hid (And.intro v1.tgt u1.tgt)
  have VA := Lib.hid (And.intro v1.all u1.all)
  have s1 := v1.epochT
  have s2 := u1.epochT
  have HW0 := Lib.hid hW0
  have HW1 := Lib.hid hW1
  have HB := Lib.hid (b0.trans (b1.mono b0.size))
  clear hW0 hW1 b0 b1 v0 v1 u1 z0 hgx hgy
  have E1 := Lib.hid h1
  have E2 := Lib.hid h2
  have d3 : ((x.t.e : Int) == (y.t.e : Int)) = true := by rw [beq_iff_eq]; omega
  clear h1 h2 h3
  go_enter Try.func7, Try.ntmps7
  go_upto_region 1 with fail
  rw [← HW0.out, ← HW1.out]
  rw [← GY.out, ← GX.out]
  go_wp2_with (first
    | (refine BigFrame.wpList_want rfl (fun K hK => ?_); refine wp_load_midC 26 (.tmp 5) rfl gx 1 rfl (pC x.s) _ (pC_arr _) _ VS.out.1 Try.underlying26 rfl (size_pv _) ?_; refine hK _ _ ?_; clear hK K)
    | (refine BigFrame.wpList_want rfl (fun K hK => ?_); refine wp_load_midC 26 (.tmp 7) rfl gy 1 rfl (pC y.s) _ (pC_arr _) _ VS.out.2 Try.underlying26 rfl (size_pv _) ?_; refine hK _ _ ?_; clear hK K)
    | (refine BigFrame.wpList_want rfl (fun K hK => ?_); refine wp_load_midC 26 (.tmp 11) rfl gx 34 rfl (pC x.t) _ (pC_arr _) _ VT.out.1 Try.underlying26 rfl (size_pv _) ?_; refine hK _ _ ?_; clear hK K)
    | (refine BigFrame.wpList_want rfl (fun K hK => ?_); refine wp_load_midC 26 (.tmp 13) rfl gy 34 rfl (pC y.t) _ (pC_arr _) _ VT.out.2 Try.underlying26 rfl (size_pv _) ?_; refine hK _ _ ?_; clear hK K)
    | (refine BigFrame.wpList_want rfl (fun K hK => ?_); refine wp_eql 26 26 (.tmp 6) (.tmp 8) rfl (pv x.s) (pv y.s) rfl rfl guard_point _ (eq_point9 x.s y.s _) ?_; rw [E1.out]; refine hK _ _ ?_; clear hK K)
    | (refine BigFrame.wpList_want rfl (fun K hK => ?_); refine wp_eql 26 26 (.tmp 12) (.tmp 14) rfl (pv x.t) (pv y.t) rfl rfl guard_point _ (eq_point9 x.t y.t _) ?_; rw [E2.out]; refine hK _ _ ?_; clear hK K)
    | (refine BigFrame.wpList_want rfl (fun K hK => ?_); refine wp_load_midC 29 (.tmp 2) rfl gx 0 rfl (vtC n x sv) _ (vtC_arr n x sv) _ VA.out.1 Try.underlying29 rfl (size_vtw n x sv) ?_; refine hK _ _ ?_; clear hK K)
    | (refine BigFrame.wpList_want rfl (fun K hK => ?_); refine wp_load_midC 29 (.tmp 3) rfl gy 0 rfl (vtC m y su) _ (vtC_arr m y su) _ VA.out.2 Try.underlying29 rfl (size_vtw m y su) ?_; refine hK _ _ ?_; clear hK K)
    | fail)
  go_ret
  exact ⟨rfl, HB.out⟩
set_option maxHeartbeats 8000000 in
theorem rb_nc (n m : Int) (x y : Lk) (sv su : Value) (w : World) (h1 : decide (x.s = y.s) = true) (h2 : decide (x.t = y.t) = false) (h3 : x.t.e ≠ y.t.e) (h4 : rnd x y = true) : Calls Try.prog 7 #[.agg (vtw n x sv), .agg (vtw m y su)] w fun e w' => e = .returned (.bool true) ∧ Below w.heap.size w w' := by
  obtain ⟨W0, hW0⟩ : ∃ W0, W0 = w.alloc (.cells (vtw n x sv) 29) := ⟨_, rfl⟩
  obtain ⟨W1, hW1⟩ : ∃ W1, W1 = W0.alloc (.cells (vtw m y su) 29) := ⟨_, rfl⟩
  have b0 : Below w.heap.size w W0 := by rw [hW0]; exact (Below.refl _ _).alloc (Nat.le_refl _) _
  have b1 : Below W0.heap.size W0 W1 := by rw [hW1]; exact (Below.refl _ _).alloc (Nat.le_refl _) _
  have v0 : VtK w.heap.size n x sv W0 := by rw [hW0]; exact VtK.new
  have v1 := v0.below b1 v0.lt
  have z0 : W0.heap.size = w.heap.size + 1 := by rw [hW0]; simp
  have u1 : VtK (w.heap.size + 1) m y su W1 := by rw [← z0, hW1]; exact VtK.new
  obtain ⟨gx, hgx⟩ : ∃ gx, gx = w.heap.size := ⟨_, rfl⟩
  obtain ⟨gy, hgy⟩ : ∃ gy, gy = w.heap.size + 1 := ⟨_, rfl⟩
  rw [← hgx] at v1
  rw [← hgy] at u1
  have GX := Lib.hid hgx
  have GY := Lib.hid hgy
  have V1 := Lib.hid (And.intro v1 u1)
  have VS := Lib.hid (And.intro v1.src u1.src)
  have VT := Lib.hid (And.intro v1.tgt u1.tgt)
  have VA := Lib.hid (And.intro v1.all u1.all)
  have s1 := v1.epochT
  have s2 := u1.epochT
  have HW0 := Lib.hid hW0
  have HW1 := Lib.hid hW1
  have HB := Lib.hid (b0.trans (b1.mono b0.size))
  clear hW0 hW1 b0 b1 v0 v1 u1 z0 hgx hgy
  have E1 := Lib.hid h1
  have E2 := Lib.hid h2
  have d3 : ((x.t.e : Int) == (y.t.e : Int)) = false := by rw [beq_eq_false_iff_ne]; omega
  have E4 := Lib.hid h4
  clear h1 h2 h3 h4
  go_enter Try.func7, Try.ntmps7
  go_upto_region 1 with fail
  rw [← HW0.out, ← HW1.out]
  rw [← GY.out, ← GX.out]
  go_wp2_with (first
    | (refine BigFrame.wpList_want rfl (fun K hK => ?_); refine wp_load_midC 26 (.tmp 5) rfl gx 1 rfl (pC x.s) _ (pC_arr _) _ VS.out.1 Try.underlying26 rfl (size_pv _) ?_; refine hK _ _ ?_; clear hK K)
    | (refine BigFrame.wpList_want rfl (fun K hK => ?_); refine wp_load_midC 26 (.tmp 7) rfl gy 1 rfl (pC y.s) _ (pC_arr _) _ VS.out.2 Try.underlying26 rfl (size_pv _) ?_; refine hK _ _ ?_; clear hK K)
    | (refine BigFrame.wpList_want rfl (fun K hK => ?_); refine wp_load_midC 26 (.tmp 11) rfl gx 34 rfl (pC x.t) _ (pC_arr _) _ VT.out.1 Try.underlying26 rfl (size_pv _) ?_; refine hK _ _ ?_; clear hK K)
    | (refine BigFrame.wpList_want rfl (fun K hK => ?_); refine wp_load_midC 26 (.tmp 13) rfl gy 34 rfl (pC y.t) _ (pC_arr _) _ VT.out.2 Try.underlying26 rfl (size_pv _) ?_; refine hK _ _ ?_; clear hK K)
    | (refine BigFrame.wpList_want rfl (fun K hK => ?_); refine wp_eql 26 26 (.tmp 6) (.tmp 8) rfl (pv x.s) (pv y.s) rfl rfl guard_point _ (eq_point9 x.s y.s _) ?_; rw [E1.out]; refine hK _ _ ?_; clear hK K)
    | (refine BigFrame.wpList_want rfl (fun K hK => ?_); refine wp_eql 26 26 (.tmp 12) (.tmp 14) rfl (pv x.t) (pv y.t) rfl rfl guard_point _ (eq_point9 x.t y.t _) ?_; rw [E2.out]; refine hK _ _ ?_; clear hK K)
    | (refine BigFrame.wpList_want rfl (fun K hK => ?_); refine wp_load_midC 29 (.tmp 2) rfl gx 0 rfl (vtC n x sv) _ (vtC_arr n x sv) _ VA.out.1 Try.underlying29 rfl (size_vtw n x sv) ?_; refine hK _ _ ?_; clear hK K)
    | (refine BigFrame.wpList_want rfl (fun K hK => ?_); refine wp_load_midC 29 (.tmp 3) rfl gy 0 rfl (vtC m y su) _ (vtC_arr m y su) _ VA.out.2 Try.underlying29 rfl (size_vtw m y su) ?_; refine hK _ _ ?_; clear hK K)
    | fail)
  refine (refRound_c n m x y sv su _).mono ?_
  rintro e w2 ⟨rfl, b2⟩
  rw [E4.out]
  have VB := Lib.hid (And.intro (V1.out.1.below b2 V1.out.1.lt).all (V1.out.2.below b2 V1.out.2.lt).all)
  have B2 := Lib.hid (HB.out.trans (b2.mono HB.out.size))
  clear b2
  go_wp2_with (first
    | (refine BigFrame.wpList_want rfl (fun K hK => ?_); refine wp_load_midC 29 (.tmp 2) rfl gx 0 rfl (vtC n x sv) _ (vtC_arr n x sv) _ VB.out.1 Try.underlying29 rfl (size_vtw n x sv) ?_; refine hK _ _ ?_; clear hK K)
    | (refine BigFrame.wpList_want rfl (fun K hK => ?_); refine wp_load_midC 29 (.tmp 3) rfl gy 0 rfl (vtC m y su) _ (vtC_arr m y su) _ VB.out.2 Try.underlying29 rfl (size_vtw m y su) ?_; refine hK _ _ ?_; clear hK K)
    | fail)
  go_ret
  exact ⟨rfl, B2.out⟩
set_option maxHeartbeats 8000000 in
theorem rb_nd (n m : Int) (x y : Lk) (sv su : Value) (w : World) (h1 : decide (x.s = y.s) = true) (h2 : decide (x.t = y.t) = false) (h3 : x.t.e ≠ y.t.e) (h4 : rnd x y = false) : Calls Try.prog 7 #[.agg (vtw n x sv), .agg (vtw m y su)] w fun e w' => e = .returned (.bool (rnd y x)) ∧ Below w.heap.size w w' := by
  obtain ⟨W0, hW0⟩ : ∃ W0, W0 = w.alloc (.cells (vtw n x sv) 29) := ⟨_, rfl⟩
  obtain ⟨W1, hW1⟩ : ∃ W1, W1 = W0.alloc (.cells (vtw m y su) 29) := ⟨_, rfl⟩
  have b0 : Below w.heap.size w W0 := by rw [hW0]; exact (Below.refl _ _).alloc (Nat.le_refl _) _
  have b1 : Below W0.heap.size W0 W1 := by rw [hW1]; exact (Below.refl _ _).alloc (Nat.le_refl _) _
  have v0 : VtK w.heap.size n x sv W0 := by rw [hW0]; exact VtK.new
  have v1 := v0.below b1 v0.lt
  have z0 : W0.heap.size = w.heap.size + 1 := by rw [hW0]; simp
  have u1 : VtK (w.heap.size + 1) m y su W1 := by rw [← z0, hW1]; exact VtK.new
  obtain ⟨gx, hgx⟩ : ∃ gx, gx = w.heap.size := ⟨_, rfl⟩
  obtain ⟨gy, hgy⟩ : ∃ gy, gy = w.heap.size + 1 := ⟨_, rfl⟩
  rw [← hgx] at v1
  rw [← hgy] at u1
  have GX := Lib.hid hgx
  have GY := Lib.hid hgy
  have V1 := Lib.hid (And.intro v1 u1)
  have VS := Lib.hid (And.intro v1.src u1.src)
  have VT := Lib.hid (And.intro v1.tgt u1.tgt)
  have VA := Lib.hid (And.intro v1.all u1.all)
  have s1 := v1.epochT
  have s2 := u1.epochT
  have HW0 := Lib.hid hW0
  have HW1 := Lib.hid hW1
  have HB := Lib.hid (b0.trans (b1.mono b0.size))
  clear hW0 hW1 b0 b1 v0 v1 u1 z0 hgx hgy
  have E1 := Lib.hid h1
  have E2 := Lib.hid h2
  have d3 : ((x.t.e : Int) == (y.t.e : Int)) = false := by rw [beq_eq_false_iff_ne]; omega
  have E4 := Lib.hid h4
  clear h1 h2 h3 h4
  go_enter Try.func7, Try.ntmps7
  go_upto_region 1 with fail
  rw [← HW0.out, ← HW1.out]
  rw [← GY.out, ← GX.out]
  go_wp2_with (first
    | (refine BigFrame.wpList_want rfl (fun K hK => ?_); refine wp_load_midC 26 (.tmp 5) rfl gx 1 rfl (pC x.s) _ (pC_arr _) _ VS.out.1 Try.underlying26 rfl (size_pv _) ?_; refine hK _ _ ?_; clear hK K)
    | (refine BigFrame.wpList_want rfl (fun K hK => ?_); refine wp_load_midC 26 (.tmp 7) rfl gy 1 rfl (pC y.s) _ (pC_arr _) _ VS.out.2 Try.underlying26 rfl (size_pv _) ?_; refine hK _ _ ?_; clear hK K)
    | (refine BigFrame.wpList_want rfl (fun K hK => ?_); refine wp_load_midC 26 (.tmp 11) rfl gx 34 rfl (pC x.t) _ (pC_arr _) _ VT.out.1 Try.underlying26 rfl (size_pv _) ?_; refine hK _ _ ?_; clear hK K)
    | (refine BigFrame.wpList_want rfl (fun K hK => ?_); refine wp_load_midC 26 (.tmp 13) rfl gy 34 rfl (pC y.t) _ (pC_arr _) _ VT.out.2 Try.underlying26 rfl (size_pv _) ?_; refine hK _ _ ?_; clear hK K)
    | (refine BigFrame.wpList_want rfl (fun K hK => ?_); refine wp_eql 26 26 (.tmp 6) (.tmp 8) rfl (pv x.s) (pv y.s) rfl rfl guard_point _ (eq_point9 x.s y.s _) ?_; rw [E1.out]; refine hK _ _ ?_; clear hK K)
    | (refine BigFrame.wpList_want rfl (fun K hK => ?_); refine wp_eql 26 26 (.tmp 12) (.tmp 14) rfl (pv x.t) (pv y.t) rfl rfl guard_point _ (eq_point9 x.t y.t _) ?_; rw [E2.out]; refine hK _ _ ?_; clear hK K)
    | (refine BigFrame.wpList_want rfl (fun K hK => ?_); refine wp_load_midC 29 (.tmp 2) rfl gx 0 rfl (vtC n x sv) _ (vtC_arr n x sv) _ VA.out.1 Try.underlying29 rfl (size_vtw n x sv) ?_; refine hK _ _ ?_; clear hK K)
    | (refine BigFrame.wpList_want rfl (fun K hK => ?_); refine wp_load_midC 29 (.tmp 3) rfl gy 0 rfl (vtC m y su) _ (vtC_arr m y su) _ VA.out.2 Try.underlying29 rfl (size_vtw m y su) ?_; refine hK _ _ ?_; clear hK K)
    | fail)
  refine (refRound_c n m x y sv su _).mono ?_
  rintro e w2 ⟨rfl, b2⟩
  rw [E4.out]
  have VB := Lib.hid (And.intro (V1.out.1.below b2 V1.out.1.lt).all (V1.out.2.below b2 V1.out.2.lt).all)
  have B2 := Lib.hid (HB.out.trans (b2.mono HB.out.size))
  clear b2
  go_wp2_with (first
    | (refine BigFrame.wpList_want rfl (fun K hK => ?_); refine wp_load_midC 29 (.tmp 2) rfl gx 0 rfl (vtC n x sv) _ (vtC_arr n x sv) _ VB.out.1 Try.underlying29 rfl (size_vtw n x sv) ?_; refine hK _ _ ?_; clear hK K)
    | (refine BigFrame.wpList_want rfl (fun K hK => ?_); refine wp_load_midC 29 (.tmp 3) rfl gy 0 rfl (vtC m y su) _ (vtC_arr m y su) _ VB.out.2 Try.underlying29 rfl (size_vtw m y su) ?_; refine hK _ _ ?_; clear hK K)
    | fail)
  refine (refRound_c m n y x su sv _).mono ?_
  rintro e w3 ⟨rfl, b3⟩
  go_wp2_with fail
  go_ret
  exact ⟨rfl, B2.out.trans (b3.mono B2.out.size)⟩
theorem refBreaks_c (n m : Int) (x y : Lk) (sv su : Value) (w : World) : Calls Try.prog 7 #[.agg (vtw n x sv), .agg (vtw m y su)] w fun e w' => e = .returned (.bool (brk x y)) ∧ Below w.heap.size w w' := by
  have hb : brk x y = (!decide (x = y) && (decide (x.t.e = y.t.e) || rnd x y || rnd y x)) := rfl
  cases h1 : decide (x.s = y.s)
  · have hne : x ≠ y := fun e => by rw [e, decide_eq_true rfl] at h1; cases h1
    rw [hb, decide_eq_false hne]
    by_cases h2 : x.t.e = y.t.e
    · rw [decide_eq_true h2]
      exact rb_sb n m x y sv su w h1 h2
    · rw [decide_eq_false h2]
      cases h3 : rnd x y
      · simp only [Bool.not_false, Bool.true_and, Bool.false_or]
        exact rb_sd n m x y sv su w h1 h2 h3
      · exact rb_sc n m x y sv su w h1 h2 h3
  · cases h2 : decide (x.t = y.t)
    · have hne : x ≠ y := fun e => by rw [e, decide_eq_true rfl] at h2; cases h2
      rw [hb, decide_eq_false hne]
      by_cases h3 : x.t.e = y.t.e
      · rw [decide_eq_true h3]
        exact rb_nb n m x y sv su w h1 h2 h3
      · rw [decide_eq_false h3]
        cases h4 : rnd x y
        · simp only [Bool.not_false, Bool.true_and, Bool.false_or]
          exact rb_nd n m x y sv su w h1 h2 h3 h4
        · exact rb_nc n m x y sv su w h1 h2 h3 h4
    · have he : x = y := by
        have e1 := of_decide_eq_true h1
        have e2 := of_decide_eq_true h2
        cases x; cases y; simp only at e1 e2; rw [e1, e2]
      rw [hb, decide_eq_true he]
      exact rb_t n m x y sv su w h1 h2
end Go.Proofs.Ytildenhbcpgiiaa
