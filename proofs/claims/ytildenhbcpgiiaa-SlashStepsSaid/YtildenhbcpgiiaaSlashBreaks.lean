/- SlashBreaks: of every two votes. -/
import Derived.Test.YtildenhbcpgiiaaSlRef
namespace Go.Proofs.Ytildenhbcpgiiaa
open Go.ChangeShapes Go.WideShapes Go.ChangeAt Go.RowKit
set_option linter.unusedVariables false
set_option maxRecDepth 100000

abbrev n57 : Lk := lkE 5 7 (by omega) (by omega)
abbrev n67 : Lk := lkE 6 7 (by omega) (by omega)
abbrev n59 : Lk := lkE 5 9 (by omega) (by omega)
abbrev n68 : Lk := lkE 6 8 (by omega) (by omega)
abbrev n78 : Lk := lkE 7 8 (by omega) (by omega)
theorem kn1 : brk n57 n67 = true := by decide +kernel
theorem kn2 : brk n59 n68 = true := by decide +kernel
theorem kn3 : brk n57 n78 = false := by decide +kernel
set_option maxHeartbeats 8000000 in
theorem known_c (w : World) : Calls Try.prog 9 #[] w fun e w' => e = .returned (.bool true) ∧ Below w.heap.size w w' := by
  have B0 := Lib.hid (Below.refl w.heap.size w)
  go_enter Try.func9, Try.ntmps9
  go_wp2_with fail
  refine (vote_c 5 7 (by omega) (by omega) _).mono ?_
  rintro e w1 ⟨rfl, b1⟩
  have B1 := Lib.hid (B0.out.trans (b1.mono B0.out.size))
  clear b1
  go_wp2_with fail
  refine (vote_c 6 7 (by omega) (by omega) _).mono ?_
  rintro e w2 ⟨rfl, b2⟩
  have B2 := Lib.hid (B1.out.trans (b2.mono B1.out.size))
  clear b2
  go_wp2_with fail
  refine (breaks_c 1 1 n57 n67 noSig noSig _).mono ?_
  rintro e w3 ⟨rfl, b3⟩
  rw [kn1]
  have B3 := Lib.hid (B2.out.trans (b3.mono B2.out.size))
  clear b3
  go_wp2_with fail
  refine (vote_c 5 9 (by omega) (by omega) _).mono ?_
  rintro e w4 ⟨rfl, b4⟩
  have B4 := Lib.hid (B3.out.trans (b4.mono B3.out.size))
  clear b4
  go_wp2_with fail
  refine (vote_c 6 8 (by omega) (by omega) _).mono ?_
  rintro e w5 ⟨rfl, b5⟩
  have B5 := Lib.hid (B4.out.trans (b5.mono B4.out.size))
  clear b5
  go_wp2_with fail
  refine (breaks_c 1 1 n59 n68 noSig noSig _).mono ?_
  rintro e w6 ⟨rfl, b6⟩
  rw [kn2]
  have B6 := Lib.hid (B5.out.trans (b6.mono B5.out.size))
  clear b6
  go_wp2_with fail
  refine (vote_c 5 7 (by omega) (by omega) _).mono ?_
  rintro e w7 ⟨rfl, b7⟩
  have B7 := Lib.hid (B6.out.trans (b7.mono B6.out.size))
  clear b7
  go_wp2_with fail
  refine (vote_c 7 8 (by omega) (by omega) _).mono ?_
  rintro e w8 ⟨rfl, b8⟩
  have B8 := Lib.hid (B7.out.trans (b8.mono B7.out.size))
  clear b8
  go_wp2_with fail
  refine (breaks_c 1 1 n57 n78 noSig noSig _).mono ?_
  rintro e w9 ⟨rfl, b9⟩
  rw [kn3]
  have B9 := Lib.hid (B8.out.trans (b9.mono B8.out.size))
  clear b9
  go_wp2_with fail
  go_ret
  exact ⟨rfl, B9.out⟩
set_option maxHeartbeats 8000000 in
theorem slashBreaks_any (n m : Int) (x y : Lk) (sv su : Value) (w : World) : Calls Try.prog 3 #[.agg (vtw n x sv), .agg (vtw m y su)] w fun e w' => e = .returned (.bool true) ∧ Below w.heap.size w w' := by
  obtain ⟨W0, hW0⟩ : ∃ W0, W0 = w.alloc (.cells (vtw n x sv) 29) := ⟨_, rfl⟩
  obtain ⟨W1, hW1⟩ : ∃ W1, W1 = W0.alloc (.cells (vtw m y su) 29) := ⟨_, rfl⟩
  have b0 : Below w.heap.size w W0 := by rw [hW0]; exact (Below.refl _ _).alloc (Nat.le_refl _) _
  have b1 : Below W0.heap.size W0 W1 := by rw [hW1]; exact (Below.refl _ _).alloc (Nat.le_refl _) _
  have v0 : VtK w.heap.size n x sv W0 := by rw [hW0]; exact VtK.new
  have v1 := v0.below b1 v0.lt
  have z0 : W0.heap.size = w.heap.size + 1 := by rw [hW0]; simp
  have u1 : VtK (w.heap.size + 1) m y su W1 := by rw [← z0, hW1]; exact VtK.new
  obtain ⟨gx, hgx⟩ : ∃ gx, gx = w.heap.size := ⟨_, rfl⟩
  obtain ⟨gy, hgy⟩ : ∃ gy, gy = w.heap.size + 1 := ⟨_, rfl⟩
  rw [← hgx] at v1
  rw [← hgy] at u1
  have GX := Lib.hid hgx
  have GY := Lib.hid hgy
  have V1 := Lib.hid (And.intro v1 u1)
  have VA1 := Lib.hid (And.intro v1.all u1.all)
  have HW0 := Lib.hid hW0
  have HW1 := Lib.hid hW1
  have B1 := Lib.hid (b0.trans (b1.mono b0.size))
  obtain ⟨B, hB⟩ : ∃ B, B = brk x y := ⟨_, rfl⟩
  have C1 := Lib.hid (fun u => by have h := refBreaks_c n m x y sv su u; rw [← hB] at h; exact h)
  have C2 := Lib.hid (fun u => by have h := breaks_c n m x y sv su u; rw [← hB] at h; exact h)
  have C3 := Lib.hid (fun u => by have h := breaks_c m n y x su sv u; rw [brk_comm, ← hB] at h; exact h)
  have C4 := Lib.hid (fun u => by have h := breaks_c n n x x sv sv u; rw [brk_self] at h; exact h)
  have d9 : (B == B) = true := beq_self_eq_true _
  clear hW0 hW1 b0 b1 v0 v1 u1 z0 hgx hgy hB
  go_enter Try.func3, Try.ntmps3
  go_upto_region 1 with fail
  rw [← HW0.out, ← HW1.out]
  rw [← GY.out, ← GX.out]
  go_wp2_with (first
    | (refine BigFrame.wpList_want rfl (fun K hK => ?_); refine wp_load_midC 29 (.tmp 2) rfl gx 0 rfl (vtC n x sv) _ (vtC_arr n x sv) _ VA1.out.1 Try.underlying29 rfl (size_vtw n x sv) ?_; refine hK _ _ ?_; clear hK K)
    | (refine BigFrame.wpList_want rfl (fun K hK => ?_); refine wp_load_midC 29 (.tmp 3) rfl gy 0 rfl (vtC m y su) _ (vtC_arr m y su) _ VA1.out.2 Try.underlying29 rfl (size_vtw m y su) ?_; refine hK _ _ ?_; clear hK K)
    | fail)
  refine (C1.out _).mono ?_
  rintro e w2 ⟨rfl, b2⟩
  have V2 := Lib.hid (And.intro (V1.out.1.below b2 V1.out.1.lt) (V1.out.2.below b2 V1.out.2.lt))
  have VA2 := Lib.hid (And.intro V2.out.1.all V2.out.2.all)
  have B2 := Lib.hid (B1.out.trans (b2.mono B1.out.size))
  clear b2
  go_wp2_with (first
    | (refine BigFrame.wpList_want rfl (fun K hK => ?_); refine wp_load_midC 29 (.tmp 2) rfl gx 0 rfl (vtC n x sv) _ (vtC_arr n x sv) _ VA2.out.1 Try.underlying29 rfl (size_vtw n x sv) ?_; refine hK _ _ ?_; clear hK K)
    | (refine BigFrame.wpList_want rfl (fun K hK => ?_); refine wp_load_midC 29 (.tmp 3) rfl gy 0 rfl (vtC m y su) _ (vtC_arr m y su) _ VA2.out.2 Try.underlying29 rfl (size_vtw m y su) ?_; refine hK _ _ ?_; clear hK K)
    | fail)
  refine (C2.out _).mono ?_
  rintro e w3 ⟨rfl, b3⟩
  have V3 := Lib.hid (And.intro (V2.out.1.below b3 V2.out.1.lt) (V2.out.2.below b3 V2.out.2.lt))
  have VA3 := Lib.hid (And.intro V3.out.1.all V3.out.2.all)
  have B3 := Lib.hid (B2.out.trans (b3.mono B2.out.size))
  clear b3
  go_wp2_with (first
    | (refine BigFrame.wpList_want rfl (fun K hK => ?_); refine wp_load_midC 29 (.tmp 2) rfl gx 0 rfl (vtC n x sv) _ (vtC_arr n x sv) _ VA3.out.1 Try.underlying29 rfl (size_vtw n x sv) ?_; refine hK _ _ ?_; clear hK K)
    | (refine BigFrame.wpList_want rfl (fun K hK => ?_); refine wp_load_midC 29 (.tmp 3) rfl gy 0 rfl (vtC m y su) _ (vtC_arr m y su) _ VA3.out.2 Try.underlying29 rfl (size_vtw m y su) ?_; refine hK _ _ ?_; clear hK K)
    | fail)
  refine (C3.out _).mono ?_
  rintro e w4 ⟨rfl, b4⟩
  have V4 := Lib.hid (And.intro (V3.out.1.below b4 V3.out.1.lt) (V3.out.2.below b4 V3.out.2.lt))
  have VA4 := Lib.hid (And.intro V4.out.1.all V4.out.2.all)
  have B4 := Lib.hid (B3.out.trans (b4.mono B3.out.size))
  clear b4
  go_wp2_with (first
    | (refine BigFrame.wpList_want rfl (fun K hK => ?_); refine wp_load_midC 29 (.tmp 2) rfl gx 0 rfl (vtC n x sv) _ (vtC_arr n x sv) _ VA4.out.1 Try.underlying29 rfl (size_vtw n x sv) ?_; refine hK _ _ ?_; clear hK K)
    | (refine BigFrame.wpList_want rfl (fun K hK => ?_); refine wp_load_midC 29 (.tmp 3) rfl gy 0 rfl (vtC m y su) _ (vtC_arr m y su) _ VA4.out.2 Try.underlying29 rfl (size_vtw m y su) ?_; refine hK _ _ ?_; clear hK K)
    | fail)
  refine (C4.out _).mono ?_
  rintro e w5 ⟨rfl, b5⟩
  have V5 := Lib.hid (And.intro (V4.out.1.below b5 V4.out.1.lt) (V4.out.2.below b5 V4.out.2.lt))
  have VA5 := Lib.hid (And.intro V5.out.1.all V5.out.2.all)
  have B5 := Lib.hid (B4.out.trans (b5.mono B4.out.size))
  clear b5
  go_wp2_with fail
  refine (known_c _).mono ?_
  rintro e w6 ⟨rfl, b6⟩
  go_wp2_with fail
  go_ret
  exact ⟨rfl, B5.out.trans (b6.mono B5.out.size)⟩
end Go.Proofs.Ytildenhbcpgiiaa
