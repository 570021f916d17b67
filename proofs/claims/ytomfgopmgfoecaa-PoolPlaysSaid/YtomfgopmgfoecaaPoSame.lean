/- The reference's Same, of two lists that are the same. -/
import Derived.Test.YtomfgopmgfoecaaPoDuo
import Derived.Test.YtomfgopmgfoecaaCode
import Derived.Test.YtomfgopmgfoecaaStr
import Derived.BigFrame
namespace Go.Proofs.Ytomfgopmgfoecaa
open Go.ChangeMaps Go.MapKept Go.Maps Go.RowKit Go.ChangeShapes Go.WideShapes Go.ChangeAt
set_option linter.unusedVariables false
set_option maxRecDepth 100000

set_option maxHeartbeats 8000000 in
theorem refSameVo12 (n : Int) (x : Lk) (s : List UInt8) (A B : Option Addr) (c d : Nat) (w : World) (h : Rd w 0 w.heap.size A s) (h' : Rd w 0 w.heap.size B s) : Calls Try.prog 14 #[.agg (vtw n x (.slice A s.length c)), .agg (vtw n x (.slice B s.length d))] w fun e w' => e = .returned (.bool true) ∧ Below w.heap.size w w' := by
  obtain ⟨W0, hW0⟩ : ∃ W0, W0 = w.alloc (.cells (vtw n x (.slice A s.length c)) 40) := ⟨_, rfl⟩
  obtain ⟨W1, hW1⟩ : ∃ W1, W1 = W0.alloc (.cells (vtw n x (.slice B s.length d)) 40) := ⟨_, rfl⟩
  have b0 : Below w.heap.size w W0 := by rw [hW0]; exact (Below.refl _ _).alloc (Nat.le_refl _) _
  have b1 : Below W0.heap.size W0 W1 := by rw [hW1]; exact (Below.refl _ _).alloc (Nat.le_refl _) _
  have v0 : VtK w.heap.size n x (.slice A s.length c) W0 := by rw [hW0]; exact VtK.new
  have v1 := v0.below b1 v0.lt
  have z0 : W0.heap.size = w.heap.size + 1 := by rw [hW0]; simp
  have u1 : VtK (w.heap.size + 1) n x (.slice B s.length d) W1 := by rw [← z0, hW1]; exact VtK.new
  have bb := b0.trans (b1.mono b0.size)
  have st0 := run_str (h.below bb (Nat.le_refl _)) s.length c rfl
  have st1 := run_str (h'.below bb (Nat.le_refl _)) s.length d rfl
  obtain ⟨sx, hsx⟩ : ∃ sx : ByteArray, sx = ⟨s.toArray⟩ := ⟨_, rfl⟩
  unfold strOf at st0 st1
  rw [← hsx] at st0 st1
  have k0 := v1.num
  have k1 := u1.num
  have k2 := v1.sig
  have k3 := u1.sig
  obtain ⟨gx, hgx⟩ : ∃ gx, gx = w.heap.size := ⟨_, rfl⟩
  obtain ⟨gy, hgy⟩ : ∃ gy, gy = w.heap.size + 1 := ⟨_, rfl⟩
  rw [← hgx] at v1 k0 k2
  rw [← hgy] at u1 k1 k3
  have GX := Lib.hid hgx
  have GY := Lib.hid hgy
  have VS := Lib.hid (And.intro v1.src u1.src)
  have VT := Lib.hid (And.intro v1.tgt u1.tgt)
  have HW0 := Lib.hid hW0
  have HW1 := Lib.hid hW1
  have HB := Lib.hid bb
  clear hW0 hW1 b0 b1 v0 v1 u1 z0 hgx hgy hsx h h' bb
  go_enter Try.func14, Try.ntmps14
  go_upto_region 1 with fail
  rw [← HW0.out, ← HW1.out]
  rw [← GY.out, ← GX.out]
  go_wp2_with (first
    | (refine BigFrame.wpList_want rfl (fun K hK => ?_); refine wp_load_midC 37 (.tmp 11) rfl gx 1 rfl (pC x.s) _ (pC_arr _) _ VS.out.1 Try.underlying37 rfl (size_pv _) ?_; refine hK _ _ ?_; clear hK K)
    | (refine BigFrame.wpList_want rfl (fun K hK => ?_); refine wp_load_midC 37 (.tmp 13) rfl gy 1 rfl (pC x.s) _ (pC_arr _) _ VS.out.2 Try.underlying37 rfl (size_pv _) ?_; refine hK _ _ ?_; clear hK K)
    | (refine BigFrame.wpList_want rfl (fun K hK => ?_); refine wp_load_midC 37 (.tmp 18) rfl gx 34 rfl (pC x.t) _ (pC_arr _) _ VT.out.1 Try.underlying37 rfl (size_pv _) ?_; refine hK _ _ ?_; clear hK K)
    | (refine BigFrame.wpList_want rfl (fun K hK => ?_); refine wp_load_midC 37 (.tmp 20) rfl gy 34 rfl (pC x.t) _ (pC_arr _) _ VT.out.2 Try.underlying37 rfl (size_pv _) ?_; refine hK _ _ ?_; clear hK K)
    | (refine BigFrame.wpList_want rfl (fun K hK => ?_); refine wp_eql 37 37 (.tmp 12) (.tmp 14) rfl (pv x.s) (pv x.s) rfl rfl guard_point _ (eq_point9 x.s x.s _) ?_; rw [decide_eq_true rfl]; refine hK _ _ ?_; clear hK K)
    | (refine BigFrame.wpList_want rfl (fun K hK => ?_); refine wp_eql 37 37 (.tmp 19) (.tmp 21) rfl (pv x.t) (pv x.t) rfl rfl guard_point _ (eq_point9 x.t x.t _) ?_; rw [decide_eq_true rfl]; refine hK _ _ ?_; clear hK K)
    | fail)
  go_ret
  refine ⟨?_, HB.out⟩
  first
    | rfl
    | simp
noncomputable def sm_r6C : Code := ((Try.f31.body.bind (regionOf 6))).getD .skip
set_option maxRecDepth 1000000 in
set_option maxHeartbeats 8000000 in
theorem sm_r6 (c2 c3 c4 c6 c7 c8 c9 c10 c11 c12 c13 c14 c15 c16 c17 c18 c19 c20 c21 c22 c23 c24 c25 c26 c27 c28 c29 c30 c31 c32 c33 c34 c35 c36 c37 c38 c39 c40 c41 c42 c43 c44 c45 c46 c47 c48 c49 c50 c51 c52 c53 c54 : Value) (w : World) (g1 o1 n ca g2 o2 m2 cz i : Nat) (v : Sv) (B1 B2 : Option Addr) (cb1 cb2 : Nat) (hi : i < n) (hi2 : i < m2) (hx : w.rangeAt g1 (o1 + i * 101) (sgC (v.sg B1 cb1))) (hy : w.rangeAt g2 (o2 + i * 101) (sgC (v.sg B2 cb2))) (r1 : Rd w 0 w.heap.size B1 v.s) (r2 : Rd w 0 w.heap.size B2 v.s)
    (Q : Exit → Act → World → Prop) (hQ : ∀ (u17 u18 u19 u20 u21 u22 u23 u24 u25 u26 u27 u28 u29 u30 u31 u32 u33 u34 u35 u36 u37 u38 u39 u40 u41 u42 u43 u44 u45 u46 u47 u48 u49 u50 u51 u52 u53 : Value) (w' : World), Below w.heap.size w w' → Q .normal ⟨#[.slice (some ⟨g1, o1, none⟩) n ca, .slice (some ⟨g2, o2, none⟩) m2 cz, c2, c3, c4, .int .i64 (i : Int), c6, c7, c8, c9, c10, c11, c12, c13, c14, c15, c16, u17, u18, u19, u20, u21, u22, u23, u24, u25, u26, u27, u28, u29, u30, u31, u32, u33, u34, u35, u36, u37, u38, u39, u40, u41, u42, u43, u44, u45, u46, u47, u48, u49, u50, u51, u52, u53, .bool false], []⟩ w') :
    Code.wp Try.prog sm_r6C Q ⟨#[.slice (some ⟨g1, o1, none⟩) n ca, .slice (some ⟨g2, o2, none⟩) m2 cz, c2, c3, c4, .int .i64 (i : Int), c6, c7, c8, c9, c10, c11, c12, c13, c14, c15, c16, c17, c18, c19, c20, c21, c22, c23, c24, c25, c26, c27, c28, c29, c30, c31, c32, c33, c34, c35, c36, c37, c38, c39, c40, c41, c42, c43, c44, c45, c46, c47, c48, c49, c50, c51, c52, c53, c54], []⟩ w := by
  conv => arg 2; whnf
  try dsimp only at hQ ⊢
  have q1 : (i : Int) < (n : Int) := by omega
  have q2 : (i : Int) < (m2 : Int) := by omega
  have q0 : (0 : Int) ≤ (i : Int) := by omega
  obtain ⟨w2, hw2⟩ : ∃ w2, w2 = w.drew := ⟨_, rfl⟩
  have BX : Hid (Below w.heap.size w w2) := by rw [hw2]; exact (Below.refl _ _).drew
  have KP : Hid (∀ u : World, Below w.heap.size w u → u.rangeAt g1 (o1 + i * 101) (sgC (v.sg B1 cb1)) ∧ u.rangeAt g2 (o2 + i * 101) (sgC (v.sg B2 cb2))) := fun u hu => ⟨fun j x hx2 => (hu.cell (p := ⟨g1, o1 + i * 101 + j, none⟩) (World.block_lt_of_cell? w _ (hx j x hx2))).trans (hx j x hx2), fun j x hx2 => (hu.cell (p := ⟨g2, o2 + i * 101 + j, none⟩) (World.block_lt_of_cell? w _ (hy j x hx2))).trans (hy j x hx2)⟩
  have RD : Hid (∀ u : World, Below w.heap.size w u → Rd u 0 u.heap.size B1 v.s ∧ Rd u 0 u.heap.size B2 v.s) := fun u hu => ⟨(r1.below hu (Nat.le_refl _)).wide (Nat.le_refl _) hu.size, (r2.below hu (Nat.le_refl _)).wide (Nat.le_refl _) hu.size⟩
  clear hx hy r1 r2
  refine wp_region_noPanic ?_
  refine wp_region_held_drew (S := (fun u => u.rangeAt g1 (o1 + i * 101) (sgC (v.sg B1 cb1)) ∧ u.rangeAt g2 (o2 + i * 101) (sgC (v.sg B2 cb2)))) (by kernel_rfl) (by rw [← hw2]; exact KP.out _ BX.out) (fun hHeld => ?_)
  rw [← hw2]
  rw [← hw2] at hHeld
  clear hw2
  refine takeH (i := 0) (d := 17) (oi := _) (v := .slice (some ⟨g1, o1, none⟩) n ca) rfl (by kernel_rfl) (by kernel_rfl) (by kernel_rfl) (by kernel_rfl) (fun _ _ _ h => h) (Or.inl ⟨by kernel_rfl, by intro u hSw; clear hSw; go_simp⟩) hHeld ?_
  try simp only [List.setIfInBounds_toArray, List.set_cons_zero, List.set_cons_succ]
  refine takeH (i := 1) (d := 18) (oi := _) (v := .int .i64 (i : Int)) rfl (by kernel_rfl) (by kernel_rfl) (by kernel_rfl) (by kernel_rfl) (fun _ _ _ h => h) (Or.inl ⟨by kernel_rfl, by intro u hSw; clear hSw; go_simp⟩) hHeld ?_
  try simp only [List.setIfInBounds_toArray, List.set_cons_zero, List.set_cons_succ]
  refine takeH (i := 2) (d := 19) (oi := _) (v := .pointer (some ⟨g1, (o1 + i * 101), none⟩)) rfl (by kernel_rfl) (by kernel_rfl) (by kernel_rfl) (by kernel_rfl) (fun _ _ _ h => h) (Or.inl ⟨by kernel_rfl, by intro u hSw; clear hSw; go_simp⟩) hHeld ?_
  try simp only [List.setIfInBounds_toArray, List.set_cons_zero, List.set_cons_succ]
  refine takeH (i := 3) (d := 20) (oi := _) (v := .pointer (some ⟨g1, (o1 + i * 101) + 68, none⟩)) rfl (by kernel_rfl) (by kernel_rfl) (by kernel_rfl) (by kernel_rfl) (fun _ _ _ h => h) (Or.inl ⟨by kernel_rfl, by intro u hSw; clear hSw; go_simp⟩) hHeld ?_
  try simp only [List.setIfInBounds_toArray, List.set_cons_zero, List.set_cons_succ]
  refine takeH (i := 4) (d := 21) (oi := _) (v := .agg (hhv v.h)) rfl (by kernel_rfl) (by kernel_rfl) (by kernel_rfl) (by kernel_rfl) (fun _ _ _ h => h) (yieldsIf_load_midC (by kernel_rfl) _ _ rfl (g1) (o1 + i * 101 + 68) rfl (hhC v.h) (hhv v.h) (hhC_arr v.h) _ (fun u hSw => sg_key hSw.1) Try.underlying24 rfl (size_hhv v.h)) hHeld ?_
  try simp only [List.setIfInBounds_toArray, List.set_cons_zero, List.set_cons_succ]
  refine takeH (i := 5) (d := 22) (oi := _) (v := .slice (some ⟨g2, o2, none⟩) m2 cz) rfl (by kernel_rfl) (by kernel_rfl) (by kernel_rfl) (by kernel_rfl) (fun _ _ _ h => h) (Or.inl ⟨by kernel_rfl, by intro u hSw; clear hSw; go_simp⟩) hHeld ?_
  try simp only [List.setIfInBounds_toArray, List.set_cons_zero, List.set_cons_succ]
  refine takeH (i := 6) (d := 23) (oi := _) (v := .int .i64 (i : Int)) rfl (by kernel_rfl) (by kernel_rfl) (by kernel_rfl) (by kernel_rfl) (fun _ _ _ h => h) (Or.inl ⟨by kernel_rfl, by intro u hSw; clear hSw; go_simp⟩) hHeld ?_
  try simp only [List.setIfInBounds_toArray, List.set_cons_zero, List.set_cons_succ]
  refine takeH (i := 7) (d := 24) (oi := _) (v := .pointer (some ⟨g2, (o2 + i * 101), none⟩)) rfl (by kernel_rfl) (by kernel_rfl) (by kernel_rfl) (by kernel_rfl) (fun _ _ _ h => h) (Or.inl ⟨by kernel_rfl, by intro u hSw; clear hSw; go_simp⟩) hHeld ?_
  try simp only [List.setIfInBounds_toArray, List.set_cons_zero, List.set_cons_succ]
  refine takeH (i := 8) (d := 25) (oi := _) (v := .pointer (some ⟨g2, (o2 + i * 101) + 68, none⟩)) rfl (by kernel_rfl) (by kernel_rfl) (by kernel_rfl) (by kernel_rfl) (fun _ _ _ h => h) (Or.inl ⟨by kernel_rfl, by intro u hSw; clear hSw; go_simp⟩) hHeld ?_
  try simp only [List.setIfInBounds_toArray, List.set_cons_zero, List.set_cons_succ]
  refine takeH (i := 9) (d := 26) (oi := _) (v := .agg (hhv v.h)) rfl (by kernel_rfl) (by kernel_rfl) (by kernel_rfl) (by kernel_rfl) (fun _ _ _ h => h) (yieldsIf_load_midC (by kernel_rfl) _ _ rfl (g2) (o2 + i * 101 + 68) rfl (hhC v.h) (hhv v.h) (hhC_arr v.h) _ (fun u hSw => sg_key hSw.2) Try.underlying24 rfl (size_hhv v.h)) hHeld ?_
  try simp only [List.setIfInBounds_toArray, List.set_cons_zero, List.set_cons_succ]
  refine takeH (i := 10) (d := 27) (oi := _) (v := .bool false) rfl (by kernel_rfl) (by kernel_rfl) (by kernel_rfl) (by kernel_rfl) (fun _ _ _ h => h) (yieldsIf_neq (by kernel_rfl) 24 24 (.tmp 21) (.tmp 26) rfl (hhv v.h) (hhv v.h) rfl rfl guard_hash true (fun w => (eq_hh v.h v.h w).trans (by simp))) hHeld ?_
  try simp only [List.setIfInBounds_toArray, List.set_cons_zero, List.set_cons_succ]
  refine takeH (i := 11) (d := 28) (oi := _) (v := .bool false) rfl (by kernel_rfl) (by kernel_rfl) (by kernel_rfl) (by kernel_rfl) (fun _ _ _ h => h) (Or.inl ⟨by kernel_rfl, by intro u hSw; clear hSw; go_simp⟩) hHeld ?_
  try simp only [List.setIfInBounds_toArray, List.set_cons_zero, List.set_cons_succ]
  refine takeH (i := 12) (d := 29) (oi := _) (v := .slice (some ⟨g1, o1, none⟩) n ca) rfl (by kernel_rfl) (by kernel_rfl) (by kernel_rfl) (by kernel_rfl) (fun _ _ _ h => h) (Or.inl ⟨by kernel_rfl, by intro u hSw; clear hSw; go_simp⟩) hHeld ?_
  try simp only [List.setIfInBounds_toArray, List.set_cons_zero, List.set_cons_succ]
  refine takeH (i := 13) (d := 30) (oi := _) (v := .int .i64 (i : Int)) rfl (by kernel_rfl) (by kernel_rfl) (by kernel_rfl) (by kernel_rfl) (fun _ _ _ h => h) (Or.inl ⟨by kernel_rfl, by intro u hSw; clear hSw; go_simp⟩) hHeld ?_
  try simp only [List.setIfInBounds_toArray, List.set_cons_zero, List.set_cons_succ]
  refine takeH (i := 14) (d := 31) (oi := _) (v := .pointer (some ⟨g1, (o1 + i * 101), none⟩)) rfl (by kernel_rfl) (by kernel_rfl) (by kernel_rfl) (by kernel_rfl) (fun _ _ _ h => h) (Or.inl ⟨by kernel_rfl, by intro u hSw; clear hSw; go_simp⟩) hHeld ?_
  try simp only [List.setIfInBounds_toArray, List.set_cons_zero, List.set_cons_succ]
  refine takeH (i := 15) (d := 32) (oi := _) (v := .pointer (some ⟨g1, (o1 + i * 101) + 100, none⟩)) rfl (by kernel_rfl) (by kernel_rfl) (by kernel_rfl) (by kernel_rfl) (fun _ _ _ h => h) (Or.inl ⟨by kernel_rfl, by intro u hSw; clear hSw; go_simp⟩) hHeld ?_
  try simp only [List.setIfInBounds_toArray, List.set_cons_zero, List.set_cons_succ]
  refine takeH (i := 16) (d := 33) (oi := _) (v := .int .u64 (v.st : Int)) rfl (by kernel_rfl) (by kernel_rfl) (by kernel_rfl) (by kernel_rfl) (fun _ _ _ h => h) (Or.inl ⟨by kernel_rfl, by intro u hSw; (have hc : u.cell? ⟨g1, o1 + i * 101 + 100, none⟩ = some (.int .u64 (v.st : Int)) := sg_stake hSw.1; clear hSw; go_simp)⟩) hHeld ?_
  try simp only [List.setIfInBounds_toArray, List.set_cons_zero, List.set_cons_succ]
  refine takeH (i := 17) (d := 34) (oi := _) (v := .slice (some ⟨g2, o2, none⟩) m2 cz) rfl (by kernel_rfl) (by kernel_rfl) (by kernel_rfl) (by kernel_rfl) (fun _ _ _ h => h) (Or.inl ⟨by kernel_rfl, by intro u hSw; clear hSw; go_simp⟩) hHeld ?_
  try simp only [List.setIfInBounds_toArray, List.set_cons_zero, List.set_cons_succ]
  refine takeH (i := 18) (d := 35) (oi := _) (v := .int .i64 (i : Int)) rfl (by kernel_rfl) (by kernel_rfl) (by kernel_rfl) (by kernel_rfl) (fun _ _ _ h => h) (Or.inl ⟨by kernel_rfl, by intro u hSw; clear hSw; go_simp⟩) hHeld ?_
  try simp only [List.setIfInBounds_toArray, List.set_cons_zero, List.set_cons_succ]
  refine takeH (i := 19) (d := 36) (oi := _) (v := .pointer (some ⟨g2, (o2 + i * 101), none⟩)) rfl (by kernel_rfl) (by kernel_rfl) (by kernel_rfl) (by kernel_rfl) (fun _ _ _ h => h) (Or.inl ⟨by kernel_rfl, by intro u hSw; clear hSw; go_simp⟩) hHeld ?_
  try simp only [List.setIfInBounds_toArray, List.set_cons_zero, List.set_cons_succ]
  refine takeH (i := 20) (d := 37) (oi := _) (v := .pointer (some ⟨g2, (o2 + i * 101) + 100, none⟩)) rfl (by kernel_rfl) (by kernel_rfl) (by kernel_rfl) (by kernel_rfl) (fun _ _ _ h => h) (Or.inl ⟨by kernel_rfl, by intro u hSw; clear hSw; go_simp⟩) hHeld ?_
  try simp only [List.setIfInBounds_toArray, List.set_cons_zero, List.set_cons_succ]
  refine takeH (i := 21) (d := 38) (oi := _) (v := .int .u64 (v.st : Int)) rfl (by kernel_rfl) (by kernel_rfl) (by kernel_rfl) (by kernel_rfl) (fun _ _ _ h => h) (Or.inl ⟨by kernel_rfl, by intro u hSw; (have hc : u.cell? ⟨g2, o2 + i * 101 + 100, none⟩ = some (.int .u64 (v.st : Int)) := sg_stake hSw.2; clear hSw; go_simp)⟩) hHeld ?_
  try simp only [List.setIfInBounds_toArray, List.set_cons_zero, List.set_cons_succ]
  refine takeH (i := 22) (d := 39) (oi := _) (v := .bool false) rfl (by kernel_rfl) (by kernel_rfl) (by kernel_rfl) (by kernel_rfl) (fun _ _ _ h => h) (Or.inl ⟨by kernel_rfl, by intro u hSw; clear hSw; go_simp⟩) hHeld ?_
  try simp only [List.setIfInBounds_toArray, List.set_cons_zero, List.set_cons_succ]
  refine takeH (i := 23) (d := 40) (oi := _) (v := .bool false) rfl (by kernel_rfl) (by kernel_rfl) (by kernel_rfl) (by kernel_rfl) (fun _ _ _ h => h) (Or.inl ⟨by kernel_rfl, by intro u hSw; clear hSw; go_simp⟩) hHeld ?_
  try simp only [List.setIfInBounds_toArray, List.set_cons_zero, List.set_cons_succ]
  refine takeH (i := 24) (d := 41) (oi := _) (v := .bool false) rfl (by kernel_rfl) (by kernel_rfl) (by kernel_rfl) (by kernel_rfl) (fun _ _ _ h => h) (Or.inl ⟨by kernel_rfl, by intro u hSw; clear hSw; go_simp⟩) hHeld ?_
  try simp only [List.setIfInBounds_toArray, List.set_cons_zero, List.set_cons_succ]
  refine takeH (i := 25) (d := 42) (oi := _) (v := .slice (some ⟨g1, o1, none⟩) n ca) rfl (by kernel_rfl) (by kernel_rfl) (by kernel_rfl) (by kernel_rfl) (fun _ _ _ h => h) (Or.inl ⟨by kernel_rfl, by intro u hSw; clear hSw; go_simp⟩) hHeld ?_
  try simp only [List.setIfInBounds_toArray, List.set_cons_zero, List.set_cons_succ]
  refine takeH (i := 26) (d := 43) (oi := _) (v := .int .i64 (i : Int)) rfl (by kernel_rfl) (by kernel_rfl) (by kernel_rfl) (by kernel_rfl) (fun _ _ _ h => h) (Or.inl ⟨by kernel_rfl, by intro u hSw; clear hSw; go_simp⟩) hHeld ?_
  try simp only [List.setIfInBounds_toArray, List.set_cons_zero, List.set_cons_succ]
  refine takeH (i := 27) (d := 44) (oi := _) (v := .pointer (some ⟨g1, (o1 + i * 101), none⟩)) rfl (by kernel_rfl) (by kernel_rfl) (by kernel_rfl) (by kernel_rfl) (fun _ _ _ h => h) (Or.inl ⟨by kernel_rfl, by intro u hSw; clear hSw; go_simp⟩) hHeld ?_
  try simp only [List.setIfInBounds_toArray, List.set_cons_zero, List.set_cons_succ]
  refine takeH (i := 28) (d := 45) (oi := _) (v := .pointer (some ⟨g1, (o1 + i * 101), none⟩)) rfl (by kernel_rfl) (by kernel_rfl) (by kernel_rfl) (by kernel_rfl) (fun _ _ _ h => h) (Or.inl ⟨by kernel_rfl, by intro u hSw; clear hSw; go_simp⟩) hHeld ?_
  try simp only [List.setIfInBounds_toArray, List.set_cons_zero, List.set_cons_succ]
  refine takeH (i := 29) (d := 46) (oi := _) (v := .agg (vtw v.n v.k (.slice B1 v.s.length cb1))) rfl (by kernel_rfl) (by kernel_rfl) (by kernel_rfl) (by kernel_rfl) (fun _ _ _ h => h) (yieldsIf_load_midC (by kernel_rfl) _ _ rfl (g1) (o1 + i * 101) rfl (vtC v.n v.k (.slice B1 v.s.length cb1)) (vtw v.n v.k (.slice B1 v.s.length cb1)) (vtC_arr v.n v.k (.slice B1 v.s.length cb1)) _ (fun u hSw => sg_vote hSw.1) Try.underlying40 rfl (size_vtw v.n v.k (.slice B1 v.s.length cb1))) hHeld ?_
  try simp only [List.setIfInBounds_toArray, List.set_cons_zero, List.set_cons_succ]
  refine takeH (i := 30) (d := 47) (oi := _) (v := .slice (some ⟨g2, o2, none⟩) m2 cz) rfl (by kernel_rfl) (by kernel_rfl) (by kernel_rfl) (by kernel_rfl) (fun _ _ _ h => h) (Or.inl ⟨by kernel_rfl, by intro u hSw; clear hSw; go_simp⟩) hHeld ?_
  try simp only [List.setIfInBounds_toArray, List.set_cons_zero, List.set_cons_succ]
  refine takeH (i := 31) (d := 48) (oi := _) (v := .int .i64 (i : Int)) rfl (by kernel_rfl) (by kernel_rfl) (by kernel_rfl) (by kernel_rfl) (fun _ _ _ h => h) (Or.inl ⟨by kernel_rfl, by intro u hSw; clear hSw; go_simp⟩) hHeld ?_
  try simp only [List.setIfInBounds_toArray, List.set_cons_zero, List.set_cons_succ]
  refine takeH (i := 32) (d := 49) (oi := _) (v := .pointer (some ⟨g2, (o2 + i * 101), none⟩)) rfl (by kernel_rfl) (by kernel_rfl) (by kernel_rfl) (by kernel_rfl) (fun _ _ _ h => h) (Or.inl ⟨by kernel_rfl, by intro u hSw; clear hSw; go_simp⟩) hHeld ?_
  try simp only [List.setIfInBounds_toArray, List.set_cons_zero, List.set_cons_succ]
  refine takeH (i := 33) (d := 50) (oi := _) (v := .pointer (some ⟨g2, (o2 + i * 101), none⟩)) rfl (by kernel_rfl) (by kernel_rfl) (by kernel_rfl) (by kernel_rfl) (fun _ _ _ h => h) (Or.inl ⟨by kernel_rfl, by intro u hSw; clear hSw; go_simp⟩) hHeld ?_
  try simp only [List.setIfInBounds_toArray, List.set_cons_zero, List.set_cons_succ]
  refine takeH (i := 34) (d := 51) (oi := _) (v := .agg (vtw v.n v.k (.slice B2 v.s.length cb2))) rfl (by kernel_rfl) (by kernel_rfl) (by kernel_rfl) (by kernel_rfl) (fun _ _ _ h => h) (yieldsIf_load_midC (by kernel_rfl) _ _ rfl (g2) (o2 + i * 101) rfl (vtC v.n v.k (.slice B2 v.s.length cb2)) (vtw v.n v.k (.slice B2 v.s.length cb2)) (vtC_arr v.n v.k (.slice B2 v.s.length cb2)) _ (fun u hSw => sg_vote hSw.2) Try.underlying40 rfl (size_vtw v.n v.k (.slice B2 v.s.length cb2))) hHeld ?_
  try simp only [List.setIfInBounds_toArray, List.set_cons_zero, List.set_cons_succ]
  refine wpAnyH_ready (rs := [35]) (by kernel_rfl) (by simp) ?_
  refine AllReadyH.cons (o := _) rfl (fun K hK => ?_) (AllReadyH.nil)
  go_simp
  go_at_call 14
  refine (refSameVo12 v.n v.k v.s B1 B2 cb1 cb2 _ (RD.out _ BX.out).1 (RD.out _ BX.out).2).mono ?_
  rintro e w2 ⟨rfl, b2⟩
  have BX := Lib.hid (BX.out.trans (b2.mono BX.out.size))
  clear b2
  go_simp
  refine hK.out _ _ (KP.out _ BX.out) (fun hHeld => ?_)
  clear hK K
  try simp only [Act.put, List.setIfInBounds_toArray, List.set_cons_zero, List.set_cons_succ]
  refine takeH (i := 36) (d := 53) (oi := _) (v := .bool false) rfl (by kernel_rfl) (by kernel_rfl) (by kernel_rfl) (by kernel_rfl) (fun _ _ _ h => h) (Or.inl ⟨by kernel_rfl, by intro u hSw; clear hSw; go_simp⟩) hHeld ?_
  try simp only [List.setIfInBounds_toArray, List.set_cons_zero, List.set_cons_succ]
  refine takeH (i := 37) (d := 54) (oi := _) (v := .bool false) rfl (by kernel_rfl) (by kernel_rfl) (by kernel_rfl) (by kernel_rfl) (fun _ _ _ h => h) (Or.inl ⟨by kernel_rfl, by intro u hSw; clear hSw; go_simp⟩) hHeld ?_
  try simp only [List.setIfInBounds_toArray, List.set_cons_zero, List.set_cons_succ]
  refine wpAnyH_done (by kernel_rfl) ?_ _
  refine NoPanic.normal ?_
  exact hQ _ _ _ _ _ _ _ _ _ _ _ _ _ _ _ _ _ _ _ _ _ _ _ _ _ _ _ _ _ _ _ _ _ _ _ _ _ _ BX.out
set_option maxRecDepth 1000000 in
set_option maxHeartbeats 8000000 in
theorem same12_c (A B : Option Addr) (n m c d : Nat) (L : List Sv) (w : World) (hn : n = L.length) (hm : m = L.length) (hn9 : n ≤ 1000000) (h1 : SvsAt w A L) (h2 : SvsAt w B L) : Calls Try.prog 31 #[.slice A n c, .slice B m d] w fun e w' => e = .returned (.bool true) ∧ Below w.heap.size w w' := by
  have H1 := Lib.hid h1
  have H2 := Lib.hid h2
  have HN := Lib.hid hn
  obtain rfl : m = n := hm.trans hn.symm
  clear h1 h2 hn hm
  go_enter Try.func31, Try.ntmps31
  go_wp2_with fail
  go_loopw [5] (fun v5 u => ∃ i : Nat, i ≤ m ∧ v5 = .int .i64 (i : Int) ∧ Below w.heap.size w u) (fun v5 _ => m - (intOf v5).toNat)
  case atStart => exact ⟨0, Nat.zero_le _, rfl, Below.refl _ _⟩
  case round =>
    obtain ⟨i, hi, rfl, bx⟩ := hrel
    have BX := Lib.hid bx
    clear bx
    by_cases hin : i < m
    · obtain ⟨v, hv⟩ : ∃ v, L[i]? = some v := ⟨_, List.getElem?_eq_getElem (by have := HN.out; omega)⟩
      obtain ⟨g1, o1, B1, cb1, rfl, x1, y1⟩ := H1.out _ BX.out i v hv
      obtain ⟨g2, o2, B2, cb2, rfl, x2, y2⟩ := H2.out _ BX.out i v hv
      have X1 := Lib.hid (And.intro x1 y1)
      have X2 := Lib.hid (And.intro x2 y2)
      have q1 : (i : Int) < (m : Int) := by omega
      clear hv x1 y1 x2 y2
      go_wp2_with fail
      refine sm_r6 _ _ _ _ _ _ _ _ _ _ _ _ _ _ _ _ _ _ _ _ _ _ _ _ _ _ _ _ _ _ _ _ _ _ _ _ _ _ _ _ _ _ _ _ _ _ _ _ _ _ _ _ wr g1 o1 m c g2 o2 m d i v B1 B2 cb1 cb2 hin hin X1.out.1 X2.out.1 X1.out.2 X2.out.2 _ ?_
      intro u0 u1 u2 u3 u4 u5 u6 u7 u8 u9 u10 u11 u12 u13 u14 u15 u16 u17 u18 u19 u20 u21 u22 u23 u24 u25 u26 u27 u28 u29 u30 u31 u32 u33 u34 u35 u36 w2 b2
      have B2' := Lib.hid (BX.out.trans (b2.mono BX.out.size))
      clear b2
      go_wp2_with fail
      exact ⟨⟨i + 1, by omega, by go_num, B2'.out⟩, by simp [intOf]; omega⟩
    · obtain rfl : i = m := by omega
      go_wp2_with fail
      go_ret
      exact ⟨rfl, BX.out⟩
end Go.Proofs.Ytomfgopmgfoecaa
