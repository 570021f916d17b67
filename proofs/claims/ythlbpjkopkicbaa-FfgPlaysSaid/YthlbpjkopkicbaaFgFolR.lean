/- What follows of a link: the regions. -/
import Derived.Test.YthlbpjkopkicbaaFgFolP
namespace Go.Proofs.Ythlbpjkopkicbaa
open Go.ChangeMaps Go.MapKept Go.Maps Go.RowKit Go.ChangeShapes Go.WideShapes Go.ChangeAt
set_option linter.unusedVariables false
set_option maxRecDepth 100000

noncomputable def fol_r7C : Code := ((Try.f47.body.bind (regionOf 7))).getD .skip
set_option maxRecDepth 1000000 in
set_option maxHeartbeats 4000000 in
theorem fol_r7 (c1 c2 c3 c4 c5 c6 c8 c9 c10 c11 c12 c13 c14 c15 c16 c17 c18 c19 c20 c21 c22 c23 c24 c25 c26 c27 c28 c29 c30 c31 c32 c33 c34 c35 c36 c37 c38 c39 c40 c41 c42 c43 c44 c45 c46 c47 c48 c49 c50 c51 c52 c53 c54 c55 c56 c57 c58 c59 c60 c61 c62 c63 : Value) (w : World) (s bt bs bw gl n : Nat) (vl : Value) (hd : Pt → Option Value) (F : Nat → Prop) (S : FgS) (x : Lk) (h : FgB s bt bs bw vl hd F S n w) (hx : LkB gl x w) (hgl : ¬ F gl) (hn : n < 140737488000000)
    (Q : Exit → Act → World → Prop) (hQ : ∀ (u24 u25 u26 u27 u28 u29 : Value) (w' : World), FgB s bt bs bw vl hd F { S with stands := setSt S.stands x.s (some 2) } (n + 1) w' ∧ Kept F w w' ∧ LkB gl x w' ∧ mapSize w' bw = mapSize w bw → Q .normal ⟨#[.pointer (some ⟨s, 0, none⟩), c1, c2, c3, c4, c5, c6, .pointer (some ⟨gl, 0, none⟩), c8, c9, c10, c11, c12, c13, c14, c15, c16, c17, c18, c19, c20, c21, c22, c23, u24, u25, u26, u27, u28, u29, c30, c31, c32, c33, c34, c35, c36, c37, c38, c39, c40, c41, c42, c43, c44, c45, c46, c47, c48, c49, c50, c51, c52, c53, c54, c55, c56, c57, c58, c59, c60, c61, c62, c63], []⟩ w') :
    Code.wp Try.prog fol_r7C Q ⟨#[.pointer (some ⟨s, 0, none⟩), c1, c2, c3, c4, c5, c6, .pointer (some ⟨gl, 0, none⟩), c8, c9, c10, c11, c12, c13, c14, c15, c16, c17, c18, c19, c20, c21, c22, c23, c24, c25, c26, c27, c28, c29, c30, c31, c32, c33, c34, c35, c36, c37, c38, c39, c40, c41, c42, c43, c44, c45, c46, c47, c48, c49, c50, c51, c52, c53, c54, c55, c56, c57, c58, c59, c60, c61, c62, c63], []⟩ w := by
  conv => arg 2; whnf
  try dsimp only at hQ ⊢
  obtain ⟨V, hV⟩ : ∃ V, V = w.drew := ⟨_, rfl⟩
  have fV : FgB s bt bs bw vl hd F S n V := by rw [hV]; exact h.below ((Below.refl _ _).drew)
  have xV : LkB gl x V := by rw [hV]; exact (show LkB gl x w.drew from hx)
  have kV : Kept F w V := by rw [hV]; exact Kept.of_below ((Below.refl _ _).drew)
  have HFV := Lib.hid fV
  have HXV := Lib.hid xV
  have HKV := Lib.hid kV
  have HV := Lib.hid hV
  obtain ⟨w3, hr, hm3, ht3⟩ := fV.stands.put keyP Try.underlying70 (by unfold maxLen; omega) x.s (.int .i64 2)
  rw [show setF (stF S.stands) x.s (some (.int .i64 2)) = stF (setSt S.stands x.s (some 2)) from stF_set S.stands x.s 2] at hm3
  have HFIN := Lib.hid (fV.turnStands ht3 (Nat.le_succ n) hm3)
  obtain ⟨o3, z3, e3⟩ := turned_block ht3
  have HX3 := Lib.hid (xV.keep (o3 gl (cells_ne xV.row e3)))
  have HK3 := Lib.hid (kV.trans (Kept.turned ht3 fV.foot.2.2.1) (fun k e => .inl e))
  have HS3 : Hid (mapSize w3 bw = mapSize w bw) := (mapSize_keep (o3 bw (fun e => fV.ne.2.2 e.symm))).trans (by rw [hV]; rfl)
  clear hm3 ht3 o3 z3 e3
  clear fV xV kV hV h hx
  refine wp_region_noPanic ?_
  refine wp_region_held_drew (S := (fun u => u.heap[s]? = some (.cells #[vl, .map (some bt), .map (some bs), .map (some bw)] 73 (0, 0)) ∧ LkB gl x u)) (by kernel_rfl) (by rw [← HV.out]; exact ⟨HFV.out.cells, HXV.out⟩) (fun hHeld => ?_)
  rw [← HV.out]
  rw [← HV.out] at hHeld
  refine takeH (i := 0) (d := 24) (oi := _) (v := .pointer (some ⟨s, 0, none⟩)) rfl (by kernel_rfl) (by kernel_rfl) (by kernel_rfl) (by kernel_rfl) (fun _ _ _ h => h) (Or.inl ⟨by kernel_rfl, by intro u hSw; clear hSw; go_simp⟩) hHeld ?_
  try simp only [List.setIfInBounds_toArray, List.set_cons_zero, List.set_cons_succ]
  refine takeH (i := 1) (d := 25) (oi := _) (v := .pointer (some ⟨s, 0, none⟩)) rfl (by kernel_rfl) (by kernel_rfl) (by kernel_rfl) (by kernel_rfl) (fun _ _ _ h => h) (Or.inl ⟨by kernel_rfl, by intro u hSw; clear hSw; go_simp⟩) hHeld ?_
  try simp only [List.setIfInBounds_toArray, List.set_cons_zero, List.set_cons_succ]
  refine takeH (i := 2) (d := 26) (oi := _) (v := .pointer (some ⟨s, 2, none⟩)) rfl (by kernel_rfl) (by kernel_rfl) (by kernel_rfl) (by kernel_rfl) (fun _ _ _ h => h) (Or.inl ⟨by kernel_rfl, by intro u hSw; clear hSw; go_simp⟩) hHeld ?_
  try simp only [List.setIfInBounds_toArray, List.set_cons_zero, List.set_cons_succ]
  refine takeH (i := 3) (d := 27) (oi := _) (v := .map (some bs)) rfl (by kernel_rfl) (by kernel_rfl) (by kernel_rfl) (by kernel_rfl) (fun _ _ _ h => h) (Or.inl ⟨by kernel_rfl, by intro u hSw; (have hc : u.cell? ⟨s, 2, none⟩ = some (.map (some bs)) := cell_of_row u s 2 _ _ (0, 0) hSw.1; clear hSw; go_simp)⟩) hHeld ?_
  try simp only [List.setIfInBounds_toArray, List.set_cons_zero, List.set_cons_succ]
  refine takeH (i := 4) (d := 28) (oi := _) (v := .pointer (some ⟨gl, 0, none⟩)) rfl (by kernel_rfl) (by kernel_rfl) (by kernel_rfl) (by kernel_rfl) (fun _ _ _ h => h) (Or.inl ⟨by kernel_rfl, by intro u hSw; clear hSw; go_simp⟩) hHeld ?_
  try simp only [List.setIfInBounds_toArray, List.set_cons_zero, List.set_cons_succ]
  refine takeH (i := 5) (d := 29) (oi := _) (v := .agg (pv x.s)) rfl (by kernel_rfl) (by kernel_rfl) (by kernel_rfl) (by kernel_rfl) (fun _ _ _ h => h) (yieldsIf_load_midC (by kernel_rfl) _ _ rfl (gl) 0 rfl (pC x.s) (pv x.s) (pC_arr x.s) _ (fun u hSw => hSw.2.src) Try.underlying29 rfl (size_pv x.s)) hHeld ?_
  try simp only [List.setIfInBounds_toArray, List.set_cons_zero, List.set_cons_succ]
  refine wpAnyH_ready (rs := [6]) (by kernel_rfl) (by simp) ?_
  refine AllReadyH.cons (o := _) rfl (fun K hK => ?_) (AllReadyH.nil)
  go_simp
  refine hK.out _ _ (⟨HFIN.out.cells, HX3.out⟩) (fun hHeld => ?_)
  clear hK K
  try simp only [Act.put, List.setIfInBounds_toArray, List.set_cons_zero, List.set_cons_succ]
  refine wpAnyH_done (by kernel_rfl) ?_ _
  refine NoPanic.normal ?_
  exact hQ _ _ _ _ _ _ _ ⟨HFIN.out, HK3.out, HX3.out, HS3.out⟩
noncomputable def fol_r8C : Code := ((Try.f47.body.bind (regionOf 8))).getD .skip
set_option maxRecDepth 1000000 in
set_option maxHeartbeats 4000000 in
theorem fol_r8 (c1 c2 c3 c4 c5 c6 c8 c9 c10 c11 c12 c13 c14 c15 c16 c17 c18 c19 c20 c21 c22 c23 c24 c25 c26 c27 c28 c29 c30 c31 c32 c33 c34 c35 c36 c37 c38 c39 c40 c41 c42 c43 c44 c45 c46 c47 c48 c49 c50 c51 c52 c53 c54 c55 c56 c57 c58 c59 c60 c61 c62 c63 : Value) (w : World) (s bt bs bw gl n : Nat) (vl : Value) (hd : Pt → Option Value) (F : Nat → Prop) (S : FgS) (x : Lk) (h : FgB s bt bs bw vl hd F S n w) (hx : LkB gl x w) (hgl : ¬ F gl)
    (Q : Exit → Act → World → Prop) (hQ : ∀ (u30 u31 u32 u33 u34 u35 u36 : Value) (w' : World), FgB s bt bs bw vl hd F S n w' ∧ Kept F w w' ∧ LkB gl x w' ∧ mapSize w' bw = mapSize w bw → Q .normal ⟨#[.pointer (some ⟨s, 0, none⟩), c1, c2, c3, c4, c5, c6, .pointer (some ⟨gl, 0, none⟩), c8, c9, c10, c11, c12, c13, c14, c15, c16, c17, c18, c19, c20, c21, c22, c23, c24, c25, c26, c27, c28, c29, u30, u31, u32, u33, u34, u35, u36, .bool (decide (stN S.stands x.t = 0)), c38, c39, c40, c41, c42, c43, c44, c45, c46, c47, c48, c49, c50, c51, c52, c53, c54, c55, c56, c57, c58, c59, c60, c61, c62, c63], []⟩ w') :
    Code.wp Try.prog fol_r8C Q ⟨#[.pointer (some ⟨s, 0, none⟩), c1, c2, c3, c4, c5, c6, .pointer (some ⟨gl, 0, none⟩), c8, c9, c10, c11, c12, c13, c14, c15, c16, c17, c18, c19, c20, c21, c22, c23, c24, c25, c26, c27, c28, c29, c30, c31, c32, c33, c34, c35, c36, c37, c38, c39, c40, c41, c42, c43, c44, c45, c46, c47, c48, c49, c50, c51, c52, c53, c54, c55, c56, c57, c58, c59, c60, c61, c62, c63], []⟩ w := by
  conv => arg 2; whnf
  try dsimp only at hQ ⊢
  obtain ⟨V, hV⟩ : ∃ V, V = w.drew := ⟨_, rfl⟩
  have fV : FgB s bt bs bw vl hd F S n V := by rw [hV]; exact h.below ((Below.refl _ _).drew)
  have xV : LkB gl x V := by rw [hV]; exact (show LkB gl x w.drew from hx)
  have kV : Kept F w V := by rw [hV]; exact Kept.of_below ((Below.refl _ _).drew)
  have HFV := Lib.hid fV
  have HXV := Lib.hid xV
  have HKV := Lib.hid kV
  have HV := Lib.hid hV
  clear fV xV kV hV h hx
  refine wp_region_noPanic ?_
  refine wp_region_held_drew (S := (fun u => FgB s bt bs bw vl hd F S n u ∧ LkB gl x u)) (by kernel_rfl) (by rw [← HV.out]; exact ⟨HFV.out, HXV.out⟩) (fun hHeld => ?_)
  rw [← HV.out]
  rw [← HV.out] at hHeld
  refine takeH (i := 0) (d := 30) (oi := _) (v := .pointer (some ⟨s, 0, none⟩)) rfl (by kernel_rfl) (by kernel_rfl) (by kernel_rfl) (by kernel_rfl) (fun _ _ _ h => h) (Or.inl ⟨by kernel_rfl, by intro u hSw; clear hSw; go_simp⟩) hHeld ?_
  try simp only [List.setIfInBounds_toArray, List.set_cons_zero, List.set_cons_succ]
  refine takeH (i := 1) (d := 31) (oi := _) (v := .pointer (some ⟨s, 0, none⟩)) rfl (by kernel_rfl) (by kernel_rfl) (by kernel_rfl) (by kernel_rfl) (fun _ _ _ h => h) (Or.inl ⟨by kernel_rfl, by intro u hSw; clear hSw; go_simp⟩) hHeld ?_
  try simp only [List.setIfInBounds_toArray, List.set_cons_zero, List.set_cons_succ]
  refine takeH (i := 2) (d := 32) (oi := _) (v := .pointer (some ⟨s, 2, none⟩)) rfl (by kernel_rfl) (by kernel_rfl) (by kernel_rfl) (by kernel_rfl) (fun _ _ _ h => h) (Or.inl ⟨by kernel_rfl, by intro u hSw; clear hSw; go_simp⟩) hHeld ?_
  try simp only [List.setIfInBounds_toArray, List.set_cons_zero, List.set_cons_succ]
  refine takeH (i := 3) (d := 33) (oi := _) (v := .map (some bs)) rfl (by kernel_rfl) (by kernel_rfl) (by kernel_rfl) (by kernel_rfl) (fun _ _ _ h => h) (Or.inl ⟨by kernel_rfl, by intro u hSw; (have hc : u.cell? ⟨s, 2, none⟩ = some (.map (some bs)) := cell_of_row u s 2 _ _ (0, 0) hSw.1.cells; clear hSw; go_simp)⟩) hHeld ?_
  try simp only [List.setIfInBounds_toArray, List.set_cons_zero, List.set_cons_succ]
  refine takeH (i := 4) (d := 34) (oi := _) (v := .pointer (some ⟨gl, 33, none⟩)) rfl (by kernel_rfl) (by kernel_rfl) (by kernel_rfl) (by kernel_rfl) (fun _ _ _ h => h) (Or.inl ⟨by kernel_rfl, by intro u hSw; clear hSw; go_simp⟩) hHeld ?_
  try simp only [List.setIfInBounds_toArray, List.set_cons_zero, List.set_cons_succ]
  refine takeH (i := 5) (d := 35) (oi := _) (v := .agg (pv x.t)) rfl (by kernel_rfl) (by kernel_rfl) (by kernel_rfl) (by kernel_rfl) (fun _ _ _ h => h) (yieldsIf_load_midC (by kernel_rfl) _ _ rfl (gl) 33 rfl (pC x.t) (pv x.t) (pC_arr x.t) _ (fun u hSw => hSw.2.tgt) Try.underlying29 rfl (size_pv x.t)) hHeld ?_
  try simp only [List.setIfInBounds_toArray, List.set_cons_zero, List.set_cons_succ]
  refine takeH (i := 6) (d := 36) (oi := _) (v := .int .i64 (stN S.stands x.t : Nat)) rfl (by kernel_rfl) (by kernel_rfl) (by kernel_rfl) (by kernel_rfl) (fun _ _ _ h => h) (Or.inl ⟨by kernel_rfl, by intro u hSw; (have hl := hSw.1.stands.look keyP Try.underlying70 (z := .int .i64 0) (zero_standing u) x.t; rw [stN_look] at hl; clear hSw; go_simp)⟩) hHeld ?_
  try simp only [List.setIfInBounds_toArray, List.set_cons_zero, List.set_cons_succ]
  refine takeH (i := 7) (d := 37) (oi := _) (v := .bool (decide (stN S.stands x.t = 0))) rfl (by kernel_rfl) (by kernel_rfl) (by kernel_rfl) (by kernel_rfl) (fun _ _ _ h => h) (Or.inl ⟨by kernel_rfl, by intro u hSw; clear hSw; (go_simp; try (first | omega | (rw [Bool.eq_iff_iff, beq_iff_eq, decide_eq_true_eq]; omega)))⟩) hHeld ?_
  try simp only [List.setIfInBounds_toArray, List.set_cons_zero, List.set_cons_succ]
  refine wpAnyH_done (by kernel_rfl) ?_ _
  refine NoPanic.normal ?_
  exact hQ _ _ _ _ _ _ _ _ ⟨HFV.out, HKV.out, HXV.out, by rw [HV.out]; rfl⟩
noncomputable def fol_r9C : Code := ((Try.f47.body.bind (regionOf 9))).getD .skip
set_option maxRecDepth 1000000 in
set_option maxHeartbeats 4000000 in
theorem fol_r9 (c1 c2 c3 c4 c5 c6 c8 c9 c10 c11 c12 c13 c14 c15 c16 c17 c18 c19 c20 c21 c22 c23 c24 c25 c26 c27 c28 c29 c30 c31 c32 c33 c34 c35 c36 c37 c38 c39 c40 c41 c42 c43 c44 c45 c46 c47 c48 c49 c50 c51 c52 c53 c54 c55 c56 c57 c58 c59 c60 c61 c62 c63 : Value) (w : World) (s bt bs bw gl n : Nat) (vl : Value) (hd : Pt → Option Value) (F : Nat → Prop) (S : FgS) (x : Lk) (h : FgB s bt bs bw vl hd F S n w) (hx : LkB gl x w) (hgl : ¬ F gl) (hn : n < 140737488000000)
    (Q : Exit → Act → World → Prop) (hQ : ∀ (u38 u39 u40 u41 u42 u43 : Value) (w' : World), FgB s bt bs bw vl hd F { S with stands := setSt S.stands x.t (some 1) } (n + 1) w' ∧ Kept F w w' ∧ LkB gl x w' ∧ mapSize w' bw = mapSize w bw → Q .normal ⟨#[.pointer (some ⟨s, 0, none⟩), c1, c2, c3, c4, c5, c6, .pointer (some ⟨gl, 0, none⟩), c8, c9, c10, c11, c12, c13, c14, c15, c16, c17, c18, c19, c20, c21, c22, c23, c24, c25, c26, c27, c28, c29, c30, c31, c32, c33, c34, c35, c36, c37, u38, u39, u40, u41, u42, u43, c44, c45, c46, c47, c48, c49, c50, c51, c52, c53, c54, c55, c56, c57, c58, c59, c60, c61, c62, c63], []⟩ w') :
    Code.wp Try.prog fol_r9C Q ⟨#[.pointer (some ⟨s, 0, none⟩), c1, c2, c3, c4, c5, c6, .pointer (some ⟨gl, 0, none⟩), c8, c9, c10, c11, c12, c13, c14, c15, c16, c17, c18, c19, c20, c21, c22, c23, c24, c25, c26, c27, c28, c29, c30, c31, c32, c33, c34, c35, c36, c37, c38, c39, c40, c41, c42, c43, c44, c45, c46, c47, c48, c49, c50, c51, c52, c53, c54, c55, c56, c57, c58, c59, c60, c61, c62, c63], []⟩ w := by
  conv => arg 2; whnf
  try dsimp only at hQ ⊢
  obtain ⟨V, hV⟩ : ∃ V, V = w.drew := ⟨_, rfl⟩
  have fV : FgB s bt bs bw vl hd F S n V := by rw [hV]; exact h.below ((Below.refl _ _).drew)
  have xV : LkB gl x V := by rw [hV]; exact (show LkB gl x w.drew from hx)
  have kV : Kept F w V := by rw [hV]; exact Kept.of_below ((Below.refl _ _).drew)
  have HFV := Lib.hid fV
  have HXV := Lib.hid xV
  have HKV := Lib.hid kV
  have HV := Lib.hid hV
  obtain ⟨w3, hr, hm3, ht3⟩ := fV.stands.put keyP Try.underlying70 (by unfold maxLen; omega) x.t (.int .i64 1)
  rw [show setF (stF S.stands) x.t (some (.int .i64 1)) = stF (setSt S.stands x.t (some 1)) from stF_set S.stands x.t 1] at hm3
  have HFIN := Lib.hid (fV.turnStands ht3 (Nat.le_succ n) hm3)
  obtain ⟨o3, z3, e3⟩ := turned_block ht3
  have HX3 := Lib.hid (xV.keep (o3 gl (cells_ne xV.row e3)))
  have HK3 := Lib.hid (kV.trans (Kept.turned ht3 fV.foot.2.2.1) (fun k e => .inl e))
  have HS3 : Hid (mapSize w3 bw = mapSize w bw) := (mapSize_keep (o3 bw (fun e => fV.ne.2.2 e.symm))).trans (by rw [hV]; rfl)
  clear hm3 ht3 o3 z3 e3
  clear fV xV kV hV h hx
  refine wp_region_noPanic ?_
  refine wp_region_held_drew (S := (fun u => u.heap[s]? = some (.cells #[vl, .map (some bt), .map (some bs), .map (some bw)] 73 (0, 0)) ∧ LkB gl x u)) (by kernel_rfl) (by rw [← HV.out]; exact ⟨HFV.out.cells, HXV.out⟩) (fun hHeld => ?_)
  rw [← HV.out]
  rw [← HV.out] at hHeld
  refine takeH (i := 0) (d := 38) (oi := _) (v := .pointer (some ⟨s, 0, none⟩)) rfl (by kernel_rfl) (by kernel_rfl) (by kernel_rfl) (by kernel_rfl) (fun _ _ _ h => h) (Or.inl ⟨by kernel_rfl, by intro u hSw; clear hSw; go_simp⟩) hHeld ?_
  try simp only [List.setIfInBounds_toArray, List.set_cons_zero, List.set_cons_succ]
  refine takeH (i := 1) (d := 39) (oi := _) (v := .pointer (some ⟨s, 0, none⟩)) rfl (by kernel_rfl) (by kernel_rfl) (by kernel_rfl) (by kernel_rfl) (fun _ _ _ h => h) (Or.inl ⟨by kernel_rfl, by intro u hSw; clear hSw; go_simp⟩) hHeld ?_
  try simp only [List.setIfInBounds_toArray, List.set_cons_zero, List.set_cons_succ]
  refine takeH (i := 2) (d := 40) (oi := _) (v := .pointer (some ⟨s, 2, none⟩)) rfl (by kernel_rfl) (by kernel_rfl) (by kernel_rfl) (by kernel_rfl) (fun _ _ _ h => h) (Or.inl ⟨by kernel_rfl, by intro u hSw; clear hSw; go_simp⟩) hHeld ?_
  try simp only [List.setIfInBounds_toArray, List.set_cons_zero, List.set_cons_succ]
  refine takeH (i := 3) (d := 41) (oi := _) (v := .map (some bs)) rfl (by kernel_rfl) (by kernel_rfl) (by kernel_rfl) (by kernel_rfl) (fun _ _ _ h => h) (Or.inl ⟨by kernel_rfl, by intro u hSw; (have hc : u.cell? ⟨s, 2, none⟩ = some (.map (some bs)) := cell_of_row u s 2 _ _ (0, 0) hSw.1; clear hSw; go_simp)⟩) hHeld ?_
  try simp only [List.setIfInBounds_toArray, List.set_cons_zero, List.set_cons_succ]
  refine takeH (i := 4) (d := 42) (oi := _) (v := .pointer (some ⟨gl, 33, none⟩)) rfl (by kernel_rfl) (by kernel_rfl) (by kernel_rfl) (by kernel_rfl) (fun _ _ _ h => h) (Or.inl ⟨by kernel_rfl, by intro u hSw; clear hSw; go_simp⟩) hHeld ?_
  try simp only [List.setIfInBounds_toArray, List.set_cons_zero, List.set_cons_succ]
  refine takeH (i := 5) (d := 43) (oi := _) (v := .agg (pv x.t)) rfl (by kernel_rfl) (by kernel_rfl) (by kernel_rfl) (by kernel_rfl) (fun _ _ _ h => h) (yieldsIf_load_midC (by kernel_rfl) _ _ rfl (gl) 33 rfl (pC x.t) (pv x.t) (pC_arr x.t) _ (fun u hSw => hSw.2.tgt) Try.underlying29 rfl (size_pv x.t)) hHeld ?_
  try simp only [List.setIfInBounds_toArray, List.set_cons_zero, List.set_cons_succ]
  refine wpAnyH_ready (rs := [6]) (by kernel_rfl) (by simp) ?_
  refine AllReadyH.cons (o := _) rfl (fun K hK => ?_) (AllReadyH.nil)
  go_simp
  refine hK.out _ _ (⟨HFIN.out.cells, HX3.out⟩) (fun hHeld => ?_)
  clear hK K
  try simp only [Act.put, List.setIfInBounds_toArray, List.set_cons_zero, List.set_cons_succ]
  refine wpAnyH_done (by kernel_rfl) ?_ _
  refine NoPanic.normal ?_
  exact hQ _ _ _ _ _ _ _ ⟨HFIN.out, HK3.out, HX3.out, HS3.out⟩
noncomputable def fol_r10C : Code := ((Try.f47.body.bind (regionOf 10))).getD .skip
set_option maxRecDepth 1000000 in
set_option maxHeartbeats 4000000 in
theorem fol_r10 (c1 c2 c3 c4 c6 c8 c9 c10 c11 c12 c13 c14 c15 c16 c17 c18 c19 c20 c21 c22 c23 c24 c25 c26 c27 c28 c29 c30 c31 c32 c33 c34 c35 c36 c37 c38 c39 c40 c41 c42 c43 c44 c45 c46 c47 c48 c49 c50 c51 c52 c53 c54 c55 c56 c57 c58 c59 c60 c61 c62 c63 : Value) (w : World) (s bt bs bw gl n : Nat) (vl : Value) (hd : Pt → Option Value) (F : Nat → Prop) (S : FgS) (x : Lk) (h : FgB s bt bs bw vl hd F S n w) (hx : LkB gl x w) (hgl : ¬ F gl) (v : Value) (N : List Lk) (B1 : Nat) (hB1 : B1 ≤ w.heap.size) (hN : w.ownsRow B1 36 66 v N.length (lks N)) (hNF : ∀ k, v.ownBlock = some k → ¬ F k ∧ k ≠ gl) (hll : N.length + ((S.waiting x.t).getD []).length ≤ 1000000000)
    (Q : Exit → Act → World → Prop) (hQ : ∀ (u44 u45 u46 u47 u48 u49 u50 u51 v' : Value) (w' : World), FgB s bt bs bw vl hd F S n w' ∧ Kept (fun k => v.ownBlock = some k) w w' ∧ LkB gl x w' ∧ w'.ownsRow B1 36 66 v' (N ++ ((S.waiting x.t).getD [])).length (lks (N ++ ((S.waiting x.t).getD []))) ∧ (v'.ownBlock = v.ownBlock ∨ ∀ k, v'.ownBlock = some k → w.heap.size ≤ k) → Q .normal ⟨#[.pointer (some ⟨s, 0, none⟩), c1, c2, c3, c4, v', c6, .pointer (some ⟨gl, 0, none⟩), c8, c9, c10, c11, c12, c13, c14, c15, c16, c17, c18, c19, c20, c21, c22, c23, c24, c25, c26, c27, c28, c29, c30, c31, c32, c33, c34, c35, c36, c37, c38, c39, c40, c41, c42, c43, u44, u45, u46, u47, u48, u49, u50, u51, v', c53, c54, c55, c56, c57, c58, c59, c60, c61, c62, c63], []⟩ w') :
    Code.wp Try.prog fol_r10C Q ⟨#[.pointer (some ⟨s, 0, none⟩), c1, c2, c3, c4, v, c6, .pointer (some ⟨gl, 0, none⟩), c8, c9, c10, c11, c12, c13, c14, c15, c16, c17, c18, c19, c20, c21, c22, c23, c24, c25, c26, c27, c28, c29, c30, c31, c32, c33, c34, c35, c36, c37, c38, c39, c40, c41, c42, c43, c44, c45, c46, c47, c48, c49, c50, c51, c52, c53, c54, c55, c56, c57, c58, c59, c60, c61, c62, c63], []⟩ w := by
  conv => arg 2; whnf
  try dsimp only at hQ ⊢
  obtain ⟨i0, hi0⟩ : ∃ i0, Try.prog.info? 36 = some i0 := ⟨_, (Option.some_get (by kernel_rfl)).symm⟩
  obtain ⟨hz0, hz1, hz2⟩ := link_row hi0
  obtain ⟨V, hV⟩ : ∃ V, V = w.drew := ⟨_, rfl⟩
  have fV : FgB s bt bs bw vl hd F S n V := by rw [hV]; exact h.below ((Below.refl _ _).drew)
  have xV : LkB gl x V := by rw [hV]; exact (show LkB gl x w.drew from hx)
  have kV : Kept F w V := by rw [hV]; exact Kept.of_below ((Below.refl _ _).drew)
  have HFV := Lib.hid fV
  have HXV := Lib.hid xV
  have HKV := Lib.hid kV
  have HV := Lib.hid hV
  obtain ⟨y, hy⟩ : ∃ y, y = (hd x.t).getD (.slice none 0 0) := ⟨_, rfl⟩
  obtain ⟨L0, hL0⟩ : ∃ L0, L0 = (S.waiting x.t).getD [] := ⟨_, rfl⟩
  have hw := (fV.waitRow x.t).1
  rw [← hy, ← hL0] at hw
  rw [← hL0] at hll hQ
  have nV : V.ownsRow B1 36 66 v N.length (lks N) := by rw [hV]; exact hN
  have HY := Lib.hid hy
  have HW1 := Lib.hid hw
  have HLL := Lib.hid hll
  have HN := Lib.hid nV
  clear hw hy hL0 hll hN nV
  clear fV xV kV hV h hx
  refine wp_region_noPanic ?_
  refine wp_region_held_drew (S := (fun u => FgB s bt bs bw vl hd F S n u ∧ LkB gl x u)) (by kernel_rfl) (by rw [← HV.out]; exact ⟨HFV.out, HXV.out⟩) (fun hHeld => ?_)
  rw [← HV.out]
  rw [← HV.out] at hHeld
  refine takeH (i := 0) (d := 44) (oi := _) (v := v) rfl (by kernel_rfl) (by kernel_rfl) (by kernel_rfl) (by kernel_rfl) (fun _ _ _ h => h) (Or.inl ⟨by kernel_rfl, by intro u hSw; clear hSw; go_simp⟩) hHeld ?_
  try simp only [List.setIfInBounds_toArray, List.set_cons_zero, List.set_cons_succ]
  refine takeH (i := 1) (d := 45) (oi := _) (v := .pointer (some ⟨s, 0, none⟩)) rfl (by kernel_rfl) (by kernel_rfl) (by kernel_rfl) (by kernel_rfl) (fun _ _ _ h => h) (Or.inl ⟨by kernel_rfl, by intro u hSw; clear hSw; go_simp⟩) hHeld ?_
  try simp only [List.setIfInBounds_toArray, List.set_cons_zero, List.set_cons_succ]
  refine takeH (i := 2) (d := 46) (oi := _) (v := .pointer (some ⟨s, 0, none⟩)) rfl (by kernel_rfl) (by kernel_rfl) (by kernel_rfl) (by kernel_rfl) (fun _ _ _ h => h) (Or.inl ⟨by kernel_rfl, by intro u hSw; clear hSw; go_simp⟩) hHeld ?_
  try simp only [List.setIfInBounds_toArray, List.set_cons_zero, List.set_cons_succ]
  refine takeH (i := 3) (d := 47) (oi := _) (v := .pointer (some ⟨s, 3, none⟩)) rfl (by kernel_rfl) (by kernel_rfl) (by kernel_rfl) (by kernel_rfl) (fun _ _ _ h => h) (Or.inl ⟨by kernel_rfl, by intro u hSw; clear hSw; go_simp⟩) hHeld ?_
  try simp only [List.setIfInBounds_toArray, List.set_cons_zero, List.set_cons_succ]
  refine takeH (i := 4) (d := 48) (oi := _) (v := .map (some bw)) rfl (by kernel_rfl) (by kernel_rfl) (by kernel_rfl) (by kernel_rfl) (fun _ _ _ h => h) (Or.inl ⟨by kernel_rfl, by intro u hSw; (have hc : u.cell? ⟨s, 3, none⟩ = some (.map (some bw)) := cell_of_row u s 3 _ _ (0, 0) hSw.1.cells; clear hSw; go_simp)⟩) hHeld ?_
  try simp only [List.setIfInBounds_toArray, List.set_cons_zero, List.set_cons_succ]
  refine takeH (i := 5) (d := 49) (oi := _) (v := .pointer (some ⟨gl, 33, none⟩)) rfl (by kernel_rfl) (by kernel_rfl) (by kernel_rfl) (by kernel_rfl) (fun _ _ _ h => h) (Or.inl ⟨by kernel_rfl, by intro u hSw; clear hSw; go_simp⟩) hHeld ?_
  try simp only [List.setIfInBounds_toArray, List.set_cons_zero, List.set_cons_succ]
  refine takeH (i := 6) (d := 50) (oi := _) (v := .agg (pv x.t)) rfl (by kernel_rfl) (by kernel_rfl) (by kernel_rfl) (by kernel_rfl) (fun _ _ _ h => h) (yieldsIf_load_midC (by kernel_rfl) _ _ rfl (gl) 33 rfl (pC x.t) (pv x.t) (pC_arr x.t) _ (fun u hSw => hSw.2.tgt) Try.underlying29 rfl (size_pv x.t)) hHeld ?_
  try simp only [List.setIfInBounds_toArray, List.set_cons_zero, List.set_cons_succ]
  refine takeH (i := 7) (d := 51) (oi := _) (v := y) rfl (by kernel_rfl) (by kernel_rfl) (by kernel_rfl) (by kernel_rfl) (fun _ _ _ h => h) (Or.inl ⟨by kernel_rfl, by intro u hSw; (have hl := hSw.1.waits.look keyP Try.underlying71 (z := .slice none 0 0) (zero_links u) x.t; rw [← HY.out] at hl; clear hSw; go_simp)⟩) hHeld ?_
  try simp only [List.setIfInBounds_toArray, List.set_cons_zero, List.set_cons_succ]
  refine wpAnyH_ready (rs := [8]) (by kernel_rfl) (by simp) ?_
  refine AllReadyH.cons (o := _) rfl (fun K hK => ?_) (AllReadyH.nil)
  refine step_append_row (by kernel_rfl) (.tmp 44) (.tmp 51) 30 rfl B1 36 i0 _ 66 80 Try.underlying30 hi0 hz0 hz1 hz2 (by show (lv lkZ).size = 66; exact rowV_size _ _) (by decide) v N.length (lks N) rfl HN.out 0 y L0.length (lks L0) rfl HW1.out (lks_one L0) (by have := HLL.out; unfold maxLen; omega) (by have := HLL.out; omega) (by rw [HV.out]; exact hB1) ?_
  intro v' w3 o3 g3 b3
  rw [← lks_append] at o3
  have HO3 : Hid (w3.ownsRow B1 36 66 v' (N ++ L0).length (lks (N ++ L0))) := by rw [List.length_append]; exact o3
  have HF3 := Lib.hid (HFV.out.grown g3 (fun k e => (hNF k e).1))
  have HX3 := Lib.hid (HXV.out.keep (g3.block gl HXV.out.lt (fun e => (hNF gl e.symm).2 rfl)))
  have HK3 : Hid (Kept (fun k => v.ownBlock = some k) w w3) := (show Kept (fun k => v.ownBlock = some k) w V by rw [HV.out]; exact Kept.of_below ((Below.refl _ _).drew)).trans (F' := fun k => v.ownBlock = some k) ⟨g3.os, g3.tape, g3.output, g3.size, fun k hk hn => g3.block k hk (fun e => hn e.symm)⟩ (fun k e => .inl e)
  have HB3 : Hid (v'.ownBlock = v.ownBlock ∨ ∀ k, v'.ownBlock = some k → w.heap.size ≤ k) := by
    rcases b3 with b3 | b3
    · exact .inl b3
    · refine .inr (fun k e => ?_)
      rw [b3, HV.out] at e
      injection e with e
      exact Nat.le_of_eq e
  clear o3 g3 b3
  try go_simp
  refine hK.out _ _ (⟨HF3.out, HX3.out⟩) (fun hHeld => ?_)
  clear hK K
  try simp only [Act.put, List.setIfInBounds_toArray, List.set_cons_zero, List.set_cons_succ]
  refine takeH (i := 9) (d := 5) (oi := _) (v := v') rfl (by kernel_rfl) (by kernel_rfl) (by kernel_rfl) (by kernel_rfl) (fun _ _ _ h => h) (Or.inl ⟨by kernel_rfl, by intro u hSw; clear hSw; go_simp⟩) hHeld ?_
  try simp only [List.setIfInBounds_toArray, List.set_cons_zero, List.set_cons_succ]
  refine wpAnyH_done (by kernel_rfl) ?_ _
  refine NoPanic.normal ?_
  exact hQ _ _ _ _ _ _ _ _ v' _ ⟨HF3.out, HK3.out, HX3.out, HO3.out, HB3.out⟩
noncomputable def fol_r11C : Code := ((Try.f47.body.bind (regionOf 11))).getD .skip
set_option maxRecDepth 1000000 in
set_option maxHeartbeats 4000000 in
theorem fol_r11 (c1 c2 c3 c4 c5 c6 c8 c9 c10 c11 c12 c13 c14 c15 c16 c17 c18 c19 c20 c21 c22 c23 c24 c25 c26 c27 c28 c29 c30 c31 c32 c33 c34 c35 c36 c37 c38 c39 c40 c41 c42 c43 c44 c45 c46 c47 c48 c49 c50 c51 c52 c53 c54 c55 c56 c57 c58 c59 c60 c61 c62 c63 : Value) (w : World) (s bt bs bw gl n : Nat) (vl : Value) (hd : Pt → Option Value) (F : Nat → Prop) (S : FgS) (x : Lk) (h : FgB s bt bs bw vl hd F S n w) (hx : LkB gl x w) (hgl : ¬ F gl)
    (Q : Exit → Act → World → Prop) (hQ : ∀ (u53 u54 u55 u56 u57 u58 : Value) (w' : World), FgB s bt bs bw vl (setF hd x.t none) F { S with waiting := setWt S.waiting x.t none } n w' ∧ Kept F w w' ∧ LkB gl x w' ∧ mapSize w' bw + (if (hd x.t).isSome = true then 1 else 0) = mapSize w bw → Q .normal ⟨#[.pointer (some ⟨s, 0, none⟩), c1, c2, c3, c4, c5, c6, .pointer (some ⟨gl, 0, none⟩), c8, c9, c10, c11, c12, c13, c14, c15, c16, c17, c18, c19, c20, c21, c22, c23, c24, c25, c26, c27, c28, c29, c30, c31, c32, c33, c34, c35, c36, c37, c38, c39, c40, c41, c42, c43, c44, c45, c46, c47, c48, c49, c50, c51, c52, u53, u54, u55, u56, u57, u58, c59, c60, c61, c62, c63], []⟩ w') :
    Code.wp Try.prog fol_r11C Q ⟨#[.pointer (some ⟨s, 0, none⟩), c1, c2, c3, c4, c5, c6, .pointer (some ⟨gl, 0, none⟩), c8, c9, c10, c11, c12, c13, c14, c15, c16, c17, c18, c19, c20, c21, c22, c23, c24, c25, c26, c27, c28, c29, c30, c31, c32, c33, c34, c35, c36, c37, c38, c39, c40, c41, c42, c43, c44, c45, c46, c47, c48, c49, c50, c51, c52, c53, c54, c55, c56, c57, c58, c59, c60, c61, c62, c63], []⟩ w := by
  conv => arg 2; whnf
  try dsimp only at hQ ⊢
  obtain ⟨V, hV⟩ : ∃ V, V = w.drew := ⟨_, rfl⟩
  have fV : FgB s bt bs bw vl hd F S n V := by rw [hV]; exact h.below ((Below.refl _ _).drew)
  have xV : LkB gl x V := by rw [hV]; exact (show LkB gl x w.drew from hx)
  have kV : Kept F w V := by rw [hV]; exact Kept.of_below ((Below.refl _ _).drew)
  have HFV := Lib.hid fV
  have HXV := Lib.hid xV
  have HKV := Lib.hid kV
  have HV := Lib.hid hV
  obtain ⟨w3, hr, hm3, ht3, hs3⟩ := fV.waits.del_size keyP Try.underlying71 0 x.t
  have HFIN := Lib.hid (fV.turnWaits ht3 x.t (o := none) (L := none) (n' := n) (Nat.le_refl _) hm3 (fun k hk => hk) fV.fin rfl (fun q v v' k _ _ e => by cases e) (fun v k e => by cases e))
  obtain ⟨o3, z3, e3⟩ := turned_block ht3
  have HX3 := Lib.hid (xV.keep (o3 gl (cells_ne xV.row e3)))
  have HK3 := Lib.hid (kV.trans (Kept.turned ht3 fV.foot.2.2.2.1) (fun k e => .inl e))
  have HS3 : Hid (mapSize w3 bw + (if (hd x.t).isSome = true then 1 else 0) = mapSize w bw) := hs3.trans (by rw [hV]; rfl)
  clear hm3 ht3 o3 z3 e3 hs3
  clear fV xV kV hV h hx
  refine wp_region_noPanic ?_
  refine wp_region_held_drew (S := (fun u => u.heap[s]? = some (.cells #[vl, .map (some bt), .map (some bs), .map (some bw)] 73 (0, 0)) ∧ LkB gl x u)) (by kernel_rfl) (by rw [← HV.out]; exact ⟨HFV.out.cells, HXV.out⟩) (fun hHeld => ?_)
  rw [← HV.out]
  rw [← HV.out] at hHeld
  refine takeH (i := 0) (d := 53) (oi := _) (v := .pointer (some ⟨s, 0, none⟩)) rfl (by kernel_rfl) (by kernel_rfl) (by kernel_rfl) (by kernel_rfl) (fun _ _ _ h => h) (Or.inl ⟨by kernel_rfl, by intro u hSw; clear hSw; go_simp⟩) hHeld ?_
  try simp only [List.setIfInBounds_toArray, List.set_cons_zero, List.set_cons_succ]
  refine takeH (i := 1) (d := 54) (oi := _) (v := .pointer (some ⟨s, 0, none⟩)) rfl (by kernel_rfl) (by kernel_rfl) (by kernel_rfl) (by kernel_rfl) (fun _ _ _ h => h) (Or.inl ⟨by kernel_rfl, by intro u hSw; clear hSw; go_simp⟩) hHeld ?_
  try simp only [List.setIfInBounds_toArray, List.set_cons_zero, List.set_cons_succ]
  refine takeH (i := 2) (d := 55) (oi := _) (v := .pointer (some ⟨s, 3, none⟩)) rfl (by kernel_rfl) (by kernel_rfl) (by kernel_rfl) (by kernel_rfl) (fun _ _ _ h => h) (Or.inl ⟨by kernel_rfl, by intro u hSw; clear hSw; go_simp⟩) hHeld ?_
  try simp only [List.setIfInBounds_toArray, List.set_cons_zero, List.set_cons_succ]
  refine takeH (i := 3) (d := 56) (oi := _) (v := .map (some bw)) rfl (by kernel_rfl) (by kernel_rfl) (by kernel_rfl) (by kernel_rfl) (fun _ _ _ h => h) (Or.inl ⟨by kernel_rfl, by intro u hSw; (have hc : u.cell? ⟨s, 3, none⟩ = some (.map (some bw)) := cell_of_row u s 3 _ _ (0, 0) hSw.1; clear hSw; go_simp)⟩) hHeld ?_
  try simp only [List.setIfInBounds_toArray, List.set_cons_zero, List.set_cons_succ]
  refine takeH (i := 4) (d := 57) (oi := _) (v := .pointer (some ⟨gl, 33, none⟩)) rfl (by kernel_rfl) (by kernel_rfl) (by kernel_rfl) (by kernel_rfl) (fun _ _ _ h => h) (Or.inl ⟨by kernel_rfl, by intro u hSw; clear hSw; go_simp⟩) hHeld ?_
  try simp only [List.setIfInBounds_toArray, List.set_cons_zero, List.set_cons_succ]
  refine takeH (i := 5) (d := 58) (oi := _) (v := .agg (pv x.t)) rfl (by kernel_rfl) (by kernel_rfl) (by kernel_rfl) (by kernel_rfl) (fun _ _ _ h => h) (yieldsIf_load_midC (by kernel_rfl) _ _ rfl (gl) 33 rfl (pC x.t) (pv x.t) (pC_arr x.t) _ (fun u hSw => hSw.2.tgt) Try.underlying29 rfl (size_pv x.t)) hHeld ?_
  try simp only [List.setIfInBounds_toArray, List.set_cons_zero, List.set_cons_succ]
  refine wpAnyH_ready (rs := [6]) (by kernel_rfl) (by simp) ?_
  refine AllReadyH.cons (o := _) rfl (fun K hK => ?_) (AllReadyH.nil)
  go_simp
  refine hK.out _ _ (⟨HFIN.out.cells, HX3.out⟩) (fun hHeld => ?_)
  clear hK K
  try simp only [Act.put, List.setIfInBounds_toArray, List.set_cons_zero, List.set_cons_succ]
  refine wpAnyH_done (by kernel_rfl) ?_ _
  refine NoPanic.normal ?_
  exact hQ _ _ _ _ _ _ _ ⟨HFIN.out, HK3.out, HX3.out, HS3.out⟩
end Go.Proofs.Ythlbpjkopkicbaa
