/- A vote is put: its key's places, its ballot. -/
import Derived.Test.YtomfgopmgfoecaaPoPutC
import Derived.BigFrame
import Derived.Great.BuildSlice
namespace Go.Proofs.Ytomfgopmgfoecaa
open Go.ChangeMaps Go.MapKept Go.Maps Go.RowKit Go.ChangeShapes Go.WideShapes Go.ChangeAt
set_option linter.unusedVariables false
set_option maxRecDepth 100000

noncomputable def pp_r6C : Code := ((Try.f35.body.bind (regionOf 6))).getD .skip
set_option maxRecDepth 1000000 in
set_option maxHeartbeats 8000000 in
theorem pp_r6 (c1 c2 c7 c8 c9 c10 c11 c12 c13 c14 c15 c16 c17 c18 c19 c20 c21 c22 c23 c24 c25 c26 c27 c28 c29 c30 c31 c32 c33 c34 c35 c36 c37 c38 c39 c40 c41 c42 c43 c44 c45 c46 c47 c48 c49 c50 c51 c52 c53 c54 c55 c56 c57 c58 c59 c60 c61 c62 c63 c64 c65 c66 c67 c68 c69 c70 c71 c72 c73 c74 c75 c76 c77 c78 c79 c80 c81 c82 c83 : Value) (w : World) (s bt bk bb n : Nat) (vv vl : Value) (hd : Lk ⊕ Hh → Option Value) (F : Nat → Prop) (S : PoS) (x : Sg) (gb gl gt : Nat) (a : Nat) (tv : Value) (Ay : Option Addr) (L0 : List Nat) (cy N : Nat) (h : PoB s bt bk bb vv vl hd F S n w) (hl : Loc gb gl gt x a tv w) (hnf : ∀ k, k = gb ∨ k = gl ∨ k = gt → ¬ F k) (hL0 : L0 = (S.pl (.inr x.h)).getD []) (hy : (hd (.inr x.h)).getD (.slice none 0 0) = .slice Ay L0.length cy) (hn : n ≤ 1000000) (hll : L0.length ≤ 1000000)
    (Q : Exit → Act → World → Prop) (hQ : ∀ (u53 u54 u55 u56 u57 u58 u59 u60 u61 u62 u63 u64 : Value) (w' : World), (∃ v' F', PoB s bt bk bb vv vl (setF hd (.inr x.h) (some v')) F' { S with wt := S.wt, pl := fun j => if j = (.inr x.h) then some (L0 ++ [N]) else S.pl j } (n + 1 + 1) w' ∧ Kept F w w' ∧ (∀ k, F' k → F k ∨ w.heap.size ≤ k) ∧ (∀ k, F k → F' k) ∧ Loc gb gl gt x a tv w') → Q .normal ⟨#[.pointer (some ⟨s, 0, none⟩), c1, c2, .pointer (some ⟨gb, 0, none⟩), .int .i64 (N : Int), .pointer (some ⟨gl, 0, none⟩), .pointer (some ⟨gt, 0, none⟩), c7, c8, c9, c10, c11, c12, c13, c14, c15, c16, c17, c18, c19, c20, c21, c22, c23, c24, c25, c26, c27, c28, c29, c30, c31, c32, c33, c34, c35, c36, c37, c38, c39, c40, c41, c42, c43, c44, c45, c46, c47, c48, c49, c50, c51, c52, u53, u54, u55, u56, u57, u58, u59, u60, u61, u62, u63, u64, c65, c66, c67, c68, c69, c70, c71, c72, c73, c74, c75, c76, c77, c78, c79, c80, c81, c82, c83], []⟩ w') :
    Code.wp Try.prog pp_r6C Q ⟨#[.pointer (some ⟨s, 0, none⟩), c1, c2, .pointer (some ⟨gb, 0, none⟩), .int .i64 (N : Int), .pointer (some ⟨gl, 0, none⟩), .pointer (some ⟨gt, 0, none⟩), c7, c8, c9, c10, c11, c12, c13, c14, c15, c16, c17, c18, c19, c20, c21, c22, c23, c24, c25, c26, c27, c28, c29, c30, c31, c32, c33, c34, c35, c36, c37, c38, c39, c40, c41, c42, c43, c44, c45, c46, c47, c48, c49, c50, c51, c52, c53, c54, c55, c56, c57, c58, c59, c60, c61, c62, c63, c64, c65, c66, c67, c68, c69, c70, c71, c72, c73, c74, c75, c76, c77, c78, c79, c80, c81, c82, c83], []⟩ w := by
  conv => arg 2; whnf
  try dsimp only at hQ ⊢
  obtain ⟨i0, hi0⟩ : ∃ i0, Try.prog.info? 3 = some i0 := ⟨_, (Option.some_get (by kernel_rfl)).symm⟩
  obtain ⟨hz0, hz1, hz2⟩ := int_row hi0
  have HLL := Lib.hid hL0
  have HYY := Lib.hid hy
  obtain ⟨w2, hw2⟩ : ∃ w2, w2 = w.drew := ⟨_, rfl⟩
  have HF : Hid (PoB s bt bk bb vv vl hd F S n w2) := by rw [hw2]; exact h.below ((Below.refl _ _).drew)
  have LO : Hid (Loc gb gl gt x a tv w2) := by rw [hw2]; exact (show Loc gb gl gt x a tv w.drew from hl)
  have HK : Hid (Kept F w w2) := by rw [hw2]; exact Kept.of_below ((Below.refl _ _).drew)
  have NF := Lib.hid hnf
  clear h hl hnf hL0 hy
  refine wp_region_noPanic ?_
  refine wp_region_held_drew (S := (fun u => u.heap[s]? = some (.cells #[vv, vl, .map (some bt), .map (some bk), .map (some bb)] 79 (0, 0)) ∧ Loc gb gl gt x a tv u)) (by kernel_rfl) (by rw [← hw2]; exact ⟨HF.out.cells, LO.out⟩) (fun hHeld => ?_)
  rw [← hw2]
  rw [← hw2] at hHeld
  clear hw2
  refine takeH (i := 0) (d := 53) (oi := _) (v := .pointer (some ⟨s, 0, none⟩)) rfl (by kernel_rfl) (by kernel_rfl) (by kernel_rfl) (by kernel_rfl) (fun _ _ _ h => h) (Or.inl ⟨by kernel_rfl, by intro u hSw; clear hSw; go_simp⟩) hHeld ?_
  try simp only [List.setIfInBounds_toArray, List.set_cons_zero, List.set_cons_succ]
  refine takeH (i := 1) (d := 54) (oi := _) (v := .pointer (some ⟨s, 0, none⟩)) rfl (by kernel_rfl) (by kernel_rfl) (by kernel_rfl) (by kernel_rfl) (fun _ _ _ h => h) (Or.inl ⟨by kernel_rfl, by intro u hSw; clear hSw; go_simp⟩) hHeld ?_
  try simp only [List.setIfInBounds_toArray, List.set_cons_zero, List.set_cons_succ]
  refine takeH (i := 2) (d := 55) (oi := _) (v := .pointer (some ⟨s, 3, none⟩)) rfl (by kernel_rfl) (by kernel_rfl) (by kernel_rfl) (by kernel_rfl) (fun _ _ _ h => h) (Or.inl ⟨by kernel_rfl, by intro u hSw; clear hSw; go_simp⟩) hHeld ?_
  try simp only [List.setIfInBounds_toArray, List.set_cons_zero, List.set_cons_succ]
  refine takeH (i := 3) (d := 56) (oi := _) (v := .map (some bk)) rfl (by kernel_rfl) (by kernel_rfl) (by kernel_rfl) (by kernel_rfl) (fun _ _ _ h => h) (Or.inl ⟨by kernel_rfl, by intro u hSw; (have hc : u.cell? ⟨s, 3, none⟩ = some (.map (some bk)) := cell_of_row u s 3 _ _ (0, 0) hSw.1; clear hSw; go_simp)⟩) hHeld ?_
  try simp only [List.setIfInBounds_toArray, List.set_cons_zero, List.set_cons_succ]
  refine takeH (i := 4) (d := 57) (oi := _) (v := .pointer (some ⟨gb, 68, none⟩)) rfl (by kernel_rfl) (by kernel_rfl) (by kernel_rfl) (by kernel_rfl) (fun _ _ _ h => h) (Or.inl ⟨by kernel_rfl, by intro u hSw; clear hSw; go_simp⟩) hHeld ?_
  try simp only [List.setIfInBounds_toArray, List.set_cons_zero, List.set_cons_succ]
  refine takeH (i := 5) (d := 58) (oi := _) (v := .agg (hhv x.h)) rfl (by kernel_rfl) (by kernel_rfl) (by kernel_rfl) (by kernel_rfl) (fun _ _ _ h => h) (yieldsIf_load_midC (by kernel_rfl) _ _ rfl (gb) 68 rfl (hhC x.h) (hhv x.h) (hhC_arr x.h) _ (fun u hSw => hSw.2.1.key) Try.underlying24 rfl (size_hhv x.h)) hHeld ?_
  try simp only [List.setIfInBounds_toArray, List.set_cons_zero, List.set_cons_succ]
  refine takeH (i := 6) (d := 60) (oi := _) (v := .int .i64 (N : Int)) rfl (by kernel_rfl) (by kernel_rfl) (by kernel_rfl) (by kernel_rfl) (fun _ _ _ h => h) (Or.inl ⟨by kernel_rfl, by intro u hSw; clear hSw; go_simp⟩) hHeld ?_
  try simp only [List.setIfInBounds_toArray, List.set_cons_zero, List.set_cons_succ]
  refine wpAnyH_ready (rs := [7]) (by kernel_rfl) (by simp) ?_
  refine AllReadyH.cons (o := _) rfl (fun K hK => ?_) (AllReadyH.nil)
  refine step_buildSlice_row (w' := w2.alloc (.cells (#[.int .i64 (N : Int)]) 3)) (by kernel_rfl) 47 1 #[(0, .tmp 60)] rfl (.slice (some ⟨w2.heap.size, 0, none⟩) 1 1) (by simp only [List.map_toArray, List.map_cons, List.map_nil]; exact one_int N w2) ?_
  obtain ⟨gn, hgn⟩ : ∃ g0, g0 = w2.heap.size := ⟨_, rfl⟩
  have ol := own_int N w2
  have b2 : Below w2.heap.size w2 (w2.alloc (.cells (#[.int .i64 (N : Int)]) 3)) := (Below.refl _ _).alloc (Nat.le_refl _) _
  rw [← hgn] at ol ⊢
  obtain ⟨w2, hw2⟩ : ∃ w3, w3 = w2.alloc (.cells (#[.int .i64 (N : Int)]) 3) := ⟨_, rfl⟩
  rw [← hw2] at ol b2 ⊢
  have OL := Lib.hid ol
  have HF := Lib.hid (HF.out.below b2)
  have LO := Lib.hid (LO.out.below b2)
  have HK := Lib.hid (HK.out.trans (F' := F) (Kept.of_below b2) (fun k e => .inl e))
  clear ol b2 hw2 hgn
  try go_simp
  refine hK.out _ _ (⟨HF.out.cells, LO.out⟩) (fun hHeld => ?_)
  clear hK K
  try simp only [Act.put, List.setIfInBounds_toArray, List.set_cons_zero, List.set_cons_succ]
  refine wpAnyH_ready (rs := [8]) (by kernel_rfl) (by simp) ?_
  refine AllReadyH.cons (o := _) rfl (fun K hK => ?_) (AllReadyH.nil)
  obtain ⟨st, w4, hr, hm, ht, he⟩ := MapF.entry keyH HF.out.keys Try.underlying76 (z := .slice none 0 0) (zero_ints w2) (by unfold maxLen; omega) x.h
  have e1 : (kysF hd x.h).getD (.slice none 0 0) = .slice Ay L0.length cy := HYY.out
  rw [e1] at hr hm
  obtain ⟨t1, t2, t3⟩ := turned_block ht
  have HY := Lib.hid (own_of HF.out (i := (.inr x.h)) HLL.out HYY.out)
  have HR4 := Lib.hid (ownKeep (w' := w4) HY.out.1 (fun g hg => t1 g (HY.out.2.2 g hg).2.2.1))
  have OL4 := Lib.hid (ownKeep (w' := w4) OL.out (fun g hg => t1 g (row_ne OL.out hg t3)))
  have LO4 := Lib.hid (LO.out.keep (w' := w4) (fun k hk => t1 k (fun e => NF.out k hk (by rw [e]; exact HF.out.foot.2.2.1))))
  have C4 := Lib.hid ((t1 s HF.out.s_ne.2.1).trans HF.out.cells)
  have HK4 := Lib.hid (HK.out.trans (Kept.turned ht HF.out.foot.2.2.1) (fun k e => .inl e))
  have T4 := Lib.hid (And.intro t1 t2)
  have HM := Lib.hid hm
  have HE := Lib.hid he
  clear hm he ht t1 t2 t3 e1
  go_simp
  clear hr
  try go_simp
  refine hK.out _ _ (⟨C4.out, LO4.out⟩) (fun hHeld => ?_)
  clear hK K
  try simp only [Act.put, List.setIfInBounds_toArray, List.set_cons_zero, List.set_cons_succ]
  refine takeH (i := 9) (d := 59) (oi := _) (v := .slice Ay L0.length cy) rfl (by kernel_rfl) (by kernel_rfl) (by kernel_rfl) (by kernel_rfl) (fun _ _ _ h => h) (Or.inl ⟨by kernel_rfl, by intro u hSw; clear hSw; go_simp⟩) hHeld ?_
  try simp only [List.setIfInBounds_toArray, List.set_cons_zero, List.set_cons_succ]
  refine takeH (i := 11) (d := 64) (oi := _) (v := .int .i64 (st : Nat)) rfl (by kernel_rfl) (by kernel_rfl) (by kernel_rfl) (by kernel_rfl) (fun _ _ _ h => h) (Or.inl ⟨by kernel_rfl, by intro u hSw; clear hSw; go_simp⟩) hHeld ?_
  try simp only [List.setIfInBounds_toArray, List.set_cons_zero, List.set_cons_succ]
  refine wpAnyH_ready (rs := [10]) (by kernel_rfl) (by simp) ?_
  refine AllReadyH.cons (o := _) rfl (fun K hK => ?_) (AllReadyH.nil)
  refine step_append_row (by kernel_rfl) (.tmp 59) (.tmp 61) 47 rfl 0 3 i0 _ 1 8 Try.underlying47 hi0 hz0 hz1 hz2 rfl (by decide) (.slice Ay L0.length cy) L0.length (rws intC L0) rfl HR4.out 0 _ 1 (intC N) rfl OL4.out (intC_one N) (by unfold maxLen; omega) (by omega) (Nat.zero_le _) ?_
  intro v' w3 o3 g3 b3
  obtain ⟨A3, c3', rfl, _, _, _⟩ := ownForm o3
  rw [rws_more] at o3
  have o3' : w3.ownsRow 0 3 1 (.slice A3 (L0.length + 1) c3') (L0 ++ [N]).length (rws intC (L0 ++ [N])) := by rw [List.length_append]; exact o3
  have yk : ∀ k, (Value.slice Ay L0.length cy).ownBlock = some k → F k := fun k e => (HY.out.2.1 k e).1
  have q1 : ∀ k, F k → k ≠ bk → (∀ v, hd (.inr x.h) = some v → v.ownBlock ≠ some k) → w3.heap[k]? = w2.heap[k]? := fun k hF hb hv => (g3.block k (by rw [T4.out.2]; exact HF.out.fin k hF) (fun e => hv _ (HY.out.2.1 k e.symm).2 e.symm)).trans (T4.out.1 k hb)
  have hm4 := HM.out.kept g3 (fun e => (HY.out.2.2 bk e.symm).2.2.1 rfl)
  have he4 := HE.out.keep (g3.block bk HM.out.lt (fun e => (HY.out.2.2 bk e.symm).2.2.1 rfl))
  obtain ⟨w5, hr5, hm5, ht5⟩ := MapF.entryStore keyH hm4 Try.underlying76 (by unfold maxLen; omega) x.h he4 (.slice A3 (L0.length + 1) c3')
  rw [setF_setF, kys_set] at hm5
  obtain ⟨t1, t2, t3⟩ := turned_block ht5
  have mt5 : MapF 50 klL w5 bt (n + 1 + 1) (talF S.wt (setF hd (.inr x.h) (some (.slice A3 (L0.length + 1) c3')))) := by
    rw [tal_inr]
    exact (HF.out.tal.keep (w' := w5) ((t1 bt HF.out.ne.1).trans (q1 bt HF.out.foot.2.1 HF.out.ne.1 (fun v hv e => (HF.out.hd_ne hv e).2.1 rfl)))).mono (by omega)
  have z4 := T4.out.2
  have HFIN := Lib.hid (HF.out.turnRow (.inr x.h) bk (.inr rfl) (v' := .slice A3 (L0.length + 1) c3') (n' := n + 1 + 1) (by omega) (fun k hF hb hv => (t1 k hb).trans (q1 k hF hb hv)) (by rw [t2, ← z4]; exact g3.size) mt5 hm5 (ownKeep o3' (fun g hg => t1 g (row_ne o3' hg t3))) (by
      rcases b3 with b3 | b3
      · cases hh : (Value.slice Ay L0.length cy).ownBlock with
        | none => exact .inr (fun k e => by rw [b3, hh] at e; cases e)
        | some k => exact .inl ⟨_, (HY.out.2.1 k hh).2, b3⟩
      · exact .inr (fun k e => by rw [b3] at e; injection e with e; omega)))
  have LO3 := Lib.hid (LO4.out.keep (w' := w3) (fun k hk => g3.block k (LO4.out.lt k hk) (fun e => NF.out k hk (yk k e.symm))))
  have C3 := Lib.hid ((q1 s HF.out.foot.1 HF.out.s_ne.2.1 (fun v hv e => (HF.out.hd_ne hv e).1 rfl)).trans HF.out.cells)
  have LO5 := Lib.hid (LO3.out.keep (w' := w5) (fun k hk => t1 k (fun e => NF.out k hk (by rw [e]; exact HF.out.foot.2.2.1))))
  have HK5 : Hid (Kept F w w5 ∧ ∀ k, (Value.slice A3 (L0.length + 1) c3').ownBlock = some k → F k ∨ w.heap.size ≤ k) := ⟨(HK4.out.trans (F' := F) ⟨g3.os, g3.tape, g3.output, g3.size, fun k hk hn => g3.block k hk (fun e => hn (yk k e.symm))⟩ (fun k e => .inl e)).trans (Kept.turned ht5 HF.out.foot.2.2.1) (fun k e => .inl e), fun k e => by
      rcases b3 with b3 | b3
      · exact .inl (yk k (by rw [← b3]; exact e))
      · rw [b3] at e
        injection e with e
        have := HK4.out.2.2.2.1
        exact .inr (by omega)⟩
  clear o3 o3' g3 b3 q1 hm4 he4 hm5 ht5 t1 t2 t3 mt5 yk HY z4
  try go_simp
  refine hK.out _ _ (⟨C3.out, LO3.out⟩) (fun hHeld => ?_)
  clear hK K
  try simp only [Act.put, List.setIfInBounds_toArray, List.set_cons_zero, List.set_cons_succ]
  refine wpAnyH_ready (rs := [12]) (by kernel_rfl) (by simp) ?_
  refine AllReadyH.cons (o := _) rfl (fun K hK => ?_) (AllReadyH.nil)
  go_simp
  try go_simp
  refine hK.out _ _ (⟨HFIN.out.cells, LO5.out⟩) (fun hHeld => ?_)
  clear hK K
  try simp only [Act.put, List.setIfInBounds_toArray, List.set_cons_zero, List.set_cons_succ]
  refine wpAnyH_done (by kernel_rfl) ?_ _
  refine NoPanic.normal ?_
  exact hQ _ _ _ _ _ _ _ _ _ _ _ _ _ ⟨_, _, HFIN.out, HK5.out.1, fun k hk => hk.elim .inl (HK5.out.2 k), fun k hk => .inl hk, LO5.out⟩
noncomputable def pp_r7C : Code := ((Try.f35.body.bind (regionOf 7))).getD .skip
set_option maxRecDepth 1000000 in
set_option maxHeartbeats 8000000 in
theorem pp_r7 (c1 c2 c7 c8 c9 c10 c11 c12 c13 c14 c15 c16 c17 c18 c19 c20 c21 c22 c23 c24 c25 c26 c27 c28 c29 c30 c31 c32 c33 c34 c35 c36 c37 c38 c39 c40 c41 c42 c43 c44 c45 c46 c47 c48 c49 c50 c51 c52 c53 c54 c55 c56 c57 c58 c59 c60 c61 c62 c63 c64 c65 c66 c67 c68 c69 c70 c71 c72 c73 c74 c75 c76 c77 c78 c79 c80 c81 c82 c83 : Value) (w : World) (s bt bk bb n : Nat) (vv vl : Value) (hd : Lk ⊕ Hh → Option Value) (F : Nat → Prop) (S : PoS) (x : Sg) (gb gl gt : Nat) (a : Nat) (tv : Value) (N : Nat) (h : PoB s bt bk bb vv vl hd F S n w) (hl : Loc gb gl gt x a tv w) (hnf : ∀ k, k = gb ∨ k = gl ∨ k = gt → ¬ F k) (hn : n ≤ 1000000)
    (Q : Exit → Act → World → Prop) (hQ : ∀ (u65 u66 u67 u68 u69 u70 u71 u72 u73 : Value) (w' : World), (PoB s bt bk bb vv vl hd F { S with bal := S.bal ++ [⟨x.h, x.k⟩] } (n + 1) w' ∧ Kept F w w' ∧ Loc gb gl gt x a tv w') → Q .normal ⟨#[.pointer (some ⟨s, 0, none⟩), c1, c2, .pointer (some ⟨gb, 0, none⟩), .int .i64 (N : Int), .pointer (some ⟨gl, 0, none⟩), .pointer (some ⟨gt, 0, none⟩), c7, c8, c9, c10, c11, c12, c13, c14, c15, c16, c17, c18, c19, c20, c21, c22, c23, c24, c25, c26, c27, c28, c29, c30, c31, c32, c33, c34, c35, c36, c37, c38, c39, c40, c41, c42, c43, c44, c45, c46, c47, c48, c49, c50, c51, c52, c53, c54, c55, c56, c57, c58, c59, c60, c61, c62, c63, c64, u65, u66, u67, u68, u69, u70, u71, u72, u73, c74, c75, c76, c77, c78, c79, c80, c81, c82, c83], []⟩ w') :
    Code.wp Try.prog pp_r7C Q ⟨#[.pointer (some ⟨s, 0, none⟩), c1, c2, .pointer (some ⟨gb, 0, none⟩), .int .i64 (N : Int), .pointer (some ⟨gl, 0, none⟩), .pointer (some ⟨gt, 0, none⟩), c7, c8, c9, c10, c11, c12, c13, c14, c15, c16, c17, c18, c19, c20, c21, c22, c23, c24, c25, c26, c27, c28, c29, c30, c31, c32, c33, c34, c35, c36, c37, c38, c39, c40, c41, c42, c43, c44, c45, c46, c47, c48, c49, c50, c51, c52, c53, c54, c55, c56, c57, c58, c59, c60, c61, c62, c63, c64, c65, c66, c67, c68, c69, c70, c71, c72, c73, c74, c75, c76, c77, c78, c79, c80, c81, c82, c83], []⟩ w := by
  conv => arg 2; whnf
  try dsimp only at hQ ⊢
  obtain ⟨w2, hw2⟩ : ∃ w2, w2 = w.drew := ⟨_, rfl⟩
  have HF : Hid (PoB s bt bk bb vv vl hd F S n w2) := by rw [hw2]; exact h.below ((Below.refl _ _).drew)
  have LO : Hid (Loc gb gl gt x a tv w2) := by rw [hw2]; exact (show Loc gb gl gt x a tv w.drew from hl)
  have HK : Hid (Kept F w w2) := by rw [hw2]; exact Kept.of_below ((Below.refl _ _).drew)
  have NF := Lib.hid hnf
  clear h hl hnf
  obtain ⟨w3, hr, hm3, ht3⟩ := HF.out.bals.put keyB Try.underlying77 (by unfold maxLen; omega) ⟨x.h, x.k⟩ (.agg #[])
  rw [balF_set] at hm3
  have HFIN := Lib.hid (HF.out.turnBals ht3 (Nat.le_succ n) hm3)
  obtain ⟨t1, t2, t3⟩ := turned_block ht3
  have LO3 := Lib.hid (LO.out.keep (w' := w3) (fun k hk => t1 k (fun e => NF.out k hk (by rw [e]; exact HF.out.foot.2.2.2.1))))
  have HK3 := Lib.hid (HK.out.trans (Kept.turned ht3 HF.out.foot.2.2.2.1) (fun k e => .inl e))
  clear hm3 ht3 t1 t2 t3
  refine wp_region_noPanic ?_
  refine wp_region_held_drew (S := (fun u => u.heap[s]? = some (.cells #[vv, vl, .map (some bt), .map (some bk), .map (some bb)] 79 (0, 0)) ∧ Loc gb gl gt x a tv u)) (by kernel_rfl) (by rw [← hw2]; exact ⟨HF.out.cells, LO.out⟩) (fun hHeld => ?_)
  rw [← hw2]
  rw [← hw2] at hHeld
  clear hw2
  refine takeH (i := 0) (d := 65) (oi := _) (v := .pointer (some ⟨s, 0, none⟩)) rfl (by kernel_rfl) (by kernel_rfl) (by kernel_rfl) (by kernel_rfl) (fun _ _ _ h => h) (Or.inl ⟨by kernel_rfl, by intro u hSw; clear hSw; go_simp⟩) hHeld ?_
  try simp only [List.setIfInBounds_toArray, List.set_cons_zero, List.set_cons_succ]
  refine takeH (i := 1) (d := 66) (oi := _) (v := .pointer (some ⟨s, 0, none⟩)) rfl (by kernel_rfl) (by kernel_rfl) (by kernel_rfl) (by kernel_rfl) (fun _ _ _ h => h) (Or.inl ⟨by kernel_rfl, by intro u hSw; clear hSw; go_simp⟩) hHeld ?_
  try simp only [List.setIfInBounds_toArray, List.set_cons_zero, List.set_cons_succ]
  refine takeH (i := 2) (d := 67) (oi := _) (v := .pointer (some ⟨s, 4, none⟩)) rfl (by kernel_rfl) (by kernel_rfl) (by kernel_rfl) (by kernel_rfl) (fun _ _ _ h => h) (Or.inl ⟨by kernel_rfl, by intro u hSw; clear hSw; go_simp⟩) hHeld ?_
  try simp only [List.setIfInBounds_toArray, List.set_cons_zero, List.set_cons_succ]
  refine takeH (i := 3) (d := 68) (oi := _) (v := .map (some bb)) rfl (by kernel_rfl) (by kernel_rfl) (by kernel_rfl) (by kernel_rfl) (fun _ _ _ h => h) (Or.inl ⟨by kernel_rfl, by intro u hSw; (have hc : u.cell? ⟨s, 4, none⟩ = some (.map (some bb)) := cell_of_row u s 4 _ _ (0, 0) hSw.1; clear hSw; go_simp)⟩) hHeld ?_
  try simp only [List.setIfInBounds_toArray, List.set_cons_zero, List.set_cons_succ]
  refine takeH (i := 4) (d := 69) (oi := _) (v := .pointer (some ⟨gb, 68, none⟩)) rfl (by kernel_rfl) (by kernel_rfl) (by kernel_rfl) (by kernel_rfl) (fun _ _ _ h => h) (Or.inl ⟨by kernel_rfl, by intro u hSw; clear hSw; go_simp⟩) hHeld ?_
  try simp only [List.setIfInBounds_toArray, List.set_cons_zero, List.set_cons_succ]
  refine takeH (i := 5) (d := 70) (oi := _) (v := .agg (hhv x.h)) rfl (by kernel_rfl) (by kernel_rfl) (by kernel_rfl) (by kernel_rfl) (fun _ _ _ h => h) (yieldsIf_load_midC (by kernel_rfl) _ _ rfl (gb) 68 rfl (hhC x.h) (hhv x.h) (hhC_arr x.h) _ (fun u hSw => hSw.2.1.key) Try.underlying24 rfl (size_hhv x.h)) hHeld ?_
  try simp only [List.setIfInBounds_toArray, List.set_cons_zero, List.set_cons_succ]
  refine takeH (i := 6) (d := 71) (oi := _) (v := .agg (lv x.k)) rfl (by kernel_rfl) (by kernel_rfl) (by kernel_rfl) (by kernel_rfl) (fun _ _ _ h => h) (yieldsIf_load_midC (by kernel_rfl) _ _ rfl (gl) 0 rfl (lC x.k) (lv x.k) (lC_arr x.k) _ (fun u hSw => hSw.2.2.1.all) Try.underlying50 rfl (size_lv x.k)) hHeld ?_
  try simp only [List.setIfInBounds_toArray, List.set_cons_zero, List.set_cons_succ]
  refine takeH (i := 7) (d := 72) (oi := _) (v := .agg (btv ⟨x.h, x.k⟩)) rfl (by kernel_rfl) (by kernel_rfl) (by kernel_rfl) (by kernel_rfl) (fun _ _ _ h => h) (yieldsIf_build (by kernel_rfl) 91 #[(0, .tmp 70), (1, .tmp 71)] rfl _ _ (built_bt x.h x.k) (by kernel_rfl)) hHeld ?_
  try simp only [List.setIfInBounds_toArray, List.set_cons_zero, List.set_cons_succ]
  refine takeH (i := 8) (d := 73) (oi := _) (v := .agg #[]) rfl (by kernel_rfl) (by kernel_rfl) (by kernel_rfl) (by kernel_rfl) (fun _ _ _ h => h) (Or.inl ⟨by kernel_rfl, by intro u hSw; clear hSw; go_simp⟩) hHeld ?_
  try simp only [List.setIfInBounds_toArray, List.set_cons_zero, List.set_cons_succ]
  refine wpAnyH_ready (rs := [9]) (by kernel_rfl) (by simp) ?_
  refine AllReadyH.cons (o := _) rfl (fun K hK => ?_) (AllReadyH.nil)
  go_simp
  try go_simp
  refine hK.out _ _ (⟨HFIN.out.cells, LO3.out⟩) (fun hHeld => ?_)
  clear hK K
  try simp only [Act.put, List.setIfInBounds_toArray, List.set_cons_zero, List.set_cons_succ]
  refine wpAnyH_done (by kernel_rfl) ?_ _
  refine NoPanic.normal ?_
  exact hQ _ _ _ _ _ _ _ _ _ _ ⟨HFIN.out, HK3.out, LO3.out⟩
end Go.Proofs.Ytomfgopmgfoecaa
