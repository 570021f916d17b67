/- A vote is put: links and votes grow. -/
import Derived.Test.YtomfgopmgfoecaaPoPutA
import Derived.BigFrame
import Derived.Great.BuildSlice
namespace Go.Proofs.Ytomfgopmgfoecaa
open Go.ChangeMaps Go.MapKept Go.Maps Go.RowKit Go.ChangeShapes Go.WideShapes Go.ChangeAt
set_option linter.unusedVariables false
set_option maxRecDepth 100000

/-- What put holds beside the store: the vote, its link, the tally. -/
def Loc (gb gl gt : Nat) (x : Sg) (a : Nat) (tv : Value) (w : World) : Prop := SgB gb x w ∧ LkB gl x.k w ∧ w.heap[gt]? = some (.cells #[.int .u64 (a : Int), tv] 82 (0, 0))
section
variable {gb gl gt a : Nat} {x : Sg} {tv : Value} {w w' : World}
theorem Loc.keep (h : Loc gb gl gt x a tv w) (hk : ∀ k, k = gb ∨ k = gl ∨ k = gt → w'.heap[k]? = w.heap[k]?) : Loc gb gl gt x a tv w' :=
  ⟨h.1.keep (hk gb (.inl rfl)), h.2.1.keep (hk gl (.inr (.inl rfl))), (hk gt (.inr (.inr rfl))).trans h.2.2⟩
theorem Loc.lt (h : Loc gb gl gt x a tv w) : ∀ k, k = gb ∨ k = gl ∨ k = gt → k < w.heap.size := by
  intro k hk
  rcases hk with rfl | rfl | rfl
  · exact h.1.lt
  · exact h.2.1.lt
  · exact blk_lt h.2.2
theorem Loc.below (h : Loc gb gl gt x a tv w) (hb : Below w.heap.size w w') : Loc gb gl gt x a tv w' := h.keep (fun k hk => hb.block k (h.lt k hk))
end
theorem one_link (x : Lk) (u : World) : (Instr.buildSlice 57 1 #[(0, .agg (lv x))]).run Try.prog u = .ok (.slice (some ⟨u.heap.size, 0, none⟩) 1 1) (u.alloc (.cells (lv x) 50)) := by
  have hie : Try.prog.info? 50 = some ((Try.prog.info? 50).get (by kernel_rfl)) := (Option.some_get _).symm
  refine run_buildSlice u _ 50 1 _ (lv x) _ _ Try.underlying57 hie (Option.some_get (by kernel_rfl)).symm (by decide +kernel) (by decide +kernel) ?_
  kernel_rfl
theorem own_link (x : Lk) (u : World) : (u.alloc (.cells (lv x) 50)).ownsRow 0 50 66 (.slice (some ⟨u.heap.size, 0, none⟩) 1 1) 1 (lC x) := by
  refine ⟨by rw [lC_len], .inr ⟨u.heap.size, 1, lv x, rfl, Nat.zero_le _, heap_alloc_new u _, Nat.le_refl _, by unfold maxLen; omega, by unfold lv; rw [rowV_size], ?_⟩⟩
  unfold lv
  rw [rowV_list, List.take_of_length_le (by simp)]
  rfl
theorem one_sg (x : Sg) {A : Option Addr} {m c : Nat} (hx : x.sv = .slice A m c) (u : World) : (Instr.buildSlice 22 1 #[(0, .agg (sgv x))]).run Try.prog u = .ok (.slice (some ⟨u.heap.size, 0, none⟩) 1 1) (u.alloc (.cells (sgv x) 42)) := by
  have hie : Try.prog.info? 42 = some ((Try.prog.info? 42).get (by kernel_rfl)) := (Option.some_get _).symm
  cases x
  simp only at hx
  subst hx
  refine run_buildSlice u _ 42 1 _ (sgv _) _ _ Try.underlying22 hie (Option.some_get (by kernel_rfl)).symm (by decide +kernel) (by decide +kernel) ?_
  kernel_rfl
theorem own_sg (x : Sg) (u : World) : (u.alloc (.cells (sgv x) 42)).ownsRow 0 42 101 (.slice (some ⟨u.heap.size, 0, none⟩) 1 1) 1 (sgC x) := by
  refine ⟨by rw [sgC_len], .inr ⟨u.heap.size, 1, sgv x, rfl, Nat.zero_le _, heap_alloc_new u _, Nat.le_refl _, by unfold maxLen; omega, by unfold sgv; rw [rowV_size], ?_⟩⟩
  unfold sgv
  rw [rowV_list, List.take_of_length_le (by simp)]
  rfl
theorem link_row {i : TypeInfo} (h : (Try.prog.info? 50) = some i) : i.zero = some (.agg (lv lkZ)) ∧ i.size = 66 ∧ i.bytes = 80 := by
  have : (Try.prog.info? 50).map (fun i => (i.zero, i.size, i.bytes)) = some (some (.agg (lv lkZ)), 66, 80) := by kernel_rfl
  rw [h] at this
  injection this with this
  injection this with h1 h2
  injection h2 with h2 h3
  exact ⟨h1, h2, h3⟩
theorem sg_row {i : TypeInfo} (h : (Try.prog.info? 42) = some i) : i.zero = some (.agg (sgv sgZ)) ∧ i.size = 101 ∧ i.bytes = 152 := by
  have : (Try.prog.info? 42).map (fun i => (i.zero, i.size, i.bytes)) = some (some (.agg (sgv sgZ)), 101, 152) := by kernel_rfl
  rw [h] at this
  injection this with this
  injection this with h1 h2
  injection h2 with h2 h3
  exact ⟨h1, h2, h3⟩
section
variable {s bt bk bb : Nat} {vv vl : Value} {hd : Lk ⊕ Hh → Option Value} {F : Nat → Prop} {S : PoS} {n : Nat} {w w1 : World}
theorem prepL (h : PoB s bt bk bb vv vl hd F S n w) (hg : w.grownBy w1 vl.ownBlock) : w1.cell? ⟨s, 1, none⟩ = some vl ∧ w1.frozen? ⟨s, 1, none⟩ = false := by
  have hs1 := (hg.block s (h.fin s h.foot.1) (fun e => (h.vl_ne e.symm).1 rfl)).trans h.cells
  exact ⟨cell_of_row w1 s 1 _ _ (0, 0) hs1, by simp [World.frozen?, hs1]⟩
theorem prepV (h : PoB s bt bk bb vv vl hd F S n w) (hg : w.grownBy w1 vv.ownBlock) : w1.cell? ⟨s, 0, none⟩ = some vv ∧ w1.frozen? ⟨s, 0, none⟩ = false := by
  have hs1 := (hg.block s (h.fin s h.foot.1) (fun e => (h.vv_ne e.symm).1 rfl)).trans h.cells
  exact ⟨cell_of_row w1 s 0 _ _ (0, 0) hs1, by simp [World.frozen?, hs1]⟩
end
noncomputable def pp_r4C : Code := ((Try.f35.body.bind (regionOf 4))).getD .skip
set_option maxRecDepth 1000000 in
set_option maxHeartbeats 8000000 in
theorem pp_r4 (c1 c2 c4 c6 c7 c8 c9 c10 c11 c12 c13 c14 c15 c16 c17 c18 c19 c20 c21 c22 c23 c24 c25 c26 c27 c28 c29 c30 c31 c32 c33 c34 c35 c36 c37 c38 c39 c40 c41 c42 c43 c44 c45 c46 c47 c48 c49 c50 c51 c52 c53 c54 c55 c56 c57 c58 c59 c60 c61 c62 c63 c64 c65 c66 c67 c68 c69 c70 c71 c72 c73 c74 c75 c76 c77 c78 c79 c80 c81 c82 c83 : Value) (w : World) (s bt bk bb n : Nat) (vv vl : Value) (hd : Lk ⊕ Hh → Option Value) (F : Nat → Prop) (S : PoS) (x : Sg) (gb gl gt : Nat) (a : Nat) (tv : Value)  (h : PoB s bt bk bb vv vl hd F S n w) (hl : Loc gb gl gt x a tv w) (hnf : ∀ k, k = gb ∨ k = gl ∨ k = gt → ¬ F k) (hn : S.links.length ≤ 1000000)
    (Q : Exit → Act → World → Prop) (hQ : ∀ (u27 u28 u29 u30 u31 u32 u33 u34 u35 u36 : Value) (w' : World), (∃ vl' F', PoB s bt bk bb vv vl' hd F' { S with links := S.links ++ [x.k] } n w' ∧ Kept F w w' ∧ (∀ k, F' k → F k ∨ w.heap.size ≤ k) ∧ (∀ k, F k → F' k) ∧ Loc gb gl gt x a tv w') → Q .normal ⟨#[.pointer (some ⟨s, 0, none⟩), c1, c2, .pointer (some ⟨gb, 0, none⟩), c4, .pointer (some ⟨gl, 0, none⟩), c6, c7, c8, c9, c10, c11, c12, c13, c14, c15, c16, c17, c18, c19, c20, c21, c22, c23, c24, c25, c26, u27, u28, u29, u30, u31, u32, u33, u34, u35, u36, c37, c38, c39, c40, c41, c42, c43, c44, c45, c46, c47, c48, c49, c50, c51, c52, c53, c54, c55, c56, c57, c58, c59, c60, c61, c62, c63, c64, c65, c66, c67, c68, c69, c70, c71, c72, c73, c74, c75, c76, c77, c78, c79, c80, c81, c82, c83], []⟩ w') :
    Code.wp Try.prog pp_r4C Q ⟨#[.pointer (some ⟨s, 0, none⟩), c1, c2, .pointer (some ⟨gb, 0, none⟩), c4, .pointer (some ⟨gl, 0, none⟩), c6, c7, c8, c9, c10, c11, c12, c13, c14, c15, c16, c17, c18, c19, c20, c21, c22, c23, c24, c25, c26, c27, c28, c29, c30, c31, c32, c33, c34, c35, c36, c37, c38, c39, c40, c41, c42, c43, c44, c45, c46, c47, c48, c49, c50, c51, c52, c53, c54, c55, c56, c57, c58, c59, c60, c61, c62, c63, c64, c65, c66, c67, c68, c69, c70, c71, c72, c73, c74, c75, c76, c77, c78, c79, c80, c81, c82, c83], []⟩ w := by
  conv => arg 2; whnf
  try dsimp only at hQ ⊢
  obtain ⟨i0, hi0⟩ : ∃ i0, Try.prog.info? 50 = some i0 := ⟨_, (Option.some_get (by kernel_rfl)).symm⟩
  obtain ⟨hz0, hz1, hz2⟩ := link_row hi0
  obtain ⟨Al, cl, hvl, _⟩ := ownForm h.links
  have HVL := Lib.hid hvl
  obtain ⟨w2, hw2⟩ : ∃ w2, w2 = w.drew := ⟨_, rfl⟩
  have HF : Hid (PoB s bt bk bb vv vl hd F S n w2) := by rw [hw2]; exact h.below ((Below.refl _ _).drew)
  have LO : Hid (Loc gb gl gt x a tv w2) := by rw [hw2]; exact (show Loc gb gl gt x a tv w.drew from hl)
  have HK : Hid (Kept F w w2) := by rw [hw2]; exact Kept.of_below ((Below.refl _ _).drew)
  have NF := Lib.hid hnf
  clear h hl hvl hnf
  refine wp_region_noPanic ?_
  refine wp_region_held_drew (S := (fun u => Loc gb gl gt x a tv u)) (by kernel_rfl) (by rw [← hw2]; exact LO.out) (fun hHeld => ?_)
  rw [← hw2]
  rw [← hw2] at hHeld
  clear hw2
  refine takeH (i := 0) (d := 27) (oi := _) (v := .pointer (some ⟨s, 0, none⟩)) rfl (by kernel_rfl) (by kernel_rfl) (by kernel_rfl) (by kernel_rfl) (fun _ _ _ h => h) (Or.inl ⟨by kernel_rfl, by intro u hSw; clear hSw; go_simp⟩) hHeld ?_
  try simp only [List.setIfInBounds_toArray, List.set_cons_zero, List.set_cons_succ]
  refine takeH (i := 1) (d := 28) (oi := _) (v := .pointer (some ⟨s, 0, none⟩)) rfl (by kernel_rfl) (by kernel_rfl) (by kernel_rfl) (by kernel_rfl) (fun _ _ _ h => h) (Or.inl ⟨by kernel_rfl, by intro u hSw; clear hSw; go_simp⟩) hHeld ?_
  try simp only [List.setIfInBounds_toArray, List.set_cons_zero, List.set_cons_succ]
  refine takeH (i := 2) (d := 29) (oi := _) (v := .pointer (some ⟨s, 0, none⟩)) rfl (by kernel_rfl) (by kernel_rfl) (by kernel_rfl) (by kernel_rfl) (fun _ _ _ h => h) (Or.inl ⟨by kernel_rfl, by intro u hSw; clear hSw; go_simp⟩) hHeld ?_
  try simp only [List.setIfInBounds_toArray, List.set_cons_zero, List.set_cons_succ]
  refine takeH (i := 3) (d := 30) (oi := _) (v := .pointer (some ⟨s, 1, none⟩)) rfl (by kernel_rfl) (by kernel_rfl) (by kernel_rfl) (by kernel_rfl) (fun _ _ _ h => h) (Or.inl ⟨by kernel_rfl, by intro u hSw; clear hSw; go_simp⟩) hHeld ?_
  try simp only [List.setIfInBounds_toArray, List.set_cons_zero, List.set_cons_succ]
  refine takeH (i := 5) (d := 32) (oi := _) (v := .agg (lv x.k)) rfl (by kernel_rfl) (by kernel_rfl) (by kernel_rfl) (by kernel_rfl) (fun _ _ _ h => h) (yieldsIf_load_midC (by kernel_rfl) _ _ rfl (gl) 0 rfl (lC x.k) (lv x.k) (lC_arr x.k) _ (fun u hSw => hSw.2.1.all) Try.underlying50 rfl (size_lv x.k)) hHeld ?_
  try simp only [List.setIfInBounds_toArray, List.set_cons_zero, List.set_cons_succ]
  refine wpAnyH_ready (rs := [4, 6]) (by kernel_rfl) (by simp) ?_
  refine AllReadyH.cons (o := _) rfl (fun K hK => ?_) (AllReadyH.cons (o := _) rfl (fun K hK => ?_) (AllReadyH.nil))
  · have c1 : w2.cell? ⟨s, 1, none⟩ = some (.slice Al S.links.length cl) := cell_of_row w2 s 1 _ _ (0, 0) (HVL.out ▸ HF.out.cells)
    go_simp
    clear c1
    try go_simp
    refine hK.out _ _ (LO.out) (fun hHeld => ?_)
    clear hK K
    try simp only [Act.put, List.setIfInBounds_toArray, List.set_cons_zero, List.set_cons_succ]
    refine wpAnyH_ready (rs := [6]) (by kernel_rfl) (by simp) ?_
    refine AllReadyH.cons (o := _) rfl (fun K hK => ?_) (AllReadyH.nil)
    refine step_buildSlice_row (w' := w2.alloc (.cells (lv x.k) 50)) (by kernel_rfl) 57 1 #[(0, .tmp 32)] rfl (.slice (some ⟨w2.heap.size, 0, none⟩) 1 1) (by simp only [List.map_toArray, List.map_cons, List.map_nil]; exact one_link x.k w2) ?_
    obtain ⟨gn, hgn⟩ : ∃ g0, g0 = w2.heap.size := ⟨_, rfl⟩
    have ol := own_link x.k w2
    have b2 : Below w2.heap.size w2 (w2.alloc (.cells (lv x.k) 50)) := (Below.refl _ _).alloc (Nat.le_refl _) _
    rw [← hgn] at ol ⊢
    obtain ⟨w2, hw2⟩ : ∃ w3, w3 = w2.alloc (.cells (lv x.k) 50) := ⟨_, rfl⟩
    rw [← hw2] at ol b2 ⊢
    have OL := Lib.hid ol
    have HF := Lib.hid (HF.out.below b2)
    have LO := Lib.hid (LO.out.below b2)
    have HK := Lib.hid (HK.out.trans (F' := F) (Kept.of_below b2) (fun k e => .inl e))
    clear ol b2 hw2 hgn
    try go_simp
    refine hK.out _ _ (LO.out) (fun hHeld => ?_)
    clear hK K
    try simp only [Act.put, List.setIfInBounds_toArray, List.set_cons_zero, List.set_cons_succ]
    refine wpAnyH_ready (rs := [7]) (by kernel_rfl) (by simp) ?_
    refine AllReadyH.cons (o := _) rfl (fun K hK => ?_) (AllReadyH.nil)
    refine step_append_row (by kernel_rfl) (.tmp 31) (.tmp 33) 57 rfl 0 50 i0 _ 66 80 Try.underlying57 hi0 hz0 hz1 hz2 (by show (lv lkZ).size = 66; exact rowV_size _ _) (by decide) (.slice Al S.links.length cl) S.links.length (rws lC S.links) rfl (HVL.out ▸ HF.out.links) 0 _ 1 (lC x.k) rfl OL.out (lC_one x.k) (by unfold maxLen; omega) (by omega) (Nat.zero_le _) ?_
    intro v' w3 o3 g3 b3
    obtain ⟨A3, c3', rfl, _, _, _⟩ := ownForm o3
    rw [rws_more] at o3
    have o3' : w3.ownsRow 0 50 66 (.slice A3 (S.links.length + 1) c3') (S.links ++ [x.k]).length (rws lC (S.links ++ [x.k])) := by rw [List.length_append]; exact o3
    rw [← HVL.out] at g3 b3
    have HFIN := Lib.hid (HF.out.turnLinks g3 o3')
    have cs3 := prepL HF.out g3
    have c3 := cs3.1
    have f3 := cs3.2
    rw [HVL.out] at c3
    have l3 := LO.out.keep (w' := w3) (fun k hk => g3.block k (LO.out.lt k hk) (fun e => NF.out k hk (HF.out.foot.2.2.2.2.2 k e.symm)))
    have LO3 := Lib.hid l3
    have LO4 := Lib.hid (l3.keep (w' := w3.setCell ⟨s, 1, none⟩ (.slice A3 (S.links.length + 1) c3')) (fun k hk => setCell_off 1 (fun e => NF.out k hk (by rw [e]; exact HF.out.foot.1))))
    have HK4 : Hid (Kept F w (w3.setCell ⟨s, 1, none⟩ (.slice A3 (S.links.length + 1) c3')) ∧ ∀ k, (Value.slice A3 (S.links.length + 1) c3').ownBlock = some k → F k ∨ w.heap.size ≤ k) := ⟨HK.out.trans (F' := F) ⟨g3.os, g3.tape, g3.output, by rw [setCell_size]; exact g3.size, fun k hk hn => by
        rw [setCell_off 1 (fun e => hn (by rw [e]; exact HF.out.foot.1))]
        exact g3.block k hk (fun e => hn (HF.out.foot.2.2.2.2.2 k e.symm))⟩ (fun k e => .inl e), fun k e => by
        rcases b3 with b3 | b3
        · exact .inl (HF.out.foot.2.2.2.2.2 k (by rw [← b3]; exact e))
        · rw [b3] at e
          injection e with e
          have := HK.out.2.2.2.1
          exact .inr (by omega)⟩
    clear o3 o3' g3 b3 cs3 l3
    try go_simp
    refine hK.out _ _ (LO3.out) (fun hHeld => ?_)
    clear hK K
    try simp only [Act.put, List.setIfInBounds_toArray, List.set_cons_zero, List.set_cons_succ]
    refine takeH (i := 8) (d := 35) (oi := _) (v := .pointer (some ⟨s, 0, none⟩)) rfl (by kernel_rfl) (by kernel_rfl) (by kernel_rfl) (by kernel_rfl) (fun _ _ _ h => h) (Or.inl ⟨by kernel_rfl, by intro u hSw; clear hSw; go_simp⟩) hHeld ?_
    try simp only [List.setIfInBounds_toArray, List.set_cons_zero, List.set_cons_succ]
    refine takeH (i := 9) (d := 36) (oi := _) (v := .pointer (some ⟨s, 1, none⟩)) rfl (by kernel_rfl) (by kernel_rfl) (by kernel_rfl) (by kernel_rfl) (fun _ _ _ h => h) (Or.inl ⟨by kernel_rfl, by intro u hSw; clear hSw; go_simp⟩) hHeld ?_
    try simp only [List.setIfInBounds_toArray, List.set_cons_zero, List.set_cons_succ]
    refine wpAnyH_ready (rs := [10]) (by kernel_rfl) (by simp) ?_
    refine AllReadyH.cons (o := _) rfl (fun K hK => ?_) (AllReadyH.nil)
    go_simp
    try go_simp
    refine hK.out _ _ (LO4.out) (fun hHeld => ?_)
    clear hK K
    try simp only [Act.put, List.setIfInBounds_toArray, List.set_cons_zero, List.set_cons_succ]
    refine wpAnyH_done (by kernel_rfl) ?_ _
    refine NoPanic.normal ?_
    exact hQ _ _ _ _ _ _ _ _ _ _ _ ⟨_, _, HFIN.out, HK4.out.1, fun k hk => hk.elim .inl (HK4.out.2 k), fun k hk => .inl hk, LO4.out⟩
  · refine step_buildSlice_row (w' := w2.alloc (.cells (lv x.k) 50)) (by kernel_rfl) 57 1 #[(0, .tmp 32)] rfl (.slice (some ⟨w2.heap.size, 0, none⟩) 1 1) (by simp only [List.map_toArray, List.map_cons, List.map_nil]; exact one_link x.k w2) ?_
    obtain ⟨gn, hgn⟩ : ∃ g0, g0 = w2.heap.size := ⟨_, rfl⟩
    have ol := own_link x.k w2
    have b2 : Below w2.heap.size w2 (w2.alloc (.cells (lv x.k) 50)) := (Below.refl _ _).alloc (Nat.le_refl _) _
    rw [← hgn] at ol ⊢
    obtain ⟨w2, hw2⟩ : ∃ w3, w3 = w2.alloc (.cells (lv x.k) 50) := ⟨_, rfl⟩
    rw [← hw2] at ol b2 ⊢
    have OL := Lib.hid ol
    have HF := Lib.hid (HF.out.below b2)
    have LO := Lib.hid (LO.out.below b2)
    have HK := Lib.hid (HK.out.trans (F' := F) (Kept.of_below b2) (fun k e => .inl e))
    clear ol b2 hw2 hgn
    try go_simp
    refine hK.out _ _ (LO.out) (fun hHeld => ?_)
    clear hK K
    try simp only [Act.put, List.setIfInBounds_toArray, List.set_cons_zero, List.set_cons_succ]
    refine wpAnyH_ready (rs := [4]) (by kernel_rfl) (by simp) ?_
    refine AllReadyH.cons (o := _) rfl (fun K hK => ?_) (AllReadyH.nil)
    have c1 : w2.cell? ⟨s, 1, none⟩ = some (.slice Al S.links.length cl) := cell_of_row w2 s 1 _ _ (0, 0) (HVL.out ▸ HF.out.cells)
    go_simp
    clear c1
    try go_simp
    refine hK.out _ _ (LO.out) (fun hHeld => ?_)
    clear hK K
    try simp only [Act.put, List.setIfInBounds_toArray, List.set_cons_zero, List.set_cons_succ]
    refine wpAnyH_ready (rs := [7]) (by kernel_rfl) (by simp) ?_
    refine AllReadyH.cons (o := _) rfl (fun K hK => ?_) (AllReadyH.nil)
    refine step_append_row (by kernel_rfl) (.tmp 31) (.tmp 33) 57 rfl 0 50 i0 _ 66 80 Try.underlying57 hi0 hz0 hz1 hz2 (by show (lv lkZ).size = 66; exact rowV_size _ _) (by decide) (.slice Al S.links.length cl) S.links.length (rws lC S.links) rfl (HVL.out ▸ HF.out.links) 0 _ 1 (lC x.k) rfl OL.out (lC_one x.k) (by unfold maxLen; omega) (by omega) (Nat.zero_le _) ?_
    intro v' w3 o3 g3 b3
    obtain ⟨A3, c3', rfl, _, _, _⟩ := ownForm o3
    rw [rws_more] at o3
    have o3' : w3.ownsRow 0 50 66 (.slice A3 (S.links.length + 1) c3') (S.links ++ [x.k]).length (rws lC (S.links ++ [x.k])) := by rw [List.length_append]; exact o3
    rw [← HVL.out] at g3 b3
    have HFIN := Lib.hid (HF.out.turnLinks g3 o3')
    have cs3 := prepL HF.out g3
    have c3 := cs3.1
    have f3 := cs3.2
    rw [HVL.out] at c3
    have l3 := LO.out.keep (w' := w3) (fun k hk => g3.block k (LO.out.lt k hk) (fun e => NF.out k hk (HF.out.foot.2.2.2.2.2 k e.symm)))
    have LO3 := Lib.hid l3
    have LO4 := Lib.hid (l3.keep (w' := w3.setCell ⟨s, 1, none⟩ (.slice A3 (S.links.length + 1) c3')) (fun k hk => setCell_off 1 (fun e => NF.out k hk (by rw [e]; exact HF.out.foot.1))))
    have HK4 : Hid (Kept F w (w3.setCell ⟨s, 1, none⟩ (.slice A3 (S.links.length + 1) c3')) ∧ ∀ k, (Value.slice A3 (S.links.length + 1) c3').ownBlock = some k → F k ∨ w.heap.size ≤ k) := ⟨HK.out.trans (F' := F) ⟨g3.os, g3.tape, g3.output, by rw [setCell_size]; exact g3.size, fun k hk hn => by
        rw [setCell_off 1 (fun e => hn (by rw [e]; exact HF.out.foot.1))]
        exact g3.block k hk (fun e => hn (HF.out.foot.2.2.2.2.2 k e.symm))⟩ (fun k e => .inl e), fun k e => by
        rcases b3 with b3 | b3
        · exact .inl (HF.out.foot.2.2.2.2.2 k (by rw [← b3]; exact e))
        · rw [b3] at e
          injection e with e
          have := HK.out.2.2.2.1
          exact .inr (by omega)⟩
    clear o3 o3' g3 b3 cs3 l3
    try go_simp
    refine hK.out _ _ (LO3.out) (fun hHeld => ?_)
    clear hK K
    try simp only [Act.put, List.setIfInBounds_toArray, List.set_cons_zero, List.set_cons_succ]
    refine takeH (i := 8) (d := 35) (oi := _) (v := .pointer (some ⟨s, 0, none⟩)) rfl (by kernel_rfl) (by kernel_rfl) (by kernel_rfl) (by kernel_rfl) (fun _ _ _ h => h) (Or.inl ⟨by kernel_rfl, by intro u hSw; clear hSw; go_simp⟩) hHeld ?_
    try simp only [List.setIfInBounds_toArray, List.set_cons_zero, List.set_cons_succ]
    refine takeH (i := 9) (d := 36) (oi := _) (v := .pointer (some ⟨s, 1, none⟩)) rfl (by kernel_rfl) (by kernel_rfl) (by kernel_rfl) (by kernel_rfl) (fun _ _ _ h => h) (Or.inl ⟨by kernel_rfl, by intro u hSw; clear hSw; go_simp⟩) hHeld ?_
    try simp only [List.setIfInBounds_toArray, List.set_cons_zero, List.set_cons_succ]
    refine wpAnyH_ready (rs := [10]) (by kernel_rfl) (by simp) ?_
    refine AllReadyH.cons (o := _) rfl (fun K hK => ?_) (AllReadyH.nil)
    go_simp
    try go_simp
    refine hK.out _ _ (LO4.out) (fun hHeld => ?_)
    clear hK K
    try simp only [Act.put, List.setIfInBounds_toArray, List.set_cons_zero, List.set_cons_succ]
    refine wpAnyH_done (by kernel_rfl) ?_ _
    refine NoPanic.normal ?_
    exact hQ _ _ _ _ _ _ _ _ _ _ _ ⟨_, _, HFIN.out, HK4.out.1, fun k hk => hk.elim .inl (HK4.out.2 k), fun k hk => .inl hk, LO4.out⟩
noncomputable def pp_r8C : Code := ((Try.f35.body.bind (regionOf 8))).getD .skip
set_option maxRecDepth 1000000 in
set_option maxHeartbeats 8000000 in
theorem pp_r8 (c1 c2 c4 c6 c7 c8 c9 c10 c11 c12 c13 c14 c15 c16 c17 c18 c19 c20 c21 c22 c23 c24 c25 c26 c27 c28 c29 c30 c31 c32 c33 c34 c35 c36 c37 c38 c39 c40 c41 c42 c43 c44 c45 c46 c47 c48 c49 c50 c51 c52 c53 c54 c55 c56 c57 c58 c59 c60 c61 c62 c63 c64 c65 c66 c67 c68 c69 c70 c71 c72 c73 c74 c75 c76 c77 c78 c79 c80 c81 c82 c83 : Value) (w : World) (s bt bk bb n : Nat) (vv vl : Value) (hd : Lk ⊕ Hh → Option Value) (F : Nat → Prop) (S : PoS) (x : Sg) (gb gl gt : Nat) (a : Nat) (tv : Value) {Ax : Option Addr} {mx cx : Nat} (hx : x.sv = .slice Ax mx cx) (h : PoB s bt bk bb vv vl hd F S n w) (hl : Loc gb gl gt x a tv w) (hnf : ∀ k, k = gb ∨ k = gl ∨ k = gt → ¬ F k) (hn : S.votes.length ≤ 1000000)
    (Q : Exit → Act → World → Prop) (hQ : ∀ (u74 u75 u76 u77 u78 u79 u80 u81 u82 u83 : Value) (w' : World), (∃ vv' F', PoB s bt bk bb vv' vl hd F' { S with votes := S.votes ++ [x] } n w' ∧ Kept F w w' ∧ (∀ k, F' k → F k ∨ w.heap.size ≤ k) ∧ (∀ k, F k → F' k) ∧ Loc gb gl gt x a tv w') → Q .normal ⟨#[.pointer (some ⟨s, 0, none⟩), c1, c2, .pointer (some ⟨gb, 0, none⟩), c4, .pointer (some ⟨gl, 0, none⟩), c6, c7, c8, c9, c10, c11, c12, c13, c14, c15, c16, c17, c18, c19, c20, c21, c22, c23, c24, c25, c26, c27, c28, c29, c30, c31, c32, c33, c34, c35, c36, c37, c38, c39, c40, c41, c42, c43, c44, c45, c46, c47, c48, c49, c50, c51, c52, c53, c54, c55, c56, c57, c58, c59, c60, c61, c62, c63, c64, c65, c66, c67, c68, c69, c70, c71, c72, c73, u74, u75, u76, u77, u78, u79, u80, u81, u82, u83], []⟩ w') :
    Code.wp Try.prog pp_r8C Q ⟨#[.pointer (some ⟨s, 0, none⟩), c1, c2, .pointer (some ⟨gb, 0, none⟩), c4, .pointer (some ⟨gl, 0, none⟩), c6, c7, c8, c9, c10, c11, c12, c13, c14, c15, c16, c17, c18, c19, c20, c21, c22, c23, c24, c25, c26, c27, c28, c29, c30, c31, c32, c33, c34, c35, c36, c37, c38, c39, c40, c41, c42, c43, c44, c45, c46, c47, c48, c49, c50, c51, c52, c53, c54, c55, c56, c57, c58, c59, c60, c61, c62, c63, c64, c65, c66, c67, c68, c69, c70, c71, c72, c73, c74, c75, c76, c77, c78, c79, c80, c81, c82, c83], []⟩ w := by
  conv => arg 2; whnf
  try dsimp only at hQ ⊢
  obtain ⟨i0, hi0⟩ : ∃ i0, Try.prog.info? 42 = some i0 := ⟨_, (Option.some_get (by kernel_rfl)).symm⟩
  obtain ⟨hz0, hz1, hz2⟩ := sg_row hi0
  obtain ⟨Al, cl, hvl, _⟩ := ownForm h.votes
  have HVL := Lib.hid hvl
  obtain ⟨w2, hw2⟩ : ∃ w2, w2 = w.drew := ⟨_, rfl⟩
  have HF : Hid (PoB s bt bk bb vv vl hd F S n w2) := by rw [hw2]; exact h.below ((Below.refl _ _).drew)
  have LO : Hid (Loc gb gl gt x a tv w2) := by rw [hw2]; exact (show Loc gb gl gt x a tv w.drew from hl)
  have HK : Hid (Kept F w w2) := by rw [hw2]; exact Kept.of_below ((Below.refl _ _).drew)
  have NF := Lib.hid hnf
  clear h hl hvl hnf
  refine wp_region_noPanic ?_
  refine wp_region_held_drew (S := (fun u => Loc gb gl gt x a tv u)) (by kernel_rfl) (by rw [← hw2]; exact LO.out) (fun hHeld => ?_)
  rw [← hw2]
  rw [← hw2] at hHeld
  clear hw2
  refine takeH (i := 0) (d := 74) (oi := _) (v := .pointer (some ⟨s, 0, none⟩)) rfl (by kernel_rfl) (by kernel_rfl) (by kernel_rfl) (by kernel_rfl) (fun _ _ _ h => h) (Or.inl ⟨by kernel_rfl, by intro u hSw; clear hSw; go_simp⟩) hHeld ?_
  try simp only [List.setIfInBounds_toArray, List.set_cons_zero, List.set_cons_succ]
  refine takeH (i := 1) (d := 75) (oi := _) (v := .pointer (some ⟨s, 0, none⟩)) rfl (by kernel_rfl) (by kernel_rfl) (by kernel_rfl) (by kernel_rfl) (fun _ _ _ h => h) (Or.inl ⟨by kernel_rfl, by intro u hSw; clear hSw; go_simp⟩) hHeld ?_
  try simp only [List.setIfInBounds_toArray, List.set_cons_zero, List.set_cons_succ]
  refine takeH (i := 2) (d := 76) (oi := _) (v := .pointer (some ⟨s, 0, none⟩)) rfl (by kernel_rfl) (by kernel_rfl) (by kernel_rfl) (by kernel_rfl) (fun _ _ _ h => h) (Or.inl ⟨by kernel_rfl, by intro u hSw; clear hSw; go_simp⟩) hHeld ?_
  try simp only [List.setIfInBounds_toArray, List.set_cons_zero, List.set_cons_succ]
  refine takeH (i := 3) (d := 77) (oi := _) (v := .pointer (some ⟨s, 0, none⟩)) rfl (by kernel_rfl) (by kernel_rfl) (by kernel_rfl) (by kernel_rfl) (fun _ _ _ h => h) (Or.inl ⟨by kernel_rfl, by intro u hSw; clear hSw; go_simp⟩) hHeld ?_
  try simp only [List.setIfInBounds_toArray, List.set_cons_zero, List.set_cons_succ]
  refine takeH (i := 5) (d := 79) (oi := _) (v := .agg (sgv x)) rfl (by kernel_rfl) (by kernel_rfl) (by kernel_rfl) (by kernel_rfl) (fun _ _ _ h => h) (yieldsIf_load_midC (by kernel_rfl) _ _ rfl (gb) 0 rfl (sgC x) (sgv x) (sgC_arr x) _ (fun u hSw => hSw.1.all) Try.underlying42 rfl (size_sgv x)) hHeld ?_
  try simp only [List.setIfInBounds_toArray, List.set_cons_zero, List.set_cons_succ]
  refine wpAnyH_ready (rs := [4, 6]) (by kernel_rfl) (by simp) ?_
  refine AllReadyH.cons (o := _) rfl (fun K hK => ?_) (AllReadyH.cons (o := _) rfl (fun K hK => ?_) (AllReadyH.nil))
  · have c1 : w2.cell? ⟨s, 0, none⟩ = some (.slice Al S.votes.length cl) := cell_of_row w2 s 0 _ _ (0, 0) (HVL.out ▸ HF.out.cells)
    go_simp
    clear c1
    try go_simp
    refine hK.out _ _ (LO.out) (fun hHeld => ?_)
    clear hK K
    try simp only [Act.put, List.setIfInBounds_toArray, List.set_cons_zero, List.set_cons_succ]
    refine wpAnyH_ready (rs := [6]) (by kernel_rfl) (by simp) ?_
    refine AllReadyH.cons (o := _) rfl (fun K hK => ?_) (AllReadyH.nil)
    refine step_buildSlice_row (w' := w2.alloc (.cells (sgv x) 42)) (by kernel_rfl) 22 1 #[(0, .tmp 79)] rfl (.slice (some ⟨w2.heap.size, 0, none⟩) 1 1) (by simp only [List.map_toArray, List.map_cons, List.map_nil]; exact one_sg x hx w2) ?_
    obtain ⟨gn, hgn⟩ : ∃ g0, g0 = w2.heap.size := ⟨_, rfl⟩
    have ol := own_sg x w2
    have b2 : Below w2.heap.size w2 (w2.alloc (.cells (sgv x) 42)) := (Below.refl _ _).alloc (Nat.le_refl _) _
    rw [← hgn] at ol ⊢
    obtain ⟨w2, hw2⟩ : ∃ w3, w3 = w2.alloc (.cells (sgv x) 42) := ⟨_, rfl⟩
    rw [← hw2] at ol b2 ⊢
    have OL := Lib.hid ol
    have HF := Lib.hid (HF.out.below b2)
    have LO := Lib.hid (LO.out.below b2)
    have HK := Lib.hid (HK.out.trans (F' := F) (Kept.of_below b2) (fun k e => .inl e))
    clear ol b2 hw2 hgn
    try go_simp
    refine hK.out _ _ (LO.out) (fun hHeld => ?_)
    clear hK K
    try simp only [Act.put, List.setIfInBounds_toArray, List.set_cons_zero, List.set_cons_succ]
    refine wpAnyH_ready (rs := [7]) (by kernel_rfl) (by simp) ?_
    refine AllReadyH.cons (o := _) rfl (fun K hK => ?_) (AllReadyH.nil)
    refine step_append_row (by kernel_rfl) (.tmp 78) (.tmp 80) 22 rfl 0 42 i0 _ 101 152 Try.underlying22 hi0 hz0 hz1 hz2 (by show (sgv sgZ).size = 101; exact rowV_size _ _) (by decide) (.slice Al S.votes.length cl) S.votes.length (rws sgC S.votes) rfl (HVL.out ▸ HF.out.votes) 0 _ 1 (sgC x) rfl OL.out (sgC_one x (by rw [hx]; rfl)) (by unfold maxLen; omega) (by omega) (Nat.zero_le _) ?_
    intro v' w3 o3 g3 b3
    obtain ⟨A3, c3', rfl, _, _, _⟩ := ownForm o3
    rw [rws_more] at o3
    have o3' : w3.ownsRow 0 42 101 (.slice A3 (S.votes.length + 1) c3') (S.votes ++ [x]).length (rws sgC (S.votes ++ [x])) := by rw [List.length_append]; exact o3
    rw [← HVL.out] at g3 b3
    have HFIN := Lib.hid (HF.out.turnVotes g3 o3')
    have cs3 := prepV HF.out g3
    have c3 := cs3.1
    have f3 := cs3.2
    rw [HVL.out] at c3
    have l3 := LO.out.keep (w' := w3) (fun k hk => g3.block k (LO.out.lt k hk) (fun e => NF.out k hk (HF.out.foot.2.2.2.2.1 k e.symm)))
    have LO3 := Lib.hid l3
    have LO4 := Lib.hid (l3.keep (w' := w3.setCell ⟨s, 0, none⟩ (.slice A3 (S.votes.length + 1) c3')) (fun k hk => setCell_off 0 (fun e => NF.out k hk (by rw [e]; exact HF.out.foot.1))))
    have HK4 : Hid (Kept F w (w3.setCell ⟨s, 0, none⟩ (.slice A3 (S.votes.length + 1) c3')) ∧ ∀ k, (Value.slice A3 (S.votes.length + 1) c3').ownBlock = some k → F k ∨ w.heap.size ≤ k) := ⟨HK.out.trans (F' := F) ⟨g3.os, g3.tape, g3.output, by rw [setCell_size]; exact g3.size, fun k hk hn => by
        rw [setCell_off 0 (fun e => hn (by rw [e]; exact HF.out.foot.1))]
        exact g3.block k hk (fun e => hn (HF.out.foot.2.2.2.2.1 k e.symm))⟩ (fun k e => .inl e), fun k e => by
        rcases b3 with b3 | b3
        · exact .inl (HF.out.foot.2.2.2.2.1 k (by rw [← b3]; exact e))
        · rw [b3] at e
          injection e with e
          have := HK.out.2.2.2.1
          exact .inr (by omega)⟩
    clear o3 o3' g3 b3 cs3 l3
    try go_simp
    refine hK.out _ _ (LO3.out) (fun hHeld => ?_)
    clear hK K
    try simp only [Act.put, List.setIfInBounds_toArray, List.set_cons_zero, List.set_cons_succ]
    refine takeH (i := 8) (d := 82) (oi := _) (v := .pointer (some ⟨s, 0, none⟩)) rfl (by kernel_rfl) (by kernel_rfl) (by kernel_rfl) (by kernel_rfl) (fun _ _ _ h => h) (Or.inl ⟨by kernel_rfl, by intro u hSw; clear hSw; go_simp⟩) hHeld ?_
    try simp only [List.setIfInBounds_toArray, List.set_cons_zero, List.set_cons_succ]
    refine takeH (i := 9) (d := 83) (oi := _) (v := .pointer (some ⟨s, 0, none⟩)) rfl (by kernel_rfl) (by kernel_rfl) (by kernel_rfl) (by kernel_rfl) (fun _ _ _ h => h) (Or.inl ⟨by kernel_rfl, by intro u hSw; clear hSw; go_simp⟩) hHeld ?_
    try simp only [List.setIfInBounds_toArray, List.set_cons_zero, List.set_cons_succ]
    refine wpAnyH_ready (rs := [10]) (by kernel_rfl) (by simp) ?_
    refine AllReadyH.cons (o := _) rfl (fun K hK => ?_) (AllReadyH.nil)
    go_simp
    try go_simp
    refine hK.out _ _ (LO4.out) (fun hHeld => ?_)
    clear hK K
    try simp only [Act.put, List.setIfInBounds_toArray, List.set_cons_zero, List.set_cons_succ]
    refine wpAnyH_done (by kernel_rfl) ?_ _
    refine NoPanic.normal ?_
    exact hQ _ _ _ _ _ _ _ _ _ _ _ ⟨_, _, HFIN.out, HK4.out.1, fun k hk => hk.elim .inl (HK4.out.2 k), fun k hk => .inl hk, LO4.out⟩
  · refine step_buildSlice_row (w' := w2.alloc (.cells (sgv x) 42)) (by kernel_rfl) 22 1 #[(0, .tmp 79)] rfl (.slice (some ⟨w2.heap.size, 0, none⟩) 1 1) (by simp only [List.map_toArray, List.map_cons, List.map_nil]; exact one_sg x hx w2) ?_
    obtain ⟨gn, hgn⟩ : ∃ g0, g0 = w2.heap.size := ⟨_, rfl⟩
    have ol := own_sg x w2
    have b2 : Below w2.heap.size w2 (w2.alloc (.cells (sgv x) 42)) := (Below.refl _ _).alloc (Nat.le_refl _) _
    rw [← hgn] at ol ⊢
    obtain ⟨w2, hw2⟩ : ∃ w3, w3 = w2.alloc (.cells (sgv x) 42) := ⟨_, rfl⟩
    rw [← hw2] at ol b2 ⊢
    have OL := Lib.hid ol
    have HF := Lib.hid (HF.out.below b2)
    have LO := Lib.hid (LO.out.below b2)
    have HK := Lib.hid (HK.out.trans (F' := F) (Kept.of_below b2) (fun k e => .inl e))
    clear ol b2 hw2 hgn
    try go_simp
    refine hK.out _ _ (LO.out) (fun hHeld => ?_)
    clear hK K
    try simp only [Act.put, List.setIfInBounds_toArray, List.set_cons_zero, List.set_cons_succ]
    refine wpAnyH_ready (rs := [4]) (by kernel_rfl) (by simp) ?_
    refine AllReadyH.cons (o := _) rfl (fun K hK => ?_) (AllReadyH.nil)
    have c1 : w2.cell? ⟨s, 0, none⟩ = some (.slice Al S.votes.length cl) := cell_of_row w2 s 0 _ _ (0, 0) (HVL.out ▸ HF.out.cells)
    go_simp
    clear c1
    try go_simp
    refine hK.out _ _ (LO.out) (fun hHeld => ?_)
    clear hK K
    try simp only [Act.put, List.setIfInBounds_toArray, List.set_cons_zero, List.set_cons_succ]
    refine wpAnyH_ready (rs := [7]) (by kernel_rfl) (by simp) ?_
    refine AllReadyH.cons (o := _) rfl (fun K hK => ?_) (AllReadyH.nil)
    refine step_append_row (by kernel_rfl) (.tmp 78) (.tmp 80) 22 rfl 0 42 i0 _ 101 152 Try.underlying22 hi0 hz0 hz1 hz2 (by show (sgv sgZ).size = 101; exact rowV_size _ _) (by decide) (.slice Al S.votes.length cl) S.votes.length (rws sgC S.votes) rfl (HVL.out ▸ HF.out.votes) 0 _ 1 (sgC x) rfl OL.out (sgC_one x (by rw [hx]; rfl)) (by unfold maxLen; omega) (by omega) (Nat.zero_le _) ?_
    intro v' w3 o3 g3 b3
    obtain ⟨A3, c3', rfl, _, _, _⟩ := ownForm o3
    rw [rws_more] at o3
    have o3' : w3.ownsRow 0 42 101 (.slice A3 (S.votes.length + 1) c3') (S.votes ++ [x]).length (rws sgC (S.votes ++ [x])) := by rw [List.length_append]; exact o3
    rw [← HVL.out] at g3 b3
    have HFIN := Lib.hid (HF.out.turnVotes g3 o3')
    have cs3 := prepV HF.out g3
    have c3 := cs3.1
    have f3 := cs3.2
    rw [HVL.out] at c3
    have l3 := LO.out.keep (w' := w3) (fun k hk => g3.block k (LO.out.lt k hk) (fun e => NF.out k hk (HF.out.foot.2.2.2.2.1 k e.symm)))
    have LO3 := Lib.hid l3
    have LO4 := Lib.hid (l3.keep (w' := w3.setCell ⟨s, 0, none⟩ (.slice A3 (S.votes.length + 1) c3')) (fun k hk => setCell_off 0 (fun e => NF.out k hk (by rw [e]; exact HF.out.foot.1))))
    have HK4 : Hid (Kept F w (w3.setCell ⟨s, 0, none⟩ (.slice A3 (S.votes.length + 1) c3')) ∧ ∀ k, (Value.slice A3 (S.votes.length + 1) c3').ownBlock = some k → F k ∨ w.heap.size ≤ k) := ⟨HK.out.trans (F' := F) ⟨g3.os, g3.tape, g3.output, by rw [setCell_size]; exact g3.size, fun k hk hn => by
        rw [setCell_off 0 (fun e => hn (by rw [e]; exact HF.out.foot.1))]
        exact g3.block k hk (fun e => hn (HF.out.foot.2.2.2.2.1 k e.symm))⟩ (fun k e => .inl e), fun k e => by
        rcases b3 with b3 | b3
        · exact .inl (HF.out.foot.2.2.2.2.1 k (by rw [← b3]; exact e))
        · rw [b3] at e
          injection e with e
          have := HK.out.2.2.2.1
          exact .inr (by omega)⟩
    clear o3 o3' g3 b3 cs3 l3
    try go_simp
    refine hK.out _ _ (LO3.out) (fun hHeld => ?_)
    clear hK K
    try simp only [Act.put, List.setIfInBounds_toArray, List.set_cons_zero, List.set_cons_succ]
    refine takeH (i := 8) (d := 82) (oi := _) (v := .pointer (some ⟨s, 0, none⟩)) rfl (by kernel_rfl) (by kernel_rfl) (by kernel_rfl) (by kernel_rfl) (fun _ _ _ h => h) (Or.inl ⟨by kernel_rfl, by intro u hSw; clear hSw; go_simp⟩) hHeld ?_
    try simp only [List.setIfInBounds_toArray, List.set_cons_zero, List.set_cons_succ]
    refine takeH (i := 9) (d := 83) (oi := _) (v := .pointer (some ⟨s, 0, none⟩)) rfl (by kernel_rfl) (by kernel_rfl) (by kernel_rfl) (by kernel_rfl) (fun _ _ _ h => h) (Or.inl ⟨by kernel_rfl, by intro u hSw; clear hSw; go_simp⟩) hHeld ?_
    try simp only [List.setIfInBounds_toArray, List.set_cons_zero, List.set_cons_succ]
    refine wpAnyH_ready (rs := [10]) (by kernel_rfl) (by simp) ?_
    refine AllReadyH.cons (o := _) rfl (fun K hK => ?_) (AllReadyH.nil)
    go_simp
    try go_simp
    refine hK.out _ _ (LO4.out) (fun hHeld => ?_)
    clear hK K
    try simp only [Act.put, List.setIfInBounds_toArray, List.set_cons_zero, List.set_cons_succ]
    refine wpAnyH_done (by kernel_rfl) ?_ _
    refine NoPanic.normal ?_
    exact hQ _ _ _ _ _ _ _ _ _ _ _ ⟨_, _, HFIN.out, HK4.out.1, fun k hk => hk.elim .inl (HK4.out.2 k), fun k hk => .inl hk, LO4.out⟩
end Go.Proofs.Ytomfgopmgfoecaa
