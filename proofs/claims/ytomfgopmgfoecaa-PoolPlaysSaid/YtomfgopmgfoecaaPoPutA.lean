/- A vote is put: the regions that look. -/
import Derived.Test.YtomfgopmgfoecaaPoSmall
import Derived.Test.YtomfgopmgfoecaaCode
import Derived.BigFrame
import Derived.Great.BuildSlice
namespace Go.Proofs.Ytomfgopmgfoecaa
open Go.ChangeMaps Go.MapKept Go.Maps Go.RowKit Go.ChangeShapes Go.WideShapes Go.ChangeAt
set_option linter.unusedVariables false
set_option maxRecDepth 100000

theorem blk_lt {w : World} {g : Nat} {o : Obj} (h : w.heap[g]? = some o) : g < w.heap.size := (Array.getElem?_eq_some_iff.1 h).1
section
variable {P : Program} {w : World}
/-- The store of a whole row as a step of a region that draws its order. -/
theorem step_store_rowP {ops : Array Oper} {o : Oper} {a : Act} {K : Act → World → Prop} {Q : Exit → Act → World → Prop} {E : Prop} (hgd : o.guard = none) (ty : TypeId) (x y : Operand) (ho : o.op = .store ty x y)
    (g : Nat) (cells : Array Value) (hx : a.eval x = .pointer (some ⟨g, 0, none⟩)) (hy : a.eval y = .agg cells) (t : TypeId) (cs : Array Value) (hg : w.heap[g]? = some (.cells cs t (0, 0)))
    (hi : (P.info? ty).map (·.size) = some cells.size) (hs : cs.size = cells.size) (h1 : cells.all (·.oneCell') = true) (dst : Option Tmp) (hdst : o.dst = dst)
    (h : K (a.put dst undef) (w.setRow g cells)) : if Region.wanted o (yielded ops a.tmps) = true then Oper.wp P o a w K Q else E := by
  subst hdst
  have hw : Region.wanted o (yielded ops a.tmps) = true := by simp [Region.wanted, hgd]
  rw [if_pos hw]
  exact wp_store_row ty x y ho g cells hx hy t cs hg hi hs h1 h
end
theorem zero_tally (u : World) : (zeroValue 82).run Try.prog u = .ok (.agg #[.int .u64 0, .slice none 0 0]) u := by kernel_rfl
theorem size_tally {a b : Value} : (Try.prog.info? 82).map (·.size) = some (#[a, b] : Array Value).size := by kernel_rfl
section
variable {s bt bk bb : Nat} {vv vl : Value} {hd : Lk ⊕ Hh → Option Value} {F : Nat → Prop} {S : PoS} {n : Nat} {w w' : World}
theorem tal_some (h : PoB s bt bk bb vv vl hd F S n w) (k : Lk) : (talF S.wt hd k).isSome = (S.pl (.inl k)).isSome := by
  unfold talF
  rw [Option.isSome_map]
  exact h.some_iff _
theorem tal_getD (h : PoB s bt bk bb vv vl hd F S n w) (k : Lk) (h0 : S.pl (.inl k) = none → S.wt k = 0) : (talF S.wt hd k).getD (.agg #[.int .u64 0, .slice none 0 0]) = .agg #[.int .u64 (S.wt k : Int), (hd (.inl k)).getD (.slice none 0 0)] := by
  have := h.some_iff (.inl k)
  unfold talF
  cases hh : hd (.inl k) with
  | none =>
    rw [hh] at this
    rw [h0 (by cases hp : S.pl (.inl k) with | none => rfl | some _ => rw [hp] at this; cases this)]
    rfl
  | some v => rfl
end
noncomputable def pp_r1C : Code := ((Try.f35.body.bind (regionOf 1))).getD .skip
set_option maxRecDepth 1000000 in
set_option maxHeartbeats 8000000 in
theorem pp_r1 (c1 c2 c4 c5 c6 c7 c8 c9 c10 c11 c12 c13 c14 c15 c16 c17 c18 c19 c20 c21 c22 c23 c24 c25 c26 c27 c28 c29 c30 c31 c32 c33 c34 c35 c36 c37 c38 c39 c40 c41 c42 c43 c44 c45 c46 c47 c48 c49 c50 c51 c52 c53 c54 c55 c56 c57 c58 c59 c60 c61 c62 c63 c64 c65 c66 c67 c68 c69 c70 c71 c72 c73 c74 c75 c76 c77 c78 c79 c80 c81 c82 c83 : Value) (w : World) (s bt bk bb n : Nat) (vv vl : Value) (hd : Lk ⊕ Hh → Option Value) (F : Nat → Prop) (S : PoS) (x : Sg) (gb : Nat) (h : PoB s bt bk bb vv vl hd F S n w) (hx : SgB gb x w)
    (Q : Exit → Act → World → Prop) (hQ : ∀ (u8 u9 u10 u11 u12 u13 u14 u15 : Value) (w' : World) (gl : Nat), LkB gl x.k w' ∧ w.heap.size ≤ gl ∧ Below w.heap.size w w' → Q .normal ⟨#[.pointer (some ⟨s, 0, none⟩), c1, c2, .pointer (some ⟨gb, 0, none⟩), .int .i64 (S.votes.length : Nat), .pointer (some ⟨gl, 0, none⟩), c6, c7, u8, u9, u10, u11, u12, u13, u14, u15, c16, c17, c18, c19, c20, c21, c22, c23, c24, c25, c26, c27, c28, c29, c30, c31, c32, c33, c34, c35, c36, c37, c38, c39, c40, c41, c42, c43, c44, c45, c46, c47, c48, c49, c50, c51, c52, c53, c54, c55, c56, c57, c58, c59, c60, c61, c62, c63, c64, c65, c66, c67, c68, c69, c70, c71, c72, c73, c74, c75, c76, c77, c78, c79, c80, c81, c82, c83], []⟩ w') :
    Code.wp Try.prog pp_r1C Q ⟨#[.pointer (some ⟨s, 0, none⟩), c1, c2, .pointer (some ⟨gb, 0, none⟩), c4, c5, c6, c7, c8, c9, c10, c11, c12, c13, c14, c15, c16, c17, c18, c19, c20, c21, c22, c23, c24, c25, c26, c27, c28, c29, c30, c31, c32, c33, c34, c35, c36, c37, c38, c39, c40, c41, c42, c43, c44, c45, c46, c47, c48, c49, c50, c51, c52, c53, c54, c55, c56, c57, c58, c59, c60, c61, c62, c63, c64, c65, c66, c67, c68, c69, c70, c71, c72, c73, c74, c75, c76, c77, c78, c79, c80, c81, c82, c83], []⟩ w := by
  conv => arg 2; whnf
  try dsimp only at hQ ⊢
  have hz := zero_lk
  obtain ⟨Av, cv, hvv, _⟩ := ownForm h.votes
  have HVV := Lib.hid hvv
  obtain ⟨w2, hw2⟩ : ∃ w2, w2 = w.drew := ⟨_, rfl⟩
  have BX : Hid (Below w.heap.size w w2) := by rw [hw2]; exact (Below.refl _ _).drew
  have KP : Hid (∀ u : World, Below w.heap.size w u → PoB s bt bk bb vv vl hd F S n u ∧ SgB gb x u) := fun u hu => ⟨h.below hu, hx.below hu hx.lt⟩
  clear h hx hvv
  refine wp_region_noPanic ?_
  refine wp_region_held_drew (S := (fun u => PoB s bt bk bb vv vl hd F S n u ∧ SgB gb x u)) (by kernel_rfl) (by rw [← hw2]; exact KP.out _ BX.out) (fun hHeld => ?_)
  rw [← hw2]
  rw [← hw2] at hHeld
  clear hw2
  refine takeH (i := 0) (d := 8) (oi := _) (v := .pointer (some ⟨s, 0, none⟩)) rfl (by kernel_rfl) (by kernel_rfl) (by kernel_rfl) (by kernel_rfl) (fun _ _ _ h => h) (Or.inl ⟨by kernel_rfl, by intro u hSw; clear hSw; go_simp⟩) hHeld ?_
  try simp only [List.setIfInBounds_toArray, List.set_cons_zero, List.set_cons_succ]
  refine takeH (i := 1) (d := 9) (oi := _) (v := .pointer (some ⟨s, 0, none⟩)) rfl (by kernel_rfl) (by kernel_rfl) (by kernel_rfl) (by kernel_rfl) (fun _ _ _ h => h) (Or.inl ⟨by kernel_rfl, by intro u hSw; clear hSw; go_simp⟩) hHeld ?_
  try simp only [List.setIfInBounds_toArray, List.set_cons_zero, List.set_cons_succ]
  refine takeH (i := 2) (d := 10) (oi := _) (v := .pointer (some ⟨s, 0, none⟩)) rfl (by kernel_rfl) (by kernel_rfl) (by kernel_rfl) (by kernel_rfl) (fun _ _ _ h => h) (Or.inl ⟨by kernel_rfl, by intro u hSw; clear hSw; go_simp⟩) hHeld ?_
  try simp only [List.setIfInBounds_toArray, List.set_cons_zero, List.set_cons_succ]
  refine takeH (i := 3) (d := 11) (oi := _) (v := .slice Av S.votes.length cv) rfl (by kernel_rfl) (by kernel_rfl) (by kernel_rfl) (by kernel_rfl) (fun _ _ _ h => h) (Or.inl ⟨by kernel_rfl, by intro u hSw; (have hc : u.cell? ⟨s, 0, none⟩ = some (.slice Av S.votes.length cv) := cell_of_row u s 0 _ _ (0, 0) (HVV.out ▸ hSw.1.cells); clear hSw; go_simp)⟩) hHeld ?_
  try simp only [List.setIfInBounds_toArray, List.set_cons_zero, List.set_cons_succ]
  refine takeH (i := 4) (d := 12) (oi := _) (v := .int .i64 (S.votes.length : Nat)) rfl (by kernel_rfl) (by kernel_rfl) (by kernel_rfl) (by kernel_rfl) (fun _ _ _ h => h) (Or.inl ⟨by kernel_rfl, by intro u hSw; clear hSw; go_simp⟩) hHeld ?_
  try simp only [List.setIfInBounds_toArray, List.set_cons_zero, List.set_cons_succ]
  refine takeH (i := 5) (d := 13) (oi := _) (v := .pointer (some ⟨gb, 0, none⟩)) rfl (by kernel_rfl) (by kernel_rfl) (by kernel_rfl) (by kernel_rfl) (fun _ _ _ h => h) (Or.inl ⟨by kernel_rfl, by intro u hSw; clear hSw; go_simp⟩) hHeld ?_
  try simp only [List.setIfInBounds_toArray, List.set_cons_zero, List.set_cons_succ]
  refine takeH (i := 6) (d := 14) (oi := _) (v := .agg (vtw x.n x.k x.sv)) rfl (by kernel_rfl) (by kernel_rfl) (by kernel_rfl) (by kernel_rfl) (fun _ _ _ h => h) (yieldsIf_load_midC (by kernel_rfl) _ _ rfl (gb) 0 rfl (vtC x.n x.k x.sv) (vtw x.n x.k x.sv) (vtC_arr x.n x.k x.sv) _ (fun u hSw => hSw.2.vote) Try.underlying40 rfl (size_vtw x.n x.k x.sv)) hHeld ?_
  try simp only [List.setIfInBounds_toArray, List.set_cons_zero, List.set_cons_succ]
  refine wpAnyH_ready (rs := [7, 8]) (by kernel_rfl) (by simp) ?_
  refine AllReadyH.cons (o := _) rfl (fun K hK => ?_) (AllReadyH.cons (o := _) rfl (fun K hK => ?_) (AllReadyH.nil))
  · go_simp
    go_at_call 16
    refine (linkOf_c x.n x.k x.sv _).mono ?_
    rintro e w2 ⟨rfl, b2⟩
    try have HG := Lib.hid ((b2.block gl (blk_lt HG.out)).trans HG.out)
    have BX := Lib.hid (BX.out.trans (b2.mono BX.out.size))
    clear b2
    go_simp
    refine hK.out _ _ (KP.out _ BX.out) (fun hHeld => ?_)
    clear hK K
    try simp only [Act.put, List.setIfInBounds_toArray, List.set_cons_zero, List.set_cons_succ]
    refine wpAnyH_ready (rs := [8]) (by kernel_rfl) (by simp) ?_
    refine AllReadyH.cons (o := _) rfl (fun K hK => ?_) (AllReadyH.nil)
    go_simp
    obtain ⟨gl, hgl⟩ : ∃ g0, g0 = w2.heap.size := ⟨_, rfl⟩
    have b2 : Below w2.heap.size w2 (w2.alloc (.cells (lv lkZ) 50)) := (Below.refl _ _).alloc (Nat.le_refl _) _
    have q3 : (w2.alloc (.cells (lv lkZ) 50)).heap[gl]? = some (.cells (lv lkZ) 50 (0, 0)) := by rw [hgl]; exact heap_alloc_new w2 _
    have GE := Lib.hid (show w.heap.size ≤ gl by rw [hgl]; exact BX.out.size)
    rw [← hgl]
    obtain ⟨w2, hw2⟩ : ∃ w3, w3 = w2.alloc (.cells (lv lkZ) 50) := ⟨_, rfl⟩
    rw [← hw2] at b2 q3 ⊢
    have BX := Lib.hid (BX.out.trans (b2.mono BX.out.size))
    have HG := Lib.hid q3
    clear q3 b2 hw2 hgl
    go_simp
    refine hK.out _ _ (KP.out _ BX.out) (fun hHeld => ?_)
    clear hK K
    try simp only [Act.put, List.setIfInBounds_toArray, List.set_cons_zero, List.set_cons_succ]
    refine takeH (i := 9) (d := 4) (oi := _) (v := .int .i64 (S.votes.length : Nat)) rfl (by kernel_rfl) (by kernel_rfl) (by kernel_rfl) (by kernel_rfl) (fun _ _ _ h => h) (Or.inl ⟨by kernel_rfl, by intro u hSw; clear hSw; go_simp⟩) hHeld ?_
    try simp only [List.setIfInBounds_toArray, List.set_cons_zero, List.set_cons_succ]
    refine wpAnyH_ready (rs := [10]) (by kernel_rfl) (by simp) ?_
    refine AllReadyH.cons (o := _) rfl (fun K hK => ?_) (AllReadyH.nil)
    refine step_store_rowP rfl 50 (.tmp 5) (.tmp 15) rfl gl (lv x.k) rfl rfl 50 (lv lkZ) HG.out (size_lv x.k) (by rw [show (lv x.k).size = 66 from rowV_size _ _]; exact rowV_size _ _) (rowV_one 66 _ (lkf_one x.k)) none rfl ?_
    have BX := Lib.hid (below_setRow BX.out GE.out (lv x.k))
    have HG := Lib.hid (LkB.row (x := x.k) (g := gl) (Fill.of_row (setRow_heap _ gl _ (lv x.k) _ _ HG.out)))
    try go_simp
    refine hK.out _ _ (KP.out _ BX.out) (fun hHeld => ?_)
    clear hK K
    try simp only [Act.put, List.setIfInBounds_toArray, List.set_cons_zero, List.set_cons_succ]
    refine wpAnyH_done (by kernel_rfl) ?_ _
    refine NoPanic.normal ?_
    exact hQ _ _ _ _ _ _ _ _ _ gl ⟨Fill.of_row HG.out, GE.out, BX.out⟩
  · go_simp
    obtain ⟨gl, hgl⟩ : ∃ g0, g0 = w2.heap.size := ⟨_, rfl⟩
    have b2 : Below w2.heap.size w2 (w2.alloc (.cells (lv lkZ) 50)) := (Below.refl _ _).alloc (Nat.le_refl _) _
    have q3 : (w2.alloc (.cells (lv lkZ) 50)).heap[gl]? = some (.cells (lv lkZ) 50 (0, 0)) := by rw [hgl]; exact heap_alloc_new w2 _
    have GE := Lib.hid (show w.heap.size ≤ gl by rw [hgl]; exact BX.out.size)
    rw [← hgl]
    obtain ⟨w2, hw2⟩ : ∃ w3, w3 = w2.alloc (.cells (lv lkZ) 50) := ⟨_, rfl⟩
    rw [← hw2] at b2 q3 ⊢
    have BX := Lib.hid (BX.out.trans (b2.mono BX.out.size))
    have HG := Lib.hid q3
    clear q3 b2 hw2 hgl
    go_simp
    refine hK.out _ _ (KP.out _ BX.out) (fun hHeld => ?_)
    clear hK K
    try simp only [Act.put, List.setIfInBounds_toArray, List.set_cons_zero, List.set_cons_succ]
    refine wpAnyH_ready (rs := [7]) (by kernel_rfl) (by simp) ?_
    refine AllReadyH.cons (o := _) rfl (fun K hK => ?_) (AllReadyH.nil)
    go_simp
    go_at_call 16
    refine (linkOf_c x.n x.k x.sv _).mono ?_
    rintro e w2 ⟨rfl, b2⟩
    try have HG := Lib.hid ((b2.block gl (blk_lt HG.out)).trans HG.out)
    have BX := Lib.hid (BX.out.trans (b2.mono BX.out.size))
    clear b2
    go_simp
    refine hK.out _ _ (KP.out _ BX.out) (fun hHeld => ?_)
    clear hK K
    try simp only [Act.put, List.setIfInBounds_toArray, List.set_cons_zero, List.set_cons_succ]
    refine takeH (i := 9) (d := 4) (oi := _) (v := .int .i64 (S.votes.length : Nat)) rfl (by kernel_rfl) (by kernel_rfl) (by kernel_rfl) (by kernel_rfl) (fun _ _ _ h => h) (Or.inl ⟨by kernel_rfl, by intro u hSw; clear hSw; go_simp⟩) hHeld ?_
    try simp only [List.setIfInBounds_toArray, List.set_cons_zero, List.set_cons_succ]
    refine wpAnyH_ready (rs := [10]) (by kernel_rfl) (by simp) ?_
    refine AllReadyH.cons (o := _) rfl (fun K hK => ?_) (AllReadyH.nil)
    refine step_store_rowP rfl 50 (.tmp 5) (.tmp 15) rfl gl (lv x.k) rfl rfl 50 (lv lkZ) HG.out (size_lv x.k) (by rw [show (lv x.k).size = 66 from rowV_size _ _]; exact rowV_size _ _) (rowV_one 66 _ (lkf_one x.k)) none rfl ?_
    have BX := Lib.hid (below_setRow BX.out GE.out (lv x.k))
    have HG := Lib.hid (LkB.row (x := x.k) (g := gl) (Fill.of_row (setRow_heap _ gl _ (lv x.k) _ _ HG.out)))
    try go_simp
    refine hK.out _ _ (KP.out _ BX.out) (fun hHeld => ?_)
    clear hK K
    try simp only [Act.put, List.setIfInBounds_toArray, List.set_cons_zero, List.set_cons_succ]
    refine wpAnyH_done (by kernel_rfl) ?_ _
    refine NoPanic.normal ?_
    exact hQ _ _ _ _ _ _ _ _ _ gl ⟨Fill.of_row HG.out, GE.out, BX.out⟩
noncomputable def pp_r2C : Code := ((Try.f35.body.bind (regionOf 2))).getD .skip
set_option maxRecDepth 1000000 in
set_option maxHeartbeats 8000000 in
theorem pp_r2 (c1 c2 c3 c4 c6 c7 c8 c9 c10 c11 c12 c13 c14 c15 c16 c17 c18 c19 c20 c21 c22 c23 c24 c25 c26 c27 c28 c29 c30 c31 c32 c33 c34 c35 c36 c37 c38 c39 c40 c41 c42 c43 c44 c45 c46 c47 c48 c49 c50 c51 c52 c53 c54 c55 c56 c57 c58 c59 c60 c61 c62 c63 c64 c65 c66 c67 c68 c69 c70 c71 c72 c73 c74 c75 c76 c77 c78 c79 c80 c81 c82 c83 : Value) (w : World) (s bt bk bb n : Nat) (vv vl : Value) (hd : Lk ⊕ Hh → Option Value) (F : Nat → Prop) (S : PoS) (x : Sg) (gl : Nat) (Ay : Option Addr) (ny cy : Nat) (b : Bool) (h : PoB s bt bk bb vv vl hd F S n w) (hl : LkB gl x.k w) (hy : (hd (.inl x.k)).getD (.slice none 0 0) = .slice Ay ny cy) (hb : b = (S.pl (.inl x.k)).isSome) (hw0 : S.pl (.inl x.k) = none → S.wt x.k = 0)
    (Q : Exit → Act → World → Prop) (hQ : ∀ (u16 u17 u18 u19 u20 u21 u22 u23 u24 : Value) (w' : World) (gt : Nat), w'.heap[gt]? = some (.cells #[.int .u64 (S.wt x.k : Int), .slice Ay ny cy] 82 (0, 0)) ∧ w.heap.size ≤ gt ∧ Below w.heap.size w w' → Q .normal ⟨#[.pointer (some ⟨s, 0, none⟩), c1, c2, c3, c4, .pointer (some ⟨gl, 0, none⟩), .pointer (some ⟨gt, 0, none⟩), .bool b, c8, c9, c10, c11, c12, c13, c14, c15, u16, u17, u18, u19, u20, u21, u22, u23, u24, c25, c26, c27, c28, c29, c30, c31, c32, c33, c34, c35, c36, c37, c38, c39, c40, c41, c42, c43, c44, c45, c46, c47, c48, c49, c50, c51, c52, c53, c54, c55, c56, c57, c58, c59, c60, c61, c62, c63, c64, c65, c66, c67, c68, c69, c70, c71, c72, c73, c74, c75, c76, c77, c78, c79, c80, c81, c82, c83], []⟩ w') :
    Code.wp Try.prog pp_r2C Q ⟨#[.pointer (some ⟨s, 0, none⟩), c1, c2, c3, c4, .pointer (some ⟨gl, 0, none⟩), c6, c7, c8, c9, c10, c11, c12, c13, c14, c15, c16, c17, c18, c19, c20, c21, c22, c23, c24, c25, c26, c27, c28, c29, c30, c31, c32, c33, c34, c35, c36, c37, c38, c39, c40, c41, c42, c43, c44, c45, c46, c47, c48, c49, c50, c51, c52, c53, c54, c55, c56, c57, c58, c59, c60, c61, c62, c63, c64, c65, c66, c67, c68, c69, c70, c71, c72, c73, c74, c75, c76, c77, c78, c79, c80, c81, c82, c83], []⟩ w := by
  conv => arg 2; whnf
  try dsimp only at hQ ⊢
  have hz := zero_tally
  have TG := Lib.hid (tal_getD (S := S) h x.k hw0)
  rw [hy] at TG
  have TS := Lib.hid (tal_some h x.k)
  rw [← hb] at TS
  obtain ⟨w2, hw2⟩ : ∃ w2, w2 = w.drew := ⟨_, rfl⟩
  have BX : Hid (Below w.heap.size w w2) := by rw [hw2]; exact (Below.refl _ _).drew
  have KP : Hid (∀ u : World, Below w.heap.size w u → PoB s bt bk bb vv vl hd F S n u ∧ LkB gl x.k u) := fun u hu => ⟨h.below hu, hl.below hu hl.lt⟩
  clear h hl hy hb
  refine wp_region_noPanic ?_
  refine wp_region_held_drew (S := (fun u => PoB s bt bk bb vv vl hd F S n u ∧ LkB gl x.k u)) (by kernel_rfl) (by rw [← hw2]; exact KP.out _ BX.out) (fun hHeld => ?_)
  rw [← hw2]
  rw [← hw2] at hHeld
  clear hw2
  refine takeH (i := 0) (d := 17) (oi := _) (v := .pointer (some ⟨s, 0, none⟩)) rfl (by kernel_rfl) (by kernel_rfl) (by kernel_rfl) (by kernel_rfl) (fun _ _ _ h => h) (Or.inl ⟨by kernel_rfl, by intro u hSw; clear hSw; go_simp⟩) hHeld ?_
  try simp only [List.setIfInBounds_toArray, List.set_cons_zero, List.set_cons_succ]
  refine takeH (i := 1) (d := 18) (oi := _) (v := .pointer (some ⟨s, 0, none⟩)) rfl (by kernel_rfl) (by kernel_rfl) (by kernel_rfl) (by kernel_rfl) (fun _ _ _ h => h) (Or.inl ⟨by kernel_rfl, by intro u hSw; clear hSw; go_simp⟩) hHeld ?_
  try simp only [List.setIfInBounds_toArray, List.set_cons_zero, List.set_cons_succ]
  refine takeH (i := 2) (d := 19) (oi := _) (v := .pointer (some ⟨s, 2, none⟩)) rfl (by kernel_rfl) (by kernel_rfl) (by kernel_rfl) (by kernel_rfl) (fun _ _ _ h => h) (Or.inl ⟨by kernel_rfl, by intro u hSw; clear hSw; go_simp⟩) hHeld ?_
  try simp only [List.setIfInBounds_toArray, List.set_cons_zero, List.set_cons_succ]
  refine takeH (i := 3) (d := 20) (oi := _) (v := .map (some bt)) rfl (by kernel_rfl) (by kernel_rfl) (by kernel_rfl) (by kernel_rfl) (fun _ _ _ h => h) (Or.inl ⟨by kernel_rfl, by intro u hSw; (have hc : u.cell? ⟨s, 2, none⟩ = some (.map (some bt)) := cell_of_row u s 2 _ _ (0, 0) hSw.1.cells; clear hSw; go_simp)⟩) hHeld ?_
  try simp only [List.setIfInBounds_toArray, List.set_cons_zero, List.set_cons_succ]
  refine takeH (i := 4) (d := 21) (oi := _) (v := .agg (lv x.k)) rfl (by kernel_rfl) (by kernel_rfl) (by kernel_rfl) (by kernel_rfl) (fun _ _ _ h => h) (yieldsIf_load_midC (by kernel_rfl) _ _ rfl (gl) 0 rfl (lC x.k) (lv x.k) (lC_arr x.k) _ (fun u hSw => hSw.2.all) Try.underlying50 rfl (size_lv x.k)) hHeld ?_
  try simp only [List.setIfInBounds_toArray, List.set_cons_zero, List.set_cons_succ]
  refine takeH (i := 5) (d := 22) (oi := _) (v := .tuple #[.agg #[.int .u64 (S.wt x.k : Int), .slice Ay ny cy], .bool b]) rfl (by kernel_rfl) (by kernel_rfl) (by kernel_rfl) (by kernel_rfl) (fun _ _ _ h => h) (Or.inl ⟨by kernel_rfl, by intro u hSw; (have hl := hSw.1.tal.lookOk keyL Try.underlying75 (z := .agg #[.int .u64 0, .slice none 0 0]) (zero_tally u) x.k; rw [TG.out, TS.out] at hl; clear hSw; go_simp)⟩) hHeld ?_
  try simp only [List.setIfInBounds_toArray, List.set_cons_zero, List.set_cons_succ]
  refine takeH (i := 6) (d := 16) (oi := _) (v := .tuple #[.agg #[.int .u64 (S.wt x.k : Int), .slice Ay ny cy], .bool b]) rfl (by kernel_rfl) (by kernel_rfl) (by kernel_rfl) (by kernel_rfl) (fun _ _ _ h => h) (Or.inl ⟨by kernel_rfl, by intro u hSw; clear hSw; go_simp⟩) hHeld ?_
  try simp only [List.setIfInBounds_toArray, List.set_cons_zero, List.set_cons_succ]
  refine takeH (i := 7) (d := 23) (oi := _) (v := .agg #[.int .u64 (S.wt x.k : Int), .slice Ay ny cy]) rfl (by kernel_rfl) (by kernel_rfl) (by kernel_rfl) (by kernel_rfl) (fun _ _ _ h => h) (Or.inl ⟨by kernel_rfl, by intro u hSw; clear hSw; go_simp⟩) hHeld ?_
  try simp only [List.setIfInBounds_toArray, List.set_cons_zero, List.set_cons_succ]
  refine takeH (i := 8) (d := 24) (oi := _) (v := .bool b) rfl (by kernel_rfl) (by kernel_rfl) (by kernel_rfl) (by kernel_rfl) (fun _ _ _ h => h) (Or.inl ⟨by kernel_rfl, by intro u hSw; clear hSw; go_simp⟩) hHeld ?_
  try simp only [List.setIfInBounds_toArray, List.set_cons_zero, List.set_cons_succ]
  refine wpAnyH_ready (rs := [9]) (by kernel_rfl) (by simp) ?_
  refine AllReadyH.cons (o := _) rfl (fun K hK => ?_) (AllReadyH.nil)
  go_simp
  obtain ⟨gt, hgl⟩ : ∃ g0, g0 = w2.heap.size := ⟨_, rfl⟩
  have b2 : Below w2.heap.size w2 (w2.alloc (.cells (#[.int .u64 0, .slice none 0 0]) 82)) := (Below.refl _ _).alloc (Nat.le_refl _) _
  have q3 : (w2.alloc (.cells (#[.int .u64 0, .slice none 0 0]) 82)).heap[gt]? = some (.cells (#[.int .u64 0, .slice none 0 0]) 82 (0, 0)) := by rw [hgl]; exact heap_alloc_new w2 _
  have GE := Lib.hid (show w.heap.size ≤ gt by rw [hgl]; exact BX.out.size)
  rw [← hgl]
  obtain ⟨w2, hw2⟩ : ∃ w3, w3 = w2.alloc (.cells (#[.int .u64 0, .slice none 0 0]) 82) := ⟨_, rfl⟩
  rw [← hw2] at b2 q3 ⊢
  have BX := Lib.hid (BX.out.trans (b2.mono BX.out.size))
  have HG := Lib.hid q3
  clear q3 b2 hw2 hgl
  go_simp
  refine hK.out _ _ (KP.out _ BX.out) (fun hHeld => ?_)
  clear hK K
  try simp only [Act.put, List.setIfInBounds_toArray, List.set_cons_zero, List.set_cons_succ]
  refine wpAnyH_ready (rs := [10]) (by kernel_rfl) (by simp) ?_
  refine AllReadyH.cons (o := _) rfl (fun K hK => ?_) (AllReadyH.nil)
  refine step_store_rowP rfl 82 (.tmp 6) (.tmp 23) rfl gt #[.int .u64 (S.wt x.k : Int), .slice Ay ny cy] rfl rfl 82 #[.int .u64 0, .slice none 0 0] HG.out size_tally rfl (by simp [Value.oneCell']) none rfl ?_
  have BX := Lib.hid (below_setRow BX.out GE.out #[.int .u64 (S.wt x.k : Int), .slice Ay ny cy])
  have HG := Lib.hid (setRow_heap _ gt _ (#[.int .u64 (S.wt x.k : Int), .slice Ay ny cy]) _ _ HG.out)
  try go_simp
  refine hK.out _ _ (KP.out _ BX.out) (fun hHeld => ?_)
  clear hK K
  try simp only [Act.put, List.setIfInBounds_toArray, List.set_cons_zero, List.set_cons_succ]
  refine takeH (i := 11) (d := 7) (oi := _) (v := .bool b) rfl (by kernel_rfl) (by kernel_rfl) (by kernel_rfl) (by kernel_rfl) (fun _ _ _ h => h) (Or.inl ⟨by kernel_rfl, by intro u hSw; clear hSw; go_simp⟩) hHeld ?_
  try simp only [List.setIfInBounds_toArray, List.set_cons_zero, List.set_cons_succ]
  refine wpAnyH_done (by kernel_rfl) ?_ _
  refine NoPanic.normal ?_
  exact hQ _ _ _ _ _ _ _ _ _ _ gt ⟨HG.out, GE.out, BX.out⟩
end Go.Proofs.Ytomfgopmgfoecaa
