/- A link is put: the regions. -/
import Derived.Test.YthlbpjkopkicbaaFgTurn
import Derived.Great.BuildSlice
namespace Go.Proofs.Ythlbpjkopkicbaa
open Go.ChangeMaps Go.MapKept Go.Maps Go.RowKit Go.ChangeShapes Go.WideShapes Go.ChangeAt
set_option linter.unusedVariables false
set_option maxRecDepth 100000

section
variable {P : Program} {w w' : World}
/-- An append in a drawn region, of what a row of its own holds. -/
theorem step_append_row {ops : Array Oper} {o : Oper} {a : Act} {K : Act → World → Prop} {Q : Exit → Act → World → Prop} {E : Prop} (hw : Region.wanted o (yielded ops a.tmps) = true) (s x : Operand) (t : TypeId)
    (ho : o.op = .call { callee := .builtin .append, args := #[s, x], argTypes := #[t, t] })
    (base : Nat) (e : TypeId) (i : TypeInfo) (z : Value) (size bytes : Nat) (ht : P.underlying t = some (.slice e)) (hi : P.info? e = some i) (hz : i.zero = some z)
    (hsize : i.size = size) (hby : i.bytes = bytes) (hzs : z.cells.size = size) (hsz : 0 < size)
    (v : Value) (n : Nat) (xs : List Value) (hs : a.eval s = v) (hown : w.ownsRow base e size v n xs)
    (base2 : Nat) (v2 : Value) (m : Nat) (ys : List Value) (hx : a.eval x = v2) (hown2 : w.ownsRow base2 e size v2 m ys) (h1 : ∀ u ∈ ys, u.oneCell' = true)
    (h63 : n + m ≤ maxLen) (hbytes : (n + m) * bytes ≤ 140737488355328) (hbase : base ≤ w.heap.size)
    (h : ∀ v' w', w'.ownsRow base e size v' (n + m) (xs ++ ys) → w.grownBy w' v.ownBlock → (v'.ownBlock = v.ownBlock ∨ v'.ownBlock = some w.heap.size) → K (a.put o.dst v') w') :
    if Region.wanted o (yielded ops a.tmps) = true then Oper.wp P o a w K Q else E := by
  rw [if_pos hw]
  obtain ⟨v', w', hrun, h2, h3, h5⟩ := run_append_row (P := P) w base t o.type e i z size bytes ht hi hz hsize hby hzs hsz v n xs hown base2 v2 m ys hown2 h1 h63 hbytes hbase
  unfold Oper.wp execOp
  simp only [ho, resolve, invoke, builtin, Sem.run_bind, Sem.run_pure, Result.andThen_ok, List.map_toArray, List.map_cons, List.map_nil, hs, hx, hrun]
  exact h v' w' h2 h3 h5
theorem step_buildSlice_row {ops : Array Oper} {o : Oper} {a : Act} {K : Act → World → Prop} {Q : Exit → Act → World → Prop} {E : Prop} (hw : Region.wanted o (yielded ops a.tmps) = true) (t : TypeId) (len : Nat) (parts : Array (Nat × Operand)) (ho : o.op = .buildSlice t len parts) (v : Value)
    (hrun : (Instr.buildSlice t len (parts.map fun (i, x) => (i, a.eval x))).run P w = .ok v w') (h : K (a.put o.dst v) w') : if Region.wanted o (yielded ops a.tmps) = true then Oper.wp P o a w K Q else E := by
  rw [if_pos hw]
  unfold Oper.wp execOp
  simp only [ho, Sem.run_bind, hrun, Result.andThen_ok]
  exact h
end
theorem one_link (x : Lk) (u : World) : (Instr.buildSlice 30 1 #[(0, .agg (lv x))]).run Try.prog u = .ok (.slice (some ⟨u.heap.size, 0, none⟩) 1 1) (u.alloc (.cells (lv x) 36)) := by
  have hie : Try.prog.info? 36 = some ((Try.prog.info? 36).get (by kernel_rfl)) := (Option.some_get _).symm
  refine run_buildSlice u _ 36 1 _ (lv x) _ _ Try.underlying30 hie (Option.some_get (by kernel_rfl)).symm (by decide +kernel) (by decide +kernel) ?_
  kernel_rfl
theorem own_link (x : Lk) (u : World) : (u.alloc (.cells (lv x) 36)).ownsRow 0 36 66 (.slice (some ⟨u.heap.size, 0, none⟩) 1 1) 1 (lC x) := by
  refine ⟨by rw [lC_len], .inr ⟨u.heap.size, 1, lv x, rfl, Nat.zero_le _, heap_alloc_new u _, Nat.le_refl _, by unfold maxLen; omega, by unfold lv; rw [rowV_size], ?_⟩⟩
  unfold lv
  rw [rowV_list, List.take_of_length_le (by simp)]
  rfl
theorem setCell_prep {s bt bs bw : Nat} {vl : Value} {hd : Pt → Option Value} {F : Nat → Prop} {S : FgS} {n : Nat} {w w1 : World} (h : FgB s bt bs bw vl hd F S n w) (hg : w.grownBy w1 vl.ownBlock) : w1.cell? ⟨s, 0, none⟩ = some vl ∧ w1.frozen? ⟨s, 0, none⟩ = false := by
  have hs : vl.ownBlock ≠ some s := fun e => own_other h.links e h.cells (by decide) rfl
  have hs1 := (hg.block s (h.fin s h.foot.1) (fun e => hs e.symm)).trans h.cells
  exact ⟨cell_of_row w1 s 0 _ _ (0, 0) hs1, by simp [World.frozen?, hs1]⟩
theorem zero_links (u : World) : (zeroValue 30).run Try.prog u = .ok (.slice none 0 0) u := by kernel_rfl
noncomputable def put_r1C : Code := ((Try.f32.body.bind (regionOf 1))).getD .skip
set_option maxRecDepth 1000000 in
set_option maxHeartbeats 4000000 in
theorem put_r1 (c1 c2 c4 c5 c6 c7 c8 c9 c10 c11 c12 c13 c14 c15 c16 c17 c18 c19 c20 c21 c22 c23 c24 c25 c26 c27 c28 c29 c30 c31 c32 c33 c34 c35 c36 c37 c38 c39 c40 c41 c42 : Value) (w : World) (s bt bs bw gb n : Nat) (vl : Value) (hd : Pt → Option Value) (F : Nat → Prop) (S : FgS) (x : Lk) (h : FgB s bt bs bw vl hd F S n w) (hx : LkB gb x w) (hgb : ¬ F gb) (hl : S.links.length ≤ 1000000)
    (Q : Exit → Act → World → Prop) (hQ : ∀ (u4 u5 u6 u7 u8 u9 u10 u11 u12 u13 : Value) (w' : World), StM F s bt bs bw { S with links := S.links ++ [x] } n w w' ∧ LkB gb x w' ∧ mapSize w' bw = mapSize w bw → Q .normal ⟨#[.pointer (some ⟨s, 0, none⟩), c1, c2, .pointer (some ⟨gb, 0, none⟩), u4, u5, u6, u7, u8, u9, u10, u11, u12, u13, c14, c15, c16, c17, c18, c19, c20, c21, c22, c23, c24, c25, c26, c27, c28, c29, c30, c31, c32, c33, c34, c35, c36, c37, c38, c39, c40, c41, c42], []⟩ w') :
    Code.wp Try.prog put_r1C Q ⟨#[.pointer (some ⟨s, 0, none⟩), c1, c2, .pointer (some ⟨gb, 0, none⟩), c4, c5, c6, c7, c8, c9, c10, c11, c12, c13, c14, c15, c16, c17, c18, c19, c20, c21, c22, c23, c24, c25, c26, c27, c28, c29, c30, c31, c32, c33, c34, c35, c36, c37, c38, c39, c40, c41, c42], []⟩ w := by
  conv => arg 2; whnf
  try dsimp only at hQ ⊢
  obtain ⟨i0, hi0⟩ : ∃ i0, Try.prog.info? 36 = some i0 := ⟨_, (Option.some_get (by kernel_rfl)).symm⟩
  obtain ⟨hz0, hz1, hz2⟩ := link_row hi0
  obtain ⟨V, hV⟩ : ∃ V, V = w.drew := ⟨_, rfl⟩
  have fV : FgB s bt bs bw vl hd F S n V := by rw [hV]; exact h.below ((Below.refl _ _).drew)
  have xV : LkB gb x V := by rw [hV]; exact (show LkB gb x w.drew from hx)
  have kV : Kept F w V := by rw [hV]; exact Kept.of_below ((Below.refl _ _).drew)
  have hzV : V.heap.size = w.heap.size := by rw [hV]; rfl
  have HFV := Lib.hid fV
  have HXV := Lib.hid xV
  have HKV := Lib.hid kV
  have HV := Lib.hid hV
  have HZ := Lib.hid hzV
  have cV : V.cell? ⟨s, 0, none⟩ = some vl := cell_of_row V s 0 _ _ (0, 0) fV.cells
  clear fV xV kV hV hzV h hx
  refine wp_region_noPanic ?_
  refine wp_region_held_drew (S := fun u => LkB gb x u) (by kernel_rfl) (by rw [← HV.out]; exact HXV.out) (fun hHeld => ?_)
  rw [← HV.out]
  rw [← HV.out] at hHeld
  refine takeH (i := 0) (d := 4) (oi := _) (v := .pointer (some ⟨s, 0, none⟩)) rfl (by kernel_rfl) (by kernel_rfl) (by kernel_rfl) (by kernel_rfl) (fun _ _ _ h => h) (Or.inl ⟨by kernel_rfl, by intro u hSw; clear hSw; go_simp⟩) hHeld ?_
  try simp only [List.setIfInBounds_toArray, List.set_cons_zero, List.set_cons_succ]
  refine takeH (i := 1) (d := 5) (oi := _) (v := .pointer (some ⟨s, 0, none⟩)) rfl (by kernel_rfl) (by kernel_rfl) (by kernel_rfl) (by kernel_rfl) (fun _ _ _ h => h) (Or.inl ⟨by kernel_rfl, by intro u hSw; clear hSw; go_simp⟩) hHeld ?_
  try simp only [List.setIfInBounds_toArray, List.set_cons_zero, List.set_cons_succ]
  refine takeH (i := 2) (d := 6) (oi := _) (v := .pointer (some ⟨s, 0, none⟩)) rfl (by kernel_rfl) (by kernel_rfl) (by kernel_rfl) (by kernel_rfl) (fun _ _ _ h => h) (Or.inl ⟨by kernel_rfl, by intro u hSw; clear hSw; go_simp⟩) hHeld ?_
  try simp only [List.setIfInBounds_toArray, List.set_cons_zero, List.set_cons_succ]
  refine takeH (i := 3) (d := 7) (oi := _) (v := .pointer (some ⟨s, 0, none⟩)) rfl (by kernel_rfl) (by kernel_rfl) (by kernel_rfl) (by kernel_rfl) (fun _ _ _ h => h) (Or.inl ⟨by kernel_rfl, by intro u hSw; clear hSw; go_simp⟩) hHeld ?_
  try simp only [List.setIfInBounds_toArray, List.set_cons_zero, List.set_cons_succ]
  refine takeH (i := 5) (d := 9) (oi := _) (v := .agg (lv x)) rfl (by kernel_rfl) (by kernel_rfl) (by kernel_rfl) (by kernel_rfl) (fun _ _ _ h => h) (yieldsIf_load_midC (by kernel_rfl) _ _ rfl (gb) 0 rfl (lC x) (lv x) (lC_arr x) _ (fun u hSw => hSw.all) Try.underlying36 rfl (size_lv x)) hHeld ?_
  try simp only [List.setIfInBounds_toArray, List.set_cons_zero, List.set_cons_succ]
  refine wpAnyH_ready (rs := [4, 6]) (by kernel_rfl) (by simp) ?_
  refine AllReadyH.cons (o := _) rfl (fun K hK => ?_) (AllReadyH.cons (o := _) rfl (fun K hK => ?_) (AllReadyH.nil))
  · go_simp
    refine hK.out _ _ (HXV.out) (fun hHeld => ?_)
    clear hK K
    try simp only [Act.put, List.setIfInBounds_toArray, List.set_cons_zero, List.set_cons_succ]
    refine wpAnyH_ready (rs := [6]) (by kernel_rfl) (by simp) ?_
    refine AllReadyH.cons (o := _) rfl (fun K hK => ?_) (AllReadyH.nil)
    refine step_buildSlice_row (w' := V.alloc (.cells (lv x) 36)) (by kernel_rfl) 30 1 #[(0, .tmp 9)] rfl (.slice (some ⟨V.heap.size, 0, none⟩) 1 1) (by simp only [List.map_toArray, List.map_cons, List.map_nil]; exact one_link x V) ?_
    have OL := Lib.hid (own_link x V)
    have NB := Lib.hid ((Below.refl V.heap.size V).alloc (Nat.le_refl _) (.cells (lv x) 36))
    obtain ⟨w2, hw2⟩ : ∃ w2, w2 = V.alloc (.cells (lv x) 36) := ⟨_, rfl⟩
    rw [← hw2] at OL NB ⊢
    clear hw2
    have HF1 := Lib.hid (HFV.out.below NB.out)
    have HX1 := Lib.hid (HXV.out.below NB.out HXV.out.lt)
    have HK1 := Lib.hid (HKV.out.trans (F' := F) (Kept.of_below NB.out) (fun k e => .inl e))
    try go_simp
    refine hK.out _ _ (HX1.out) (fun hHeld => ?_)
    clear hK K
    try simp only [Act.put, List.setIfInBounds_toArray, List.set_cons_zero, List.set_cons_succ]
    refine wpAnyH_ready (rs := [7]) (by kernel_rfl) (by simp) ?_
    refine AllReadyH.cons (o := _) rfl (fun K hK => ?_) (AllReadyH.nil)
    refine step_append_row (by kernel_rfl) (.tmp 8) (.tmp 10) 30 rfl 0 36 i0 _ 66 80 Try.underlying30 hi0 hz0 hz1 hz2 (by show (lv lkZ).size = 66; exact rowV_size _ _) (by decide) vl S.links.length (lks S.links) rfl HF1.out.links 0 _ 1 (lC x) rfl OL.out (lC_one x) (by unfold maxLen; omega) (by omega) (Nat.zero_le _) ?_
    intro v' w3 o3 g3 b3
    obtain ⟨A3, c3', rfl, _, _, _⟩ := ownForm o3
    rw [lks_more] at o3
    have o3' : w3.ownsRow 0 36 66 (.slice A3 (S.links.length + 1) c3') (S.links ++ [x]).length (lks (S.links ++ [x])) := by rw [List.length_append]; exact o3
    have HFIN := Lib.hid (HF1.out.turnLinks g3 o3' b3)
    have cs3 := setCell_prep HF1.out g3
    have c3 := cs3.1
    have f3 := cs3.2
    have hx3 : LkB gb x w3 := HX1.out.keep (g3.block gb HX1.out.lt (fun e => hgb (HF1.out.foot.2.2.2.2 gb e.symm)))
    have HX3 := Lib.hid hx3
    have hx4 : LkB gb x (w3.setCell ⟨s, 0, none⟩ (.slice A3 (S.links.length + 1) c3')) := hx3.keep (setCell_off 0 (fun e => hgb (by rw [e]; exact HF1.out.foot.1)))
    have HX4 := Lib.hid hx4
    have HK3 : Hid (Kept F w (w3.setCell ⟨s, 0, none⟩ (.slice A3 (S.links.length + 1) c3')) ∧ ∀ k, (Value.slice A3 (S.links.length + 1) c3').ownBlock = some k → F k ∨ w.heap.size ≤ k) := ⟨HK1.out.trans (F' := F) ⟨g3.os, g3.tape, g3.output, by rw [setCell_size]; exact g3.size, fun k hk hn => by
        rw [setCell_off 0 (fun e => hn (by rw [e]; exact HF1.out.foot.1))]
        exact g3.block k hk (fun e => hn (HF1.out.foot.2.2.2.2 k e.symm))⟩ (fun k e => .inl e), fun k e => by
        rcases b3 with b3 | b3
        · exact .inl (HF1.out.foot.2.2.2.2 k (by rw [← b3]; exact e))
        · rw [b3] at e
          injection e with e
          have := HK1.out.2.2.2.1
          exact .inr (by omega)⟩
    have HS3 : Hid (mapSize (w3.setCell ⟨s, 0, none⟩ (.slice A3 (S.links.length + 1) c3')) bw = mapSize w bw) := by
      have hmw : ∃ es clock, w2.heap[bw]? = some (.map es clock) := by
        obtain ⟨D, ⟨es, clock, h1, _⟩, _⟩ := HF1.out.waits
        exact ⟨es, clock, h1⟩
      have e1 : (w3.setCell ⟨s, 0, none⟩ (.slice A3 (S.links.length + 1) c3')).heap[bw]? = w2.heap[bw]? := by
        rw [setCell_off 0 (fun e => cells_ne HF1.out.cells hmw e.symm)]
        exact g3.block bw (HF1.out.fin bw HF1.out.foot.2.2.2.1) (fun e => row_ne HF1.out.links e.symm hmw rfl)
      exact (mapSize_keep e1).trans ((mapSize_keep (NB.out.block bw (HFV.out.fin bw HFV.out.foot.2.2.2.1))).trans (by rw [HV.out]; rfl))
    clear o3 o3' g3 b3 cs3 hx3 hx4
    try go_simp
    refine hK.out _ _ (HX3.out) (fun hHeld => ?_)
    clear hK K
    try simp only [Act.put, List.setIfInBounds_toArray, List.set_cons_zero, List.set_cons_succ]
    refine takeH (i := 8) (d := 12) (oi := _) (v := .pointer (some ⟨s, 0, none⟩)) rfl (by kernel_rfl) (by kernel_rfl) (by kernel_rfl) (by kernel_rfl) (fun _ _ _ h => h) (Or.inl ⟨by kernel_rfl, by intro u hSw; clear hSw; go_simp⟩) hHeld ?_
    try simp only [List.setIfInBounds_toArray, List.set_cons_zero, List.set_cons_succ]
    refine takeH (i := 9) (d := 13) (oi := _) (v := .pointer (some ⟨s, 0, none⟩)) rfl (by kernel_rfl) (by kernel_rfl) (by kernel_rfl) (by kernel_rfl) (fun _ _ _ h => h) (Or.inl ⟨by kernel_rfl, by intro u hSw; clear hSw; go_simp⟩) hHeld ?_
    try simp only [List.setIfInBounds_toArray, List.set_cons_zero, List.set_cons_succ]
    refine wpAnyH_ready (rs := [10]) (by kernel_rfl) (by simp) ?_
    refine AllReadyH.cons (o := _) rfl (fun K hK => ?_) (AllReadyH.nil)
    go_simp
    refine hK.out _ _ (HX4.out) (fun hHeld => ?_)
    clear hK K
    try simp only [Act.put, List.setIfInBounds_toArray, List.set_cons_zero, List.set_cons_succ]
    refine wpAnyH_done (by kernel_rfl) ?_ _
    refine NoPanic.normal ?_
    exact hQ _ _ _ _ _ _ _ _ _ _ _ ⟨⟨_, hd, _, HFIN.out, HK3.out.1, fun k hk => hk.elim .inl (HK3.out.2 k), fun k hk => .inl hk⟩, HX4.out, HS3.out⟩
  · refine step_buildSlice_row (w' := V.alloc (.cells (lv x) 36)) (by kernel_rfl) 30 1 #[(0, .tmp 9)] rfl (.slice (some ⟨V.heap.size, 0, none⟩) 1 1) (by simp only [List.map_toArray, List.map_cons, List.map_nil]; exact one_link x V) ?_
    have OL := Lib.hid (own_link x V)
    have NB := Lib.hid ((Below.refl V.heap.size V).alloc (Nat.le_refl _) (.cells (lv x) 36))
    obtain ⟨w2, hw2⟩ : ∃ w2, w2 = V.alloc (.cells (lv x) 36) := ⟨_, rfl⟩
    rw [← hw2] at OL NB ⊢
    clear hw2
    have HF1 := Lib.hid (HFV.out.below NB.out)
    have HX1 := Lib.hid (HXV.out.below NB.out HXV.out.lt)
    have HK1 := Lib.hid (HKV.out.trans (F' := F) (Kept.of_below NB.out) (fun k e => .inl e))
    have cV2 : w2.cell? ⟨s, 0, none⟩ = some vl := cell_of_row w2 s 0 _ _ (0, 0) HF1.out.cells
    clear cV
    try go_simp
    refine hK.out _ _ (HX1.out) (fun hHeld => ?_)
    clear hK K
    try simp only [Act.put, List.setIfInBounds_toArray, List.set_cons_zero, List.set_cons_succ]
    refine wpAnyH_ready (rs := [4]) (by kernel_rfl) (by simp) ?_
    refine AllReadyH.cons (o := _) rfl (fun K hK => ?_) (AllReadyH.nil)
    go_simp
    refine hK.out _ _ (HX1.out) (fun hHeld => ?_)
    clear hK K
    try simp only [Act.put, List.setIfInBounds_toArray, List.set_cons_zero, List.set_cons_succ]
    refine wpAnyH_ready (rs := [7]) (by kernel_rfl) (by simp) ?_
    refine AllReadyH.cons (o := _) rfl (fun K hK => ?_) (AllReadyH.nil)
    refine step_append_row (by kernel_rfl) (.tmp 8) (.tmp 10) 30 rfl 0 36 i0 _ 66 80 Try.underlying30 hi0 hz0 hz1 hz2 (by show (lv lkZ).size = 66; exact rowV_size _ _) (by decide) vl S.links.length (lks S.links) rfl HF1.out.links 0 _ 1 (lC x) rfl OL.out (lC_one x) (by unfold maxLen; omega) (by omega) (Nat.zero_le _) ?_
    intro v' w3 o3 g3 b3
    obtain ⟨A3, c3', rfl, _, _, _⟩ := ownForm o3
    rw [lks_more] at o3
    have o3' : w3.ownsRow 0 36 66 (.slice A3 (S.links.length + 1) c3') (S.links ++ [x]).length (lks (S.links ++ [x])) := by rw [List.length_append]; exact o3
    have HFIN := Lib.hid (HF1.out.turnLinks g3 o3' b3)
    have cs3 := setCell_prep HF1.out g3
    have c3 := cs3.1
    have f3 := cs3.2
    have hx3 : LkB gb x w3 := HX1.out.keep (g3.block gb HX1.out.lt (fun e => hgb (HF1.out.foot.2.2.2.2 gb e.symm)))
    have HX3 := Lib.hid hx3
    have hx4 : LkB gb x (w3.setCell ⟨s, 0, none⟩ (.slice A3 (S.links.length + 1) c3')) := hx3.keep (setCell_off 0 (fun e => hgb (by rw [e]; exact HF1.out.foot.1)))
    have HX4 := Lib.hid hx4
    have HK3 : Hid (Kept F w (w3.setCell ⟨s, 0, none⟩ (.slice A3 (S.links.length + 1) c3')) ∧ ∀ k, (Value.slice A3 (S.links.length + 1) c3').ownBlock = some k → F k ∨ w.heap.size ≤ k) := ⟨HK1.out.trans (F' := F) ⟨g3.os, g3.tape, g3.output, by rw [setCell_size]; exact g3.size, fun k hk hn => by
        rw [setCell_off 0 (fun e => hn (by rw [e]; exact HF1.out.foot.1))]
        exact g3.block k hk (fun e => hn (HF1.out.foot.2.2.2.2 k e.symm))⟩ (fun k e => .inl e), fun k e => by
        rcases b3 with b3 | b3
        · exact .inl (HF1.out.foot.2.2.2.2 k (by rw [← b3]; exact e))
        · rw [b3] at e
          injection e with e
          have := HK1.out.2.2.2.1
          exact .inr (by omega)⟩
    have HS3 : Hid (mapSize (w3.setCell ⟨s, 0, none⟩ (.slice A3 (S.links.length + 1) c3')) bw = mapSize w bw) := by
      have hmw : ∃ es clock, w2.heap[bw]? = some (.map es clock) := by
        obtain ⟨D, ⟨es, clock, h1, _⟩, _⟩ := HF1.out.waits
        exact ⟨es, clock, h1⟩
      have e1 : (w3.setCell ⟨s, 0, none⟩ (.slice A3 (S.links.length + 1) c3')).heap[bw]? = w2.heap[bw]? := by
        rw [setCell_off 0 (fun e => cells_ne HF1.out.cells hmw e.symm)]
        exact g3.block bw (HF1.out.fin bw HF1.out.foot.2.2.2.1) (fun e => row_ne HF1.out.links e.symm hmw rfl)
      exact (mapSize_keep e1).trans ((mapSize_keep (NB.out.block bw (HFV.out.fin bw HFV.out.foot.2.2.2.1))).trans (by rw [HV.out]; rfl))
    clear o3 o3' g3 b3 cs3 hx3 hx4
    try go_simp
    refine hK.out _ _ (HX3.out) (fun hHeld => ?_)
    clear hK K
    try simp only [Act.put, List.setIfInBounds_toArray, List.set_cons_zero, List.set_cons_succ]
    refine takeH (i := 8) (d := 12) (oi := _) (v := .pointer (some ⟨s, 0, none⟩)) rfl (by kernel_rfl) (by kernel_rfl) (by kernel_rfl) (by kernel_rfl) (fun _ _ _ h => h) (Or.inl ⟨by kernel_rfl, by intro u hSw; clear hSw; go_simp⟩) hHeld ?_
    try simp only [List.setIfInBounds_toArray, List.set_cons_zero, List.set_cons_succ]
    refine takeH (i := 9) (d := 13) (oi := _) (v := .pointer (some ⟨s, 0, none⟩)) rfl (by kernel_rfl) (by kernel_rfl) (by kernel_rfl) (by kernel_rfl) (fun _ _ _ h => h) (Or.inl ⟨by kernel_rfl, by intro u hSw; clear hSw; go_simp⟩) hHeld ?_
    try simp only [List.setIfInBounds_toArray, List.set_cons_zero, List.set_cons_succ]
    refine wpAnyH_ready (rs := [10]) (by kernel_rfl) (by simp) ?_
    refine AllReadyH.cons (o := _) rfl (fun K hK => ?_) (AllReadyH.nil)
    go_simp
    refine hK.out _ _ (HX4.out) (fun hHeld => ?_)
    clear hK K
    try simp only [Act.put, List.setIfInBounds_toArray, List.set_cons_zero, List.set_cons_succ]
    refine wpAnyH_done (by kernel_rfl) ?_ _
    refine NoPanic.normal ?_
    exact hQ _ _ _ _ _ _ _ _ _ _ _ ⟨⟨_, hd, _, HFIN.out, HK3.out.1, fun k hk => hk.elim .inl (HK3.out.2 k), fun k hk => .inl hk⟩, HX4.out, HS3.out⟩
noncomputable def put_r2C : Code := ((Try.f32.body.bind (regionOf 2))).getD .skip
set_option maxRecDepth 1000000 in
set_option maxHeartbeats 4000000 in
theorem put_r2 (c1 c2 c4 c5 c6 c7 c8 c9 c10 c11 c12 c13 c14 c15 c16 c17 c18 c19 c20 c21 c22 c23 c24 c25 c26 c27 c28 c29 c30 c31 c32 c33 c34 c35 c36 c37 c38 c39 c40 c41 c42 : Value) (w : World) (s bt bs bw gb n : Nat) (vl : Value) (hd : Pt → Option Value) (F : Nat → Prop) (S : FgS) (x : Lk) (h : FgB s bt bs bw vl hd F S n w) (hx : LkB gb x w) (hgb : ¬ F gb) (hn : n ≤ 1000000)
    (Q : Exit → Act → World → Prop) (hQ : ∀ (u14 u15 u16 u17 u18 u19 : Value) (w' : World), StM F s bt bs bw { S with told := S.told ++ [x] } (n + 1) w w' ∧ LkB gb x w' ∧ mapSize w' bw = mapSize w bw → Q .normal ⟨#[.pointer (some ⟨s, 0, none⟩), c1, c2, .pointer (some ⟨gb, 0, none⟩), c4, c5, c6, c7, c8, c9, c10, c11, c12, c13, u14, u15, u16, u17, u18, u19, c20, c21, c22, c23, c24, c25, c26, c27, c28, c29, c30, c31, c32, c33, c34, c35, c36, c37, c38, c39, c40, c41, c42], []⟩ w') :
    Code.wp Try.prog put_r2C Q ⟨#[.pointer (some ⟨s, 0, none⟩), c1, c2, .pointer (some ⟨gb, 0, none⟩), c4, c5, c6, c7, c8, c9, c10, c11, c12, c13, c14, c15, c16, c17, c18, c19, c20, c21, c22, c23, c24, c25, c26, c27, c28, c29, c30, c31, c32, c33, c34, c35, c36, c37, c38, c39, c40, c41, c42], []⟩ w := by
  conv => arg 2; whnf
  try dsimp only at hQ ⊢
  obtain ⟨V, hV⟩ : ∃ V, V = w.drew := ⟨_, rfl⟩
  have fV : FgB s bt bs bw vl hd F S n V := by rw [hV]; exact h.below ((Below.refl _ _).drew)
  have xV : LkB gb x V := by rw [hV]; exact (show LkB gb x w.drew from hx)
  have kV : Kept F w V := by rw [hV]; exact Kept.of_below ((Below.refl _ _).drew)
  have HFV := Lib.hid fV
  have HXV := Lib.hid xV
  have HKV := Lib.hid kV
  have HV := Lib.hid hV
  obtain ⟨w3, hr, hm3, ht3⟩ := fV.told.put keyL Try.underlying69 (by unfold maxLen; omega) x (.agg #[])
  rw [toldF_set] at hm3
  have HFIN := Lib.hid (fV.turnTold ht3 (Nat.le_succ n) hm3)
  obtain ⟨o3, z3, e3⟩ := turned_block ht3
  have xl : w3.heap[gb]? = V.heap[gb]? := o3 gb (cells_ne xV.row e3)
  have HX3 := Lib.hid (xV.keep xl)
  have HK3 := Lib.hid (kV.trans (Kept.turned ht3 fV.foot.2.1) (fun k e => .inl e))
  have HS3 : Hid (mapSize w3 bw = mapSize w bw) := (mapSize_keep (o3 bw (fun e => fV.ne.2.1 e.symm))).trans (by rw [hV]; rfl)
  clear hm3 ht3 o3 z3 e3 xl
  clear fV xV kV hV h hx
  refine wp_region_noPanic ?_
  refine wp_region_held_drew (S := (fun u => u.heap[s]? = some (.cells #[vl, .map (some bt), .map (some bs), .map (some bw)] 73 (0, 0)) ∧ LkB gb x u)) (by kernel_rfl) (by rw [← HV.out]; exact ⟨HFV.out.cells, HXV.out⟩) (fun hHeld => ?_)
  rw [← HV.out]
  rw [← HV.out] at hHeld
  refine takeH (i := 0) (d := 14) (oi := _) (v := .pointer (some ⟨s, 0, none⟩)) rfl (by kernel_rfl) (by kernel_rfl) (by kernel_rfl) (by kernel_rfl) (fun _ _ _ h => h) (Or.inl ⟨by kernel_rfl, by intro u hSw; clear hSw; go_simp⟩) hHeld ?_
  try simp only [List.setIfInBounds_toArray, List.set_cons_zero, List.set_cons_succ]
  refine takeH (i := 1) (d := 15) (oi := _) (v := .pointer (some ⟨s, 0, none⟩)) rfl (by kernel_rfl) (by kernel_rfl) (by kernel_rfl) (by kernel_rfl) (fun _ _ _ h => h) (Or.inl ⟨by kernel_rfl, by intro u hSw; clear hSw; go_simp⟩) hHeld ?_
  try simp only [List.setIfInBounds_toArray, List.set_cons_zero, List.set_cons_succ]
  refine takeH (i := 2) (d := 16) (oi := _) (v := .pointer (some ⟨s, 1, none⟩)) rfl (by kernel_rfl) (by kernel_rfl) (by kernel_rfl) (by kernel_rfl) (fun _ _ _ h => h) (Or.inl ⟨by kernel_rfl, by intro u hSw; clear hSw; go_simp⟩) hHeld ?_
  try simp only [List.setIfInBounds_toArray, List.set_cons_zero, List.set_cons_succ]
  refine takeH (i := 3) (d := 17) (oi := _) (v := .map (some bt)) rfl (by kernel_rfl) (by kernel_rfl) (by kernel_rfl) (by kernel_rfl) (fun _ _ _ h => h) (Or.inl ⟨by kernel_rfl, by intro u hSw; (have hc : u.cell? ⟨s, 1, none⟩ = some (.map (some bt)) := cell_of_row u s 1 _ _ (0, 0) hSw.1; clear hSw; go_simp)⟩) hHeld ?_
  try simp only [List.setIfInBounds_toArray, List.set_cons_zero, List.set_cons_succ]
  refine takeH (i := 4) (d := 18) (oi := _) (v := .agg (lv x)) rfl (by kernel_rfl) (by kernel_rfl) (by kernel_rfl) (by kernel_rfl) (fun _ _ _ h => h) (yieldsIf_load_midC (by kernel_rfl) _ _ rfl (gb) 0 rfl (lC x) (lv x) (lC_arr x) _ (fun u hSw => hSw.2.all) Try.underlying36 rfl (size_lv x)) hHeld ?_
  try simp only [List.setIfInBounds_toArray, List.set_cons_zero, List.set_cons_succ]
  refine takeH (i := 5) (d := 19) (oi := _) (v := .agg #[]) rfl (by kernel_rfl) (by kernel_rfl) (by kernel_rfl) (by kernel_rfl) (fun _ _ _ h => h) (Or.inl ⟨by kernel_rfl, by intro u hSw; clear hSw; go_simp⟩) hHeld ?_
  try simp only [List.setIfInBounds_toArray, List.set_cons_zero, List.set_cons_succ]
  refine wpAnyH_ready (rs := [6]) (by kernel_rfl) (by simp) ?_
  refine AllReadyH.cons (o := _) rfl (fun K hK => ?_) (AllReadyH.nil)
  go_simp
  refine hK.out _ _ (⟨HFIN.out.cells, HX3.out⟩) (fun hHeld => ?_)
  clear hK K
  try simp only [Act.put, List.setIfInBounds_toArray, List.set_cons_zero, List.set_cons_succ]
  refine wpAnyH_done (by kernel_rfl) ?_ _
  refine NoPanic.normal ?_
  exact hQ _ _ _ _ _ _ _ ⟨⟨vl, hd, F, HFIN.out, HK3.out, fun k hk => .inl hk, fun k hk => hk⟩, HX3.out, HS3.out⟩
noncomputable def put_r3C : Code := ((Try.f32.body.bind (regionOf 3))).getD .skip
set_option maxRecDepth 1000000 in
set_option maxHeartbeats 4000000 in
theorem put_r3 (c1 c2 c4 c5 c6 c7 c8 c9 c10 c11 c12 c13 c14 c15 c16 c17 c18 c19 c20 c21 c22 c23 c24 c25 c26 c27 c28 c29 c30 c31 c32 c33 c34 c35 c36 c37 c38 c39 c40 c41 c42 : Value) (w : World) (s bt bs bw gb n : Nat) (vl : Value) (hd : Pt → Option Value) (F : Nat → Prop) (S : FgS) (x : Lk) (h : FgB s bt bs bw vl hd F S n w) (hx : LkB gb x w) (hgb : ¬ F gb)
    (Q : Exit → Act → World → Prop) (hQ : ∀ (u20 u21 u22 u23 u24 u25 u26 : Value) (w' : World), StM F s bt bs bw S n w w' ∧ LkB gb x w' ∧ mapSize w' bw = mapSize w bw → Q .normal ⟨#[.pointer (some ⟨s, 0, none⟩), c1, c2, .pointer (some ⟨gb, 0, none⟩), c4, c5, c6, c7, c8, c9, c10, c11, c12, c13, c14, c15, c16, c17, c18, c19, u20, u21, u22, u23, u24, u25, u26, .bool (decide (stN S.stands x.s = 0)), c28, c29, c30, c31, c32, c33, c34, c35, c36, c37, c38, c39, c40, c41, c42], []⟩ w') :
    Code.wp Try.prog put_r3C Q ⟨#[.pointer (some ⟨s, 0, none⟩), c1, c2, .pointer (some ⟨gb, 0, none⟩), c4, c5, c6, c7, c8, c9, c10, c11, c12, c13, c14, c15, c16, c17, c18, c19, c20, c21, c22, c23, c24, c25, c26, c27, c28, c29, c30, c31, c32, c33, c34, c35, c36, c37, c38, c39, c40, c41, c42], []⟩ w := by
  conv => arg 2; whnf
  try dsimp only at hQ ⊢
  obtain ⟨V, hV⟩ : ∃ V, V = w.drew := ⟨_, rfl⟩
  have fV : FgB s bt bs bw vl hd F S n V := by rw [hV]; exact h.below ((Below.refl _ _).drew)
  have xV : LkB gb x V := by rw [hV]; exact (show LkB gb x w.drew from hx)
  have kV : Kept F w V := by rw [hV]; exact Kept.of_below ((Below.refl _ _).drew)
  have HFV := Lib.hid fV
  have HXV := Lib.hid xV
  have HKV := Lib.hid kV
  have HV := Lib.hid hV
  clear fV xV kV hV h hx
  refine wp_region_noPanic ?_
  refine wp_region_held_drew (S := (fun u => FgB s bt bs bw vl hd F S n u ∧ LkB gb x u)) (by kernel_rfl) (by rw [← HV.out]; exact ⟨HFV.out, HXV.out⟩) (fun hHeld => ?_)
  rw [← HV.out]
  rw [← HV.out] at hHeld
  refine takeH (i := 0) (d := 20) (oi := _) (v := .pointer (some ⟨s, 0, none⟩)) rfl (by kernel_rfl) (by kernel_rfl) (by kernel_rfl) (by kernel_rfl) (fun _ _ _ h => h) (Or.inl ⟨by kernel_rfl, by intro u hSw; clear hSw; go_simp⟩) hHeld ?_
  try simp only [List.setIfInBounds_toArray, List.set_cons_zero, List.set_cons_succ]
  refine takeH (i := 1) (d := 21) (oi := _) (v := .pointer (some ⟨s, 0, none⟩)) rfl (by kernel_rfl) (by kernel_rfl) (by kernel_rfl) (by kernel_rfl) (fun _ _ _ h => h) (Or.inl ⟨by kernel_rfl, by intro u hSw; clear hSw; go_simp⟩) hHeld ?_
  try simp only [List.setIfInBounds_toArray, List.set_cons_zero, List.set_cons_succ]
  refine takeH (i := 2) (d := 22) (oi := _) (v := .pointer (some ⟨s, 2, none⟩)) rfl (by kernel_rfl) (by kernel_rfl) (by kernel_rfl) (by kernel_rfl) (fun _ _ _ h => h) (Or.inl ⟨by kernel_rfl, by intro u hSw; clear hSw; go_simp⟩) hHeld ?_
  try simp only [List.setIfInBounds_toArray, List.set_cons_zero, List.set_cons_succ]
  refine takeH (i := 3) (d := 23) (oi := _) (v := .map (some bs)) rfl (by kernel_rfl) (by kernel_rfl) (by kernel_rfl) (by kernel_rfl) (fun _ _ _ h => h) (Or.inl ⟨by kernel_rfl, by intro u hSw; (have hc : u.cell? ⟨s, 2, none⟩ = some (.map (some bs)) := cell_of_row u s 2 _ _ (0, 0) hSw.1.cells; clear hSw; go_simp)⟩) hHeld ?_
  try simp only [List.setIfInBounds_toArray, List.set_cons_zero, List.set_cons_succ]
  refine takeH (i := 4) (d := 24) (oi := _) (v := .pointer (some ⟨gb, 0, none⟩)) rfl (by kernel_rfl) (by kernel_rfl) (by kernel_rfl) (by kernel_rfl) (fun _ _ _ h => h) (Or.inl ⟨by kernel_rfl, by intro u hSw; clear hSw; go_simp⟩) hHeld ?_
  try simp only [List.setIfInBounds_toArray, List.set_cons_zero, List.set_cons_succ]
  refine takeH (i := 5) (d := 25) (oi := _) (v := .agg (pv x.s)) rfl (by kernel_rfl) (by kernel_rfl) (by kernel_rfl) (by kernel_rfl) (fun _ _ _ h => h) (yieldsIf_load_midC (by kernel_rfl) _ _ rfl (gb) 0 rfl (pC x.s) (pv x.s) (pC_arr x.s) _ (fun u hSw => hSw.2.src) Try.underlying29 rfl (size_pv x.s)) hHeld ?_
  try simp only [List.setIfInBounds_toArray, List.set_cons_zero, List.set_cons_succ]
  refine takeH (i := 6) (d := 26) (oi := _) (v := .int .i64 (stN S.stands x.s : Nat)) rfl (by kernel_rfl) (by kernel_rfl) (by kernel_rfl) (by kernel_rfl) (fun _ _ _ h => h) (Or.inl ⟨by kernel_rfl, by intro u hSw; (have hl := hSw.1.stands.look keyP Try.underlying70 (z := .int .i64 0) (zero_standing u) x.s; rw [stN_look] at hl; clear hSw; go_simp)⟩) hHeld ?_
  try simp only [List.setIfInBounds_toArray, List.set_cons_zero, List.set_cons_succ]
  refine takeH (i := 7) (d := 27) (oi := _) (v := .bool (decide (stN S.stands x.s = 0))) rfl (by kernel_rfl) (by kernel_rfl) (by kernel_rfl) (by kernel_rfl) (fun _ _ _ h => h) (Or.inl ⟨by kernel_rfl, by intro u hSw; clear hSw; (go_simp; try (first | omega | (rw [Bool.eq_iff_iff, beq_iff_eq, decide_eq_true_eq]; omega)))⟩) hHeld ?_
  try simp only [List.setIfInBounds_toArray, List.set_cons_zero, List.set_cons_succ]
  refine wpAnyH_done (by kernel_rfl) ?_ _
  refine NoPanic.normal ?_
  exact hQ _ _ _ _ _ _ _ _ ⟨⟨vl, hd, F, HFV.out, HKV.out, fun k hk => .inl hk, fun k hk => hk⟩, HXV.out, by rw [HV.out]; rfl⟩
noncomputable def put_r4C : Code := ((Try.f32.body.bind (regionOf 4))).getD .skip
set_option maxRecDepth 1000000 in
set_option maxHeartbeats 4000000 in
theorem put_r4 (c1 c2 c4 c5 c6 c7 c8 c9 c10 c11 c12 c13 c14 c15 c16 c17 c18 c19 c20 c21 c22 c23 c24 c25 c26 c27 c28 c29 c30 c31 c32 c33 c34 c35 c36 c37 c38 c39 c40 c41 c42 : Value) (w : World) (s bt bs bw gb n : Nat) (vl : Value) (hd : Pt → Option Value) (F : Nat → Prop) (S : FgS) (x : Lk) (h : FgB s bt bs bw vl hd F S n w) (hx : LkB gb x w) (hgb : ¬ F gb) (hn : n ≤ 1000000) (hll : ((S.waiting x.s).getD []).length ≤ 1000000)
    (Q : Exit → Act → World → Prop) (hQ : ∀ (u28 u29 u30 u31 u32 u33 u34 u35 u36 u37 u38 u39 : Value) (w' : World), StM F s bt bs bw { S with waiting := fun q => if q = x.s then some ((S.waiting x.s).getD [] ++ [x]) else S.waiting q } (n + 1 + 1) w w' ∧ LkB gb x w' ∧ mapSize w' bw ≤ mapSize w bw + 2 → Q .normal ⟨#[.pointer (some ⟨s, 0, none⟩), c1, c2, .pointer (some ⟨gb, 0, none⟩), c4, c5, c6, c7, c8, c9, c10, c11, c12, c13, c14, c15, c16, c17, c18, c19, c20, c21, c22, c23, c24, c25, c26, c27, u28, u29, u30, u31, u32, u33, u34, u35, u36, u37, u38, u39, c40, c41, c42], []⟩ w') :
    Code.wp Try.prog put_r4C Q ⟨#[.pointer (some ⟨s, 0, none⟩), c1, c2, .pointer (some ⟨gb, 0, none⟩), c4, c5, c6, c7, c8, c9, c10, c11, c12, c13, c14, c15, c16, c17, c18, c19, c20, c21, c22, c23, c24, c25, c26, c27, c28, c29, c30, c31, c32, c33, c34, c35, c36, c37, c38, c39, c40, c41, c42], []⟩ w := by
  conv => arg 2; whnf
  try dsimp only at hQ ⊢
  obtain ⟨i0, hi0⟩ : ∃ i0, Try.prog.info? 36 = some i0 := ⟨_, (Option.some_get (by kernel_rfl)).symm⟩
  obtain ⟨hz0, hz1, hz2⟩ := link_row hi0
  obtain ⟨V, hV⟩ : ∃ V, V = w.drew := ⟨_, rfl⟩
  have fV : FgB s bt bs bw vl hd F S n V := by rw [hV]; exact h.below ((Below.refl _ _).drew)
  have xV : LkB gb x V := by rw [hV]; exact (show LkB gb x w.drew from hx)
  have kV : Kept F w V := by rw [hV]; exact Kept.of_below ((Below.refl _ _).drew)
  have HFV := Lib.hid fV
  have HXV := Lib.hid xV
  have HKV := Lib.hid kV
  have HV := Lib.hid hV
  obtain ⟨y, hy⟩ : ∃ y, y = (hd x.s).getD (.slice none 0 0) := ⟨_, rfl⟩
  obtain ⟨L0, hL0⟩ : ∃ L0, L0 = (S.waiting x.s).getD [] := ⟨_, rfl⟩
  have hw := fV.waitRow x.s
  rw [← hy, ← hL0] at hw
  have HY := Lib.hid hy
  have HW1 := Lib.hid hw.1
  have HW2 := Lib.hid hw.2
  rw [← hL0] at hll hQ
  have HLL := Lib.hid hll
  have hmw : ∃ es clock, V.heap[bw]? = some (.map es clock) := by
    obtain ⟨D, ⟨es, clock, h1, _⟩, _⟩ := fV.waits
    exact ⟨es, clock, h1⟩
  have NS : Hid (s ≠ bw ∧ y.ownBlock ≠ some s ∧ gb ≠ bw ∧ y.ownBlock ≠ some gb ∧ y.ownBlock ≠ some bw) := ⟨cells_ne fV.cells hmw, fun e => own_other hw.1 e fV.cells (by decide) rfl, cells_ne xV.row hmw, fun e => hgb (hw.2 gb e).1, fun e => row_ne hw.1 e hmw rfl⟩
  clear hw hmw
  clear hy hL0 hll fV xV kV hV h hx
  refine wp_region_noPanic ?_
  refine wp_region_held_drew (S := (fun u => u.heap[s]? = some (.cells #[vl, .map (some bt), .map (some bs), .map (some bw)] 73 (0, 0)) ∧ LkB gb x u)) (by kernel_rfl) (by rw [← HV.out]; exact ⟨HFV.out.cells, HXV.out⟩) (fun hHeld => ?_)
  rw [← HV.out]
  rw [← HV.out] at hHeld
  refine takeH (i := 0) (d := 28) (oi := _) (v := .pointer (some ⟨s, 0, none⟩)) rfl (by kernel_rfl) (by kernel_rfl) (by kernel_rfl) (by kernel_rfl) (fun _ _ _ h => h) (Or.inl ⟨by kernel_rfl, by intro u hSw; clear hSw; go_simp⟩) hHeld ?_
  try simp only [List.setIfInBounds_toArray, List.set_cons_zero, List.set_cons_succ]
  refine takeH (i := 1) (d := 29) (oi := _) (v := .pointer (some ⟨s, 0, none⟩)) rfl (by kernel_rfl) (by kernel_rfl) (by kernel_rfl) (by kernel_rfl) (fun _ _ _ h => h) (Or.inl ⟨by kernel_rfl, by intro u hSw; clear hSw; go_simp⟩) hHeld ?_
  try simp only [List.setIfInBounds_toArray, List.set_cons_zero, List.set_cons_succ]
  refine takeH (i := 2) (d := 30) (oi := _) (v := .pointer (some ⟨s, 3, none⟩)) rfl (by kernel_rfl) (by kernel_rfl) (by kernel_rfl) (by kernel_rfl) (fun _ _ _ h => h) (Or.inl ⟨by kernel_rfl, by intro u hSw; clear hSw; go_simp⟩) hHeld ?_
  try simp only [List.setIfInBounds_toArray, List.set_cons_zero, List.set_cons_succ]
  refine takeH (i := 3) (d := 31) (oi := _) (v := .map (some bw)) rfl (by kernel_rfl) (by kernel_rfl) (by kernel_rfl) (by kernel_rfl) (fun _ _ _ h => h) (Or.inl ⟨by kernel_rfl, by intro u hSw; (have hc : u.cell? ⟨s, 3, none⟩ = some (.map (some bw)) := cell_of_row u s 3 _ _ (0, 0) hSw.1; clear hSw; go_simp)⟩) hHeld ?_
  try simp only [List.setIfInBounds_toArray, List.set_cons_zero, List.set_cons_succ]
  refine takeH (i := 4) (d := 32) (oi := _) (v := .pointer (some ⟨gb, 0, none⟩)) rfl (by kernel_rfl) (by kernel_rfl) (by kernel_rfl) (by kernel_rfl) (fun _ _ _ h => h) (Or.inl ⟨by kernel_rfl, by intro u hSw; clear hSw; go_simp⟩) hHeld ?_
  try simp only [List.setIfInBounds_toArray, List.set_cons_zero, List.set_cons_succ]
  refine takeH (i := 5) (d := 33) (oi := _) (v := .agg (pv x.s)) rfl (by kernel_rfl) (by kernel_rfl) (by kernel_rfl) (by kernel_rfl) (fun _ _ _ h => h) (yieldsIf_load_midC (by kernel_rfl) _ _ rfl (gb) 0 rfl (pC x.s) (pv x.s) (pC_arr x.s) _ (fun u hSw => hSw.2.src) Try.underlying29 rfl (size_pv x.s)) hHeld ?_
  try simp only [List.setIfInBounds_toArray, List.set_cons_zero, List.set_cons_succ]
  refine takeH (i := 6) (d := 35) (oi := _) (v := .agg (lv x)) rfl (by kernel_rfl) (by kernel_rfl) (by kernel_rfl) (by kernel_rfl) (fun _ _ _ h => h) (yieldsIf_load_midC (by kernel_rfl) _ _ rfl (gb) 0 rfl (lC x) (lv x) (lC_arr x) _ (fun u hSw => hSw.2.all) Try.underlying36 rfl (size_lv x)) hHeld ?_
  try simp only [List.setIfInBounds_toArray, List.set_cons_zero, List.set_cons_succ]
  have HK0 : Hid (Kept (fun k => k = bw ∨ y.ownBlock = some k) V V) := Kept.refl _ V
  refine wpAnyH_ready (rs := [7]) (by kernel_rfl) (by simp) ?_
  refine AllReadyH.cons (o := _) rfl (fun K hK => ?_) (AllReadyH.nil)
  refine step_buildSlice_row (w' := V.alloc (.cells (lv x) 36)) (by kernel_rfl) 30 1 #[(0, .tmp 35)] rfl (.slice (some ⟨V.heap.size, 0, none⟩) 1 1) (by simp only [List.map_toArray, List.map_cons, List.map_nil]; exact one_link x V) ?_
  have OL := Lib.hid (own_link x V)
  have NB := Lib.hid ((Below.refl V.heap.size V).alloc (Nat.le_refl _) (.cells (lv x) 36))
  obtain ⟨w2, hw2⟩ : ∃ w2, w2 = V.alloc (.cells (lv x) 36) := ⟨_, rfl⟩
  rw [← hw2] at OL NB ⊢
  clear hw2
  have HK2 : Hid (Kept (fun k => k = bw ∨ y.ownBlock = some k) V w2) := HK0.out.trans (Kept.of_below NB.out) (fun k e => .inl e)
  try go_simp
  refine hK.out _ _ (⟨(HK2.out.2.2.2.2 s (HFV.out.fin s HFV.out.foot.1) (fun e => e.elim NS.out.1 NS.out.2.1)).trans HFV.out.cells, HK2.out.fill HXV.out (fun e => e.elim NS.out.2.2.1 NS.out.2.2.2.1)⟩) (fun hHeld => ?_)
  clear hK K
  try simp only [Act.put, List.setIfInBounds_toArray, List.set_cons_zero, List.set_cons_succ]
  refine wpAnyH_ready (rs := [8]) (by kernel_rfl) (by simp) ?_
  refine AllReadyH.cons (o := _) rfl (fun K hK => ?_) (AllReadyH.nil)
  obtain ⟨st, w3, hr, hm, ht, he⟩ := MapF.entry keyP (HFV.out.waits.below NB.out (HFV.out.fin bw HFV.out.foot.2.2.2.1)) Try.underlying71 (z := .slice none 0 0) (zero_links w2) (by unfold maxLen; omega) x.s
  have hz : mapSize w3 bw ≤ mapSize w2 bw + 1 := by
    obtain ⟨_, w2', hr', hm', _⟩ := MapF.entry keyP (HFV.out.waits.below NB.out (HFV.out.fin bw HFV.out.foot.2.2.2.1)).tight Try.underlying71 (z := .slice none 0 0) (zero_links w2) (Nat.lt_of_le_of_lt (HFV.out.waits.below NB.out (HFV.out.fin bw HFV.out.foot.2.2.2.1)).size (by unfold maxLen; omega)) x.s
    rw [hr] at hr'
    injection hr' with _ hr'
    subst hr'
    exact hm'.size
  rw [← HY.out] at hr hm
  have HM := Lib.hid hm
  have HE := Lib.hid he
  have HT := Lib.hid ht
  have HZ : Hid (mapSize w3 bw ≤ mapSize w2 bw + 1) := hz
  have HK3 : Hid (Kept (fun k => k = bw ∨ y.ownBlock = some k) V w3) := HK2.out.trans (Kept.turned ht (.inl rfl)) (fun k e => .inl e)
  clear hm he ht
  go_simp
  clear hr
  refine hK.out _ _ (⟨(HK3.out.2.2.2.2 s (HFV.out.fin s HFV.out.foot.1) (fun e => e.elim NS.out.1 NS.out.2.1)).trans HFV.out.cells, HK3.out.fill HXV.out (fun e => e.elim NS.out.2.2.1 NS.out.2.2.2.1)⟩) (fun hHeld => ?_)
  clear hK K
  try simp only [Act.put, List.setIfInBounds_toArray, List.set_cons_zero, List.set_cons_succ]
  have HR3 : Hid (w3.ownsRow 0 36 66 y L0.length (lks L0)) := ownKeep HW1.out (fun g hg => ((turned_block HT.out).1 g (fun e => NS.out.2.2.2.2 (by rw [← e]; exact hg))).trans (NB.out.block g (HW1.out.lt g hg).2))
  have HO3 : Hid (w3.ownsRow 0 36 66 (.slice (some ⟨V.heap.size, 0, none⟩) 1 1) 1 (lC x)) := ownKeep OL.out (fun g hg => (turned_block HT.out).1 g (row_ne OL.out hg (turned_block HT.out).2.2))
  refine takeH (i := 9) (d := 34) (oi := _) (v := y) rfl (by kernel_rfl) (by kernel_rfl) (by kernel_rfl) (by kernel_rfl) (fun _ _ _ h => h) (Or.inl ⟨by kernel_rfl, by intro u hSw; clear hSw; go_simp⟩) hHeld ?_
  try simp only [List.setIfInBounds_toArray, List.set_cons_zero, List.set_cons_succ]
  refine takeH (i := 11) (d := 39) (oi := _) (v := .int .i64 (st : Nat)) rfl (by kernel_rfl) (by kernel_rfl) (by kernel_rfl) (by kernel_rfl) (fun _ _ _ h => h) (Or.inl ⟨by kernel_rfl, by intro u hSw; clear hSw; go_simp⟩) hHeld ?_
  try simp only [List.setIfInBounds_toArray, List.set_cons_zero, List.set_cons_succ]
  refine wpAnyH_ready (rs := [10]) (by kernel_rfl) (by simp) ?_
  refine AllReadyH.cons (o := _) rfl (fun K hK => ?_) (AllReadyH.nil)
  refine step_append_row (by kernel_rfl) (.tmp 34) (.tmp 36) 30 rfl 0 36 i0 _ 66 80 Try.underlying30 hi0 hz0 hz1 hz2 (by show (lv lkZ).size = 66; exact rowV_size _ _) (by decide) y L0.length (lks L0) rfl HR3.out 0 _ 1 (lC x) rfl HO3.out (lC_one x) (by have := HLL.out; unfold maxLen; omega) (by have := HLL.out; omega) (Nat.zero_le _) ?_
  intro v' w4 o4 g4 b4
  obtain ⟨A4, c4', rfl, _, _, _⟩ := ownForm o4
  rw [lks_more] at o4
  have o4' : w4.ownsRow 0 36 66 (.slice A4 (L0.length + 1) c4') (L0 ++ [x]).length (lks (L0 ++ [x])) := by rw [List.length_append]; exact o4
  have HK4 : Hid (Kept (fun k => k = bw ∨ y.ownBlock = some k) V w4) := HK3.out.trans (F' := (fun k => k = bw ∨ y.ownBlock = some k)) ⟨g4.os, g4.tape, g4.output, g4.size, fun k hk hn => g4.block k hk (fun e => hn (.inr e.symm))⟩ (fun k e => .inl e)
  have hm4 := HM.out.kept g4 (fun e => NS.out.2.2.2.2 e.symm)
  have he4 := HE.out.keep (g4.block bw HM.out.lt (fun e => NS.out.2.2.2.2 e.symm))
  obtain ⟨w5, hr5, hm5, ht5⟩ := MapF.entryStore keyP hm4 Try.underlying71 (by unfold maxLen; omega) x.s he4 (.slice A4 (L0.length + 1) c4')
  rw [setF_setF] at hm5
  have HZ5 : Hid (mapSize w5 bw ≤ mapSize w4 bw + 1 ∧ mapSize w4 bw = mapSize w3 bw) := by
    refine ⟨?_, mapSize_keep (g4.block bw HM.out.lt (fun e => NS.out.2.2.2.2 e.symm))⟩
    obtain ⟨w5', hr', hm', _⟩ := MapF.entryStore keyP hm4.tight Try.underlying71 (Nat.lt_of_le_of_lt hm4.size (by unfold maxLen; omega)) x.s he4 (.slice A4 (L0.length + 1) c4')
    rw [hr5] at hr'
    injection hr' with _ hr'
    subst hr'
    exact hm'.size
  have HK5 : Hid (Kept (fun k => k = bw ∨ y.ownBlock = some k) V w5) := HK4.out.trans (Kept.turned ht5 (.inl rfl)) (fun k e => .inl e)
  obtain ⟨t1, t2, t3⟩ := turned_block ht5
  have HFIN := Lib.hid (HFV.out.turnWait x.s (n' := n + 1 + 1) (by omega) (fun k hF hb hv => HK5.out.2.2.2.2 k (HFV.out.fin k hF) (fun e => e.elim hb (fun e2 => by
      have h0 := (HW2.out k e2).2
      cases hh : hd x.s with
      | none => exact h0 hh
      | some v =>
        have h1 := HY.out
        rw [hh] at h1
        rw [h1] at e2
        exact hv v hh e2))) HK5.out.2.2.2.1 hm5 (ownKeep o4' (fun g hg => t1 g (row_ne o4' hg t3))) (by
      rcases b4 with b4 | b4
      · cases hh : hd x.s with
        | none =>
          have h1 := HY.out
          rw [hh] at h1
          exact .inr (fun k e => by rw [b4, h1] at e; cases e)
        | some v =>
          have h1 := HY.out
          rw [hh] at h1
          rw [h1] at b4
          exact .inl ⟨v, rfl, b4⟩
      · exact .inr (fun k e => by
          rw [b4] at e
          injection e with e
          have := HK3.out.2.2.2.1
          omega)))
  have HB4 := Lib.hid (show ∀ k, (Value.slice A4 (L0.length + 1) c4').ownBlock = some k → F k ∨ w.heap.size ≤ k from fun k e => by
    rcases b4 with b4 | b4
    · exact .inl (HW2.out k (by rw [← b4]; exact e)).1
    · rw [b4] at e
      injection e with e
      have := HK3.out.2.2.2.1
      have := HKV.out.2.2.2.1
      exact .inr (by omega))
  clear o4 o4' g4 b4 hm4 he4 hm5 ht5 t1 t2 t3
  try go_simp
  refine hK.out _ _ (⟨(HK4.out.2.2.2.2 s (HFV.out.fin s HFV.out.foot.1) (fun e => e.elim NS.out.1 NS.out.2.1)).trans HFV.out.cells, HK4.out.fill HXV.out (fun e => e.elim NS.out.2.2.1 NS.out.2.2.2.1)⟩) (fun hHeld => ?_)
  clear hK K
  try simp only [Act.put, List.setIfInBounds_toArray, List.set_cons_zero, List.set_cons_succ]
  refine wpAnyH_ready (rs := [12]) (by kernel_rfl) (by simp) ?_
  refine AllReadyH.cons (o := _) rfl (fun K hK => ?_) (AllReadyH.nil)
  go_simp
  refine hK.out _ _ (⟨(HK5.out.2.2.2.2 s (HFV.out.fin s HFV.out.foot.1) (fun e => e.elim NS.out.1 NS.out.2.1)).trans HFV.out.cells, HK5.out.fill HXV.out (fun e => e.elim NS.out.2.2.1 NS.out.2.2.2.1)⟩) (fun hHeld => ?_)
  clear hK K
  try simp only [Act.put, List.setIfInBounds_toArray, List.set_cons_zero, List.set_cons_succ]
  refine wpAnyH_done (by kernel_rfl) ?_ _
  refine NoPanic.normal ?_
  exact hQ _ _ _ _ _ _ _ _ _ _ _ _ _ ⟨⟨vl, _, _, HFIN.out, HKV.out.trans (F' := F) ⟨HK5.out.1, HK5.out.2.1, HK5.out.2.2.1, HK5.out.2.2.2.1, fun k hk hn => HK5.out.2.2.2.2 k hk (fun e => e.elim (fun e => hn (by rw [e]; exact HFV.out.foot.2.2.2.1)) (fun e => hn (HW2.out k e).1))⟩ (fun k e => .inl e), fun k hk => hk.elim .inl (HB4.out k), fun k hk => .inl hk⟩, HK5.out.fill HXV.out (fun e => e.elim NS.out.2.2.1 NS.out.2.2.2.1), by have z1 := HZ.out; have z2 := HZ5.out.1; have z3 := HZ5.out.2; have z4 : mapSize w2 bw = mapSize w bw := (mapSize_keep (NB.out.block bw (HFV.out.fin bw HFV.out.foot.2.2.2.1))).trans (by rw [HV.out]; rfl); omega⟩
end Go.Proofs.Ythlbpjkopkicbaa
