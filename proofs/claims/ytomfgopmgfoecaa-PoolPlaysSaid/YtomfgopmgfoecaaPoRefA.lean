/- The reference's pool: Add. -/
import Derived.Test.YtomfgopmgfoecaaPoRefK
import Derived.BigFrame
import Derived.Great.BuildSlice
namespace Go.Proofs.Ytomfgopmgfoecaa
open Go.ChangeMaps Go.MapKept Go.Maps Go.RowKit Go.ChangeShapes Go.WideShapes Go.ChangeAt
set_option linter.unusedVariables false
set_option maxRecDepth 100000

theorem ownLow {w : World} {base sz n : Nat} {t : TypeId} {v : Value} {xs : List Value} (h : w.ownsRow base t sz v n xs) : w.ownsRow 0 t sz v n xs := by
  refine ⟨h.1, ?_⟩
  rcases h.2 with h0 | ⟨g, cap, cur, hv, h1, h2⟩
  · exact .inl h0
  · exact .inr ⟨g, cap, cur, hv, Nat.zero_le _, h2⟩
theorem rf_added {g : Nat} {G : Nat → Prop} {V V' : List Sg} {w w3 : World} {v v6 : Value} (h : RfM g G V w) (o4 : w3.ownsRow w.heap.size 42 101 v6 V'.length (rws sgC V')) (bw : Below w.heap.size w w3) (r6 : w3.heap[g]? = some (.cells #[v] 31 (0, 0))) :
    ∃ G', RfM g G' V' (w3.setCell ⟨g, 0, none⟩ v6) ∧ Kept (fun k => k = g) w (w3.setCell ⟨g, 0, none⟩ v6) ∧ ∀ k, G' k → k = g ∨ w.heap.size ≤ k := by
  have hg := h.fin g h.at_
  have o5 : (w3.setCell ⟨g, 0, none⟩ v6).ownsRow w.heap.size 42 101 v6 V'.length (rws sgC V') := ownKeep o4 (fun k e => setCell_off 0 (fun e2 => by have := (o4.lt k e).1; omega))
  refine ⟨fun k => k = g ∨ v6.ownBlock = some k, ⟨⟨v6, setCell_heap r6 0, ownLow o5, fun k e => ⟨.inr e, fun e2 => by have := (o4.lt k e).1; omega⟩⟩, .inl rfl, fun k e => ?_⟩, ⟨bw.os, bw.tape, bw.output, by rw [setCell_size]; exact bw.size, fun k hk hn => (setCell_off 0 hn).trans (bw.block k hk)⟩, fun k e => ?_⟩
  · rw [setCell_size]
    rcases e with rfl | e
    · have := bw.size; omega
    · exact (o4.lt k e).2
  · rcases e with rfl | e
    · exact .inl rfl
    · exact .inr (o4.lt k e).1
noncomputable def ra_r4C : Code := ((Try.f27.body.bind (regionOf 4))).getD .skip
set_option maxRecDepth 1000000 in
set_option maxHeartbeats 8000000 in
theorem ra_r4 (c1 c2 c4 c7 c8 c9 c10 c11 c12 c13 c14 c15 c16 c17 c18 c19 c20 c21 c22 c23 c24 c25 c26 c27 c28 c29 c30 c31 c32 c33 c34 c35 c36 : Value) (w : World) (g gv gh : Nat) (G : Nat → Prop) (V : List Sg) (nv : Int) (k : Lk) (A : Option Addr) (m c : Nat) (kh : Hh) (st : Nat) (h : RfM g G V w) (hl9 : V.length ≤ 100000) (hone : ∀ u ∈ rws sgC V, u.oneCell' = true) (hv : VtK gv nv k (.slice A m c) w) (hk : HhB gh kh w) (hng : g ≠ gv ∧ g ≠ gh)
    (Q : Exit → Act → World → Prop) (hQ : ∀ (u19 u20 u21 u22 u23 u24 u25 u26 u27 u28 u29 u30 u31 u32 : Value) (w' : World), (∃ G', RfM g G' (V ++ [(⟨nv, k, .slice A m c, kh, st⟩ : Sg)]) w' ∧ Kept (fun k => k = g) w w' ∧ ∀ k, G' k → k = g ∨ w.heap.size ≤ k) → Q .normal ⟨#[.pointer (some ⟨g, 0, none⟩), c1, c2, .int .u64 (st : Int), c4, .pointer (some ⟨gv, 0, none⟩), .pointer (some ⟨gh, 0, none⟩), c7, c8, c9, c10, c11, c12, c13, c14, c15, c16, c17, c18, u19, u20, u21, u22, u23, u24, u25, u26, u27, u28, u29, u30, u31, u32, c33, c34, c35, c36], []⟩ w') :
    Code.wp Try.prog ra_r4C Q ⟨#[.pointer (some ⟨g, 0, none⟩), c1, c2, .int .u64 (st : Int), c4, .pointer (some ⟨gv, 0, none⟩), .pointer (some ⟨gh, 0, none⟩), c7, c8, c9, c10, c11, c12, c13, c14, c15, c16, c17, c18, c19, c20, c21, c22, c23, c24, c25, c26, c27, c28, c29, c30, c31, c32, c33, c34, c35, c36], []⟩ w := by
  conv => arg 2; whnf
  try dsimp only at hQ ⊢
  obtain ⟨i0, hi0⟩ : ∃ i0, Try.prog.info? 42 = some i0 := ⟨_, (Option.some_get (by kernel_rfl)).symm⟩
  obtain ⟨hz0, hz1, hz2⟩ := sg_row hi0
  have HF0 := Lib.hid h
  have LO0 := Lib.hid (And.intro hv hk)
  have NG := Lib.hid hng
  have HONE := Lib.hid hone
  obtain ⟨w2, hw2⟩ : ∃ w2, w2 = w.drew := ⟨_, rfl⟩
  have BX : Hid (Below w.heap.size w w2) := by rw [hw2]; exact (Below.refl _ _).drew
  have HF := Lib.hid (h.below BX.out)
  have LO := Lib.hid (And.intro (hv.below BX.out hv.lt) (Fill.below hk BX.out (Fill.lt hk)))
  clear h hv hk hng hone
  refine wp_region_noPanic ?_
  refine wp_region_held_drew (S := (fun u => VtK gv nv k (.slice A m c) u ∧ HhB gh kh u)) (by kernel_rfl) (by rw [← hw2]; exact LO.out) (fun hHeld => ?_)
  rw [← hw2]
  rw [← hw2] at hHeld
  clear hw2
  refine takeH (i := 0) (d := 19) (oi := _) (v := .pointer (some ⟨g, 0, none⟩)) rfl (by kernel_rfl) (by kernel_rfl) (by kernel_rfl) (by kernel_rfl) (fun _ _ _ h => h) (Or.inl ⟨by kernel_rfl, by intro u hSw; clear hSw; go_simp⟩) hHeld ?_
  try simp only [List.setIfInBounds_toArray, List.set_cons_zero, List.set_cons_succ]
  refine takeH (i := 1) (d := 20) (oi := _) (v := .pointer (some ⟨g, 0, none⟩)) rfl (by kernel_rfl) (by kernel_rfl) (by kernel_rfl) (by kernel_rfl) (fun _ _ _ h => h) (Or.inl ⟨by kernel_rfl, by intro u hSw; clear hSw; go_simp⟩) hHeld ?_
  try simp only [List.setIfInBounds_toArray, List.set_cons_zero, List.set_cons_succ]
  refine takeH (i := 2) (d := 21) (oi := _) (v := .pointer (some ⟨g, 0, none⟩)) rfl (by kernel_rfl) (by kernel_rfl) (by kernel_rfl) (by kernel_rfl) (fun _ _ _ h => h) (Or.inl ⟨by kernel_rfl, by intro u hSw; clear hSw; go_simp⟩) hHeld ?_
  try simp only [List.setIfInBounds_toArray, List.set_cons_zero, List.set_cons_succ]
  refine takeH (i := 3) (d := 22) (oi := _) (v := .pointer (some ⟨g, 0, none⟩)) rfl (by kernel_rfl) (by kernel_rfl) (by kernel_rfl) (by kernel_rfl) (fun _ _ _ h => h) (Or.inl ⟨by kernel_rfl, by intro u hSw; clear hSw; go_simp⟩) hHeld ?_
  try simp only [List.setIfInBounds_toArray, List.set_cons_zero, List.set_cons_succ]
  refine takeH (i := 6) (d := 25) (oi := _) (v := .agg (vtw nv k (.slice A m c))) rfl (by kernel_rfl) (by kernel_rfl) (by kernel_rfl) (by kernel_rfl) (fun _ _ _ h => h) (yieldsIf_load_midC (by kernel_rfl) _ _ rfl (gv) 0 rfl (vtC nv k (.slice A m c)) (vtw nv k (.slice A m c)) (vtC_arr nv k (.slice A m c)) _ (fun u hSw => hSw.1.all) Try.underlying40 rfl (size_vtw nv k (.slice A m c))) hHeld ?_
  try simp only [List.setIfInBounds_toArray, List.set_cons_zero, List.set_cons_succ]
  refine takeH (i := 7) (d := 26) (oi := _) (v := .agg (hhv kh)) rfl (by kernel_rfl) (by kernel_rfl) (by kernel_rfl) (by kernel_rfl) (fun _ _ _ h => h) (yieldsIf_load_midC (by kernel_rfl) _ _ rfl (gh) 0 rfl (hhC kh) (hhv kh) (hhC_arr kh) _ (fun u hSw => hhB_all hSw.2) Try.underlying24 rfl (size_hhv kh)) hHeld ?_
  try simp only [List.setIfInBounds_toArray, List.set_cons_zero, List.set_cons_succ]
  refine takeH (i := 8) (d := 27) (oi := _) (v := .int .u64 (st : Int)) rfl (by kernel_rfl) (by kernel_rfl) (by kernel_rfl) (by kernel_rfl) (fun _ _ _ h => h) (Or.inl ⟨by kernel_rfl, by intro u hSw; clear hSw; go_simp⟩) hHeld ?_
  try simp only [List.setIfInBounds_toArray, List.set_cons_zero, List.set_cons_succ]
  refine takeH (i := 9) (d := 28) (oi := _) (v := .agg (sgv (⟨nv, k, .slice A m c, kh, st⟩ : Sg))) rfl (by kernel_rfl) (by kernel_rfl) (by kernel_rfl) (by kernel_rfl) (fun _ _ _ h => h) (yieldsIf_build (by kernel_rfl) 42 #[(0, .tmp 25), (1, .tmp 26), (2, .tmp 27)] rfl _ _ (built_sg _ _ _ _ _ _ _) (by kernel_rfl)) hHeld ?_
  try simp only [List.setIfInBounds_toArray, List.set_cons_zero, List.set_cons_succ]
  refine wpAnyH_ready (rs := [4, 10]) (by kernel_rfl) (by simp) ?_
  refine AllReadyH.cons (o := _) rfl (fun K hK => ?_) (AllReadyH.cons (o := _) rfl (fun K hK => ?_) (AllReadyH.nil))
  · obtain ⟨vv, g1, g2, g3⟩ := HF.out.ex
    obtain ⟨Av, cv, hv0, _⟩ := ownForm g2
    have c1 : w2.cell? ⟨g, 0, none⟩ = some (.slice Av V.length cv) := by rw [← hv0]; exact cell_of_row w2 g 0 _ _ (0, 0) g1
    have SV := Lib.hid (hv0 ▸ g2)
    go_simp
    clear c1 g1 g2 g3 hv0
    try go_simp
    refine hK.out _ _ (LO.out) (fun hHeld => ?_)
    clear hK K
    try simp only [Act.put, List.setIfInBounds_toArray, List.set_cons_zero, List.set_cons_succ]
    refine wpAnyH_ready (rs := [5, 10]) (by kernel_rfl) (by simp) ?_
    refine AllReadyH.cons (o := _) rfl (fun K hK => ?_) (AllReadyH.cons (o := _) rfl (fun K hK => ?_) (AllReadyH.nil))
    · refine step_append_row (by kernel_rfl) (.const (.slice none 0 0)) (.tmp 23) 22 rfl w.heap.size 42 i0 _ 101 152 Try.underlying22 hi0 hz0 hz1 hz2 (by show (sgv sgZ).size = 101; exact rowV_size _ _) (by decide) (.slice none 0 0) 0 [] rfl ⟨rfl, .inl ⟨rfl, rfl⟩⟩ 0 _ V.length (rws sgC V) rfl SV.out HONE.out (by unfold maxLen; omega) (by omega) BX.out.size ?_
      intro v5 w3 o3 g3 b3
      obtain ⟨A5, c5, rfl, _, _, hA5⟩ := ownForm o3
      simp only [Nat.zero_add, List.nil_append] at o3
      have b2 : Below w2.heap.size w2 w3 := (Below.refl _ _).grown g3 (Nat.le_refl _) (fun k0 e => by cases e)
      have NW := Lib.hid o3
      try have OL := Lib.hid (ownKeep OL.out (fun k0 e => b2.block k0 (OL.out.lt k0 e).2))
      obtain ⟨w2, hw2⟩ : ∃ w4, w4 = w3 := ⟨_, rfl⟩
      rw [← hw2] at b2 NW ⊢
      try rw [← hw2] at OL
      have HF := Lib.hid (HF.out.below b2)
      have LO := Lib.hid (And.intro (LO.out.1.below b2 LO.out.1.lt) (Fill.below LO.out.2 b2 (Fill.lt LO.out.2)))
      have BX := Lib.hid (BX.out.trans (b2.mono BX.out.size))
      clear o3 g3 b3 hA5 b2 hw2
      try go_simp
      refine hK.out _ _ (LO.out) (fun hHeld => ?_)
      clear hK K
      try simp only [Act.put, List.setIfInBounds_toArray, List.set_cons_zero, List.set_cons_succ]
      refine wpAnyH_ready (rs := [10]) (by kernel_rfl) (by simp) ?_
      refine AllReadyH.cons (o := _) rfl (fun K hK => ?_) (AllReadyH.nil)
      refine step_buildSlice_row (w' := w2.alloc (.cells (sgv (⟨nv, k, .slice A m c, kh, st⟩ : Sg)) 42)) (by kernel_rfl) 22 1 #[(0, .tmp 28)] rfl (.slice (some ⟨w2.heap.size, 0, none⟩) 1 1) (by simp only [List.map_toArray, List.map_cons, List.map_nil]; exact one_sg (⟨nv, k, .slice A m c, kh, st⟩ : Sg) rfl w2) ?_
      obtain ⟨gn, hgn⟩ : ∃ g0, g0 = w2.heap.size := ⟨_, rfl⟩
      have ol := own_sg (⟨nv, k, .slice A m c, kh, st⟩ : Sg) w2
      have b2 : Below w2.heap.size w2 (w2.alloc (.cells (sgv (⟨nv, k, .slice A m c, kh, st⟩ : Sg)) 42)) := (Below.refl _ _).alloc (Nat.le_refl _) _
      rw [← hgn] at ol ⊢
      obtain ⟨w2, hw2⟩ : ∃ w3, w3 = w2.alloc (.cells (sgv (⟨nv, k, .slice A m c, kh, st⟩ : Sg)) 42) := ⟨_, rfl⟩
      rw [← hw2] at ol b2 ⊢
      try have SV := Lib.hid (ownKeep SV.out (fun k0 e => b2.block k0 (SV.out.lt k0 e).2))
      try have NW := Lib.hid (ownKeep NW.out (fun k0 e => b2.block k0 (NW.out.lt k0 e).2))
      have OL := Lib.hid ol
      have HF := Lib.hid (HF.out.below b2)
      have LO := Lib.hid (And.intro (LO.out.1.below b2 LO.out.1.lt) (Fill.below LO.out.2 b2 (Fill.lt LO.out.2)))
      have BX := Lib.hid (BX.out.trans (b2.mono BX.out.size))
      clear ol b2 hw2 hgn
      try go_simp
      refine hK.out _ _ (LO.out) (fun hHeld => ?_)
      clear hK K
      try simp only [Act.put, List.setIfInBounds_toArray, List.set_cons_zero, List.set_cons_succ]
      refine wpAnyH_ready (rs := [11]) (by kernel_rfl) (by simp) ?_
      refine AllReadyH.cons (o := _) rfl (fun K hK => ?_) (AllReadyH.nil)
      refine step_append_row (by kernel_rfl) (.tmp 24) (.tmp 29) 22 rfl w.heap.size 42 i0 _ 101 152 Try.underlying22 hi0 hz0 hz1 hz2 (by show (sgv sgZ).size = 101; exact rowV_size _ _) (by decide) (.slice A5 V.length c5) V.length (rws sgC V) rfl NW.out 0 _ 1 (sgC (⟨nv, k, .slice A m c, kh, st⟩ : Sg)) rfl OL.out (sgC_one (⟨nv, k, .slice A m c, kh, st⟩ : Sg) rfl) (by unfold maxLen; omega) (by omega) BX.out.size ?_
      intro v6 w3 o3 g3 b3
      obtain ⟨A6, c6, rfl, _, _, _⟩ := ownForm o3
      rw [rws_more] at o3
      have bw : Below w.heap.size w w3 := BX.out.grown g3 BX.out.size (fun k0 e => (NW.out.lt k0 e).1)
      obtain ⟨vv6, h6, h7, h8⟩ := HF0.out.ex
      have r6 := (bw.block g (HF0.out.fin g HF0.out.at_)).trans h6
      have c3 : w3.cell? ⟨g, 0, none⟩ = some vv6 := cell_of_row w3 g 0 _ _ (0, 0) r6
      have f3 : w3.frozen? ⟨g, 0, none⟩ = false := by simp [World.frozen?, r6]
      have o4 : w3.ownsRow w.heap.size 42 101 (.slice A6 (V.length + 1) c6) (V ++ [(⟨nv, k, .slice A m c, kh, st⟩ : Sg)]).length (rws sgC (V ++ [(⟨nv, k, .slice A m c, kh, st⟩ : Sg)])) := by rw [List.length_append]; exact o3
      have LO4 := Lib.hid (show VtK gv nv k (.slice A m c) w3 ∧ HhB gh kh w3 from ⟨LO0.out.1.below bw LO0.out.1.lt, Fill.below LO0.out.2 bw (Fill.lt LO0.out.2)⟩)
      have FINX := Lib.hid (And.intro o4 (And.intro bw r6))
      have LO5 := Lib.hid (show VtK gv nv k (.slice A m c) (w3.setCell ⟨g, 0, none⟩ (.slice A6 (V.length + 1) c6)) ∧ HhB gh kh (w3.setCell ⟨g, 0, none⟩ (.slice A6 (V.length + 1) c6)) from ⟨Fill.keep LO4.out.1 (setCell_off 0 (fun e => NG.out.1 e.symm)), Fill.keep LO4.out.2 (setCell_off 0 (fun e => NG.out.2 e.symm))⟩)
      clear o3 g3 b3 bw h6 h7 h8 r6 o4
      try go_simp
      try go_simp
      refine hK.out _ _ (LO4.out) (fun hHeld => ?_)
      clear hK K
      try simp only [Act.put, List.setIfInBounds_toArray, List.set_cons_zero, List.set_cons_succ]
      refine takeH (i := 12) (d := 31) (oi := _) (v := .pointer (some ⟨g, 0, none⟩)) rfl (by kernel_rfl) (by kernel_rfl) (by kernel_rfl) (by kernel_rfl) (fun _ _ _ h => h) (Or.inl ⟨by kernel_rfl, by intro u hSw; clear hSw; go_simp⟩) hHeld ?_
      try simp only [List.setIfInBounds_toArray, List.set_cons_zero, List.set_cons_succ]
      refine takeH (i := 13) (d := 32) (oi := _) (v := .pointer (some ⟨g, 0, none⟩)) rfl (by kernel_rfl) (by kernel_rfl) (by kernel_rfl) (by kernel_rfl) (fun _ _ _ h => h) (Or.inl ⟨by kernel_rfl, by intro u hSw; clear hSw; go_simp⟩) hHeld ?_
      try simp only [List.setIfInBounds_toArray, List.set_cons_zero, List.set_cons_succ]
      refine wpAnyH_ready (rs := [14]) (by kernel_rfl) (by simp) ?_
      refine AllReadyH.cons (o := _) rfl (fun K hK => ?_) (AllReadyH.nil)
      go_simp
      try go_simp
      refine hK.out _ _ (LO5.out) (fun hHeld => ?_)
      clear hK K
      try simp only [Act.put, List.setIfInBounds_toArray, List.set_cons_zero, List.set_cons_succ]
      refine wpAnyH_done (by kernel_rfl) ?_ _
      refine NoPanic.normal ?_
      exact hQ _ _ _ _ _ _ _ _ _ _ _ _ _ _ _ (rf_added HF0.out FINX.out.1 FINX.out.2.1 FINX.out.2.2)
    · refine step_buildSlice_row (w' := w2.alloc (.cells (sgv (⟨nv, k, .slice A m c, kh, st⟩ : Sg)) 42)) (by kernel_rfl) 22 1 #[(0, .tmp 28)] rfl (.slice (some ⟨w2.heap.size, 0, none⟩) 1 1) (by simp only [List.map_toArray, List.map_cons, List.map_nil]; exact one_sg (⟨nv, k, .slice A m c, kh, st⟩ : Sg) rfl w2) ?_
      obtain ⟨gn, hgn⟩ : ∃ g0, g0 = w2.heap.size := ⟨_, rfl⟩
      have ol := own_sg (⟨nv, k, .slice A m c, kh, st⟩ : Sg) w2
      have b2 : Below w2.heap.size w2 (w2.alloc (.cells (sgv (⟨nv, k, .slice A m c, kh, st⟩ : Sg)) 42)) := (Below.refl _ _).alloc (Nat.le_refl _) _
      rw [← hgn] at ol ⊢
      obtain ⟨w2, hw2⟩ : ∃ w3, w3 = w2.alloc (.cells (sgv (⟨nv, k, .slice A m c, kh, st⟩ : Sg)) 42) := ⟨_, rfl⟩
      rw [← hw2] at ol b2 ⊢
      try have SV := Lib.hid (ownKeep SV.out (fun k0 e => b2.block k0 (SV.out.lt k0 e).2))
      try have NW := Lib.hid (ownKeep NW.out (fun k0 e => b2.block k0 (NW.out.lt k0 e).2))
      have OL := Lib.hid ol
      have HF := Lib.hid (HF.out.below b2)
      have LO := Lib.hid (And.intro (LO.out.1.below b2 LO.out.1.lt) (Fill.below LO.out.2 b2 (Fill.lt LO.out.2)))
      have BX := Lib.hid (BX.out.trans (b2.mono BX.out.size))
      clear ol b2 hw2 hgn
      try go_simp
      refine hK.out _ _ (LO.out) (fun hHeld => ?_)
      clear hK K
      try simp only [Act.put, List.setIfInBounds_toArray, List.set_cons_zero, List.set_cons_succ]
      refine wpAnyH_ready (rs := [5]) (by kernel_rfl) (by simp) ?_
      refine AllReadyH.cons (o := _) rfl (fun K hK => ?_) (AllReadyH.nil)
      refine step_append_row (by kernel_rfl) (.const (.slice none 0 0)) (.tmp 23) 22 rfl w.heap.size 42 i0 _ 101 152 Try.underlying22 hi0 hz0 hz1 hz2 (by show (sgv sgZ).size = 101; exact rowV_size _ _) (by decide) (.slice none 0 0) 0 [] rfl ⟨rfl, .inl ⟨rfl, rfl⟩⟩ 0 _ V.length (rws sgC V) rfl SV.out HONE.out (by unfold maxLen; omega) (by omega) BX.out.size ?_
      intro v5 w3 o3 g3 b3
      obtain ⟨A5, c5, rfl, _, _, hA5⟩ := ownForm o3
      simp only [Nat.zero_add, List.nil_append] at o3
      have b2 : Below w2.heap.size w2 w3 := (Below.refl _ _).grown g3 (Nat.le_refl _) (fun k0 e => by cases e)
      have NW := Lib.hid o3
      try have OL := Lib.hid (ownKeep OL.out (fun k0 e => b2.block k0 (OL.out.lt k0 e).2))
      obtain ⟨w2, hw2⟩ : ∃ w4, w4 = w3 := ⟨_, rfl⟩
      rw [← hw2] at b2 NW ⊢
      try rw [← hw2] at OL
      have HF := Lib.hid (HF.out.below b2)
      have LO := Lib.hid (And.intro (LO.out.1.below b2 LO.out.1.lt) (Fill.below LO.out.2 b2 (Fill.lt LO.out.2)))
      have BX := Lib.hid (BX.out.trans (b2.mono BX.out.size))
      clear o3 g3 b3 hA5 b2 hw2
      try go_simp
      refine hK.out _ _ (LO.out) (fun hHeld => ?_)
      clear hK K
      try simp only [Act.put, List.setIfInBounds_toArray, List.set_cons_zero, List.set_cons_succ]
      refine wpAnyH_ready (rs := [11]) (by kernel_rfl) (by simp) ?_
      refine AllReadyH.cons (o := _) rfl (fun K hK => ?_) (AllReadyH.nil)
      refine step_append_row (by kernel_rfl) (.tmp 24) (.tmp 29) 22 rfl w.heap.size 42 i0 _ 101 152 Try.underlying22 hi0 hz0 hz1 hz2 (by show (sgv sgZ).size = 101; exact rowV_size _ _) (by decide) (.slice A5 V.length c5) V.length (rws sgC V) rfl NW.out 0 _ 1 (sgC (⟨nv, k, .slice A m c, kh, st⟩ : Sg)) rfl OL.out (sgC_one (⟨nv, k, .slice A m c, kh, st⟩ : Sg) rfl) (by unfold maxLen; omega) (by omega) BX.out.size ?_
      intro v6 w3 o3 g3 b3
      obtain ⟨A6, c6, rfl, _, _, _⟩ := ownForm o3
      rw [rws_more] at o3
      have bw : Below w.heap.size w w3 := BX.out.grown g3 BX.out.size (fun k0 e => (NW.out.lt k0 e).1)
      obtain ⟨vv6, h6, h7, h8⟩ := HF0.out.ex
      have r6 := (bw.block g (HF0.out.fin g HF0.out.at_)).trans h6
      have c3 : w3.cell? ⟨g, 0, none⟩ = some vv6 := cell_of_row w3 g 0 _ _ (0, 0) r6
      have f3 : w3.frozen? ⟨g, 0, none⟩ = false := by simp [World.frozen?, r6]
      have o4 : w3.ownsRow w.heap.size 42 101 (.slice A6 (V.length + 1) c6) (V ++ [(⟨nv, k, .slice A m c, kh, st⟩ : Sg)]).length (rws sgC (V ++ [(⟨nv, k, .slice A m c, kh, st⟩ : Sg)])) := by rw [List.length_append]; exact o3
      have LO4 := Lib.hid (show VtK gv nv k (.slice A m c) w3 ∧ HhB gh kh w3 from ⟨LO0.out.1.below bw LO0.out.1.lt, Fill.below LO0.out.2 bw (Fill.lt LO0.out.2)⟩)
      have FINX := Lib.hid (And.intro o4 (And.intro bw r6))
      have LO5 := Lib.hid (show VtK gv nv k (.slice A m c) (w3.setCell ⟨g, 0, none⟩ (.slice A6 (V.length + 1) c6)) ∧ HhB gh kh (w3.setCell ⟨g, 0, none⟩ (.slice A6 (V.length + 1) c6)) from ⟨Fill.keep LO4.out.1 (setCell_off 0 (fun e => NG.out.1 e.symm)), Fill.keep LO4.out.2 (setCell_off 0 (fun e => NG.out.2 e.symm))⟩)
      clear o3 g3 b3 bw h6 h7 h8 r6 o4
      try go_simp
      try go_simp
      refine hK.out _ _ (LO4.out) (fun hHeld => ?_)
      clear hK K
      try simp only [Act.put, List.setIfInBounds_toArray, List.set_cons_zero, List.set_cons_succ]
      refine takeH (i := 12) (d := 31) (oi := _) (v := .pointer (some ⟨g, 0, none⟩)) rfl (by kernel_rfl) (by kernel_rfl) (by kernel_rfl) (by kernel_rfl) (fun _ _ _ h => h) (Or.inl ⟨by kernel_rfl, by intro u hSw; clear hSw; go_simp⟩) hHeld ?_
      try simp only [List.setIfInBounds_toArray, List.set_cons_zero, List.set_cons_succ]
      refine takeH (i := 13) (d := 32) (oi := _) (v := .pointer (some ⟨g, 0, none⟩)) rfl (by kernel_rfl) (by kernel_rfl) (by kernel_rfl) (by kernel_rfl) (fun _ _ _ h => h) (Or.inl ⟨by kernel_rfl, by intro u hSw; clear hSw; go_simp⟩) hHeld ?_
      try simp only [List.setIfInBounds_toArray, List.set_cons_zero, List.set_cons_succ]
      refine wpAnyH_ready (rs := [14]) (by kernel_rfl) (by simp) ?_
      refine AllReadyH.cons (o := _) rfl (fun K hK => ?_) (AllReadyH.nil)
      go_simp
      try go_simp
      refine hK.out _ _ (LO5.out) (fun hHeld => ?_)
      clear hK K
      try simp only [Act.put, List.setIfInBounds_toArray, List.set_cons_zero, List.set_cons_succ]
      refine wpAnyH_done (by kernel_rfl) ?_ _
      refine NoPanic.normal ?_
      exact hQ _ _ _ _ _ _ _ _ _ _ _ _ _ _ _ (rf_added HF0.out FINX.out.1 FINX.out.2.1 FINX.out.2.2)
  · refine step_buildSlice_row (w' := w2.alloc (.cells (sgv (⟨nv, k, .slice A m c, kh, st⟩ : Sg)) 42)) (by kernel_rfl) 22 1 #[(0, .tmp 28)] rfl (.slice (some ⟨w2.heap.size, 0, none⟩) 1 1) (by simp only [List.map_toArray, List.map_cons, List.map_nil]; exact one_sg (⟨nv, k, .slice A m c, kh, st⟩ : Sg) rfl w2) ?_
    obtain ⟨gn, hgn⟩ : ∃ g0, g0 = w2.heap.size := ⟨_, rfl⟩
    have ol := own_sg (⟨nv, k, .slice A m c, kh, st⟩ : Sg) w2
    have b2 : Below w2.heap.size w2 (w2.alloc (.cells (sgv (⟨nv, k, .slice A m c, kh, st⟩ : Sg)) 42)) := (Below.refl _ _).alloc (Nat.le_refl _) _
    rw [← hgn] at ol ⊢
    obtain ⟨w2, hw2⟩ : ∃ w3, w3 = w2.alloc (.cells (sgv (⟨nv, k, .slice A m c, kh, st⟩ : Sg)) 42) := ⟨_, rfl⟩
    rw [← hw2] at ol b2 ⊢
    try have SV := Lib.hid (ownKeep SV.out (fun k0 e => b2.block k0 (SV.out.lt k0 e).2))
    try have NW := Lib.hid (ownKeep NW.out (fun k0 e => b2.block k0 (NW.out.lt k0 e).2))
    have OL := Lib.hid ol
    have HF := Lib.hid (HF.out.below b2)
    have LO := Lib.hid (And.intro (LO.out.1.below b2 LO.out.1.lt) (Fill.below LO.out.2 b2 (Fill.lt LO.out.2)))
    have BX := Lib.hid (BX.out.trans (b2.mono BX.out.size))
    clear ol b2 hw2 hgn
    try go_simp
    refine hK.out _ _ (LO.out) (fun hHeld => ?_)
    clear hK K
    try simp only [Act.put, List.setIfInBounds_toArray, List.set_cons_zero, List.set_cons_succ]
    refine wpAnyH_ready (rs := [4]) (by kernel_rfl) (by simp) ?_
    refine AllReadyH.cons (o := _) rfl (fun K hK => ?_) (AllReadyH.nil)
    obtain ⟨vv, g1, g2, g3⟩ := HF.out.ex
    obtain ⟨Av, cv, hv0, _⟩ := ownForm g2
    have c1 : w2.cell? ⟨g, 0, none⟩ = some (.slice Av V.length cv) := by rw [← hv0]; exact cell_of_row w2 g 0 _ _ (0, 0) g1
    have SV := Lib.hid (hv0 ▸ g2)
    go_simp
    clear c1 g1 g2 g3 hv0
    try go_simp
    refine hK.out _ _ (LO.out) (fun hHeld => ?_)
    clear hK K
    try simp only [Act.put, List.setIfInBounds_toArray, List.set_cons_zero, List.set_cons_succ]
    refine wpAnyH_ready (rs := [5]) (by kernel_rfl) (by simp) ?_
    refine AllReadyH.cons (o := _) rfl (fun K hK => ?_) (AllReadyH.nil)
    refine step_append_row (by kernel_rfl) (.const (.slice none 0 0)) (.tmp 23) 22 rfl w.heap.size 42 i0 _ 101 152 Try.underlying22 hi0 hz0 hz1 hz2 (by show (sgv sgZ).size = 101; exact rowV_size _ _) (by decide) (.slice none 0 0) 0 [] rfl ⟨rfl, .inl ⟨rfl, rfl⟩⟩ 0 _ V.length (rws sgC V) rfl SV.out HONE.out (by unfold maxLen; omega) (by omega) BX.out.size ?_
    intro v5 w3 o3 g3 b3
    obtain ⟨A5, c5, rfl, _, _, hA5⟩ := ownForm o3
    simp only [Nat.zero_add, List.nil_append] at o3
    have b2 : Below w2.heap.size w2 w3 := (Below.refl _ _).grown g3 (Nat.le_refl _) (fun k0 e => by cases e)
    have NW := Lib.hid o3
    try have OL := Lib.hid (ownKeep OL.out (fun k0 e => b2.block k0 (OL.out.lt k0 e).2))
    obtain ⟨w2, hw2⟩ : ∃ w4, w4 = w3 := ⟨_, rfl⟩
    rw [← hw2] at b2 NW ⊢
    try rw [← hw2] at OL
    have HF := Lib.hid (HF.out.below b2)
    have LO := Lib.hid (And.intro (LO.out.1.below b2 LO.out.1.lt) (Fill.below LO.out.2 b2 (Fill.lt LO.out.2)))
    have BX := Lib.hid (BX.out.trans (b2.mono BX.out.size))
    clear o3 g3 b3 hA5 b2 hw2
    try go_simp
    refine hK.out _ _ (LO.out) (fun hHeld => ?_)
    clear hK K
    try simp only [Act.put, List.setIfInBounds_toArray, List.set_cons_zero, List.set_cons_succ]
    refine wpAnyH_ready (rs := [11]) (by kernel_rfl) (by simp) ?_
    refine AllReadyH.cons (o := _) rfl (fun K hK => ?_) (AllReadyH.nil)
    refine step_append_row (by kernel_rfl) (.tmp 24) (.tmp 29) 22 rfl w.heap.size 42 i0 _ 101 152 Try.underlying22 hi0 hz0 hz1 hz2 (by show (sgv sgZ).size = 101; exact rowV_size _ _) (by decide) (.slice A5 V.length c5) V.length (rws sgC V) rfl NW.out 0 _ 1 (sgC (⟨nv, k, .slice A m c, kh, st⟩ : Sg)) rfl OL.out (sgC_one (⟨nv, k, .slice A m c, kh, st⟩ : Sg) rfl) (by unfold maxLen; omega) (by omega) BX.out.size ?_
    intro v6 w3 o3 g3 b3
    obtain ⟨A6, c6, rfl, _, _, _⟩ := ownForm o3
    rw [rws_more] at o3
    have bw : Below w.heap.size w w3 := BX.out.grown g3 BX.out.size (fun k0 e => (NW.out.lt k0 e).1)
    obtain ⟨vv6, h6, h7, h8⟩ := HF0.out.ex
    have r6 := (bw.block g (HF0.out.fin g HF0.out.at_)).trans h6
    have c3 : w3.cell? ⟨g, 0, none⟩ = some vv6 := cell_of_row w3 g 0 _ _ (0, 0) r6
    have f3 : w3.frozen? ⟨g, 0, none⟩ = false := by simp [World.frozen?, r6]
    have o4 : w3.ownsRow w.heap.size 42 101 (.slice A6 (V.length + 1) c6) (V ++ [(⟨nv, k, .slice A m c, kh, st⟩ : Sg)]).length (rws sgC (V ++ [(⟨nv, k, .slice A m c, kh, st⟩ : Sg)])) := by rw [List.length_append]; exact o3
    have LO4 := Lib.hid (show VtK gv nv k (.slice A m c) w3 ∧ HhB gh kh w3 from ⟨LO0.out.1.below bw LO0.out.1.lt, Fill.below LO0.out.2 bw (Fill.lt LO0.out.2)⟩)
    have FINX := Lib.hid (And.intro o4 (And.intro bw r6))
    have LO5 := Lib.hid (show VtK gv nv k (.slice A m c) (w3.setCell ⟨g, 0, none⟩ (.slice A6 (V.length + 1) c6)) ∧ HhB gh kh (w3.setCell ⟨g, 0, none⟩ (.slice A6 (V.length + 1) c6)) from ⟨Fill.keep LO4.out.1 (setCell_off 0 (fun e => NG.out.1 e.symm)), Fill.keep LO4.out.2 (setCell_off 0 (fun e => NG.out.2 e.symm))⟩)
    clear o3 g3 b3 bw h6 h7 h8 r6 o4
    try go_simp
    try go_simp
    refine hK.out _ _ (LO4.out) (fun hHeld => ?_)
    clear hK K
    try simp only [Act.put, List.setIfInBounds_toArray, List.set_cons_zero, List.set_cons_succ]
    refine takeH (i := 12) (d := 31) (oi := _) (v := .pointer (some ⟨g, 0, none⟩)) rfl (by kernel_rfl) (by kernel_rfl) (by kernel_rfl) (by kernel_rfl) (fun _ _ _ h => h) (Or.inl ⟨by kernel_rfl, by intro u hSw; clear hSw; go_simp⟩) hHeld ?_
    try simp only [List.setIfInBounds_toArray, List.set_cons_zero, List.set_cons_succ]
    refine takeH (i := 13) (d := 32) (oi := _) (v := .pointer (some ⟨g, 0, none⟩)) rfl (by kernel_rfl) (by kernel_rfl) (by kernel_rfl) (by kernel_rfl) (fun _ _ _ h => h) (Or.inl ⟨by kernel_rfl, by intro u hSw; clear hSw; go_simp⟩) hHeld ?_
    try simp only [List.setIfInBounds_toArray, List.set_cons_zero, List.set_cons_succ]
    refine wpAnyH_ready (rs := [14]) (by kernel_rfl) (by simp) ?_
    refine AllReadyH.cons (o := _) rfl (fun K hK => ?_) (AllReadyH.nil)
    go_simp
    try go_simp
    refine hK.out _ _ (LO5.out) (fun hHeld => ?_)
    clear hK K
    try simp only [Act.put, List.setIfInBounds_toArray, List.set_cons_zero, List.set_cons_succ]
    refine wpAnyH_done (by kernel_rfl) ?_ _
    refine NoPanic.normal ?_
    exact hQ _ _ _ _ _ _ _ _ _ _ _ _ _ _ _ (rf_added HF0.out FINX.out.1 FINX.out.2.1 FINX.out.2.2)
end Go.Proofs.Ytomfgopmgfoecaa
