/- A gadget is copied: one list of those who wait. -/
import Derived.Test.YthlbpjkopkicbaaFgCpR
namespace Go.Proofs.Ythlbpjkopkicbaa
open Go.ChangeMaps Go.MapKept Go.Maps Go.WideElems Go.RowKit Go.ChangeShapes Go.WideShapes Go.ChangeAt
set_option linter.unusedVariables false
set_option maxRecDepth 100000

noncomputable def cp_r5C : Code := ((Try.f39.body.bind (regionOf 5))).getD .skip
set_option maxRecDepth 1000000 in
set_option maxHeartbeats 8000000 in
theorem cp_r5 (c0 c1 c2 c6 c7 c8 c9 c10 c11 c12 c13 c14 c15 c16 c17 c18 c19 c20 c21 c22 c23 c24 c25 c26 c27 c28 c29 c30 c31 c32 c33 c34 c35 c36 c37 c38 c39 c40 c41 : Value) (w : World) (sN m1 m2 m3 n nv b0 it gx cc : Nat) (vN : Value) (hd : Pt → Option Value) (S : FgS) (x : Pt) (L : List Lk) (A : Option Addr) (hb : FgB sN m1 m2 m3 vN hd (fun k => b0 ≤ k ∧ k < w.heap.size ∧ k ≠ it) S n w) (hw : MapF 29 klP w m3 nv hd) (hx : PkB gx x w) (hv : w.ownsRow 0 36 66 (.slice A L.length cc) L.length (lks L)) (hL : L.length ≤ 1000000) (hb0 : b0 ≤ w.heap.size) (hn : n ≤ 1000000000) (hnv : nv ≤ 1000000000) (hit : it < w.heap.size)
    (Q : Exit → Act → World → Prop) (hQ : ∀ (u34 u35 u36 u37 u38 u39 u40 : Value) (w' : World), (∃ v', FgB sN m1 m2 m3 vN (setF hd x (some v')) (fun k => b0 ≤ k ∧ k < w'.heap.size ∧ k ≠ it) { S with waiting := fun q => if q = x then some L else S.waiting q } (n + 1) w' ∧ MapF 29 klP w' m3 (nv + 1) (setF hd x (some v')) ∧ w.grownBy w' (some m3)) → Q .normal ⟨#[c0, c1, c2, .pointer (some ⟨sN, 0, none⟩), .pointer (some ⟨gx, 0, none⟩), .slice A L.length cc, c6, c7, c8, c9, c10, c11, c12, c13, c14, c15, c16, c17, c18, c19, c20, c21, c22, c23, c24, c25, c26, c27, c28, c29, c30, c31, c32, c33, u34, u35, u36, u37, u38, u39, u40, c41], []⟩ w') :
    Code.wp Try.prog cp_r5C Q ⟨#[c0, c1, c2, .pointer (some ⟨sN, 0, none⟩), .pointer (some ⟨gx, 0, none⟩), .slice A L.length cc, c6, c7, c8, c9, c10, c11, c12, c13, c14, c15, c16, c17, c18, c19, c20, c21, c22, c23, c24, c25, c26, c27, c28, c29, c30, c31, c32, c33, c34, c35, c36, c37, c38, c39, c40, c41], []⟩ w := by
  conv => arg 2; whnf
  try dsimp only at hQ ⊢
  obtain ⟨V, hV⟩ : ∃ V, V = w.drew := ⟨_, rfl⟩
  have hszV : V.heap.size = w.heap.size := by rw [hV]; rfl
  have hb : FgB sN m1 m2 m3 vN hd (fun k => b0 ≤ k ∧ k < w.heap.size ∧ k ≠ it) S n V := by rw [hV]; exact hb.below ((Below.refl _ _).drew)
  have hx : PkB gx x V := by rw [hV]; exact (show PkB gx x w.drew from hx)
  have hw : MapF 29 klP V m3 nv hd := by rw [hV]; exact hw.keep rfl
  have hv : V.ownsRow 0 36 66 (.slice A L.length cc) L.length (lks L) := by rw [hV]; exact ownKeep hv (fun g hg => rfl)
  have hgrow : w.grownBy V none := by rw [hV]; exact ⟨rfl, rfl, rfl, Nat.le_refl _, fun k hk _ => rfl⟩
  refine wp_region_noPanic ?_
  refine wp_region_held_drew (S := (fun u => u.heap[sN]? = some (.cells #[vN, .map (some m1), .map (some m2), .map (some m3)] 73 (0, 0)) ∧ PkB gx x u)) (by kernel_rfl) (by rw [← hV]; exact ⟨hb.cells, hx⟩) (fun hHeld => ?_)
  rw [← hV] at hHeld ⊢
  rw [← hszV] at hb hb0 hit
  have HGW := Lib.hid hgrow
  have HSZ := Lib.hid hszV
  clear hV hgrow hszV
  refine takeH (i := 0) (d := 34) (oi := _) (v := .pointer (some ⟨sN, 0, none⟩)) rfl (by kernel_rfl) (by kernel_rfl) (by kernel_rfl) (by kernel_rfl) (fun _ _ _ h => h) (Or.inl ⟨by kernel_rfl, by intro u hSw; clear hSw; go_simp⟩) hHeld ?_
  try simp only [List.setIfInBounds_toArray, List.set_cons_zero, List.set_cons_succ]
  refine takeH (i := 1) (d := 35) (oi := _) (v := .pointer (some ⟨sN, 0, none⟩)) rfl (by kernel_rfl) (by kernel_rfl) (by kernel_rfl) (by kernel_rfl) (fun _ _ _ h => h) (Or.inl ⟨by kernel_rfl, by intro u hSw; clear hSw; go_simp⟩) hHeld ?_
  try simp only [List.setIfInBounds_toArray, List.set_cons_zero, List.set_cons_succ]
  refine takeH (i := 2) (d := 36) (oi := _) (v := .pointer (some ⟨sN, 3, none⟩)) rfl (by kernel_rfl) (by kernel_rfl) (by kernel_rfl) (by kernel_rfl) (fun _ _ _ h => h) (Or.inl ⟨by kernel_rfl, by intro u hSw; clear hSw; go_simp⟩) hHeld ?_
  try simp only [List.setIfInBounds_toArray, List.set_cons_zero, List.set_cons_succ]
  refine takeH (i := 3) (d := 37) (oi := _) (v := .map (some m3)) rfl (by kernel_rfl) (by kernel_rfl) (by kernel_rfl) (by kernel_rfl) (fun _ _ _ h => h) (Or.inl ⟨by kernel_rfl, by intro u hSw; (have hc : u.cell? ⟨sN, 3, none⟩ = some (.map (some m3)) := cell_of_row u sN 3 _ _ (0, 0) hSw.1; clear hSw; go_simp)⟩) hHeld ?_
  try simp only [List.setIfInBounds_toArray, List.set_cons_zero, List.set_cons_succ]
  refine takeH (i := 4) (d := 38) (oi := _) (v := .agg (pv x)) rfl (by kernel_rfl) (by kernel_rfl) (by kernel_rfl) (by kernel_rfl) (fun _ _ _ h => h) (yieldsIf_load_midC (by kernel_rfl) _ _ rfl (gx) 0 rfl (pC x) (pv x) (pC_arr x) _ (fun u hSw => hSw.2.all) Try.underlying29 rfl (size_pv x)) hHeld ?_
  try simp only [List.setIfInBounds_toArray, List.set_cons_zero, List.set_cons_succ]
  refine takeH (i := 5) (d := 39) (oi := _) (v := .slice A L.length cc) rfl (by kernel_rfl) (by kernel_rfl) (by kernel_rfl) (by kernel_rfl) (fun _ _ _ h => h) (Or.inl ⟨by kernel_rfl, by intro u hSw; clear hSw; go_simp⟩) hHeld ?_
  try simp only [List.setIfInBounds_toArray, List.set_cons_zero, List.set_cons_succ]
  refine wpAnyH_ready (rs := [6]) (by kernel_rfl) (by simp) ?_
  refine AllReadyH.cons (o := _) rfl (fun K hK => ?_) (AllReadyH.nil)
  go_simp
  go_at_call 38
  refine (cloneL_c _ 0 A cc L hv hL).mono ?_
  rintro e w2 ⟨A', c', rfl, o1, b2⟩
  have q1 := hb.below b2
  have q2 : FgB sN m1 m2 m3 vN hd (fun k => b0 ≤ k ∧ k < w2.heap.size ∧ k ≠ it) S n w2 := q1.wider (fun k hk => ⟨hk.1, Nat.lt_of_lt_of_le hk.2.1 b2.size, hk.2.2⟩) (fun k hk => hk.2.1)
  have q3 : MapF 29 klP w2 m3 nv hd := hw.keep (b2.block _ hw.lt)
  obtain ⟨w3, hr, hm3, ht3⟩ := q2.waits.put keyP Try.underlying71 (by unfold maxLen; omega) x (.slice A' L.length c')
  obtain ⟨w3', hr', hm3', _⟩ := q3.put keyP Try.underlying71 (by unfold maxLen; omega) x (.slice A' L.length c')
  obtain rfl : w3 = w3' := by rw [hr] at hr'; injection hr'
  have rowB : ∀ k, (Value.slice A' L.length c').ownBlock = some k → V.heap.size ≤ k ∧ k < w2.heap.size := fun k hk => o1.lt k hk
  have FIN := Lib.hid (q2.turnWaits ht3 x (o := some (.slice A' L.length c')) (L := some L) (n' := n + 1) (F' := fun k => b0 ≤ k ∧ k < w2.heap.size ∧ k ≠ it) (Nat.le_succ n) hm3 (fun k hk => hk) (fun k hk => hk.2.1)
    ⟨_, rfl, ownLess o1 (Nat.zero_le _), fun k hk => ⟨Nat.le_trans hb0 (rowB k hk).1, (rowB k hk).2, by have := (rowB k hk).1; omega⟩⟩
    (fun q v v' k _ h1 h2 h3 h4 => by injection h2 with h2; subst h2; have := (hb.hdF h1 h3).2.1; have := (rowB k h4).1; omega)
    (fun v k h1 h2 h3 => by injection h1 with h1; subst h1; have := (hb.foot.2.2.2.2 k h3).2.1; have := (rowB k h2).1; omega))
  have WN := Lib.hid hm3'
  obtain ⟨z1, z2, _⟩ := turned_block ht3
  have z3 := ht3
  obtain ⟨es, clock, es', clock', y1, y2⟩ := z3
  have GR : Hid (V.grownBy w3 (some m3)) := ⟨by rw [y2]; exact b2.os, by rw [y2]; exact b2.tape, by rw [y2]; exact b2.output, by rw [z2]; exact b2.size, fun k hk hne => (z1 k (fun e => hne (by rw [e]))).trans (b2.block k hk)⟩
  have KX : Hid (w3.heap[sN]? = some (.cells #[vN, .map (some m1), .map (some m2), .map (some m3)] 73 (0, 0)) ∧ PkB gx x w3) := ⟨FIN.out.cells, (hx.below b2 hx.lt).keep (z1 gx (cells_ne (hx.below b2 hx.lt).row ⟨es, clock, y1⟩))⟩
  have Z2 := Lib.hid z2
  have K2 : Hid (w2.heap[sN]? = some (.cells #[vN, .map (some m1), .map (some m2), .map (some m3)] 73 (0, 0)) ∧ PkB gx x w2) := ⟨q2.cells, hx.below b2 hx.lt⟩
  clear q1 q2 q3 hm3 ht3 hr' hm3' rowB z1 z2 y1 y2 o1 b2
  go_simp
  refine hK.out _ _ (K2.out) (fun hHeld => ?_)
  clear hK K
  try simp only [Act.put, List.setIfInBounds_toArray, List.set_cons_zero, List.set_cons_succ]
  refine wpAnyH_ready (rs := [7]) (by kernel_rfl) (by simp) ?_
  refine AllReadyH.cons (o := _) rfl (fun K hK => ?_) (AllReadyH.nil)
  go_simp
  go_simp
  refine hK.out _ _ (KX.out) (fun hHeld => ?_)
  clear hK K
  try simp only [Act.put, List.setIfInBounds_toArray, List.set_cons_zero, List.set_cons_succ]
  refine wpAnyH_done (by kernel_rfl) ?_ _
  refine NoPanic.normal ?_
  refine hQ _ _ _ _ _ _ _ _ ⟨.slice A' L.length c', ?_, WN.out, ⟨GR.out.os.trans HGW.out.os, GR.out.tape.trans HGW.out.tape, GR.out.output.trans HGW.out.output, Nat.le_trans HGW.out.size GR.out.size, fun k hk hne => (GR.out.block k (Nat.lt_of_lt_of_le hk HGW.out.size) hne).trans (HGW.out.block k hk (fun e => by cases e))⟩⟩
  have e := FIN.out
  rw [← Z2.out] at e
  exact e
end Go.Proofs.Ythlbpjkopkicbaa
