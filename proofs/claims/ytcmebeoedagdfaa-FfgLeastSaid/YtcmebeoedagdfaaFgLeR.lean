/- FfgLeast: what stands behind its links; one link looked at. -/
import Derived.Test.YtcmebeoedagdfaaFgSorted
import Derived.Test.YtcmebeoedagdfaaEqStep
namespace Go.Proofs.Ytcmebeoedagdfaa
open Go.ChangeMaps Go.MapKept Go.Maps Go.WideElems Go.RowKit Go.ChangeShapes Go.WideShapes Go.ChangeAt
set_option linter.unusedVariables false
set_option maxRecDepth 100000

/-- The gadget, the anchor's box, the links, as they stand at a world and behind it. -/
structure LeT (a : Pt) (g gx gl : Nat) (F : Nat → Prop) (S : FgS) (w : World) : Prop where
  gad : GadG a g F S w
  pk : PkB gx a w
  len : S.told.length ≤ 59
  lks : ∀ k x, S.told[k]? = some x → gl < w.heap.size ∧ w.rangeAt gl (k * 66) (lC x)
theorem rangeB {u u' : World} {g o : Nat} {L : List Value} (hb : Below u.heap.size u u') (hg : g < u.heap.size) (h : u.rangeAt g o L) : u'.rangeAt g o L := fun j v hv => (hb.cell (p := ⟨g, o + j, none⟩) hg).trans (h j v hv)
theorem LeT.below {a : Pt} {g gx gl : Nat} {F : Nat → Prop} {S : FgS} {w u : World} (h : LeT a g gx gl F S w) (hb : Below w.heap.size w u) : LeT a g gx gl F S u where
  gad := h.gad.below hb
  pk := h.pk.below hb h.pk.lt
  len := h.len
  lks k x hk := ⟨Nat.lt_of_lt_of_le (h.lks k x hk).1 hb.size, rangeB hb (h.lks k x hk).1 (h.lks k x hk).2⟩
theorem rangeSrc {w : World} {g o : Nat} {x : Lk} (h : w.rangeAt g o (lC x)) : w.rangeAt g o (pC x.s) := fun j v hv => by
  have hj : j < 33 := by rw [← pC_len x.s]; exact (List.getElem?_eq_some_iff.1 hv).1
  refine h j v ?_
  rw [← lC_src x, List.drop_zero, List.getElem?_take, if_pos hj] at hv
  exact hv
theorem rangeTgt {w : World} {g o : Nat} {x : Lk} (h : w.rangeAt g o (lC x)) : w.rangeAt g (o + 33) (pC x.t) := fun j v hv => by
  have hj : j < 33 := by rw [← pC_len x.t]; exact (List.getElem?_eq_some_iff.1 hv).1
  rw [Nat.add_assoc]
  refine h (33 + j) v ?_
  rw [← lC_tgt x, List.getElem?_take, if_pos hj, List.getElem?_drop] at hv
  exact hv
/-- How many links lead no later. -/
def cntL (L : List Lk) (e : Nat) : Nat := (L.filter fun y => decide (y.t.e ≤ e)).length
theorem cntL_le (L : List Lk) (e : Nat) : cntL L e ≤ L.length := List.length_filter_le _ _
theorem cntL_mono : ∀ (L : List Lk) {d e : Nat}, d ≤ e → cntL L d ≤ cntL L e
  | [], _, _, _ => Nat.le_refl _
  | y :: r, d, e, h => by
    have ih := cntL_mono r h
    unfold cntL at *
    rw [List.filter_cons, List.filter_cons]
    by_cases h1 : y.t.e ≤ d
    · rw [if_pos (decide_eq_true h1), if_pos (decide_eq_true (Nat.le_trans h1 h))]
      simpa using ih
    · rw [if_neg (by rw [decide_eq_true_eq]; exact h1)]
      split
      · simp; omega
      · exact ih
theorem cntL_step : ∀ (L : List Lk) {y : Lk} {d : Nat}, y ∈ L → d < y.t.e → cntL L d + 1 ≤ cntL L y.t.e
  | [], _, _, h, _ => by cases h
  | z :: r, y, d, h, hd => by
    rcases List.mem_cons.1 h with rfl | h
    · have ih := cntL_mono r (Nat.le_of_lt hd)
      unfold cntL at *
      rw [List.filter_cons, List.filter_cons, if_neg (by rw [decide_eq_true_eq]; omega), if_pos (decide_eq_true (Nat.le_refl _))]
      simpa using ih
    · have ih := cntL_step r h hd
      unfold cntL at *
      rw [List.filter_cons, List.filter_cons]
      by_cases h1 : z.t.e ≤ d
      · rw [if_pos (decide_eq_true h1), if_pos (decide_eq_true (by omega))]
        simpa using ih
      · rw [if_neg (by rw [decide_eq_true_eq]; exact h1)]
        split
        · simp; omega
        · exact ih
noncomputable def le_r30fC : Code := ((Try.f7.body.bind (regionOf 30))).getD .skip
set_option maxRecDepth 1000000 in
set_option maxHeartbeats 8000000 in
theorem le_r30f (c0 c1 c2 c3 c4 c6 c7 c9 c10 c11 c13 c14 c16 c17 c18 c19 c20 c21 c22 c23 c24 c25 c26 c27 c28 c29 c30 c31 c32 c33 c34 c35 c36 c37 c38 c39 c40 c41 c42 c43 c44 c45 c46 c47 c48 c49 c50 c51 c52 c53 c54 c55 c56 c57 c58 c59 c60 c61 c62 c63 c64 c65 c66 c67 c68 c69 c70 c71 c72 c73 c74 c75 c76 c77 c78 c79 c80 c81 c82 c83 c84 c85 c86 c87 c88 c89 c90 c91 c92 c93 c94 c95 c96 c97 c98 c99 c100 c101 c102 c103 c104 c105 c106 c107 c108 c109 c110 c111 c112 c113 c114 c115 c116 c117 c118 c119 c120 c121 c122 c123 c124 c125 c126 c127 c128 c129 c130 c131 c132 c133 c134 c135 c136 c137 c138 c139 c140 c141 c142 c143 c144 c145 c146 c147 c148 c149 c150 c151 c152 c153 : Value) (w : World) (a : Pt) (g gl c8 nL ga k : Nat) (F : Nat → Prop) (S : FgS) (p : Pt) (y : Lk) (hk : k < nL) (hnL : nL ≤ 60) (hgl : gl < w.heap.size) (hy : w.rangeAt gl (k * 66) (lC y)) (hp : PkB ga p w) (hG : GadG a g F S w) (hs : ¬ y.t = p)
    (Q : Exit → Act → World → Prop) (hQ : ∀ (u109 u110 u111 u112 u113 u114 u115 u116 u117 u118 u119 u120 u121 u122 u123 : Value) (w' : World), Below w.heap.size w w' → Q .normal ⟨#[c0, c1, c2, c3, c4, .pointer (some ⟨g, 0, none⟩), c6, c7, .slice (some ⟨gl, 0, none⟩) nL c8, c9, c10, c11, .pointer (some ⟨ga, 0, none⟩), c13, c14, .int .i64 (k : Int), c16, c17, c18, c19, c20, c21, c22, c23, c24, c25, c26, c27, c28, c29, c30, c31, c32, c33, c34, c35, c36, c37, c38, c39, c40, c41, c42, c43, c44, c45, c46, c47, c48, c49, c50, c51, c52, c53, c54, c55, c56, c57, c58, c59, c60, c61, c62, c63, c64, c65, c66, c67, c68, c69, c70, c71, c72, c73, c74, c75, c76, c77, c78, c79, c80, c81, c82, c83, c84, c85, c86, c87, c88, c89, c90, c91, c92, c93, c94, c95, c96, c97, c98, c99, c100, c101, c102, c103, c104, c105, c106, c107, c108, u109, u110, u111, u112, u113, u114, u115, u116, u117, u118, u119, u120, u121, u122, u123, .bool false, c125, c126, c127, c128, c129, c130, c131, c132, c133, c134, c135, c136, c137, c138, c139, c140, c141, c142, c143, c144, c145, c146, c147, c148, c149, c150, c151, c152, c153], []⟩ w') :
    Code.wp Try.prog le_r30fC Q ⟨#[c0, c1, c2, c3, c4, .pointer (some ⟨g, 0, none⟩), c6, c7, .slice (some ⟨gl, 0, none⟩) nL c8, c9, c10, c11, .pointer (some ⟨ga, 0, none⟩), c13, c14, .int .i64 (k : Int), c16, c17, c18, c19, c20, c21, c22, c23, c24, c25, c26, c27, c28, c29, c30, c31, c32, c33, c34, c35, c36, c37, c38, c39, c40, c41, c42, c43, c44, c45, c46, c47, c48, c49, c50, c51, c52, c53, c54, c55, c56, c57, c58, c59, c60, c61, c62, c63, c64, c65, c66, c67, c68, c69, c70, c71, c72, c73, c74, c75, c76, c77, c78, c79, c80, c81, c82, c83, c84, c85, c86, c87, c88, c89, c90, c91, c92, c93, c94, c95, c96, c97, c98, c99, c100, c101, c102, c103, c104, c105, c106, c107, c108, c109, c110, c111, c112, c113, c114, c115, c116, c117, c118, c119, c120, c121, c122, c123, c124, c125, c126, c127, c128, c129, c130, c131, c132, c133, c134, c135, c136, c137, c138, c139, c140, c141, c142, c143, c144, c145, c146, c147, c148, c149, c150, c151, c152, c153], []⟩ w := by
  conv => arg 2; whnf
  try dsimp only at hQ ⊢
  have KP : Hid (∀ u : World, Below w.heap.size w.drew u → u.rangeAt gl (k * 66) (lC y) ∧ PkB ga p u) := fun u hu => ⟨rangeB (u := w.drew) hu hgl hy, (show PkB ga p w.drew from hp).below hu hp.lt⟩
  have KM : Hid (∀ u : World, Below w.heap.size w.drew u → FgM g (fun k => F k ∨ k = g) S (nS S.told.length) u) := fun u hu => ((show GadG a g F S w.drew from hG.below ((Below.refl _ _).drew)).below hu).mem.toM
  have BX : Hid (Below w.heap.size w.drew w.drew) := Below.refl _ _
  have q1 : (k : Int) < (nL : Int) := by omega
  have C1 := Lib.hid (show (.bool false : Value) = .bool (decide (y.t = p)) by rw [decide_eq_false hs])
  clear hy hp hG hs
  refine wp_region_noPanic ?_
  refine wp_region_held_drew (S := (fun u => u.rangeAt gl (k * 66) (lC y) ∧ PkB ga p u)) (by kernel_rfl) (KP.out _ BX.out) (fun hHeld => ?_)
  refine takeH (i := 0) (d := 109) (oi := _) (v := .slice (some ⟨gl, 0, none⟩) nL c8) rfl (by kernel_rfl) (by kernel_rfl) (by kernel_rfl) (by kernel_rfl) (fun _ _ _ h => h) (Or.inl ⟨by kernel_rfl, by intro u hSw; clear hSw; go_simp⟩) hHeld ?_
  try simp only [List.setIfInBounds_toArray, List.set_cons_zero, List.set_cons_succ]
  refine takeH (i := 1) (d := 110) (oi := _) (v := .int .i64 (k : Int)) rfl (by kernel_rfl) (by kernel_rfl) (by kernel_rfl) (by kernel_rfl) (fun _ _ _ h => h) (Or.inl ⟨by kernel_rfl, by intro u hSw; clear hSw; go_simp⟩) hHeld ?_
  try simp only [List.setIfInBounds_toArray, List.set_cons_zero, List.set_cons_succ]
  refine takeH (i := 2) (d := 111) (oi := _) (v := .pointer (some ⟨gl, (k * 66), none⟩)) rfl (by kernel_rfl) (by kernel_rfl) (by kernel_rfl) (by kernel_rfl) (fun _ _ _ h => h) (Or.inl ⟨by kernel_rfl, by intro u hSw; clear hSw; go_simp⟩) hHeld ?_
  try simp only [List.setIfInBounds_toArray, List.set_cons_zero, List.set_cons_succ]
  refine takeH (i := 3) (d := 112) (oi := _) (v := .pointer (some ⟨gl, (k * 66 + 33), none⟩)) rfl (by kernel_rfl) (by kernel_rfl) (by kernel_rfl) (by kernel_rfl) (fun _ _ _ h => h) (Or.inl ⟨by kernel_rfl, by intro u hSw; clear hSw; go_simp⟩) hHeld ?_
  try simp only [List.setIfInBounds_toArray, List.set_cons_zero, List.set_cons_succ]
  refine takeH (i := 4) (d := 113) (oi := _) (v := .agg (pv y.t)) rfl (by kernel_rfl) (by kernel_rfl) (by kernel_rfl) (by kernel_rfl) (fun _ _ _ h => h) (yieldsIf_load_midC (by kernel_rfl) _ _ rfl (gl) (k * 66 + 33) rfl (pC y.t) (pv y.t) (pC_arr y.t) _ (fun u hSw => (rangeTgt hSw.1)) Try.underlying29 rfl (size_pv y.t)) hHeld ?_
  try simp only [List.setIfInBounds_toArray, List.set_cons_zero, List.set_cons_succ]
  refine takeH (i := 5) (d := 114) (oi := _) (v := .agg (pv p)) rfl (by kernel_rfl) (by kernel_rfl) (by kernel_rfl) (by kernel_rfl) (fun _ _ _ h => h) (yieldsIf_load_midC (by kernel_rfl) _ _ rfl (ga) 0 rfl (pC p) (pv p) (pC_arr p) _ (fun u hSw => hSw.2.all) Try.underlying29 rfl (size_pv p)) hHeld ?_
  try simp only [List.setIfInBounds_toArray, List.set_cons_zero, List.set_cons_succ]
  refine takeH (i := 6) (d := 115) (oi := _) (v := .bool false) rfl (by kernel_rfl) (by kernel_rfl) (by kernel_rfl) (by kernel_rfl) (fun _ _ _ h => h) (C1.out.symm ▸ yieldsIf_eql (by kernel_rfl) 29 29 (.tmp 113) (.tmp 114) rfl (pv y.t) (pv p) rfl rfl guard_point _ (eq_point9 y.t p)) hHeld ?_
  try simp only [List.setIfInBounds_toArray, List.set_cons_zero, List.set_cons_succ]
  refine takeH (i := 7) (d := 116) (oi := _) (v := .bool false) rfl (by kernel_rfl) (by kernel_rfl) (by kernel_rfl) (by kernel_rfl) (fun _ _ _ h => h) (Or.inl ⟨by kernel_rfl, by intro u hSw; clear hSw; go_simp⟩) hHeld ?_
  try simp only [List.setIfInBounds_toArray, List.set_cons_zero, List.set_cons_succ]
  refine takeH (i := 8) (d := 117) (oi := _) (v := undef) rfl (by kernel_rfl) (by kernel_rfl) (by kernel_rfl) (by kernel_rfl) (fun _ _ _ h => h) (Or.inr ⟨by kernel_rfl, rfl⟩) hHeld ?_
  try simp only [List.setIfInBounds_toArray, List.set_cons_zero, List.set_cons_succ]
  refine takeH (i := 9) (d := 118) (oi := _) (v := undef) rfl (by kernel_rfl) (by kernel_rfl) (by kernel_rfl) (by kernel_rfl) (fun _ _ _ h => h) (Or.inr ⟨by kernel_rfl, rfl⟩) hHeld ?_
  try simp only [List.setIfInBounds_toArray, List.set_cons_zero, List.set_cons_succ]
  refine takeH (i := 10) (d := 119) (oi := _) (v := undef) rfl (by kernel_rfl) (by kernel_rfl) (by kernel_rfl) (by kernel_rfl) (fun _ _ _ h => h) (Or.inr ⟨by kernel_rfl, rfl⟩) hHeld ?_
  try simp only [List.setIfInBounds_toArray, List.set_cons_zero, List.set_cons_succ]
  refine takeH (i := 11) (d := 120) (oi := _) (v := undef) rfl (by kernel_rfl) (by kernel_rfl) (by kernel_rfl) (by kernel_rfl) (fun _ _ _ h => h) (Or.inr ⟨by kernel_rfl, rfl⟩) hHeld ?_
  try simp only [List.setIfInBounds_toArray, List.set_cons_zero, List.set_cons_succ]
  refine takeH (i := 12) (d := 121) (oi := _) (v := undef) rfl (by kernel_rfl) (by kernel_rfl) (by kernel_rfl) (by kernel_rfl) (fun _ _ _ h => h) (Or.inr ⟨by kernel_rfl, rfl⟩) hHeld ?_
  try simp only [List.setIfInBounds_toArray, List.set_cons_zero, List.set_cons_succ]
  refine takeH (i := 13) (d := 122) (oi := _) (v := undef) rfl (by kernel_rfl) (by kernel_rfl) (by kernel_rfl) (by kernel_rfl) (fun _ _ _ h => h) (Or.inr ⟨by kernel_rfl, rfl⟩) hHeld ?_
  try simp only [List.setIfInBounds_toArray, List.set_cons_zero, List.set_cons_succ]
  refine takeH (i := 14) (d := 123) (oi := _) (v := undef) rfl (by kernel_rfl) (by kernel_rfl) (by kernel_rfl) (by kernel_rfl) (fun _ _ _ h => h) (Or.inr ⟨by kernel_rfl, rfl⟩) hHeld ?_
  try simp only [List.setIfInBounds_toArray, List.set_cons_zero, List.set_cons_succ]
  refine takeH (i := 15) (d := 124) (oi := _) (v := .bool false) rfl (by kernel_rfl) (by kernel_rfl) (by kernel_rfl) (by kernel_rfl) (fun _ _ _ h => h) (Or.inl ⟨by kernel_rfl, by intro u hSw; clear hSw; go_simp⟩) hHeld ?_
  try simp only [List.setIfInBounds_toArray, List.set_cons_zero, List.set_cons_succ]
  refine wpAnyH_done (by kernel_rfl) ?_ _
  refine NoPanic.normal ?_
  exact hQ _ _ _ _ _ _ _ _ _ _ _ _ _ _ _ _ ((Below.refl w.heap.size w).drew.trans BX.out)
noncomputable def le_r30tC : Code := ((Try.f7.body.bind (regionOf 30))).getD .skip
set_option maxRecDepth 1000000 in
set_option maxHeartbeats 8000000 in
theorem le_r30t (c0 c1 c2 c3 c4 c6 c7 c9 c10 c11 c13 c14 c16 c17 c18 c19 c20 c21 c22 c23 c24 c25 c26 c27 c28 c29 c30 c31 c32 c33 c34 c35 c36 c37 c38 c39 c40 c41 c42 c43 c44 c45 c46 c47 c48 c49 c50 c51 c52 c53 c54 c55 c56 c57 c58 c59 c60 c61 c62 c63 c64 c65 c66 c67 c68 c69 c70 c71 c72 c73 c74 c75 c76 c77 c78 c79 c80 c81 c82 c83 c84 c85 c86 c87 c88 c89 c90 c91 c92 c93 c94 c95 c96 c97 c98 c99 c100 c101 c102 c103 c104 c105 c106 c107 c108 c109 c110 c111 c112 c113 c114 c115 c116 c117 c118 c119 c120 c121 c122 c123 c124 c125 c126 c127 c128 c129 c130 c131 c132 c133 c134 c135 c136 c137 c138 c139 c140 c141 c142 c143 c144 c145 c146 c147 c148 c149 c150 c151 c152 c153 : Value) (w : World) (a : Pt) (g gl c8 nL ga k : Nat) (F : Nat → Prop) (S : FgS) (p : Pt) (y : Lk) (hk : k < nL) (hnL : nL ≤ 60) (hgl : gl < w.heap.size) (hy : w.rangeAt gl (k * 66) (lC y)) (hp : PkB ga p w) (hG : GadG a g F S w) (hs : y.t = p)
    (Q : Exit → Act → World → Prop) (hQ : ∀ (u109 u110 u111 u112 u113 u114 u115 u116 u117 u118 u119 u120 u121 u122 u123 : Value) (w' : World), Below w.heap.size w w' → Q .normal ⟨#[c0, c1, c2, c3, c4, .pointer (some ⟨g, 0, none⟩), c6, c7, .slice (some ⟨gl, 0, none⟩) nL c8, c9, c10, c11, .pointer (some ⟨ga, 0, none⟩), c13, c14, .int .i64 (k : Int), c16, c17, c18, c19, c20, c21, c22, c23, c24, c25, c26, c27, c28, c29, c30, c31, c32, c33, c34, c35, c36, c37, c38, c39, c40, c41, c42, c43, c44, c45, c46, c47, c48, c49, c50, c51, c52, c53, c54, c55, c56, c57, c58, c59, c60, c61, c62, c63, c64, c65, c66, c67, c68, c69, c70, c71, c72, c73, c74, c75, c76, c77, c78, c79, c80, c81, c82, c83, c84, c85, c86, c87, c88, c89, c90, c91, c92, c93, c94, c95, c96, c97, c98, c99, c100, c101, c102, c103, c104, c105, c106, c107, c108, u109, u110, u111, u112, u113, u114, u115, u116, u117, u118, u119, u120, u121, u122, u123, .bool (decide (1 ≤ stN S.stands y.s)), c125, c126, c127, c128, c129, c130, c131, c132, c133, c134, c135, c136, c137, c138, c139, c140, c141, c142, c143, c144, c145, c146, c147, c148, c149, c150, c151, c152, c153], []⟩ w') :
    Code.wp Try.prog le_r30tC Q ⟨#[c0, c1, c2, c3, c4, .pointer (some ⟨g, 0, none⟩), c6, c7, .slice (some ⟨gl, 0, none⟩) nL c8, c9, c10, c11, .pointer (some ⟨ga, 0, none⟩), c13, c14, .int .i64 (k : Int), c16, c17, c18, c19, c20, c21, c22, c23, c24, c25, c26, c27, c28, c29, c30, c31, c32, c33, c34, c35, c36, c37, c38, c39, c40, c41, c42, c43, c44, c45, c46, c47, c48, c49, c50, c51, c52, c53, c54, c55, c56, c57, c58, c59, c60, c61, c62, c63, c64, c65, c66, c67, c68, c69, c70, c71, c72, c73, c74, c75, c76, c77, c78, c79, c80, c81, c82, c83, c84, c85, c86, c87, c88, c89, c90, c91, c92, c93, c94, c95, c96, c97, c98, c99, c100, c101, c102, c103, c104, c105, c106, c107, c108, c109, c110, c111, c112, c113, c114, c115, c116, c117, c118, c119, c120, c121, c122, c123, c124, c125, c126, c127, c128, c129, c130, c131, c132, c133, c134, c135, c136, c137, c138, c139, c140, c141, c142, c143, c144, c145, c146, c147, c148, c149, c150, c151, c152, c153], []⟩ w := by
  conv => arg 2; whnf
  try dsimp only at hQ ⊢
  have KP : Hid (∀ u : World, Below w.heap.size w.drew u → u.rangeAt gl (k * 66) (lC y) ∧ PkB ga p u) := fun u hu => ⟨rangeB (u := w.drew) hu hgl hy, (show PkB ga p w.drew from hp).below hu hp.lt⟩
  have KM : Hid (∀ u : World, Below w.heap.size w.drew u → FgM g (fun k => F k ∨ k = g) S (nS S.told.length) u) := fun u hu => ((show GadG a g F S w.drew from hG.below ((Below.refl _ _).drew)).below hu).mem.toM
  have BX : Hid (Below w.heap.size w.drew w.drew) := Below.refl _ _
  have q1 : (k : Int) < (nL : Int) := by omega
  have C1 := Lib.hid (show (.bool true : Value) = .bool (decide (y.t = p)) by rw [decide_eq_true hs])
  clear hy hp hG hs
  refine wp_region_noPanic ?_
  refine wp_region_held_drew (S := (fun u => u.rangeAt gl (k * 66) (lC y) ∧ PkB ga p u)) (by kernel_rfl) (KP.out _ BX.out) (fun hHeld => ?_)
  refine takeH (i := 0) (d := 109) (oi := _) (v := .slice (some ⟨gl, 0, none⟩) nL c8) rfl (by kernel_rfl) (by kernel_rfl) (by kernel_rfl) (by kernel_rfl) (fun _ _ _ h => h) (Or.inl ⟨by kernel_rfl, by intro u hSw; clear hSw; go_simp⟩) hHeld ?_
  try simp only [List.setIfInBounds_toArray, List.set_cons_zero, List.set_cons_succ]
  refine takeH (i := 1) (d := 110) (oi := _) (v := .int .i64 (k : Int)) rfl (by kernel_rfl) (by kernel_rfl) (by kernel_rfl) (by kernel_rfl) (fun _ _ _ h => h) (Or.inl ⟨by kernel_rfl, by intro u hSw; clear hSw; go_simp⟩) hHeld ?_
  try simp only [List.setIfInBounds_toArray, List.set_cons_zero, List.set_cons_succ]
  refine takeH (i := 2) (d := 111) (oi := _) (v := .pointer (some ⟨gl, (k * 66), none⟩)) rfl (by kernel_rfl) (by kernel_rfl) (by kernel_rfl) (by kernel_rfl) (fun _ _ _ h => h) (Or.inl ⟨by kernel_rfl, by intro u hSw; clear hSw; go_simp⟩) hHeld ?_
  try simp only [List.setIfInBounds_toArray, List.set_cons_zero, List.set_cons_succ]
  refine takeH (i := 3) (d := 112) (oi := _) (v := .pointer (some ⟨gl, (k * 66 + 33), none⟩)) rfl (by kernel_rfl) (by kernel_rfl) (by kernel_rfl) (by kernel_rfl) (fun _ _ _ h => h) (Or.inl ⟨by kernel_rfl, by intro u hSw; clear hSw; go_simp⟩) hHeld ?_
  try simp only [List.setIfInBounds_toArray, List.set_cons_zero, List.set_cons_succ]
  refine takeH (i := 4) (d := 113) (oi := _) (v := .agg (pv y.t)) rfl (by kernel_rfl) (by kernel_rfl) (by kernel_rfl) (by kernel_rfl) (fun _ _ _ h => h) (yieldsIf_load_midC (by kernel_rfl) _ _ rfl (gl) (k * 66 + 33) rfl (pC y.t) (pv y.t) (pC_arr y.t) _ (fun u hSw => (rangeTgt hSw.1)) Try.underlying29 rfl (size_pv y.t)) hHeld ?_
  try simp only [List.setIfInBounds_toArray, List.set_cons_zero, List.set_cons_succ]
  refine takeH (i := 5) (d := 114) (oi := _) (v := .agg (pv p)) rfl (by kernel_rfl) (by kernel_rfl) (by kernel_rfl) (by kernel_rfl) (fun _ _ _ h => h) (yieldsIf_load_midC (by kernel_rfl) _ _ rfl (ga) 0 rfl (pC p) (pv p) (pC_arr p) _ (fun u hSw => hSw.2.all) Try.underlying29 rfl (size_pv p)) hHeld ?_
  try simp only [List.setIfInBounds_toArray, List.set_cons_zero, List.set_cons_succ]
  refine takeH (i := 6) (d := 115) (oi := _) (v := .bool true) rfl (by kernel_rfl) (by kernel_rfl) (by kernel_rfl) (by kernel_rfl) (fun _ _ _ h => h) (C1.out.symm ▸ yieldsIf_eql (by kernel_rfl) 29 29 (.tmp 113) (.tmp 114) rfl (pv y.t) (pv p) rfl rfl guard_point _ (eq_point9 y.t p)) hHeld ?_
  try simp only [List.setIfInBounds_toArray, List.set_cons_zero, List.set_cons_succ]
  refine takeH (i := 7) (d := 116) (oi := _) (v := .bool true) rfl (by kernel_rfl) (by kernel_rfl) (by kernel_rfl) (by kernel_rfl) (fun _ _ _ h => h) (Or.inl ⟨by kernel_rfl, by intro u hSw; clear hSw; go_simp⟩) hHeld ?_
  try simp only [List.setIfInBounds_toArray, List.set_cons_zero, List.set_cons_succ]
  refine takeH (i := 8) (d := 117) (oi := _) (v := .pointer (some ⟨g, 0, none⟩)) rfl (by kernel_rfl) (by kernel_rfl) (by kernel_rfl) (by kernel_rfl) (fun _ _ _ h => h) (Or.inl ⟨by kernel_rfl, by intro u hSw; clear hSw; go_simp⟩) hHeld ?_
  try simp only [List.setIfInBounds_toArray, List.set_cons_zero, List.set_cons_succ]
  refine takeH (i := 9) (d := 118) (oi := _) (v := .slice (some ⟨gl, 0, none⟩) nL c8) rfl (by kernel_rfl) (by kernel_rfl) (by kernel_rfl) (by kernel_rfl) (fun _ _ _ h => h) (Or.inl ⟨by kernel_rfl, by intro u hSw; clear hSw; go_simp⟩) hHeld ?_
  try simp only [List.setIfInBounds_toArray, List.set_cons_zero, List.set_cons_succ]
  refine takeH (i := 10) (d := 119) (oi := _) (v := .int .i64 (k : Int)) rfl (by kernel_rfl) (by kernel_rfl) (by kernel_rfl) (by kernel_rfl) (fun _ _ _ h => h) (Or.inl ⟨by kernel_rfl, by intro u hSw; clear hSw; go_simp⟩) hHeld ?_
  try simp only [List.setIfInBounds_toArray, List.set_cons_zero, List.set_cons_succ]
  refine takeH (i := 11) (d := 120) (oi := _) (v := .pointer (some ⟨gl, (k * 66), none⟩)) rfl (by kernel_rfl) (by kernel_rfl) (by kernel_rfl) (by kernel_rfl) (fun _ _ _ h => h) (Or.inl ⟨by kernel_rfl, by intro u hSw; clear hSw; go_simp⟩) hHeld ?_
  try simp only [List.setIfInBounds_toArray, List.set_cons_zero, List.set_cons_succ]
  refine takeH (i := 12) (d := 121) (oi := _) (v := .pointer (some ⟨gl, (k * 66), none⟩)) rfl (by kernel_rfl) (by kernel_rfl) (by kernel_rfl) (by kernel_rfl) (fun _ _ _ h => h) (Or.inl ⟨by kernel_rfl, by intro u hSw; clear hSw; go_simp⟩) hHeld ?_
  try simp only [List.setIfInBounds_toArray, List.set_cons_zero, List.set_cons_succ]
  refine takeH (i := 13) (d := 122) (oi := _) (v := .agg (pv y.s)) rfl (by kernel_rfl) (by kernel_rfl) (by kernel_rfl) (by kernel_rfl) (fun _ _ _ h => h) (yieldsIf_load_midC (by kernel_rfl) _ _ rfl (gl) (k * 66) rfl (pC y.s) (pv y.s) (pC_arr y.s) _ (fun u hSw => (rangeSrc hSw.1)) Try.underlying29 rfl (size_pv y.s)) hHeld ?_
  try simp only [List.setIfInBounds_toArray, List.set_cons_zero, List.set_cons_succ]
  refine wpAnyH_ready (rs := [14]) (by kernel_rfl) (by simp) ?_
  refine AllReadyH.cons (o := _) rfl (fun K hK => ?_) (AllReadyH.nil)
  go_simp
  go_at_call 22
  refine (justified_c g _ S _ y.s _ (KM.out _ BX.out)).mono ?_
  rintro e w2 ⟨rfl, b⟩
  have BX := Lib.hid (BX.out.trans (b.mono BX.out.size))
  clear b
  go_simp
  refine hK.out _ _ (KP.out _ BX.out) (fun hHeld => ?_)
  clear hK K
  try simp only [Act.put, List.setIfInBounds_toArray, List.set_cons_zero, List.set_cons_succ]
  refine takeH (i := 15) (d := 124) (oi := _) (v := .bool (decide (1 ≤ stN S.stands y.s))) rfl (by kernel_rfl) (by kernel_rfl) (by kernel_rfl) (by kernel_rfl) (fun _ _ _ h => h) (Or.inl ⟨by kernel_rfl, by intro u hSw; clear hSw; go_simp⟩) hHeld ?_
  try simp only [List.setIfInBounds_toArray, List.set_cons_zero, List.set_cons_succ]
  refine wpAnyH_done (by kernel_rfl) ?_ _
  refine NoPanic.normal ?_
  exact hQ _ _ _ _ _ _ _ _ _ _ _ _ _ _ _ _ ((Below.refl w.heap.size w).drew.trans BX.out)
end Go.Proofs.Ytcmebeoedagdfaa
