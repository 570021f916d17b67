/- PoolPlays: its drawn regions, its loops, its walk. -/
import Derived.Test.YtomfgopmgfoecaaPoSames
import Derived.Test.YtomfgopmgfoecaaPoGathers
import Derived.BigFrame
import Derived.Deep.CutBlock
import Derived.Deep.Cut
namespace Go.Proofs.Ytomfgopmgfoecaa
open Go.ChangeMaps Go.MapKept Go.Maps Go.RowKit Go.ChangeShapes Go.WideShapes Go.ChangeAt
set_option linter.unusedVariables false
set_option maxRecDepth 100000

noncomputable def pl_r18C : Code := ((Try.f3.body.bind (regionOf 18))).getD .skip
set_option maxRecDepth 1000000 in
set_option maxHeartbeats 8000000 in
theorem pl_r18 (c0 c1 c2 c3 c4 c5 c8 c10 c12 c13 c14 c15 c16 c17 c18 c19 c20 c21 c22 c23 c24 c25 c26 c27 c28 c29 c30 c31 c32 c33 c34 c35 c36 c37 c38 c39 c40 c41 c42 c43 c44 c45 c46 c47 c48 c49 c50 c51 c52 c53 c54 c55 c56 c57 c58 c59 c60 c61 c62 c63 c64 c65 c66 c67 c68 c69 c70 c71 c72 c73 c74 c75 c76 c77 c78 c79 c80 c81 c82 c83 c84 c85 c86 c87 c88 c89 c90 c91 c92 c93 c94 c95 c96 c97 c98 c99 c100 c101 c102 c103 c104 c105 c106 c107 c108 c109 c110 c111 c112 c113 c114 c115 c116 c117 c118 : Value) (w : World) (gr gk n ck i b m cv k : Nat) (h : Hh) (y : Sg) (hi : i < n) (hk : k < m) (hv : w.cell? ⟨gr, 0, none⟩ = some (.slice (some ⟨b, 0, none⟩) m cv)) (hgr : gr < w.heap.size) (r1 : w.rangeAt gk (i * 32) (hhC h)) (r2 : w.rangeAt b (k * 101) (sgC y))
    (Q : Exit → Act → World → Prop) (hQ : ∀ (u67 u68 u69 u70 u71 u72 u73 u74 u75 u76 u77 u78 : Value) (w' : World), Below w.heap.size w w' → Q .normal ⟨#[c0, c1, c2, c3, c4, c5, .pointer (some ⟨gr, 0, none⟩), .slice (some ⟨gk, 0, none⟩) n ck, c8, .int .i64 (i : Int), c10, .int .i64 (k : Int), c12, c13, c14, c15, c16, c17, c18, c19, c20, c21, c22, c23, c24, c25, c26, c27, c28, c29, c30, c31, c32, c33, c34, c35, c36, c37, c38, c39, c40, c41, c42, c43, c44, c45, c46, c47, c48, c49, c50, c51, c52, c53, c54, c55, c56, c57, c58, c59, c60, c61, c62, c63, c64, c65, c66, u67, u68, u69, u70, u71, u72, u73, u74, u75, u76, u77, u78, .bool (decide (y.h = h)), c80, c81, c82, c83, c84, c85, c86, c87, c88, c89, c90, c91, c92, c93, c94, c95, c96, c97, c98, c99, c100, c101, c102, c103, c104, c105, c106, c107, c108, c109, c110, c111, c112, c113, c114, c115, c116, c117, c118], []⟩ w') :
    Code.wp Try.prog pl_r18C Q ⟨#[c0, c1, c2, c3, c4, c5, .pointer (some ⟨gr, 0, none⟩), .slice (some ⟨gk, 0, none⟩) n ck, c8, .int .i64 (i : Int), c10, .int .i64 (k : Int), c12, c13, c14, c15, c16, c17, c18, c19, c20, c21, c22, c23, c24, c25, c26, c27, c28, c29, c30, c31, c32, c33, c34, c35, c36, c37, c38, c39, c40, c41, c42, c43, c44, c45, c46, c47, c48, c49, c50, c51, c52, c53, c54, c55, c56, c57, c58, c59, c60, c61, c62, c63, c64, c65, c66, c67, c68, c69, c70, c71, c72, c73, c74, c75, c76, c77, c78, c79, c80, c81, c82, c83, c84, c85, c86, c87, c88, c89, c90, c91, c92, c93, c94, c95, c96, c97, c98, c99, c100, c101, c102, c103, c104, c105, c106, c107, c108, c109, c110, c111, c112, c113, c114, c115, c116, c117, c118], []⟩ w := by
  conv => arg 2; whnf
  try dsimp only at hQ ⊢
  have q1 : (i : Int) < (n : Int) := by omega
  have q2 : (k : Int) < (m : Int) := by omega
  obtain ⟨w2, hw2⟩ : ∃ w2, w2 = w.drew := ⟨_, rfl⟩
  have BX : Hid (Below w.heap.size w w2) := by rw [hw2]; exact (Below.refl _ _).drew
  have KP : Hid (∀ u : World, Below w.heap.size w u → u.cell? ⟨gr, 0, none⟩ = some (.slice (some ⟨b, 0, none⟩) m cv) ∧ u.rangeAt b (k * 101) (sgC y) ∧ u.rangeAt gk (i * 32) (hhC h)) := fun u hu => ⟨(hu.cell hgr).trans hv, fun j z hz => (hu.cell (p := ⟨b, k * 101 + j, none⟩) (World.block_lt_of_cell? w _ (r2 j z hz))).trans (r2 j z hz), fun j z hz => (hu.cell (p := ⟨gk, i * 32 + j, none⟩) (World.block_lt_of_cell? w _ (r1 j z hz))).trans (r1 j z hz)⟩
  clear hv hgr r1 r2
  refine wp_region_noPanic ?_
  refine wp_region_held_drew (S := (fun u => u.cell? ⟨gr, 0, none⟩ = some (.slice (some ⟨b, 0, none⟩) m cv) ∧ u.rangeAt b (k * 101) (sgC y) ∧ u.rangeAt gk (i * 32) (hhC h))) (by kernel_rfl) (by rw [← hw2]; exact KP.out _ BX.out) (fun hHeld => ?_)
  rw [← hw2]
  rw [← hw2] at hHeld
  clear hw2
  refine takeH (i := 0) (d := 67) (oi := _) (v := .pointer (some ⟨gr, 0, none⟩)) rfl (by kernel_rfl) (by kernel_rfl) (by kernel_rfl) (by kernel_rfl) (fun _ _ _ h => h) (Or.inl ⟨by kernel_rfl, by intro u hSw; clear hSw; go_simp⟩) hHeld ?_
  try simp only [List.setIfInBounds_toArray, List.set_cons_zero, List.set_cons_succ]
  refine takeH (i := 1) (d := 68) (oi := _) (v := .pointer (some ⟨gr, 0, none⟩)) rfl (by kernel_rfl) (by kernel_rfl) (by kernel_rfl) (by kernel_rfl) (fun _ _ _ h => h) (Or.inl ⟨by kernel_rfl, by intro u hSw; clear hSw; go_simp⟩) hHeld ?_
  try simp only [List.setIfInBounds_toArray, List.set_cons_zero, List.set_cons_succ]
  refine takeH (i := 2) (d := 69) (oi := _) (v := .pointer (some ⟨gr, 0, none⟩)) rfl (by kernel_rfl) (by kernel_rfl) (by kernel_rfl) (by kernel_rfl) (fun _ _ _ h => h) (Or.inl ⟨by kernel_rfl, by intro u hSw; clear hSw; go_simp⟩) hHeld ?_
  try simp only [List.setIfInBounds_toArray, List.set_cons_zero, List.set_cons_succ]
  refine takeH (i := 3) (d := 70) (oi := _) (v := .slice (some ⟨b, 0, none⟩) m cv) rfl (by kernel_rfl) (by kernel_rfl) (by kernel_rfl) (by kernel_rfl) (fun _ _ _ h => h) (Or.inl ⟨by kernel_rfl, by intro u hSw; (have hc := hSw.1; clear hSw; go_simp)⟩) hHeld ?_
  try simp only [List.setIfInBounds_toArray, List.set_cons_zero, List.set_cons_succ]
  refine takeH (i := 4) (d := 71) (oi := _) (v := .int .i64 (k : Int)) rfl (by kernel_rfl) (by kernel_rfl) (by kernel_rfl) (by kernel_rfl) (fun _ _ _ h => h) (Or.inl ⟨by kernel_rfl, by intro u hSw; clear hSw; go_simp⟩) hHeld ?_
  try simp only [List.setIfInBounds_toArray, List.set_cons_zero, List.set_cons_succ]
  refine takeH (i := 5) (d := 72) (oi := _) (v := .pointer (some ⟨b, (k * 101), none⟩)) rfl (by kernel_rfl) (by kernel_rfl) (by kernel_rfl) (by kernel_rfl) (fun _ _ _ h => h) (Or.inl ⟨by kernel_rfl, by intro u hSw; clear hSw; go_simp⟩) hHeld ?_
  try simp only [List.setIfInBounds_toArray, List.set_cons_zero, List.set_cons_succ]
  refine takeH (i := 6) (d := 73) (oi := _) (v := .pointer (some ⟨b, (k * 101) + 68, none⟩)) rfl (by kernel_rfl) (by kernel_rfl) (by kernel_rfl) (by kernel_rfl) (fun _ _ _ h => h) (Or.inl ⟨by kernel_rfl, by intro u hSw; clear hSw; go_simp⟩) hHeld ?_
  try simp only [List.setIfInBounds_toArray, List.set_cons_zero, List.set_cons_succ]
  refine takeH (i := 7) (d := 74) (oi := _) (v := .agg (hhv y.h)) rfl (by kernel_rfl) (by kernel_rfl) (by kernel_rfl) (by kernel_rfl) (fun _ _ _ h => h) (yieldsIf_load_midC (by kernel_rfl) _ _ rfl (b) (k * 101 + 68) rfl (hhC y.h) (hhv y.h) (hhC_arr y.h) _ (fun u hSw => sg_key hSw.2.1) Try.underlying24 rfl (size_hhv y.h)) hHeld ?_
  try simp only [List.setIfInBounds_toArray, List.set_cons_zero, List.set_cons_succ]
  refine takeH (i := 8) (d := 75) (oi := _) (v := .slice (some ⟨gk, 0, none⟩) n ck) rfl (by kernel_rfl) (by kernel_rfl) (by kernel_rfl) (by kernel_rfl) (fun _ _ _ h => h) (Or.inl ⟨by kernel_rfl, by intro u hSw; clear hSw; go_simp⟩) hHeld ?_
  try simp only [List.setIfInBounds_toArray, List.set_cons_zero, List.set_cons_succ]
  refine takeH (i := 9) (d := 76) (oi := _) (v := .int .i64 (i : Int)) rfl (by kernel_rfl) (by kernel_rfl) (by kernel_rfl) (by kernel_rfl) (fun _ _ _ h => h) (Or.inl ⟨by kernel_rfl, by intro u hSw; clear hSw; go_simp⟩) hHeld ?_
  try simp only [List.setIfInBounds_toArray, List.set_cons_zero, List.set_cons_succ]
  refine takeH (i := 10) (d := 77) (oi := _) (v := .pointer (some ⟨gk, (i * 32), none⟩)) rfl (by kernel_rfl) (by kernel_rfl) (by kernel_rfl) (by kernel_rfl) (fun _ _ _ h => h) (Or.inl ⟨by kernel_rfl, by intro u hSw; clear hSw; go_simp⟩) hHeld ?_
  try simp only [List.setIfInBounds_toArray, List.set_cons_zero, List.set_cons_succ]
  refine takeH (i := 11) (d := 78) (oi := _) (v := .agg (hhv h)) rfl (by kernel_rfl) (by kernel_rfl) (by kernel_rfl) (by kernel_rfl) (fun _ _ _ h => h) (yieldsIf_load_midC (by kernel_rfl) _ _ rfl (gk) (i * 32) rfl (hhC h) (hhv h) (hhC_arr h) _ (fun u hSw => hSw.2.2) Try.underlying24 rfl (size_hhv h)) hHeld ?_
  try simp only [List.setIfInBounds_toArray, List.set_cons_zero, List.set_cons_succ]
  refine takeH (i := 12) (d := 79) (oi := _) (v := .bool (decide (y.h = h))) rfl (by kernel_rfl) (by kernel_rfl) (by kernel_rfl) (by kernel_rfl) (fun _ _ _ h => h) (yieldsIf_eql (by kernel_rfl) 24 24 (.tmp 74) (.tmp 78) rfl (hhv y.h) (hhv h) rfl rfl guard_hash _ (eq_hh y.h h)) hHeld ?_
  try simp only [List.setIfInBounds_toArray, List.set_cons_zero, List.set_cons_succ]
  refine wpAnyH_done (by kernel_rfl) ?_ _
  refine NoPanic.normal ?_
  exact hQ _ _ _ _ _ _ _ _ _ _ _ _ _ BX.out
noncomputable def pl_r26C : Code := ((Try.f3.body.bind (regionOf 26))).getD .skip
set_option maxRecDepth 1000000 in
set_option maxHeartbeats 8000000 in
theorem pl_r26 (c0 c1 c2 c3 c4 c5 c6 c7 c8 c9 c11 c14 c15 c16 c17 c18 c19 c20 c21 c22 c23 c24 c25 c26 c27 c28 c29 c30 c31 c32 c33 c34 c35 c36 c37 c38 c39 c40 c41 c42 c43 c44 c45 c46 c47 c48 c49 c50 c51 c52 c53 c54 c55 c56 c57 c58 c59 c60 c61 c62 c63 c64 c65 c66 c67 c68 c69 c70 c71 c72 c73 c74 c75 c76 c77 c78 c79 c80 c81 c82 c83 c84 c85 c86 c87 c88 c89 c90 c91 c92 c93 c94 c95 c96 c97 c98 c99 c100 c101 c102 c103 c104 c105 c106 c107 c108 c109 c110 c111 c112 c113 c114 c115 c116 c117 c118 : Value) (w : World) (g1 o1 g2 o2 n ca cz i : Nat) (v : Sv) (B1 B2 : Option Addr) (e1 e2 : Nat) (hi : i < n) (x1 : w.rangeAt g1 (o1 + i * 68) (vtC v.n v.k (.slice B1 v.s.length e1))) (x2 : w.rangeAt g2 (o2 + i * 68) (vtC v.n v.k (.slice B2 v.s.length e2))) (r1 : Rd w 0 w.heap.size B1 v.s) (r2 : Rd w 0 w.heap.size B2 v.s)
    (Q : Exit → Act → World → Prop) (hQ : ∀ (u108 u109 u110 u111 u112 u113 u114 u115 u116 : Value) (w' : World), Below w.heap.size w w' → Q .normal ⟨#[c0, c1, c2, c3, c4, c5, c6, c7, c8, c9, .slice (some ⟨g2, o2, none⟩) n cz, c11, .slice (some ⟨g1, o1, none⟩) n ca, .int .i64 (i : Int), c14, c15, c16, c17, c18, c19, c20, c21, c22, c23, c24, c25, c26, c27, c28, c29, c30, c31, c32, c33, c34, c35, c36, c37, c38, c39, c40, c41, c42, c43, c44, c45, c46, c47, c48, c49, c50, c51, c52, c53, c54, c55, c56, c57, c58, c59, c60, c61, c62, c63, c64, c65, c66, c67, c68, c69, c70, c71, c72, c73, c74, c75, c76, c77, c78, c79, c80, c81, c82, c83, c84, c85, c86, c87, c88, c89, c90, c91, c92, c93, c94, c95, c96, c97, c98, c99, c100, c101, c102, c103, c104, c105, c106, c107, u108, u109, u110, u111, u112, u113, u114, u115, u116, .bool false, c118], []⟩ w') :
    Code.wp Try.prog pl_r26C Q ⟨#[c0, c1, c2, c3, c4, c5, c6, c7, c8, c9, .slice (some ⟨g2, o2, none⟩) n cz, c11, .slice (some ⟨g1, o1, none⟩) n ca, .int .i64 (i : Int), c14, c15, c16, c17, c18, c19, c20, c21, c22, c23, c24, c25, c26, c27, c28, c29, c30, c31, c32, c33, c34, c35, c36, c37, c38, c39, c40, c41, c42, c43, c44, c45, c46, c47, c48, c49, c50, c51, c52, c53, c54, c55, c56, c57, c58, c59, c60, c61, c62, c63, c64, c65, c66, c67, c68, c69, c70, c71, c72, c73, c74, c75, c76, c77, c78, c79, c80, c81, c82, c83, c84, c85, c86, c87, c88, c89, c90, c91, c92, c93, c94, c95, c96, c97, c98, c99, c100, c101, c102, c103, c104, c105, c106, c107, c108, c109, c110, c111, c112, c113, c114, c115, c116, c117, c118], []⟩ w := by
  conv => arg 2; whnf
  try dsimp only at hQ ⊢
  have q1 : (i : Int) < (n : Int) := by omega
  obtain ⟨w2, hw2⟩ : ∃ w2, w2 = w.drew := ⟨_, rfl⟩
  have BX : Hid (Below w.heap.size w w2) := by rw [hw2]; exact (Below.refl _ _).drew
  have KP : Hid (∀ u : World, Below w.heap.size w u → (u.rangeAt g1 (o1 + i * 68) (vtC v.n v.k (.slice B1 v.s.length e1)) ∧ u.rangeAt g2 (o2 + i * 68) (vtC v.n v.k (.slice B2 v.s.length e2))) ∧ Rd u 0 u.heap.size B1 v.s ∧ Rd u 0 u.heap.size B2 v.s) := fun u hu => ⟨⟨fun j z hz => (hu.cell (p := ⟨g1, o1 + i * 68 + j, none⟩) (World.block_lt_of_cell? w _ (x1 j z hz))).trans (x1 j z hz), fun j z hz => (hu.cell (p := ⟨g2, o2 + i * 68 + j, none⟩) (World.block_lt_of_cell? w _ (x2 j z hz))).trans (x2 j z hz)⟩, (r1.below hu (Nat.le_refl _)).wide (Nat.le_refl _) hu.size, (r2.below hu (Nat.le_refl _)).wide (Nat.le_refl _) hu.size⟩
  clear x1 x2 r1 r2
  refine wp_region_noPanic ?_
  refine wp_region_held_drew (S := (fun u => u.rangeAt g1 (o1 + i * 68) (vtC v.n v.k (.slice B1 v.s.length e1)) ∧ u.rangeAt g2 (o2 + i * 68) (vtC v.n v.k (.slice B2 v.s.length e2)))) (by kernel_rfl) (by rw [← hw2]; exact (KP.out _ BX.out).1) (fun hHeld => ?_)
  rw [← hw2]
  rw [← hw2] at hHeld
  clear hw2
  refine takeH (i := 0) (d := 108) (oi := _) (v := .slice (some ⟨g1, o1, none⟩) n ca) rfl (by kernel_rfl) (by kernel_rfl) (by kernel_rfl) (by kernel_rfl) (fun _ _ _ h => h) (Or.inl ⟨by kernel_rfl, by intro u hSw; clear hSw; go_simp⟩) hHeld ?_
  try simp only [List.setIfInBounds_toArray, List.set_cons_zero, List.set_cons_succ]
  refine takeH (i := 1) (d := 109) (oi := _) (v := .int .i64 (i : Int)) rfl (by kernel_rfl) (by kernel_rfl) (by kernel_rfl) (by kernel_rfl) (fun _ _ _ h => h) (Or.inl ⟨by kernel_rfl, by intro u hSw; clear hSw; go_simp⟩) hHeld ?_
  try simp only [List.setIfInBounds_toArray, List.set_cons_zero, List.set_cons_succ]
  refine takeH (i := 2) (d := 110) (oi := _) (v := .pointer (some ⟨g1, (o1 + i * 68), none⟩)) rfl (by kernel_rfl) (by kernel_rfl) (by kernel_rfl) (by kernel_rfl) (fun _ _ _ h => h) (Or.inl ⟨by kernel_rfl, by intro u hSw; clear hSw; go_simp⟩) hHeld ?_
  try simp only [List.setIfInBounds_toArray, List.set_cons_zero, List.set_cons_succ]
  refine takeH (i := 3) (d := 111) (oi := _) (v := .agg (vtw v.n v.k (.slice B1 v.s.length e1))) rfl (by kernel_rfl) (by kernel_rfl) (by kernel_rfl) (by kernel_rfl) (fun _ _ _ h => h) (yieldsIf_load_midC (by kernel_rfl) _ _ rfl (g1) (o1 + i * 68) rfl (vtC v.n v.k (.slice B1 v.s.length e1)) (vtw v.n v.k (.slice B1 v.s.length e1)) (vtC_arr v.n v.k (.slice B1 v.s.length e1)) _ (fun u hSw => hSw.1) Try.underlying40 rfl (size_vtw v.n v.k (.slice B1 v.s.length e1))) hHeld ?_
  try simp only [List.setIfInBounds_toArray, List.set_cons_zero, List.set_cons_succ]
  refine takeH (i := 4) (d := 112) (oi := _) (v := .slice (some ⟨g2, o2, none⟩) n cz) rfl (by kernel_rfl) (by kernel_rfl) (by kernel_rfl) (by kernel_rfl) (fun _ _ _ h => h) (Or.inl ⟨by kernel_rfl, by intro u hSw; clear hSw; go_simp⟩) hHeld ?_
  try simp only [List.setIfInBounds_toArray, List.set_cons_zero, List.set_cons_succ]
  refine takeH (i := 5) (d := 113) (oi := _) (v := .int .i64 (i : Int)) rfl (by kernel_rfl) (by kernel_rfl) (by kernel_rfl) (by kernel_rfl) (fun _ _ _ h => h) (Or.inl ⟨by kernel_rfl, by intro u hSw; clear hSw; go_simp⟩) hHeld ?_
  try simp only [List.setIfInBounds_toArray, List.set_cons_zero, List.set_cons_succ]
  refine takeH (i := 6) (d := 114) (oi := _) (v := .pointer (some ⟨g2, (o2 + i * 68), none⟩)) rfl (by kernel_rfl) (by kernel_rfl) (by kernel_rfl) (by kernel_rfl) (fun _ _ _ h => h) (Or.inl ⟨by kernel_rfl, by intro u hSw; clear hSw; go_simp⟩) hHeld ?_
  try simp only [List.setIfInBounds_toArray, List.set_cons_zero, List.set_cons_succ]
  refine takeH (i := 7) (d := 115) (oi := _) (v := .agg (vtw v.n v.k (.slice B2 v.s.length e2))) rfl (by kernel_rfl) (by kernel_rfl) (by kernel_rfl) (by kernel_rfl) (fun _ _ _ h => h) (yieldsIf_load_midC (by kernel_rfl) _ _ rfl (g2) (o2 + i * 68) rfl (vtC v.n v.k (.slice B2 v.s.length e2)) (vtw v.n v.k (.slice B2 v.s.length e2)) (vtC_arr v.n v.k (.slice B2 v.s.length e2)) _ (fun u hSw => hSw.2) Try.underlying40 rfl (size_vtw v.n v.k (.slice B2 v.s.length e2))) hHeld ?_
  try simp only [List.setIfInBounds_toArray, List.set_cons_zero, List.set_cons_succ]
  refine wpAnyH_ready (rs := [8]) (by kernel_rfl) (by simp) ?_
  refine AllReadyH.cons (o := _) rfl (fun K hK => ?_) (AllReadyH.nil)
  go_simp
  go_at_call 14
  refine (refSameVo12 v.n v.k v.s B1 B2 e1 e2 _ (KP.out _ BX.out).2.1 (KP.out _ BX.out).2.2).mono ?_
  rintro e w2 ⟨rfl, b2⟩
  have BX := Lib.hid (BX.out.trans (b2.mono BX.out.size))
  clear b2
  go_simp
  refine hK.out _ _ ((KP.out _ BX.out).1) (fun hHeld => ?_)
  clear hK K
  try simp only [Act.put, List.setIfInBounds_toArray, List.set_cons_zero, List.set_cons_succ]
  refine takeH (i := 9) (d := 117) (oi := _) (v := .bool false) rfl (by kernel_rfl) (by kernel_rfl) (by kernel_rfl) (by kernel_rfl) (fun _ _ _ h => h) (Or.inl ⟨by kernel_rfl, by intro u hSw; clear hSw; go_simp⟩) hHeld ?_
  try simp only [List.setIfInBounds_toArray, List.set_cons_zero, List.set_cons_succ]
  refine wpAnyH_done (by kernel_rfl) ?_ _
  refine NoPanic.normal ?_
  exact hQ _ _ _ _ _ _ _ _ _ _ BX.out
end Go.Proofs.Ytomfgopmgfoecaa
namespace Go.Proofs.Ytomfgopmgfoecaa
open Go.Shelf Go.ChangeMaps Go.MapKept Go.Maps Go.RowKit Go.ChangeShapes Go.WideShapes Go.ChangeAt
set_option linter.unusedVariables false
set_option maxRecDepth 100000
theorem hhC_one (h : Hh) : ∀ v ∈ hhC h, v.oneCell' = true := fun v hv => by
  unfold hhC at hv
  obtain ⟨j, _, rfl⟩ := List.mem_map.1 hv
  exact hF_one _ _
theorem one_hh (x : Hh) (u : World) : (Instr.buildSlice 34 1 #[(0, .agg (hhv x))]).run Try.prog u = .ok (.slice (some ⟨u.heap.size, 0, none⟩) 1 1) (u.alloc (.cells (hhv x) 24)) := by
  have hie : Try.prog.info? 24 = some ((Try.prog.info? 24).get (by kernel_rfl)) := (Option.some_get _).symm
  refine run_buildSlice u _ 24 1 _ (hhv x) _ _ Try.underlying34 hie (Option.some_get (by kernel_rfl)).symm (by decide +kernel) (by decide +kernel) ?_
  kernel_rfl
theorem own_hh (x : Hh) (u : World) : (u.alloc (.cells (hhv x) 24)).ownsRow 0 24 32 (.slice (some ⟨u.heap.size, 0, none⟩) 1 1) 1 (hhC x) := by
  refine ⟨by rw [hhC_len], .inr ⟨u.heap.size, 1, hhv x, rfl, Nat.zero_le _, heap_alloc_new u _, Nat.le_refl _, by unfold maxLen; omega, by rw [← hhC_arr, List.size_toArray, hhC_len], ?_⟩⟩
  rw [← hhC_arr, List.take_of_length_le (by simp [hhC_len])]
theorem hh_row {i : TypeInfo} (h : (Try.prog.info? 24) = some i) : i.zero = some (.agg (hhv hhZ)) ∧ i.size = 32 ∧ i.bytes = 32 := by
  have : (Try.prog.info? 24).map (fun i => (i.zero, i.size, i.bytes)) = some (some (.agg (hhv hhZ)), 32, 32) := by kernel_rfl
  rw [h] at this
  injection this with this
  injection this with h1 h2
  injection h2 with h2 h3
  exact ⟨h1, h2, h3⟩
/-- A row of its own of these votes, whose signatures lie below bs. -/
def LV (bs : Nat) (Y : List Sv) (v8 : Value) (u : World) : Prop :=
  ∃ A c Xs, v8 = .slice A Y.length c ∧ u.ownsRow bs 40 68 (.slice A Y.length c) Y.length (rws vcg Xs) ∧ Xs.length = Y.length ∧ ∀ (i : Nat) v, Y[i]? = some v → ∃ B d, Xs[i]? = some (v.sg B d) ∧ Rd u 0 bs B v.s
theorem LV.nil (bs : Nat) (u : World) : LV bs [] (.slice none 0 0) u := ⟨none, 0, [], rfl, ⟨rfl, .inl ⟨rfl, rfl⟩⟩, rfl, fun i v h => by simp at h⟩
theorem LV.below {bs : Nat} {Y : List Sv} {v8 : Value} {u u' : World} (h : LV bs Y v8 u) (hb : Below u.heap.size u u') (hs : bs ≤ u.heap.size) : LV bs Y v8 u' := by
  obtain ⟨A, c, Xs, h1, h2, h3, h4⟩ := h
  refine ⟨A, c, Xs, h1, ownKeep h2 (fun g hg => hb.block g (h2.lt g hg).2), h3, fun i v hv => ?_⟩
  obtain ⟨B, d, e1, e2⟩ := h4 i v hv
  exact ⟨B, d, e1, e2.below hb hs⟩
theorem LV.svs {bs : Nat} {Y : List Sv} {v8 : Value} {u : World} (h : LV bs Y v8 u) (hs : bs ≤ u.heap.size) : ∃ A c, v8 = .slice A Y.length c ∧ VtsAt u A Y := by
  obtain ⟨A, c, Xs, h1, h2, h3, h4⟩ := h
  refine ⟨A, c, h1, fun w hw i v hv => ?_⟩
  obtain ⟨B, d, e1, e2⟩ := h4 i v hv
  have hi := (List.getElem?_eq_some_iff.1 hv).1
  obtain ⟨g, rfl⟩ : ∃ g, A = some ⟨g, 0, none⟩ := by
    rcases h2.2 with ⟨e, h0⟩ | ⟨g, cap, cur, e, _⟩
    · omega
    · injection e with e1 _ _
      exact ⟨g, e1⟩
  have hr := rws_cells (n := 68) (c := vcg) (LL := Xs) (base := bs) (cap := c) vcg_len (by rw [h3]; exact h2) e1
  have hg := (h2.lt g rfl).2
  refine ⟨g, 0, B, d, rfl, fun j x hx => ?_, ((e2.below hw hs).wide (Nat.le_refl _) (Nat.le_trans hs hw.size))⟩
  rw [Nat.zero_add]
  exact (hw.cell (p := ⟨g, i * 68 + j, none⟩) hg).trans (hr j x hx)
/-- One vote more. -/
theorem LV.more {bs : Nat} {Y : List Sv} {A : Option Addr} {c : Nat} {u u2 : World} {Xs : List Sg} {v : Sv} {B : Option Addr} {d : Nat} {A2 : Option Addr} {c2 : Nat}
    (h2 : u.ownsRow bs 40 68 (.slice A Y.length c) Y.length (rws vcg Xs)) (h3 : Xs.length = Y.length) (h4 : ∀ (i : Nat) v, Y[i]? = some v → ∃ B d, Xs[i]? = some (v.sg B d) ∧ Rd u 0 bs B v.s) (hb : Below bs u u2)
    (ho : u2.ownsRow bs 40 68 (.slice A2 (Y.length + 1) c2) (Y.length + 1) (rws vcg (Xs ++ [v.sg B d]))) (hr : Rd u 0 bs B v.s) : LV bs (Y ++ [v]) (.slice A2 (Y.length + 1) c2) u2 := by
  have lenY : (Y ++ [v]).length = Y.length + 1 := by rw [List.length_append]; rfl
  refine ⟨A2, c2, Xs ++ [v.sg B d], by rw [lenY], by rw [lenY]; exact ho, by rw [List.length_append, List.length_append, h3]; rfl, fun i y hy => ?_⟩
  rcases Nat.lt_or_ge i Y.length with hi | hi
  · rw [List.getElem?_append_left hi] at hy
    obtain ⟨B1, d1, e1, e2⟩ := h4 i y hy
    exact ⟨B1, d1, by rw [List.getElem?_append_left (by omega)]; exact e1, e2.below hb (Nat.le_refl _)⟩
  · have hlt := (List.getElem?_eq_some_iff.1 hy).1
    rw [List.length_append, List.length_singleton] at hlt
    obtain rfl : i = Y.length := by omega
    rw [List.getElem?_append_right (Nat.le_refl _), Nat.sub_self] at hy
    injection hy with hy
    subst hy
    refine ⟨B, d, ?_, hr.below hb (Nat.le_refl _)⟩
    rw [List.getElem?_append_right (by omega), h3, Nat.sub_self]
    rfl
end Go.Proofs.Ytomfgopmgfoecaa
namespace Go.Proofs.Ytomfgopmgfoecaa
open Go.Shelf Go.ChangeMaps Go.MapKept Go.Maps Go.RowKit Go.ChangeShapes Go.WideShapes Go.ChangeAt
set_option linter.unusedVariables false
set_option maxRecDepth 100000
def blockOf (i : Nat) : Code → Option Code
  | .block n c => if n = i then some (.block n c) else blockOf i c
  | .seq a b => match blockOf i a with
    | some c => some c
    | none => blockOf i b
  | .cond _ a b => match blockOf i a with
    | some c => some c
    | none => blockOf i b
  | .loop c => blockOf i c
  | .scope c => blockOf i c
  | _ => none
noncomputable def pl_b6C : Code := ((Try.f3.body.bind (blockOf 6))).getD .skip
set_option maxRecDepth 1000000 in
set_option maxHeartbeats 16000000 in
theorem pl_b6 (sl0 sl1 sl2 sl3 sl4 sl5 sl6 sl7 sl8 sl9 sl11 sl14 sl15 sl16 sl17 sl18 sl19 sl20 sl21 sl22 sl23 sl24 sl25 sl26 sl27 sl28 sl29 sl30 sl31 sl32 sl33 sl34 sl35 sl36 sl37 sl38 sl39 sl40 sl41 sl42 sl43 sl44 sl45 sl46 sl47 sl48 sl49 sl50 sl51 sl52 sl53 sl54 sl55 sl56 sl57 sl58 sl59 sl60 sl61 sl62 sl63 sl64 sl65 sl66 sl67 sl68 sl69 sl70 sl71 sl72 sl73 sl74 sl75 sl76 sl77 sl78 sl79 sl80 sl81 sl82 sl83 sl84 sl85 sl86 sl87 sl88 sl89 sl90 sl91 sl92 sl93 sl94 sl95 sl96 sl97 sl98 sl99 sl100 sl101 sl102 sl103 sl104 sl105 sl106 sl107 sl108 sl109 sl110 sl111 sl112 sl113 sl114 sl115 sl116 sl117 sl118 : Value) (w : World) (A8 A6 : Option Addr) (c8 c6 yl : Nat) (Y : List Sv) (hY : yl = Y.length) (h9 : yl ≤ 60) (s6 : VtsAt w A6 Y) (s8 : VtsAt w A8 Y)
    (Q : Exit → Act → World → Prop) (hQ : ∀ (u4 u13 u95 u96 u97 u98 u99 u100 u101 u102 u103 u104 u105 u106 u107 u108 u109 u110 u111 u112 u113 u114 u115 u116 u117 : Value) (w' : World), Below w.heap.size w w' → Q .normal ⟨#[sl0, sl1, sl2, sl3, u4, sl5, sl6, sl7, sl8, sl9, .slice A8 yl c8, sl11, .slice A6 yl c6, u13, sl14, sl15, sl16, sl17, sl18, sl19, sl20, sl21, sl22, sl23, sl24, sl25, sl26, sl27, sl28, sl29, sl30, sl31, sl32, sl33, sl34, sl35, sl36, sl37, sl38, sl39, sl40, sl41, sl42, sl43, sl44, sl45, sl46, sl47, sl48, sl49, sl50, sl51, sl52, sl53, sl54, sl55, sl56, sl57, sl58, sl59, sl60, sl61, sl62, sl63, sl64, sl65, sl66, sl67, sl68, sl69, sl70, sl71, sl72, sl73, sl74, sl75, sl76, sl77, sl78, sl79, sl80, sl81, sl82, sl83, sl84, sl85, sl86, sl87, sl88, sl89, sl90, sl91, sl92, sl93, sl94, u95, u96, u97, u98, u99, u100, u101, u102, u103, u104, u105, u106, u107, u108, u109, u110, u111, u112, u113, u114, u115, u116, u117, sl118], []⟩ w') :
    Code.wp Try.prog pl_b6C Q ⟨#[sl0, sl1, sl2, sl3, sl4, sl5, sl6, sl7, sl8, sl9, .slice A8 yl c8, sl11, .slice A6 yl c6, .int .i64 0, sl14, sl15, sl16, sl17, sl18, sl19, sl20, sl21, sl22, sl23, sl24, sl25, sl26, sl27, sl28, sl29, sl30, sl31, sl32, sl33, sl34, sl35, sl36, sl37, sl38, sl39, sl40, sl41, sl42, sl43, sl44, sl45, sl46, sl47, sl48, sl49, sl50, sl51, sl52, sl53, sl54, sl55, sl56, sl57, sl58, sl59, sl60, sl61, sl62, sl63, sl64, sl65, sl66, sl67, sl68, sl69, sl70, sl71, sl72, sl73, sl74, sl75, sl76, sl77, sl78, sl79, sl80, sl81, sl82, sl83, sl84, sl85, sl86, sl87, sl88, sl89, sl90, sl91, sl92, sl93, sl94, sl95, sl96, sl97, sl98, sl99, sl100, sl101, sl102, sl103, sl104, sl105, sl106, sl107, sl108, sl109, sl110, sl111, sl112, sl113, sl114, sl115, sl116, sl117, sl118], []⟩ w := by
  conv => arg 2; whnf
  try dsimp only at hQ ⊢
  have HQ := Lib.hid hQ
  have S6 := Lib.hid s6
  have SV6 := Lib.hid s8
  have HYL := Lib.hid hY
  clear hQ s6 s8 hY
  go_wp2_with fail
  go_loopw [13] (fun v13 u => ∃ t : Nat, t ≤ yl ∧ v13 = .int .i64 (t : Int) ∧ Below w.heap.size w u) (fun v13 _ => yl - (intOf v13).toNat)
  case atStart => exact ⟨0, Nat.zero_le _, rfl, Below.refl _ _⟩
  case round =>
    obtain ⟨t, ht, rfl, bx⟩ := hrel
    have BT := Lib.hid bx
    clear bx
    by_cases htn : t < yl
    · obtain ⟨v, hv⟩ : ∃ v, Y[t]? = some v := ⟨_, List.getElem?_eq_getElem (by have := HYL.out; omega)⟩
      obtain ⟨g3, o3, B3, e3, rfl, x3, d3⟩ := S6.out _ BT.out t v hv
      obtain ⟨g4, o4, B5, e5, rfl, x4, d4⟩ := SV6.out _ BT.out t v hv
      have HX := Lib.hid (And.intro x3 (And.intro x4 (And.intro d3 d4)))
      clear hv x3 x4 d3 d4
      have q4 : (t : Int) < (yl : Int) := by omega
      go_wp2_with fail
      refine pl_r26 _ _ _ _ _ _ _ _ _ _ _ _ _ _ _ _ _ _ _ _ _ _ _ _ _ _ _ _ _ _ _ _ _ _ _ _ _ _ _ _ _ _ _ _ _ _ _ _ _ _ _ _ _ _ _ _ _ _ _ _ _ _ _ _ _ _ _ _ _ _ _ _ _ _ _ _ _ _ _ _ _ _ _ _ _ _ _ _ _ _ _ _ _ _ _ _ _ _ _ _ _ _ _ _ _ _ _ _ _ _ _ _ _ _ _ _ wr g3 o3 g4 o4 yl c6 c8 t v B3 B5 e3 e5 htn HX.out.1 HX.out.2.1 HX.out.2.2.1 HX.out.2.2.2 _ ?_
      intro u108 u109 u110 u111 u112 u113 u114 u115 u116 W7 b7
      have B7 := Lib.hid (BT.out.trans (b7.mono BT.out.size))
      clear b7
      go_wp2_with fail
      exact ⟨⟨t + 1, by omega, by go_num, B7.out⟩, by simp [intOf]; omega⟩
    · obtain rfl : t = yl := by omega
      have q4 : ¬ (t : Int) < (t : Int) := by omega
      go_wp2_with fail
      exact HQ.out _ _ _ _ _ _ _ _ _ _ _ _ _ _ _ _ _ _ _ _ _ _ _ _ _ _ BT.out
end Go.Proofs.Ytomfgopmgfoecaa
namespace Go.Proofs.Ytomfgopmgfoecaa
open Go.Shelf Go.ChangeMaps Go.MapKept Go.Maps Go.RowKit Go.ChangeShapes Go.WideShapes Go.ChangeAt
set_option linter.unusedVariables false
set_option maxRecDepth 100000
noncomputable def pl_b4C : Code := ((Try.f3.body.bind (blockOf 4))).getD .skip
set_option maxRecDepth 1000000 in
set_option maxHeartbeats 16000000 in
theorem pl_b4 (sl0 sl1 sl2 sl3 sl4 sl5 sl8 sl12 sl13 sl14 sl15 sl16 sl17 sl18 sl19 sl20 sl21 sl22 sl23 sl24 sl25 sl26 sl27 sl28 sl29 sl30 sl31 sl32 sl33 sl34 sl35 sl36 sl37 sl38 sl39 sl40 sl41 sl42 sl43 sl44 sl45 sl46 sl47 sl48 sl49 sl50 sl51 sl52 sl53 sl54 sl55 sl56 sl57 sl58 sl59 sl60 sl61 sl62 sl63 sl64 sl65 sl66 sl67 sl68 sl69 sl70 sl71 sl72 sl73 sl74 sl75 sl76 sl77 sl78 sl79 sl80 sl81 sl82 sl83 sl84 sl85 sl86 sl87 sl88 sl89 sl90 sl91 sl92 sl93 sl94 sl95 sl96 sl97 sl98 sl99 sl100 sl101 sl102 sl103 sl104 sl105 sl106 sl107 sl108 sl109 sl110 sl111 sl112 sl113 sl114 sl115 sl116 sl117 sl118 : Value) (w : World) (base ga gr gk nk c7 i m cv b2 : Nat) (Av : Option Addr) (F G : Nat → Prop) (S : PoS) (V : List Sg) (M : List Sv) (y : Hh) (wk : World) (hin : i < nk) (m9 : m ≤ 60) (hMV : m = V.length) (hB2 : b2 = wk.heap.size) (hsw : base ≤ b2) (dx : Duo base ga F S gr G V M wk)
    (hvr : ∀ (i : Nat) x, V[i]? = some x → ∃ b, Av = some ⟨b, 0, none⟩ ∧ b < wk.heap.size ∧ wk.rangeAt b (i * 101) (sgC x))
    (hkp : ∀ u, Below b2 wk u → Duo base ga F S gr G V M u ∧ u.heap[gr]? = some (.cells #[.slice Av m cv] 31 (0, 0)) ∧ b2 ≤ u.heap.size) (hr1 : ∀ u, Below b2 wk u → u.rangeAt gk (i * 32) (hhC y)) (hbw : Below b2 wk w)
    (Q : Exit → Act → World → Prop) (hQ : ∀ (u4 u11 u56 u57 u58 u59 u60 u61 u62 u63 u64 u65 u66 u67 u68 u69 u70 u71 u72 u73 u74 u75 u76 u77 u78 u79 u80 u81 u82 u83 u84 u85 u86 u87 u88 u89 u90 u91 u92 u93 u94 : Value) (A8 : Option Addr) (c8 : Nat) (w' : World), VtsAt w' A8 (M.filter (fun v => decide (v.h = y))) ∧ Below b2 wk w' → Q .normal ⟨#[sl0, sl1, sl2, sl3, u4, sl5, .pointer (some ⟨gr, 0, none⟩), .slice (some ⟨gk, 0, none⟩) nk c7, sl8, .int .i64 (i : Int), .slice A8 (M.filter (fun v => decide (v.h = y))).length c8, u11, sl12, sl13, sl14, sl15, sl16, sl17, sl18, sl19, sl20, sl21, sl22, sl23, sl24, sl25, sl26, sl27, sl28, sl29, sl30, sl31, sl32, sl33, sl34, sl35, sl36, sl37, sl38, sl39, sl40, sl41, sl42, sl43, sl44, sl45, sl46, sl47, sl48, sl49, sl50, sl51, sl52, sl53, sl54, sl55, u56, u57, u58, u59, u60, u61, u62, u63, u64, u65, u66, u67, u68, u69, u70, u71, u72, u73, u74, u75, u76, u77, u78, u79, u80, u81, u82, u83, u84, u85, u86, u87, u88, u89, u90, u91, u92, u93, u94, sl95, sl96, sl97, sl98, sl99, sl100, sl101, sl102, sl103, sl104, sl105, sl106, sl107, sl108, sl109, sl110, sl111, sl112, sl113, sl114, sl115, sl116, sl117, sl118], []⟩ w') :
    Code.wp Try.prog pl_b4C Q ⟨#[sl0, sl1, sl2, sl3, sl4, sl5, .pointer (some ⟨gr, 0, none⟩), .slice (some ⟨gk, 0, none⟩) nk c7, sl8, .int .i64 (i : Int), .slice none 0 0, .int .i64 0, sl12, sl13, sl14, sl15, sl16, sl17, sl18, sl19, sl20, sl21, sl22, sl23, sl24, sl25, sl26, sl27, sl28, sl29, sl30, sl31, sl32, sl33, sl34, sl35, sl36, sl37, sl38, sl39, sl40, sl41, sl42, sl43, sl44, sl45, sl46, sl47, sl48, sl49, sl50, sl51, sl52, sl53, sl54, sl55, sl56, sl57, sl58, sl59, sl60, sl61, sl62, sl63, sl64, sl65, sl66, sl67, sl68, sl69, sl70, sl71, sl72, sl73, sl74, sl75, sl76, sl77, sl78, sl79, sl80, sl81, sl82, sl83, sl84, sl85, sl86, sl87, sl88, sl89, sl90, sl91, sl92, sl93, sl94, sl95, sl96, sl97, sl98, sl99, sl100, sl101, sl102, sl103, sl104, sl105, sl106, sl107, sl108, sl109, sl110, sl111, sl112, sl113, sl114, sl115, sl116, sl117, sl118], []⟩ w := by
  conv => arg 2; whnf
  try dsimp only at hQ ⊢
  have HQ := Lib.hid hQ
  have HMV := Lib.hid hMV
  have B2E := Lib.hid hB2
  have SWK := Lib.hid hsw
  have DX := Lib.hid dx
  have HVR := Lib.hid hvr
  have KP := Lib.hid hkp
  have R1 := Lib.hid hr1
  have BW := Lib.hid hbw
  clear hQ hMV hB2 hsw dx hvr hkp hr1 hbw
  go_wp2_with fail
  go_loopw [10, 11] (fun v10 v11 u => ∃ k : Nat, k ≤ m ∧ v11 = .int .i64 (k : Int) ∧ LV b2 ((M.take k).filter (fun v => decide (v.h = y))) v10 u ∧ Below b2 wk u) (fun _ v11 _ => m - (intOf v11).toNat)
  case atStart => exact ⟨0, Nat.zero_le _, rfl, LV.nil _ _, BW.out⟩
  case round =>
    obtain ⟨k, hk, rfl, lf, bx⟩ := hrel
    have BX := Lib.hid bx
    have kp := KP.out _ bx
    have hcr : wr.cell? ⟨gr, 0, none⟩ = some (.slice Av m cv) := cell_of_row _ gr 0 _ _ (0, 0) kp.2.1
    have KPX := Lib.hid kp
    clear bx kp
    by_cases hkn : k < m
    · obtain ⟨v, hv⟩ : ∃ v, M[k]? = some v := ⟨_, List.getElem?_eq_getElem (by have := DX.out.told.lenV; have := HMV.out; omega)⟩
      obtain ⟨B, c, B', c', -, e2, e3, -⟩ := DX.out.told.at_ k v hv
      obtain ⟨b, rfl, hb, r3⟩ := HVR.out k _ e2
      have HV := Lib.hid hv
      have RD := Lib.hid e3
      have R3 := Lib.hid (show ∀ u, Below b2 wk u → u.rangeAt b (k * 101) (sgC (v.sg B c)) from fun u hu q z hz => (hu.cell (p := ⟨b, k * 101 + q, none⟩) (by rw [B2E.out]; exact hb)).trans (r3 q z hz))
      have q3 : (k : Int) < (m : Int) := by omega
      have LFF := Lib.hid lf
      clear hv e2 e3 r3 hb lf
      obtain ⟨x, hx⟩ : ∃ x, x = v.sg B c := ⟨_, rfl⟩
      have HX := Lib.hid hx
      rw [← hx] at R3
      clear hx
      go_wp2_with fail
      refine pl_r18 _ _ _ _ _ _ _ _ _ _ _ _ _ _ _ _ _ _ _ _ _ _ _ _ _ _ _ _ _ _ _ _ _ _ _ _ _ _ _ _ _ _ _ _ _ _ _ _ _ _ _ _ _ _ _ _ _ _ _ _ _ _ _ _ _ _ _ _ _ _ _ _ _ _ _ _ _ _ _ _ _ _ _ _ _ _ _ _ _ _ _ _ _ _ _ _ _ _ _ _ _ _ _ _ _ _ _ _ _ _ _ _ _ _ _ wr gr gk nk c7 i b m cv k y x hin hkn hcr (blk_lt KPX.out.2.1) (R1.out _ BX.out) (R3.out _ BX.out) _ ?_
      intro u67 u68 u69 u70 u71 u72 u73 u74 u75 u76 u77 u78 W4 b4
      have B4' := Lib.hid (BX.out.trans (b4.mono KPX.out.2.2))
      have LF4 := Lib.hid (LFF.out.below b4 KPX.out.2.2)
      clear b4 hcr LFF KPX
      by_cases e : x.h = y
      · rw [decide_eq_true e]
        obtain ⟨i0, hi0⟩ : ∃ i0, Try.prog.info? 40 = some i0 := ⟨_, (Option.some_get (by kernel_rfl)).symm⟩
        obtain ⟨hz0, hz1, hz2⟩ := vt_row hi0
        have kp := KP.out _ B4'.out
        have hcr : W4.cell? ⟨gr, 0, none⟩ = some (.slice (some ⟨b, 0, none⟩) m cv) := cell_of_row _ gr 0 _ _ (0, 0) kp.2.1
        have hry : W4.rangeAt b (k * 101) (vcg x) := sg_vote (R3.out _ B4'.out)
        obtain ⟨A8, c8, Xs, rfl, o8, x8, f8⟩ := LF4.out
        obtain ⟨u2, hu2⟩ : ∃ u2, u2 = W4.alloc (.cells (vtw x.n x.k x.sv) 40) := ⟨_, rfl⟩
        have b4 : Below W4.heap.size W4 u2 := by rw [hu2]; exact (Below.refl _ _).alloc (Nat.le_refl _) _
        have hb2 : (Instr.buildSlice 43 1 #[(0, .agg (vtw x.n x.k x.sv))]).run Try.prog W4 = .ok (.slice (some ⟨W4.heap.size, 0, none⟩) 1 1) u2 := by rw [hu2]; exact one_vt x (by rw [HX.out]; rfl) W4
        have N2 : Hid (u2.ownsRow 0 40 68 (.slice (some ⟨W4.heap.size, 0, none⟩) 1 1) 1 (vcg x)) := by rw [hu2]; exact own_vt x W4
        have O2 := Lib.hid (ownKeep o8 (fun g hg => b4.block g (o8.lt g hg).2))
        have L2 := Lib.hid (show b2 ≤ u2.heap.size from Nat.le_trans kp.2.2 b4.size)
        have BB := Lib.hid b4
        have ONE := Lib.hid (show ∀ z ∈ vcg x, z.oneCell' = true from vcg_one x (by rw [HX.out]; rfl))
        have YL : ((M.take k).filter (fun v => decide (v.h = y))).length ≤ 60 := by
          have h1 := List.length_filter_le (fun v : Sv => decide (v.h = y)) (M.take k)
          have h2 := List.length_take_le k M
          omega
        have F8 := Lib.hid (And.intro x8 (And.intro f8 (And.intro o8 kp.2.2)))
        obtain ⟨Y, hY⟩ : ∃ Y, Y = (M.take k).filter (fun v => decide (v.h = y)) := ⟨_, rfl⟩
        rw [← hY] at F8 O2 YL ⊢
        have HYY := Lib.hid hY
        obtain ⟨yl, hyl⟩ : ∃ yl, yl = Y.length := ⟨_, rfl⟩
        have HYL := Lib.hid hyl
        rw [← hyl] at O2 YL ⊢
        clear kp b4 o8 x8 f8 hu2 hY hyl LF4
        go_wp2_with (first
          | (refine wpList_load_mid rfl 40 (.tmp 87) rfl b (k * 101) (by go_simp) (vcg x) _ hry Try.underlying40 rfl (size_vcg x) ?_; rw [vcg_arr])
          | (refine wpList_buildSlice_row (v := .slice (some ⟨W4.heap.size, 0, none⟩) 1 1) (w' := u2) rfl 43 1 #[(0, .tmp 88)] rfl ?hr ?_; case hr => (simp only [List.map_toArray, List.map_cons, List.map_nil]; exact hb2))
          | (at_builtin; refine wpList_append_row rfl (.tmp 80) (.tmp 89) 43 rfl b2 40 i0 _ 68 112 Try.underlying43 hi0 hz0 hz1 hz2 (by show (vtw 0 lkZ (.slice none 0 0)).size = 68; exact rowV_size _ _) (by decide) (.slice A8 yl c8) yl (rws vcg Xs) rfl O2.out 0 _ 1 (vcg x) rfl N2.out ONE.out (by unfold maxLen; omega) (by omega) L2.out ?_; intro v' w3 o3 g3 b3; rw [rws_more] at o3; obtain ⟨A6, c6, rfl, _, _, _⟩ := ownForm o3; have O3 := Lib.hid o3; have G3 := Lib.hid g3; clear o3 g3 b3)
          | fail)
        have tk : (M.take (k + 1)).filter (fun v => decide (v.h = y)) = Y ++ [v] := by
          rw [List.take_add_one, HV.out, List.filter_append, HYY.out]
          have : ([v] : List Sv).filter (fun v => decide (v.h = y)) = [v] := List.filter_eq_self.2 (fun z hz => by
            rw [List.mem_singleton] at hz
            subst hz
            exact decide_eq_true (by rw [HX.out] at e; exact e))
          rw [Option.toList_some, this]
        have bb : Below b2 W4 w3 := Below.grown (BB.out.mono F8.out.2.2.2) G3.out L2.out (fun j e => (O2.out.lt j e).1)
        refine ⟨⟨k + 1, by omega, by go_num, ?_, B4'.out.trans bb⟩, by simp [intOf]; omega⟩
        have o3 := O3.out
        rw [tk, HYL.out]
        rw [HYL.out, HX.out] at o3
        exact LV.more F8.out.2.2.1 F8.out.1 F8.out.2.1 bb o3 ((RD.out.below B4'.out SWK.out).wide (Nat.le_refl _) SWK.out)
      · rw [decide_eq_false e]
        go_wp2_with fail
        have tk : (M.take (k + 1)).filter (fun v => decide (v.h = y)) = (M.take k).filter (fun v => decide (v.h = y)) := by
          rw [List.take_add_one, HV.out, List.filter_append]
          have : ([v] : List Sv).filter (fun v => decide (v.h = y)) = [] := List.filter_eq_nil_iff.2 (fun z hz => by
            rw [List.mem_singleton] at hz
            subst hz
            exact fun h => e (by rw [HX.out]; exact of_decide_eq_true h))
          rw [Option.toList_some, this, List.append_nil]
        exact ⟨⟨k + 1, by omega, by go_num, by rw [tk]; exact LF4.out, B4'.out⟩, by simp [intOf]; omega⟩
    · obtain rfl : k = m := by omega
      have tkm : M.take k = M := List.take_of_length_le (by have := DX.out.told.lenV; have := HMV.out; omega)
      have q3 : ¬ (k : Int) < (k : Int) := by omega
      rw [tkm] at lf
      obtain ⟨A8, c8, rfl, sv8⟩ := lf.svs KPX.out.2.2
      have SV := Lib.hid sv8
      have HL : Hid (∀ z, z = (M.filter (fun v => decide (v.h = y))).length → (.slice A8 (M.filter (fun v => decide (v.h = y))).length c8 : Value) = .slice A8 z c8) := fun z hz => by rw [hz]
      obtain ⟨yl, hyl⟩ : ∃ yl, yl = (M.filter (fun v => decide (v.h = y))).length := ⟨_, rfl⟩
      rw [← hyl]
      have HYL := Lib.hid hyl
      clear lf sv8 hyl tkm
      go_wp2_with fail
      rw [HYL.out]
      exact HQ.out _ _ _ _ _ _ _ _ _ _ _ _ _ _ _ _ _ _ _ _ _ _ _ _ _ _ _ _ _ _ _ _ _ _ _ _ _ _ _ _ _ _ _ _ ⟨SV.out, BX.out⟩
end Go.Proofs.Ytomfgopmgfoecaa
namespace Go.Proofs.Ytomfgopmgfoecaa
open Go.Shelf Go.ChangeMaps Go.MapKept Go.Maps Go.RowKit Go.ChangeShapes Go.WideShapes Go.ChangeAt
set_option linter.unusedVariables false
set_option maxRecDepth 100000
theorem hh_size : (Try.prog.info? 24).map (·.size) = some 32 := by kernel_rfl
theorem own_hhB (x : Hh) (u : World) : (u.alloc (.cells (hhv x) 24)).ownsRow u.heap.size 24 32 (.slice (some ⟨u.heap.size, 0, none⟩) 1 1) 1 (rws hhC [x]) := by
  refine ⟨by simp [rws, hhC_len], .inr ⟨u.heap.size, 1, hhv x, rfl, Nat.le_refl _, heap_alloc_new u _, Nat.le_refl _, by unfold maxLen; omega, by rw [← hhC_arr, List.size_toArray, hhC_len], ?_⟩⟩
  rw [← hhC_arr, List.take_of_length_le (by simp [hhC_len])]
  simp [rws]
/-- A row of its own of these keys. -/
def KL (bs : Nat) (Ks : List Hh) (v : Value) (u : World) : Prop := ∃ A c, v = .slice A Ks.length c ∧ u.ownsRow bs 24 32 (.slice A Ks.length c) Ks.length (rws hhC Ks)
noncomputable def pl_b0C : Code := ((Try.f3.body.bind (blockOf 0))).getD .skip
set_option maxRecDepth 1000000 in
set_option maxHeartbeats 16000000 in
theorem pl_b0 (sl1 sl2 sl3 sl4 sl5 sl6 sl9 sl10 sl11 sl12 sl13 sl14 sl15 sl16 sl17 sl18 sl19 sl20 sl21 sl22 sl23 sl24 sl25 sl26 sl27 sl28 sl29 sl30 sl31 sl32 sl33 sl34 sl35 sl36 sl37 sl38 sl39 sl40 sl41 sl42 sl43 sl44 sl45 sl46 sl47 sl48 sl49 sl50 sl51 sl52 sl53 sl54 sl55 sl56 sl57 sl58 sl59 sl60 sl61 sl62 sl63 sl64 sl65 sl66 sl67 sl68 sl69 sl70 sl71 sl72 sl73 sl74 sl75 sl76 sl77 sl78 sl79 sl80 sl81 sl82 sl83 sl84 sl85 sl86 sl87 sl88 sl89 sl90 sl91 sl92 sl93 sl94 sl95 sl96 sl97 sl98 sl99 sl100 sl101 sl102 sl103 sl104 sl105 sl106 sl107 sl108 sl109 sl110 sl111 sl112 sl113 sl114 sl115 sl116 sl117 sl118 : Value) (w : World) (A : Option Addr) (n c : Nat) (L : List Sv) (key : Hh) (bs : Nat) (w4 : World) (hn : n = L.length) (n9 : n ≤ 60) (hA : SvsAt w4 A L) (hbs : bs = w4.heap.size) (o5 : w.ownsRow bs 24 32 (.slice (some ⟨bs, 0, none⟩) 1 1) 1 (rws hhC [key])) (b5 : Below bs w4 w)
    (Q : Exit → Act → World → Prop) (hQ : ∀ (u4 u8 u36 u37 u38 u39 u40 u41 u42 u43 u44 u45 u46 u47 u48 u49 u50 u51 u52 u53 u54 u55 u56 u57 u58 u59 : Value) (A7 : Option Addr) (nk c7 : Nat) (w' : World), (nk = n + 1 ∧ w'.ownsRow bs 24 32 (.slice A7 nk c7) nk (rws hhC (key :: L.map (·.h))) ∧ Below bs w4 w') → Q .normal ⟨#[.slice A n c, sl1, sl2, sl3, u4, sl5, sl6, .slice A7 nk c7, u8, sl9, sl10, sl11, sl12, sl13, sl14, sl15, sl16, sl17, sl18, sl19, sl20, sl21, sl22, sl23, sl24, sl25, sl26, sl27, sl28, sl29, sl30, sl31, sl32, sl33, sl34, sl35, u36, u37, u38, u39, u40, u41, u42, u43, u44, u45, u46, u47, u48, u49, u50, u51, u52, u53, u54, u55, u56, u57, u58, u59, sl60, sl61, sl62, sl63, sl64, sl65, sl66, sl67, sl68, sl69, sl70, sl71, sl72, sl73, sl74, sl75, sl76, sl77, sl78, sl79, sl80, sl81, sl82, sl83, sl84, sl85, sl86, sl87, sl88, sl89, sl90, sl91, sl92, sl93, sl94, sl95, sl96, sl97, sl98, sl99, sl100, sl101, sl102, sl103, sl104, sl105, sl106, sl107, sl108, sl109, sl110, sl111, sl112, sl113, sl114, sl115, sl116, sl117, sl118], []⟩ w') :
    Code.wp Try.prog pl_b0C Q ⟨#[.slice A n c, sl1, sl2, sl3, sl4, sl5, sl6, .slice (some ⟨bs, 0, none⟩) 1 1, .int .i64 0, sl9, sl10, sl11, sl12, sl13, sl14, sl15, sl16, sl17, sl18, sl19, sl20, sl21, sl22, sl23, sl24, sl25, sl26, sl27, sl28, sl29, sl30, sl31, sl32, sl33, sl34, sl35, sl36, sl37, sl38, sl39, sl40, sl41, sl42, sl43, sl44, sl45, sl46, sl47, sl48, sl49, sl50, sl51, sl52, sl53, sl54, sl55, sl56, sl57, sl58, sl59, sl60, sl61, sl62, sl63, sl64, sl65, sl66, sl67, sl68, sl69, sl70, sl71, sl72, sl73, sl74, sl75, sl76, sl77, sl78, sl79, sl80, sl81, sl82, sl83, sl84, sl85, sl86, sl87, sl88, sl89, sl90, sl91, sl92, sl93, sl94, sl95, sl96, sl97, sl98, sl99, sl100, sl101, sl102, sl103, sl104, sl105, sl106, sl107, sl108, sl109, sl110, sl111, sl112, sl113, sl114, sl115, sl116, sl117, sl118], []⟩ w := by
  conv => arg 2; whnf
  try dsimp only at hQ ⊢
  have HQ := Lib.hid hQ
  have HA := Lib.hid hA
  have HN := Lib.hid hn
  have BS := Lib.hid hbs
  have O5 := Lib.hid o5
  have B5 := Lib.hid b5
  clear hQ hA hn hbs o5 b5
  go_wp2_with fail
  go_loopw [7, 8] (fun v7 v8 u => ∃ j : Nat, j ≤ n ∧ v8 = .int .i64 (j : Int) ∧ KL bs (key :: (L.take j).map (·.h)) v7 u ∧ Below bs w4 u) (fun _ v8 _ => n - (intOf v8).toNat)
  case atStart => exact ⟨0, Nat.zero_le _, rfl, ⟨_, _, rfl, O5.out⟩, B5.out⟩
  case round =>
    obtain ⟨j, hj, rfl, ⟨A7, c7, rfl, o7⟩, bx⟩ := hrel
    by_cases hjn : j < n
    · obtain ⟨v, hv⟩ : ∃ v, L[j]? = some v := ⟨_, List.getElem?_eq_getElem (by have := HN.out; omega)⟩
      obtain ⟨g, o, B, cb, rfl, hx, hrd⟩ := HA.out wr (BS.out ▸ bx) j v hv
      have hkv := sg_key hx
      obtain ⟨i0, hi0⟩ : ∃ i0, Try.prog.info? 24 = some i0 := ⟨_, (Option.some_get (by kernel_rfl)).symm⟩
      obtain ⟨hz0, hz1, hz2⟩ := hh_row hi0
      obtain ⟨u2, hu2⟩ : ∃ u2, u2 = wr.alloc (.cells (hhv v.h) 24) := ⟨_, rfl⟩
      have b4 : Below wr.heap.size wr u2 := by rw [hu2]; exact (Below.refl _ _).alloc (Nat.le_refl _) _
      have hb2 : (Instr.buildSlice 34 1 #[(0, .agg (hhv v.h))]).run Try.prog wr = .ok (.slice (some ⟨wr.heap.size, 0, none⟩) 1 1) u2 := by rw [hu2]; exact one_hh v.h wr
      have N2 : Hid (u2.ownsRow 0 24 32 (.slice (some ⟨wr.heap.size, 0, none⟩) 1 1) 1 (hhC v.h)) := by rw [hu2]; exact own_hh v.h wr
      have O2 := Lib.hid (ownKeep o7 (fun g hg => b4.block g (o7.lt g hg).2))
      have sw : bs ≤ wr.heap.size := by have := bx.size; have := BS.out; omega
      have L2 := Lib.hid (show bs ≤ u2.heap.size from Nat.le_trans sw b4.size)
      have BB := Lib.hid (bx.trans (b4.mono sw))
      have q1 : (j : Int) < (n : Int) := by omega
      obtain ⟨yl, hyl⟩ : ∃ yl, yl = (key :: (L.take j).map (·.h)).length := ⟨_, rfl⟩
      have HYL := Lib.hid hyl
      have y9 : yl ≤ 100 := by
        rw [hyl, List.length_cons, List.length_map]
        have := List.length_take_le j L
        have := n9
        have := HN.out
        omega
      obtain ⟨Ks, hKs⟩ : ∃ Ks, Ks = key :: (L.take j).map (·.h) := ⟨_, rfl⟩
      have HKS := Lib.hid hKs
      rw [← hKs] at O2 HYL ⊢
      rw [← HYL.out] at O2 ⊢
      have HV := Lib.hid hv
      clear hx hrd b4 o7 hu2 bx sw hyl hKs hv
      go_wp2_with (first
        | (refine wpList_load_mid rfl 24 (.tmp 48) rfl g (o + j * 101 + 68) (by go_simp) (hhC v.h) _ hkv Try.underlying24 rfl (by rw [hhC_len]; exact hh_size) ?_; rw [hhC_arr])
        | (refine wpList_buildSlice_row (v := .slice (some ⟨wr.heap.size, 0, none⟩) 1 1) (w' := u2) rfl 34 1 #[(0, .tmp 49)] rfl ?hr ?_; case hr => (simp only [List.map_toArray, List.map_cons, List.map_nil]; exact hb2))
        | (at_builtin; refine wpList_append_row rfl (.tmp 44) (.tmp 50) 34 rfl bs 24 i0 _ 32 32 Try.underlying34 hi0 hz0 hz1 hz2 (by show (hhv hhZ).size = 32; rw [← hhC_arr, List.size_toArray, hhC_len]) (by decide) (.slice A7 yl c7) yl (rws hhC Ks) rfl O2.out 0 _ 1 (hhC v.h) rfl N2.out (hhC_one v.h) (by unfold maxLen; omega) (by omega) L2.out ?_; intro v' w3 o3 g3 b3; rw [rws_more] at o3; obtain ⟨A6, c6, rfl, _, _, _⟩ := ownForm o3; have O3 := Lib.hid o3; have G3 := Lib.hid g3; clear o3 g3 b3)
        | fail)
      have tk : key :: (L.take (j + 1)).map (·.h) = Ks ++ [v.h] := by
        rw [List.take_add_one, HV.out, HKS.out, List.map_append]
        rfl
      refine ⟨⟨j + 1, by omega, by go_num, ?_, Below.grown BB.out G3.out L2.out (fun j e => (O2.out.lt j e).1)⟩, by simp [intOf]; omega⟩
      rw [tk]
      refine ⟨A6, c6, ?_, ?_⟩
      · rw [List.length_append, ← HYL.out]; rfl
      · rw [List.length_append, ← HYL.out]; exact O3.out
    · obtain rfl : j = n := by omega
      have q1 : ¬ (j : Int) < (j : Int) := by omega
      have tkj : L.take j = L := List.take_of_length_le (by have := HN.out; omega)
      rw [tkj] at o7 ⊢
      obtain ⟨nk, hnk⟩ : ∃ x, x = (key :: L.map (·.h)).length := ⟨_, rfl⟩
      rw [← hnk] at o7 ⊢
      have FIN := Lib.hid (And.intro (show nk = j + 1 by rw [hnk, List.length_cons, List.length_map]; have := HN.out; omega) (And.intro o7 bx))
      clear tkj o7 bx hnk
      go_wp2_with fail
      exact HQ.out _ _ _ _ _ _ _ _ _ _ _ _ _ _ _ _ _ _ _ _ _ _ _ _ _ _ _ _ _ _ FIN.out
end Go.Proofs.Ytomfgopmgfoecaa
namespace Go.Proofs.Ytomfgopmgfoecaa
open Go.Shelf Go.ChangeMaps Go.MapKept Go.Maps Go.RowKit Go.ChangeShapes Go.WideShapes Go.ChangeAt
set_option linter.unusedVariables false
set_option maxRecDepth 100000
noncomputable def pl_b2C : Code := ((Try.f3.body.bind (blockOf 2))).getD .skip
set_option maxRecDepth 1000000 in
set_option maxHeartbeats 16000000 in
theorem pl_b2 (sl0 sl1 sl2 sl3 sl4 sl8 sl10 sl11 sl12 sl13 sl14 sl15 sl16 sl17 sl18 sl19 sl20 sl21 sl22 sl23 sl24 sl25 sl26 sl27 sl28 sl29 sl30 sl31 sl32 sl33 sl34 sl35 sl36 sl37 sl38 sl39 sl40 sl41 sl42 sl43 sl44 sl45 sl46 sl47 sl48 sl49 sl50 sl51 sl52 sl53 sl54 sl55 sl56 sl57 sl58 sl59 sl60 sl61 sl62 sl63 sl64 sl65 sl66 sl67 sl68 sl69 sl70 sl71 sl72 sl73 sl74 sl75 sl76 sl77 sl78 sl79 sl80 sl81 sl82 sl83 sl84 sl85 sl86 sl87 sl88 sl89 sl90 sl91 sl92 sl93 sl94 sl95 sl96 sl97 sl98 sl99 sl100 sl101 sl102 sl103 sl104 sl105 sl106 sl107 sl108 sl109 sl110 sl111 sl112 sl113 sl114 sl115 sl116 sl117 sl118 : Value) (w : World) (base ga gr nk c7 b2 bs : Nat) (A7 : Option Addr) (F G : Nat → Prop) (S : PoS) (V : List Sg) (M : List Sv) (Ks : List Hh) (hnk : nk = Ks.length) (nk9 : nk ≤ 100) (hB2 : b2 = w.heap.size) (hsw : base ≤ b2) (hM : M.length ≤ 60) (dx : Duo base ga F S gr G V M w) (ok : w.ownsRow bs 24 32 (.slice A7 nk c7) nk (rws hhC Ks))
    (Q : Exit → Act → World → Prop) (hQ : ∀ (u4 u9 u10 u11 u12 u13 u40 u41 u42 u43 u44 u45 u46 u47 u48 u49 u50 u51 u52 u53 u54 u55 u56 u57 u58 u59 u60 u61 u62 u63 u64 u65 u66 u67 u68 u69 u70 u71 u72 u73 u74 u75 u76 u77 u78 u79 u80 u81 u82 u83 u84 u85 u86 u87 u88 u89 u90 u91 u92 u93 u94 u95 u96 u97 u98 u99 u100 u101 u102 u103 u104 u105 u106 u107 u108 u109 u110 u111 u112 u113 u114 u115 u116 u117 : Value) (w' : World), Below b2 w w' → Q .normal ⟨#[sl0, sl1, sl2, sl3, u4, .pointer (some ⟨ga, 0, none⟩), .pointer (some ⟨gr, 0, none⟩), .slice A7 nk c7, sl8, u9, u10, u11, u12, u13, sl14, sl15, sl16, sl17, sl18, sl19, sl20, sl21, sl22, sl23, sl24, sl25, sl26, sl27, sl28, sl29, sl30, sl31, sl32, sl33, sl34, sl35, sl36, sl37, sl38, sl39, u40, u41, u42, u43, u44, u45, u46, u47, u48, u49, u50, u51, u52, u53, u54, u55, u56, u57, u58, u59, u60, u61, u62, u63, u64, u65, u66, u67, u68, u69, u70, u71, u72, u73, u74, u75, u76, u77, u78, u79, u80, u81, u82, u83, u84, u85, u86, u87, u88, u89, u90, u91, u92, u93, u94, u95, u96, u97, u98, u99, u100, u101, u102, u103, u104, u105, u106, u107, u108, u109, u110, u111, u112, u113, u114, u115, u116, u117, sl118], []⟩ w') :
    Code.wp Try.prog pl_b2C Q ⟨#[sl0, sl1, sl2, sl3, sl4, .pointer (some ⟨ga, 0, none⟩), .pointer (some ⟨gr, 0, none⟩), .slice A7 nk c7, sl8, .int .i64 0, sl10, sl11, sl12, sl13, sl14, sl15, sl16, sl17, sl18, sl19, sl20, sl21, sl22, sl23, sl24, sl25, sl26, sl27, sl28, sl29, sl30, sl31, sl32, sl33, sl34, sl35, sl36, sl37, sl38, sl39, sl40, sl41, sl42, sl43, sl44, sl45, sl46, sl47, sl48, sl49, sl50, sl51, sl52, sl53, sl54, sl55, sl56, sl57, sl58, sl59, sl60, sl61, sl62, sl63, sl64, sl65, sl66, sl67, sl68, sl69, sl70, sl71, sl72, sl73, sl74, sl75, sl76, sl77, sl78, sl79, sl80, sl81, sl82, sl83, sl84, sl85, sl86, sl87, sl88, sl89, sl90, sl91, sl92, sl93, sl94, sl95, sl96, sl97, sl98, sl99, sl100, sl101, sl102, sl103, sl104, sl105, sl106, sl107, sl108, sl109, sl110, sl111, sl112, sl113, sl114, sl115, sl116, sl117, sl118], []⟩ w := by
  conv => arg 2; whnf
  try dsimp only at hQ ⊢
  have HQ := Lib.hid hQ
  have HNK := Lib.hid hnk
  have B2E := Lib.hid hB2
  have SWK := Lib.hid hsw
  have HM := Lib.hid hM
  have DX := Lib.hid dx
  have OK := Lib.hid ok
  obtain ⟨wk, hwk⟩ : ∃ x, x = w := ⟨_, rfl⟩
  rw [← hwk] at B2E DX OK HQ ⊢
  obtain ⟨Av, cv, hvv, hmc, hvr⟩ : ∃ Av cv, wk.heap[gr]? = some (.cells #[.slice Av V.length cv] 31 (0, 0)) ∧ V.length ≤ cv ∧ ∀ (i : Nat) x, V[i]? = some x → ∃ b, Av = some ⟨b, 0, none⟩ ∧ b < wk.heap.size ∧ wk.rangeAt b (i * 101) (sgC x) := by
    obtain ⟨v, h1, h2, h3⟩ := DX.out.r.ex
    obtain ⟨A, c, rfl, hc, _, _⟩ := ownForm h2
    refine ⟨A, c, h1, hc, fun i x hx => ?_⟩
    have hi := (List.getElem?_eq_some_iff.1 hx).1
    obtain ⟨b, rfl⟩ : ∃ b, A = some ⟨b, 0, none⟩ := by
      rcases h2.2 with ⟨e, h0⟩ | ⟨g, cap, cur, e, _⟩
      · omega
      · injection e with e1 _ _
        exact ⟨g, e1⟩
    exact ⟨b, rfl, (h2.lt b rfl).2, rws_cells (n := 101) (c := sgC) (LL := V) (base := 0) (cap := c) sgC_len h2 hx⟩
  obtain ⟨m, hm⟩ : ∃ m, m = V.length := ⟨_, rfl⟩
  rw [← hm] at hvv
  have HMV := Lib.hid hm
  have HVR := Lib.hid hvr
  have m9 : m ≤ 60 := by have := HM.out; have := DX.out.told.lenV; omega
  have HVC := Lib.hid hvv
  have KP := Lib.hid (show ∀ u, Below b2 wk u → Duo base ga F S gr G V M u ∧ u.heap[gr]? = some (.cells #[.slice Av m cv] 31 (0, 0)) ∧ b2 ≤ u.heap.size from fun u hu => ⟨DX.out.below (B2E.out ▸ hu), (hu.block gr (by rw [B2E.out]; exact blk_lt hvv)).trans hvv, by have := hu.size; have := B2E.out; omega⟩)
  clear hQ hnk hB2 hsw hM dx ok hwk hvv hmc hvr hm
  go_wp2_with fail
  go_loopw [9] (fun v9 u => ∃ i : Nat, i ≤ nk ∧ v9 = .int .i64 (i : Int) ∧ Below b2 wk u) (fun v9 _ => nk - (intOf v9).toNat)
  case atStart => exact ⟨0, Nat.zero_le _, rfl, Below.refl _ _⟩
  case round =>
    obtain ⟨i, hi, rfl, bx⟩ := hrel
    have BX2 := Lib.hid bx
    clear bx
    by_cases hin : i < nk
    · obtain ⟨y, hy⟩ : ∃ y, Ks[i]? = some y := ⟨_, List.getElem?_eq_getElem (by have := HNK.out; omega)⟩
      obtain ⟨gk, rfl⟩ : ∃ g, A7 = some ⟨g, 0, none⟩ := by
        rcases OK.out.2 with ⟨e, h0⟩ | ⟨g, cap, cur, e, _⟩
        · omega
        · injection e with e1 _ _
          exact ⟨g, e1⟩
      have r1 := rws_cells (n := 32) (c := hhC) (LL := Ks) (base := bs) (cap := c7) hhC_len (by rw [← HNK.out]; exact OK.out) hy
      have l1 : gk < b2 := by rw [B2E.out]; exact (OK.out.lt gk rfl).2
      have R1 := Lib.hid (show ∀ u, Below b2 wk u → u.rangeAt gk (i * 32) (hhC y) from fun u hu q v hv => (hu.cell (p := ⟨gk, i * 32 + q, none⟩) l1).trans (r1 q v hv))
      clear hy r1
      have q2 : (i : Int) < (nk : Int) := by omega
      go_upto_block 4 with fail
      refine pl_b4 _ _ _ _ _ _ _ _ _ _ _ _ _ _ _ _ _ _ _ _ _ _ _ _ _ _ _ _ _ _ _ _ _ _ _ _ _ _ _ _ _ _ _ _ _ _ _ _ _ _ _ _ _ _ _ _ _ _ _ _ _ _ _ _ _ _ _ _ _ _ _ _ _ _ _ _ _ _ _ _ _ _ _ _ _ _ _ _ _ _ _ _ _ _ _ _ _ _ _ _ _ _ _ _ _ _ _ _ _ _ _ _ _ _ _ base ga gr gk nk c7 i m cv b2 Av F G S V M y wk hin m9 HMV.out B2E.out SWK.out DX.out HVR.out KP.out R1.out BX2.out _ ?_
      intro t4 t11 t56 t57 t58 t59 t60 t61 t62 t63 t64 t65 t66 t67 t68 t69 t70 t71 t72 t73 t74 t75 t76 t77 t78 t79 t80 t81 t82 t83 t84 t85 t86 t87 t88 t89 t90 t91 t92 t93 t94 A8 c8 W4 h4
      have SV := Lib.hid h4.1
      have BX := Lib.hid h4.2
      have kp := KP.out _ h4.2
      clear h4
      have FO := Lib.hid (of_c kp.1.p kp.1.told kp.1.size y (by have := HM.out; omega))
      have YL := Lib.hid (show (M.filter (fun v => decide (v.h = y))).length ≤ 60 from Nat.le_trans (List.length_filter_le _ M) HM.out)
      obtain ⟨Y, hY⟩ : ∃ Y, Y = M.filter (fun v => decide (v.h = y)) := ⟨_, rfl⟩
      rw [← hY] at SV FO YL ⊢
      obtain ⟨yl, hyl⟩ : ∃ yl, yl = Y.length := ⟨_, rfl⟩
      have HYL := Lib.hid hyl
      rw [← hyl] at FO YL ⊢
      have hr1 := R1.out _ BX.out
      have KPX := Lib.hid kp
      clear hY hyl kp
      go_wp2_with (first
        | (refine wpList_load_mid rfl 24 (.tmp 94) rfl gk (i * 32) (by go_simp) (hhC y) _ hr1 Try.underlying24 rfl (by rw [hhC_len]; exact hh_size) ?_; rw [hhC_arr])
        | fail)
      refine FO.out.mono ?_
      rintro e w6 ⟨A6, c6, rfl, sv6, b6⟩
      have B6 := Lib.hid (BX.out.trans (b6.mono KPX.out.2.2))
      have S6 := Lib.hid sv6
      have SV6 := Lib.hid (show VtsAt w6 A8 Y from fun u hu => SV.out u (b6.trans (hu.mono b6.size)))
      clear b6 sv6 hr1
      go_upto_block 6 with fail
      refine pl_b6 _ _ _ _ _ _ _ _ _ _ _ _ _ _ _ _ _ _ _ _ _ _ _ _ _ _ _ _ _ _ _ _ _ _ _ _ _ _ _ _ _ _ _ _ _ _ _ _ _ _ _ _ _ _ _ _ _ _ _ _ _ _ _ _ _ _ _ _ _ _ _ _ _ _ _ _ _ _ _ _ _ _ _ _ _ _ _ _ _ _ _ _ _ _ _ _ _ _ _ _ _ _ _ _ _ _ _ _ _ _ _ _ _ _ _ _ _ A8 A6 c8 c6 yl Y HYL.out YL.out S6.out SV6.out _ ?_
      intro t4 t13 t95 t96 t97 t98 t99 t100 t101 t102 t103 t104 t105 t106 t107 t108 t109 t110 t111 t112 t113 t114 t115 t116 t117 W7 b7
      have B7 := Lib.hid (B6.out.trans (b7.mono (KP.out _ B6.out).2.2))
      clear b7
      go_wp2_with fail
      exact ⟨⟨i + 1, by omega, by go_num, B7.out⟩, by simp [intOf]; omega⟩
    · obtain rfl : i = nk := by omega
      have q2 : ¬ (i : Int) < (i : Int) := by omega
      go_wp2_with fail
      exact HQ.out _ _ _ _ _ _ _ _ _ _ _ _ _ _ _ _ _ _ _ _ _ _ _ _ _ _ _ _ _ _ _ _ _ _ _ _ _ _ _ _ _ _ _ _ _ _ _ _ _ _ _ _ _ _ _ _ _ _ _ _ _ _ _ _ _ _ _ _ _ _ _ _ _ _ _ _ _ _ _ _ _ _ _ _ _ BX2.out
end Go.Proofs.Ytomfgopmgfoecaa
namespace Go.Proofs.Ytomfgopmgfoecaa
open Go.Shelf Go.ChangeMaps Go.MapKept Go.Maps Go.RowKit Go.ChangeShapes Go.WideShapes Go.ChangeAt
set_option linter.unusedVariables false
set_option maxRecDepth 100000
set_option maxRecDepth 1000000 in
set_option maxHeartbeats 16000000 in
theorem poolPlays_any (A : Option Addr) (n c : Nat) (L : List Sv) (key : Hh) (W : World) (hn : n = L.length) (hn2 : n ≤ 9223372036854775807) (h : SvsAt W A L) :
    Calls Try.prog 3 #[.slice A n c, .agg (hhv key)] W fun e w' => e = .returned (.bool true) ∧ Below W.heap.size W w' := by
  obtain ⟨W0, hW0⟩ : ∃ x, x = W.alloc (.cells (hhv key) 24) := ⟨_, rfl⟩
  have b0 : Below W.heap.size W W0 := by rw [hW0]; exact (Below.refl _ _).alloc (Nat.le_refl _) _
  have kx : W0.heap[W.heap.size]? = some (.cells (hhv key) 24 (0, 0)) := by rw [hW0]; exact heap_alloc_new W _
  obtain ⟨kb, hkb⟩ : ∃ x, x = W.heap.size := ⟨_, rfl⟩
  rw [← hkb] at kx
  have HKB := Lib.hid hkb
  have KX := Lib.hid kx
  have BZ := Lib.hid b0
  have HA := Lib.hid (h.below b0)
  have FC := Lib.hid (few_c A n c L W0 hn hn2 HA.out)
  have HN := Lib.hid hn
  have HW0 := Lib.hid hW0
  obtain ⟨fw, hfw⟩ : ∃ b, b = fewV L := ⟨_, rfl⟩
  rw [← hfw] at FC
  have HFW := Lib.hid hfw
  clear h hn hfw kx b0 hW0
  go_enter Try.func3, Try.ntmps3
  go_wp2_with fail
  rw [← HW0.out, ← hkb]
  clear hkb
  refine FC.out.mono ?_
  rintro e W0 ⟨rfl, rfl⟩
  cases fw with
  | false =>
    go_wp2_with fail
    refine (known_c W0).mono ?_
    rintro e w1 ⟨rfl, b1⟩
    go_wp2_with fail
    go_ret
    exact ⟨rfl, BZ.out.trans (b1.mono BZ.out.size)⟩
  | true =>
  have HF := Lib.hid (few_all HFW.out.symm)
  clear FC
  go_wp2_with fail
  refine (new_c _).mono ?_
  rintro e w1 ⟨ga, Fa, rfl, pa, b1, ha1, fa1⟩
  have D0 := Lib.hid (duo_new pa fa1 b1.size)
  have bA : Below w1.heap.size w1 (w1.alloc (.cells #[.slice none 0 0] 31)) := (Below.refl _ _).alloc (Nat.le_refl _) _
  have B0 := Lib.hid (b1.trans (bA.mono b1.size))
  clear pa b1 ha1 fa1 bA
  go_wp2_with fail
  obtain ⟨w2, hw2⟩ : ∃ x, x = w1.alloc (.cells #[.slice none 0 0] 31) := ⟨_, rfl⟩
  obtain ⟨gr, hgr⟩ : ∃ x, x = w1.heap.size := ⟨_, rfl⟩
  rw [← hw2] at D0 B0 ⊢
  rw [← hgr] at D0 ⊢
  clear hw2 hgr
  refine (do_c D0.out B0.out A n c L HN.out HA.out HF.out.1 (by have := HF.out.2; simp only [List.length_nil]; omega)).mono ?_
  rintro e w3 ⟨rfl, F, S, G, V, M, d, b3, f3, g3, ml⟩
  have D := Lib.hid d
  have B3 := Lib.hid (B0.out.trans b3)
  have HM : Hid (M.length ≤ 60) := Lib.hid (by have := HF.out.2; have := HN.out; simp only [List.length_nil] at ml; omega)
  clear d b3 f3 g3 ml D0 B0
  go_wp2_with fail
  refine (same_c D.out HM.out).mono ?_
  rintro e w4 ⟨rfl, b4⟩
  have D4 := Lib.hid (D.out.below b4)
  have B4 := Lib.hid (B3.out.trans (b4.mono B3.out.size))
  have K4 := Lib.hid ((B4.out.block kb (blk_lt KX.out)).trans KX.out)
  clear b4 D B3
  have hk4 : w4.rangeAt kb 0 (hhC key) := fun j v hv => by
    rw [Nat.zero_add]
    exact cell_of_row w4 kb j _ _ (0, 0) K4.out ▸ (by rw [← hhC_arr, List.getElem?_toArray]; exact hv)
  obtain ⟨w5, hw5⟩ : ∃ x, x = w4.alloc (.cells (hhv key) 24) := ⟨_, rfl⟩
  have b5 : Below w4.heap.size w4 w5 := by rw [hw5]; exact (Below.refl _ _).alloc (Nat.le_refl _) _
  have hb5 : (Instr.buildSlice 34 1 #[(0, .agg (hhv key))]).run Try.prog w4 = .ok (.slice (some ⟨w4.heap.size, 0, none⟩) 1 1) w5 := by rw [hw5]; exact one_hh key w4
  have O5 := Lib.hid (show w5.ownsRow w4.heap.size 24 32 (.slice (some ⟨w4.heap.size, 0, none⟩) 1 1) 1 (rws hhC [key]) by rw [hw5]; exact own_hhB key w4)
  have B5 := Lib.hid b5
  clear b5 hw5
  go_upto_block 0 with (first
    | (refine wpList_load_mid rfl 24 (.tmp 3) rfl kb 0 (by go_simp) (hhC key) _ hk4 Try.underlying24 rfl (by rw [hhC_len]; exact hh_size) ?_; rw [hhC_arr])
    | (refine wpList_buildSlice_row (v := .slice (some ⟨w4.heap.size, 0, none⟩) 1 1) (w' := w5) rfl 34 1 #[(0, .tmp 36)] rfl ?hr ?_; case hr => (simp only [List.map_toArray, List.map_cons, List.map_nil]; exact hb5))
    | fail)
  clear hb5 hk4
  obtain ⟨bs, hbs⟩ : ∃ b, b = w4.heap.size := ⟨_, rfl⟩
  have BS := Lib.hid hbs
  rw [← hbs] at B5 O5 ⊢
  clear hbs
  have n9 : n ≤ 60 := by have := HF.out.2; have := HN.out; omega
  refine pl_b0 _ _ _ _ _ _ _ _ _ _ _ _ _ _ _ _ _ _ _ _ _ _ _ _ _ _ _ _ _ _ _ _ _ _ _ _ _ _ _ _ _ _ _ _ _ _ _ _ _ _ _ _ _ _ _ _ _ _ _ _ _ _ _ _ _ _ _ _ _ _ _ _ _ _ _ _ _ _ _ _ _ _ _ _ _ _ _ _ _ _ _ _ _ _ _ _ _ _ _ _ _ _ _ _ _ _ _ _ _ _ _ _ _ _ _ _ _ A n c L key bs w4 HN.out n9 (HA.out.below B4.out) BS.out O5.out B5.out _ ?_
  intro t4 t8 t36 t37 t38 t39 t40 t41 t42 t43 t44 t45 t46 t47 t48 t49 t50 t51 t52 t53 t54 t55 t56 t57 t58 t59 A7 nk c7 wk h7
  have E7 := Lib.hid h7.1
  have OK := Lib.hid h7.2.1
  have BX := Lib.hid h7.2.2
  clear h7
  go_upto_block 2 with fail
  refine pl_b2 _ _ _ _ _ _ _ _ _ _ _ _ _ _ _ _ _ _ _ _ _ _ _ _ _ _ _ _ _ _ _ _ _ _ _ _ _ _ _ _ _ _ _ _ _ _ _ _ _ _ _ _ _ _ _ _ _ _ _ _ _ _ _ _ _ _ _ _ _ _ _ _ _ _ _ _ _ _ _ _ _ _ _ _ _ _ _ _ _ _ _ _ _ _ _ _ _ _ _ _ _ _ _ _ _ _ _ _ _ _ _ _ _ _ _ _ W0.heap.size ga gr nk c7 wk.heap.size bs A7 F G S V M (key :: L.map (·.h)) (by rw [E7.out, List.length_cons, List.length_map, HN.out]) (by have := E7.out; omega) rfl (by have := B4.out.size; have := BX.out.size; have := BS.out; omega) HM.out (D4.out.below (BS.out ▸ BX.out)) OK.out _ ?_
  intro t4 t9 t10 t11 t12 t13 t40 t41 t42 t43 t44 t45 t46 t47 t48 t49 t50 t51 t52 t53 t54 t55 t56 t57 t58 t59 t60 t61 t62 t63 t64 t65 t66 t67 t68 t69 t70 t71 t72 t73 t74 t75 t76 t77 t78 t79 t80 t81 t82 t83 t84 t85 t86 t87 t88 t89 t90 t91 t92 t93 t94 t95 t96 t97 t98 t99 t100 t101 t102 t103 t104 t105 t106 t107 t108 t109 t110 t111 t112 t113 t114 t115 t116 t117 W8 b8
  have B8 := Lib.hid ((B4.out.trans (BX.out.mono (by rw [BS.out]; exact B4.out.size))).trans (b8.mono (by have := B4.out.size; have := BX.out.size; have := BS.out; omega)))
  clear b8
  go_wp2_with fail
  refine (known_c _).mono ?_
  rintro e w6 ⟨rfl, b6⟩
  go_wp2_with fail
  go_ret
  exact ⟨rfl, BZ.out.trans ((B8.out.trans (b6.mono B8.out.size)).mono BZ.out.size)⟩
end Go.Proofs.Ytomfgopmgfoecaa
