/- FfgChains: the regions. -/
import Derived.Test.YthlbpjkopkicbaaFgChain
import Derived.Test.YthlbpjkopkicbaaFgMax
namespace Go.Proofs.Ythlbpjkopkicbaa
open Go.ChangeMaps Go.MapKept Go.Maps Go.WideElems Go.RowKit
set_option linter.unusedVariables false
set_option maxRecDepth 100000

theorem Kept.range {F : Nat → Prop} {w w' : World} (h : Kept F w w') {g o : Nat} {L : List Value} (hr : w.rangeAt g o L) (hg : g < w.heap.size) (hF : ¬ F g) : w'.rangeAt g o L := fun j v hv => (World.cell?_of_block (a := ⟨g, o + j, none⟩) (h.2.2.2.2 g hg hF)).trans (hr j v hv)
/-- What a link that is told leaves. -/
def StrongR (g : Nat) (F : Nat → Prop) (S : FgS) (x : Lk) (n M K : Nat) (w w' : World) : Prop := ∃ er F' S', Strongs S x S' er ∧ FgK g F' S' (n + 5 + 2 * (M * K)) (M + 1) (K + 2) w' ∧ Kept F w w' ∧ (∀ k, F' k → F k ∨ w.heap.size ≤ k) ∧ (er ≠ 0 → FgK g F' S n M K w')
noncomputable def ch_r17C : Code := ((Try.f8.body.bind (regionOf 17))).getD .skip
set_option maxRecDepth 1000000 in
set_option maxHeartbeats 8000000 in
theorem ch_r17 (c0 c1 c2 c3 c4 c6 c8 c9 c11 c12 c13 c14 c15 c16 c17 c18 c19 c20 c21 c22 c23 c24 c25 c26 c27 c28 c29 c30 c31 c32 c33 c34 c35 c36 c37 c38 c39 c40 c41 c42 c43 c44 c45 c46 c47 c48 c49 c50 c51 c52 c53 c54 c55 c56 c57 c58 c59 c60 c61 c62 c63 c64 c65 c66 c67 c68 c69 c70 c71 c72 c73 c74 c75 c76 c77 c78 c79 c80 c81 c82 c83 c84 c85 c86 c87 c88 c89 c90 c91 c92 c93 c94 c95 c96 c97 c98 c99 c100 c101 c102 c103 c104 c105 c106 c107 c108 c109 c110 c111 c112 c113 c114 c115 c116 c117 c118 c119 c120 c121 c122 c123 c124 c125 c126 c127 c128 c129 c130 c131 c132 c133 c134 c135 c136 c137 c138 c139 c140 c141 c142 c143 c144 c145 c146 c147 c148 c149 c150 c151 c152 c153 c154 c155 c156 c157 c158 c159 c160 c161 c162 c163 c164 c165 c166 c167 c168 c169 c170 c171 c172 c173 c174 c175 c176 c177 c178 c179 c180 c181 c182 c183 c184 c185 c186 c187 c188 c189 c190 : Value) (w : World) (g gA cA n nL n0 MM KK : Nat) (F : Nat → Prop) (S : FgS) (x y : Pt) (hf : FgK g F S n0 MM KK w) (hx : w.rangeAt gA (n * 33) (pC x)) (hy : w.rangeAt gA ((n + 1) * 33) (pC y)) (hgA : gA < w.heap.size) (hgF : ¬ F gA) (hn : n + 1 < nL) (hnL : nL ≤ 60) (hM : MM ≤ 1000) (hK' : KK ≤ 1000) (hn0 : n0 ≤ 800000) (hl : S.links.length ≤ 1000000)
    (Q : Exit → Act → World → Prop) (hQ : ∀ (u102 u103 u104 u105 u106 u107 u108 u109 u110 u111 u112 u113 : Value) (w' : World), StrongR g F S ⟨x, y⟩ n0 MM KK w w' → Q .normal ⟨#[c0, c1, c2, c3, c4, .slice (some ⟨gA, 0, none⟩) nL cA, c6, .pointer (some ⟨g, 0, none⟩), c8, c9, .int .i64 (n : Int), c11, c12, c13, c14, c15, c16, c17, c18, c19, c20, c21, c22, c23, c24, c25, c26, c27, c28, c29, c30, c31, c32, c33, c34, c35, c36, c37, c38, c39, c40, c41, c42, c43, c44, c45, c46, c47, c48, c49, c50, c51, c52, c53, c54, c55, c56, c57, c58, c59, c60, c61, c62, c63, c64, c65, c66, c67, c68, c69, c70, c71, c72, c73, c74, c75, c76, c77, c78, c79, c80, c81, c82, c83, c84, c85, c86, c87, c88, c89, c90, c91, c92, c93, c94, c95, c96, c97, c98, c99, c100, c101, u102, u103, u104, u105, u106, u107, u108, u109, u110, u111, u112, u113, c114, c115, c116, c117, c118, c119, c120, c121, c122, c123, c124, c125, c126, c127, c128, c129, c130, c131, c132, c133, c134, c135, c136, c137, c138, c139, c140, c141, c142, c143, c144, c145, c146, c147, c148, c149, c150, c151, c152, c153, c154, c155, c156, c157, c158, c159, c160, c161, c162, c163, c164, c165, c166, c167, c168, c169, c170, c171, c172, c173, c174, c175, c176, c177, c178, c179, c180, c181, c182, c183, c184, c185, c186, c187, c188, c189, c190], []⟩ w') :
    Code.wp Try.prog ch_r17C Q ⟨#[c0, c1, c2, c3, c4, .slice (some ⟨gA, 0, none⟩) nL cA, c6, .pointer (some ⟨g, 0, none⟩), c8, c9, .int .i64 (n : Int), c11, c12, c13, c14, c15, c16, c17, c18, c19, c20, c21, c22, c23, c24, c25, c26, c27, c28, c29, c30, c31, c32, c33, c34, c35, c36, c37, c38, c39, c40, c41, c42, c43, c44, c45, c46, c47, c48, c49, c50, c51, c52, c53, c54, c55, c56, c57, c58, c59, c60, c61, c62, c63, c64, c65, c66, c67, c68, c69, c70, c71, c72, c73, c74, c75, c76, c77, c78, c79, c80, c81, c82, c83, c84, c85, c86, c87, c88, c89, c90, c91, c92, c93, c94, c95, c96, c97, c98, c99, c100, c101, c102, c103, c104, c105, c106, c107, c108, c109, c110, c111, c112, c113, c114, c115, c116, c117, c118, c119, c120, c121, c122, c123, c124, c125, c126, c127, c128, c129, c130, c131, c132, c133, c134, c135, c136, c137, c138, c139, c140, c141, c142, c143, c144, c145, c146, c147, c148, c149, c150, c151, c152, c153, c154, c155, c156, c157, c158, c159, c160, c161, c162, c163, c164, c165, c166, c167, c168, c169, c170, c171, c172, c173, c174, c175, c176, c177, c178, c179, c180, c181, c182, c183, c184, c185, c186, c187, c188, c189, c190], []⟩ w := by
  conv => arg 2; whnf
  try dsimp only at hQ ⊢
  have FKw : Hid (FgK g F S n0 MM KK w.drew) := hf.below ((Below.refl _ _).drew)
  have CS := Lib.hid (strong_c g F S n0 MM KK ⟨x, y⟩ w.drew FKw.out hM hK' hn0 hl)
  have RX : Hid (w.drew.rangeAt gA (n * 33) (pC x) ∧ w.drew.rangeAt gA ((n + 1) * 33) (pC y)) := ⟨hx, hy⟩
  have q1 : (n : Int) < (nL : Int) := by omega
  have q2 : ((n + 1 : Nat) : Int) < (nL : Int) := by omega
  have GA := Lib.hid (And.intro hgA hgF)
  clear hf hx hy hgA hgF
  refine wp_region_noPanic ?_
  refine wp_region_held_drew (S := (fun u => u.rangeAt gA (n * 33) (pC x) ∧ u.rangeAt gA ((n + 1) * 33) (pC y))) (by kernel_rfl) (RX.out) (fun hHeld => ?_)
  refine takeH (i := 0) (d := 102) (oi := _) (v := .pointer (some ⟨g, 0, none⟩)) rfl (by kernel_rfl) (by kernel_rfl) (by kernel_rfl) (by kernel_rfl) (fun _ _ _ h => h) (Or.inl ⟨by kernel_rfl, by intro u hSw; clear hSw; go_simp⟩) hHeld ?_
  try simp only [List.setIfInBounds_toArray, List.set_cons_zero, List.set_cons_succ]
  refine takeH (i := 1) (d := 103) (oi := _) (v := .slice (some ⟨gA, 0, none⟩) nL cA) rfl (by kernel_rfl) (by kernel_rfl) (by kernel_rfl) (by kernel_rfl) (fun _ _ _ h => h) (Or.inl ⟨by kernel_rfl, by intro u hSw; clear hSw; go_simp⟩) hHeld ?_
  try simp only [List.setIfInBounds_toArray, List.set_cons_zero, List.set_cons_succ]
  refine takeH (i := 2) (d := 104) (oi := _) (v := .int .i64 (n : Int)) rfl (by kernel_rfl) (by kernel_rfl) (by kernel_rfl) (by kernel_rfl) (fun _ _ _ h => h) (Or.inl ⟨by kernel_rfl, by intro u hSw; clear hSw; go_simp⟩) hHeld ?_
  try simp only [List.setIfInBounds_toArray, List.set_cons_zero, List.set_cons_succ]
  refine takeH (i := 3) (d := 105) (oi := _) (v := .pointer (some ⟨gA, n * 33, none⟩)) rfl (by kernel_rfl) (by kernel_rfl) (by kernel_rfl) (by kernel_rfl) (fun _ _ _ h => h) (Or.inl ⟨by kernel_rfl, by intro u hSw; clear hSw; go_simp⟩) hHeld ?_
  try simp only [List.setIfInBounds_toArray, List.set_cons_zero, List.set_cons_succ]
  refine takeH (i := 4) (d := 106) (oi := _) (v := .agg (pv x)) rfl (by kernel_rfl) (by kernel_rfl) (by kernel_rfl) (by kernel_rfl) (fun _ _ _ h => h) (yieldsIf_load_midC (by kernel_rfl) _ _ rfl (gA) (n * 33) rfl (pC x) (pv x) (pC_arr x) _ (fun u hSw => hSw.1) Try.underlying29 rfl (size_pv x)) hHeld ?_
  try simp only [List.setIfInBounds_toArray, List.set_cons_zero, List.set_cons_succ]
  refine takeH (i := 5) (d := 107) (oi := _) (v := .slice (some ⟨gA, 0, none⟩) nL cA) rfl (by kernel_rfl) (by kernel_rfl) (by kernel_rfl) (by kernel_rfl) (fun _ _ _ h => h) (Or.inl ⟨by kernel_rfl, by intro u hSw; clear hSw; go_simp⟩) hHeld ?_
  try simp only [List.setIfInBounds_toArray, List.set_cons_zero, List.set_cons_succ]
  refine takeH (i := 6) (d := 108) (oi := _) (v := .int .i64 (n : Int)) rfl (by kernel_rfl) (by kernel_rfl) (by kernel_rfl) (by kernel_rfl) (fun _ _ _ h => h) (Or.inl ⟨by kernel_rfl, by intro u hSw; clear hSw; go_simp⟩) hHeld ?_
  try simp only [List.setIfInBounds_toArray, List.set_cons_zero, List.set_cons_succ]
  refine takeH (i := 7) (d := 109) (oi := _) (v := .int .i64 ((n + 1 : Nat) : Int)) rfl (by kernel_rfl) (by kernel_rfl) (by kernel_rfl) (by kernel_rfl) (fun _ _ _ h => h) (Or.inl ⟨by kernel_rfl, by intro u hSw; clear hSw; (go_simp; try (simp [IntKind.wrap, IntKind.bits, IntKind.signed]; omega))⟩) hHeld ?_
  try simp only [List.setIfInBounds_toArray, List.set_cons_zero, List.set_cons_succ]
  refine takeH (i := 8) (d := 110) (oi := _) (v := .pointer (some ⟨gA, (n + 1) * 33, none⟩)) rfl (by kernel_rfl) (by kernel_rfl) (by kernel_rfl) (by kernel_rfl) (fun _ _ _ h => h) (Or.inl ⟨by kernel_rfl, by intro u hSw; clear hSw; (go_simp; intro h1; exact absurd (h1 (by omega)) (by omega))⟩) hHeld ?_
  try simp only [List.setIfInBounds_toArray, List.set_cons_zero, List.set_cons_succ]
  refine takeH (i := 9) (d := 111) (oi := _) (v := .agg (pv y)) rfl (by kernel_rfl) (by kernel_rfl) (by kernel_rfl) (by kernel_rfl) (fun _ _ _ h => h) (yieldsIf_load_midC (by kernel_rfl) _ _ rfl (gA) ((n + 1) * 33) rfl (pC y) (pv y) (pC_arr y) _ (fun u hSw => hSw.2) Try.underlying29 rfl (size_pv y)) hHeld ?_
  try simp only [List.setIfInBounds_toArray, List.set_cons_zero, List.set_cons_succ]
  refine takeH (i := 10) (d := 112) (oi := _) (v := .agg (lv ⟨x, y⟩)) rfl (by kernel_rfl) (by kernel_rfl) (by kernel_rfl) (by kernel_rfl) (fun _ _ _ h => h) (yieldsIf_build (by kernel_rfl) 36 #[(0, .tmp 106), (1, .tmp 111)] rfl _ _ (built_lk ⟨x, y⟩) (by kernel_rfl)) hHeld ?_
  try simp only [List.setIfInBounds_toArray, List.set_cons_zero, List.set_cons_succ]
  refine wpAnyH_ready (rs := [11]) (by kernel_rfl) (by simp) ?_
  refine AllReadyH.cons (o := _) rfl (fun K hK => ?_) (AllReadyH.nil)
  go_simp
  go_at_call 13
  refine CS.out.mono ?_
  rintro e w2 ⟨er, F8, S8, rfl, hs, fk8, kp8, n8, m8, r8⟩
  have RY : Hid (w2.rangeAt gA (n * 33) (pC x) ∧ w2.rangeAt gA ((n + 1) * 33) (pC y)) := ⟨kp8.range RX.out.1 GA.out.1 GA.out.2, kp8.range RX.out.2 GA.out.1 GA.out.2⟩
  have EE : Hid (StrongR g F S ⟨x, y⟩ n0 MM KK w w2) := ⟨er, F8, S8, hs, fk8, (Kept.of_below ((Below.refl w.heap.size w).drew)).trans kp8 (fun k e => .inl e), n8, r8⟩
  clear hs fk8 kp8 n8 m8 r8 CS
  go_simp
  refine hK.out _ _ (RY.out) (fun hHeld => ?_)
  clear hK K
  try simp only [Act.put, List.setIfInBounds_toArray, List.set_cons_zero, List.set_cons_succ]
  refine wpAnyH_done (by kernel_rfl) ?_ _
  refine NoPanic.normal ?_
  exact hQ _ _ _ _ _ _ _ _ _ _ _ _ _ EE.out
noncomputable def ch_r21C : Code := ((Try.f8.body.bind (regionOf 21))).getD .skip
set_option maxRecDepth 1000000 in
set_option maxHeartbeats 8000000 in
theorem ch_r21 (c0 c1 c2 c3 c4 c6 c8 c9 c10 c12 c13 c14 c15 c16 c17 c18 c19 c20 c21 c22 c23 c24 c25 c26 c27 c28 c29 c30 c31 c32 c33 c34 c35 c36 c37 c38 c39 c40 c41 c42 c43 c44 c45 c46 c47 c48 c49 c50 c51 c52 c53 c54 c55 c56 c57 c58 c59 c60 c61 c62 c63 c64 c65 c66 c67 c68 c69 c70 c71 c72 c73 c74 c75 c76 c77 c78 c79 c80 c81 c82 c83 c84 c85 c86 c87 c88 c89 c90 c91 c92 c93 c94 c95 c96 c97 c98 c99 c100 c101 c102 c103 c104 c105 c106 c107 c108 c109 c110 c111 c112 c113 c114 c115 c116 c117 c118 c119 c120 c121 c122 c123 c124 c125 c126 c127 c128 c129 c130 c131 c132 c133 c134 c135 c136 c137 c138 c139 c140 c141 c142 c143 c144 c145 c146 c147 c148 c149 c150 c151 c152 c153 c154 c155 c156 c157 c158 c159 c160 c161 c162 c163 c164 c165 c166 c167 c168 c169 c170 c171 c172 c173 c174 c175 c176 c177 c178 c179 c180 c181 c182 c183 c184 c185 c186 c187 c188 c189 c190 : Value) (w : World) (g gA cA n nL n0 MM KK : Nat) (F : Nat → Prop) (S : FgS) (x y : Pt) (hf : FgK g F S n0 MM KK w) (hx : w.rangeAt gA (n * 33) (pC x)) (hy : w.rangeAt gA ((n + 1) * 33) (pC y)) (hgA : gA < w.heap.size) (hgF : ¬ F gA) (hn : n + 1 < nL) (hnL : nL ≤ 60) (hM : MM ≤ 1000) (hK' : KK ≤ 1000) (hn0 : n0 ≤ 800000) (hl : S.links.length ≤ 1000000)
    (Q : Exit → Act → World → Prop) (hQ : ∀ (u121 u122 u123 u124 u125 u126 u127 u128 u129 u130 u131 u132 : Value) (w' : World), StrongR g F S ⟨x, y⟩ n0 MM KK w w' → Q .normal ⟨#[c0, c1, c2, c3, c4, .slice (some ⟨gA, 0, none⟩) nL cA, c6, .pointer (some ⟨g, 0, none⟩), c8, c9, c10, .int .i64 ((n + 1 : Nat) : Int), c12, c13, c14, c15, c16, c17, c18, c19, c20, c21, c22, c23, c24, c25, c26, c27, c28, c29, c30, c31, c32, c33, c34, c35, c36, c37, c38, c39, c40, c41, c42, c43, c44, c45, c46, c47, c48, c49, c50, c51, c52, c53, c54, c55, c56, c57, c58, c59, c60, c61, c62, c63, c64, c65, c66, c67, c68, c69, c70, c71, c72, c73, c74, c75, c76, c77, c78, c79, c80, c81, c82, c83, c84, c85, c86, c87, c88, c89, c90, c91, c92, c93, c94, c95, c96, c97, c98, c99, c100, c101, c102, c103, c104, c105, c106, c107, c108, c109, c110, c111, c112, c113, c114, c115, c116, c117, c118, c119, c120, u121, u122, u123, u124, u125, u126, u127, u128, u129, u130, u131, u132, c133, c134, c135, c136, c137, c138, c139, c140, c141, c142, c143, c144, c145, c146, c147, c148, c149, c150, c151, c152, c153, c154, c155, c156, c157, c158, c159, c160, c161, c162, c163, c164, c165, c166, c167, c168, c169, c170, c171, c172, c173, c174, c175, c176, c177, c178, c179, c180, c181, c182, c183, c184, c185, c186, c187, c188, c189, c190], []⟩ w') :
    Code.wp Try.prog ch_r21C Q ⟨#[c0, c1, c2, c3, c4, .slice (some ⟨gA, 0, none⟩) nL cA, c6, .pointer (some ⟨g, 0, none⟩), c8, c9, c10, .int .i64 ((n + 1 : Nat) : Int), c12, c13, c14, c15, c16, c17, c18, c19, c20, c21, c22, c23, c24, c25, c26, c27, c28, c29, c30, c31, c32, c33, c34, c35, c36, c37, c38, c39, c40, c41, c42, c43, c44, c45, c46, c47, c48, c49, c50, c51, c52, c53, c54, c55, c56, c57, c58, c59, c60, c61, c62, c63, c64, c65, c66, c67, c68, c69, c70, c71, c72, c73, c74, c75, c76, c77, c78, c79, c80, c81, c82, c83, c84, c85, c86, c87, c88, c89, c90, c91, c92, c93, c94, c95, c96, c97, c98, c99, c100, c101, c102, c103, c104, c105, c106, c107, c108, c109, c110, c111, c112, c113, c114, c115, c116, c117, c118, c119, c120, c121, c122, c123, c124, c125, c126, c127, c128, c129, c130, c131, c132, c133, c134, c135, c136, c137, c138, c139, c140, c141, c142, c143, c144, c145, c146, c147, c148, c149, c150, c151, c152, c153, c154, c155, c156, c157, c158, c159, c160, c161, c162, c163, c164, c165, c166, c167, c168, c169, c170, c171, c172, c173, c174, c175, c176, c177, c178, c179, c180, c181, c182, c183, c184, c185, c186, c187, c188, c189, c190], []⟩ w := by
  conv => arg 2; whnf
  try dsimp only at hQ ⊢
  have FKw : Hid (FgK g F S n0 MM KK w.drew) := hf.below ((Below.refl _ _).drew)
  have CS := Lib.hid (strong_c g F S n0 MM KK ⟨x, y⟩ w.drew FKw.out hM hK' hn0 hl)
  have RX : Hid (w.drew.rangeAt gA (n * 33) (pC x) ∧ w.drew.rangeAt gA ((n + 1) * 33) (pC y)) := ⟨hx, hy⟩
  have q1 : (n : Int) < (nL : Int) := by omega
  have q2 : ((n + 1 : Nat) : Int) < (nL : Int) := by omega
  have GA := Lib.hid (And.intro hgA hgF)
  clear hf hx hy hgA hgF
  refine wp_region_noPanic ?_
  refine wp_region_held_drew (S := (fun u => u.rangeAt gA (n * 33) (pC x) ∧ u.rangeAt gA ((n + 1) * 33) (pC y))) (by kernel_rfl) (RX.out) (fun hHeld => ?_)
  refine takeH (i := 0) (d := 121) (oi := _) (v := .pointer (some ⟨g, 0, none⟩)) rfl (by kernel_rfl) (by kernel_rfl) (by kernel_rfl) (by kernel_rfl) (fun _ _ _ h => h) (Or.inl ⟨by kernel_rfl, by intro u hSw; clear hSw; go_simp⟩) hHeld ?_
  try simp only [List.setIfInBounds_toArray, List.set_cons_zero, List.set_cons_succ]
  refine takeH (i := 1) (d := 122) (oi := _) (v := .slice (some ⟨gA, 0, none⟩) nL cA) rfl (by kernel_rfl) (by kernel_rfl) (by kernel_rfl) (by kernel_rfl) (fun _ _ _ h => h) (Or.inl ⟨by kernel_rfl, by intro u hSw; clear hSw; go_simp⟩) hHeld ?_
  try simp only [List.setIfInBounds_toArray, List.set_cons_zero, List.set_cons_succ]
  refine takeH (i := 2) (d := 123) (oi := _) (v := .int .i64 ((n + 1 : Nat) : Int)) rfl (by kernel_rfl) (by kernel_rfl) (by kernel_rfl) (by kernel_rfl) (fun _ _ _ h => h) (Or.inl ⟨by kernel_rfl, by intro u hSw; clear hSw; go_simp⟩) hHeld ?_
  try simp only [List.setIfInBounds_toArray, List.set_cons_zero, List.set_cons_succ]
  refine takeH (i := 3) (d := 124) (oi := _) (v := .int .i64 (n : Int)) rfl (by kernel_rfl) (by kernel_rfl) (by kernel_rfl) (by kernel_rfl) (fun _ _ _ h => h) (Or.inl ⟨by kernel_rfl, by intro u hSw; clear hSw; (go_simp; try (simp [IntKind.wrap, IntKind.bits, IntKind.signed]; omega))⟩) hHeld ?_
  try simp only [List.setIfInBounds_toArray, List.set_cons_zero, List.set_cons_succ]
  refine takeH (i := 4) (d := 125) (oi := _) (v := .pointer (some ⟨gA, n * 33, none⟩)) rfl (by kernel_rfl) (by kernel_rfl) (by kernel_rfl) (by kernel_rfl) (fun _ _ _ h => h) (Or.inl ⟨by kernel_rfl, by intro u hSw; clear hSw; go_simp⟩) hHeld ?_
  try simp only [List.setIfInBounds_toArray, List.set_cons_zero, List.set_cons_succ]
  refine takeH (i := 5) (d := 126) (oi := _) (v := .agg (pv x)) rfl (by kernel_rfl) (by kernel_rfl) (by kernel_rfl) (by kernel_rfl) (fun _ _ _ h => h) (yieldsIf_load_midC (by kernel_rfl) _ _ rfl (gA) (n * 33) rfl (pC x) (pv x) (pC_arr x) _ (fun u hSw => hSw.1) Try.underlying29 rfl (size_pv x)) hHeld ?_
  try simp only [List.setIfInBounds_toArray, List.set_cons_zero, List.set_cons_succ]
  refine takeH (i := 6) (d := 127) (oi := _) (v := .slice (some ⟨gA, 0, none⟩) nL cA) rfl (by kernel_rfl) (by kernel_rfl) (by kernel_rfl) (by kernel_rfl) (fun _ _ _ h => h) (Or.inl ⟨by kernel_rfl, by intro u hSw; clear hSw; go_simp⟩) hHeld ?_
  try simp only [List.setIfInBounds_toArray, List.set_cons_zero, List.set_cons_succ]
  refine takeH (i := 7) (d := 128) (oi := _) (v := .int .i64 ((n + 1 : Nat) : Int)) rfl (by kernel_rfl) (by kernel_rfl) (by kernel_rfl) (by kernel_rfl) (fun _ _ _ h => h) (Or.inl ⟨by kernel_rfl, by intro u hSw; clear hSw; go_simp⟩) hHeld ?_
  try simp only [List.setIfInBounds_toArray, List.set_cons_zero, List.set_cons_succ]
  refine takeH (i := 8) (d := 129) (oi := _) (v := .pointer (some ⟨gA, (n + 1) * 33, none⟩)) rfl (by kernel_rfl) (by kernel_rfl) (by kernel_rfl) (by kernel_rfl) (fun _ _ _ h => h) (Or.inl ⟨by kernel_rfl, by intro u hSw; clear hSw; (go_simp; intro h1; exact absurd (h1 (by omega)) (by omega))⟩) hHeld ?_
  try simp only [List.setIfInBounds_toArray, List.set_cons_zero, List.set_cons_succ]
  refine takeH (i := 9) (d := 130) (oi := _) (v := .agg (pv y)) rfl (by kernel_rfl) (by kernel_rfl) (by kernel_rfl) (by kernel_rfl) (fun _ _ _ h => h) (yieldsIf_load_midC (by kernel_rfl) _ _ rfl (gA) ((n + 1) * 33) rfl (pC y) (pv y) (pC_arr y) _ (fun u hSw => hSw.2) Try.underlying29 rfl (size_pv y)) hHeld ?_
  try simp only [List.setIfInBounds_toArray, List.set_cons_zero, List.set_cons_succ]
  refine takeH (i := 10) (d := 131) (oi := _) (v := .agg (lv ⟨x, y⟩)) rfl (by kernel_rfl) (by kernel_rfl) (by kernel_rfl) (by kernel_rfl) (fun _ _ _ h => h) (yieldsIf_build (by kernel_rfl) 36 #[(0, .tmp 126), (1, .tmp 130)] rfl _ _ (built_lk ⟨x, y⟩) (by kernel_rfl)) hHeld ?_
  try simp only [List.setIfInBounds_toArray, List.set_cons_zero, List.set_cons_succ]
  refine wpAnyH_ready (rs := [11]) (by kernel_rfl) (by simp) ?_
  refine AllReadyH.cons (o := _) rfl (fun K hK => ?_) (AllReadyH.nil)
  go_simp
  go_at_call 13
  refine CS.out.mono ?_
  rintro e w2 ⟨er, F8, S8, rfl, hs, fk8, kp8, n8, m8, r8⟩
  have RY : Hid (w2.rangeAt gA (n * 33) (pC x) ∧ w2.rangeAt gA ((n + 1) * 33) (pC y)) := ⟨kp8.range RX.out.1 GA.out.1 GA.out.2, kp8.range RX.out.2 GA.out.1 GA.out.2⟩
  have EE : Hid (StrongR g F S ⟨x, y⟩ n0 MM KK w w2) := ⟨er, F8, S8, hs, fk8, (Kept.of_below ((Below.refl w.heap.size w).drew)).trans kp8 (fun k e => .inl e), n8, r8⟩
  clear hs fk8 kp8 n8 m8 r8 CS
  go_simp
  refine hK.out _ _ (RY.out) (fun hHeld => ?_)
  clear hK K
  try simp only [Act.put, List.setIfInBounds_toArray, List.set_cons_zero, List.set_cons_succ]
  refine wpAnyH_done (by kernel_rfl) ?_ _
  refine NoPanic.normal ?_
  exact hQ _ _ _ _ _ _ _ _ _ _ _ _ _ EE.out
end Go.Proofs.Ythlbpjkopkicbaa
