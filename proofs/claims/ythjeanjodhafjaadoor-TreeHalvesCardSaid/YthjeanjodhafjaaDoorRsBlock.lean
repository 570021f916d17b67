/- The reference's Sum: one block goes into the eight. -/
import Derived.Test.YthjeanjodhafjaaDoorRsLast
import Derived.Deep.WholeRow
import Derived.Deep.CutBlock
namespace Go.Proofs.YthjeanjodhafjaaDoor
open Go.ChangeShapes Go.WideShapes Go.ChangeAt Go.RowKit
set_option linter.unusedVariables false

theorem bgT_k (j : Nat) : bgT (8 + j) = rv (kN j) := by
  unfold bgT
  rw [if_neg (by omega), show 8 + j - 8 = j by omega]
theorem eight_row (r : St) : Value.agg #[.int .u32 (r.a : Int), .int .u32 (r.b : Int), .int .u32 (r.c : Int), .int .u32 (r.d : Int), .int .u32 (r.e : Int), .int .u32 (r.f : Int), .int .u32 (r.g : Int), .int .u32 (r.h : Int)] = .agg (rowV 8 (eF r)) := rfl
theorem row_one (r : St) : (rowV 8 (eF r)).all (·.oneCell') = true := rowV_one 8 _ (fun i => rfl)
theorem row_size8 (r : St) : (Tryd.prog.info? 50).map (·.size) = some (rowV 8 (eF r)).size := by rw [rowV_size]; exact size_8
theorem row_zero8 (r : St) : (rowV 8 z32).size = (rowV 8 (eF r)).size := by rw [rowV_size, rowV_size]

noncomputable def rsB1 : Code := ((Tryd.f25.body.bind (blockOf 1))).getD .skip
set_option maxRecDepth 1000000 in
set_option maxHeartbeats 4000000 in
theorem rs_b1 (c0 c1 c3 c4 c7 c8 c9 c10 c11 c12 c13 c14 c15 c16 c17 c18 c19 c20 c21 c22 c23 c24 c25 c26 c27 c28 c29 c30 c31 c32 c33 c34 c35 c36 c37 c38 c39 c40 c41 c42 c43 c44 c45 c46 c47 c48 c49 c50 c51 c52 c53 c54 c55 c56 c57 c58 c59 c60 c61 c62 c63 c64 c65 c66 c67 c68 c69 c70 c71 c72 c73 c74 c75 c76 c77 c78 c79 c80 c81 c82 c83 c84 c85 c86 c87 c88 c89 c90 c91 c92 c93 c94 c95 c96 c97 c98 c99 c100 c101 c102 c103 c104 c105 c106 c107 c108 c109 c110 c111 c112 c113 c114 c115 c116 c117 c118 c119 c120 c121 c122 c123 c124 c125 c126 c127 c128 c129 c130 c131 c132 c133 c134 c135 c136 c137 c138 c139 c140 c141 c142 c143 c144 c145 c146 c147 c148 c149 c150 c151 c152 c153 c154 c155 c156 c157 c158 c159 c160 c161 c162 c163 c164 c165 c166 c167 c168 c169 c170 c171 c172 c173 c174 c175 c176 c177 c178 c179 c180 c181 c182 c183 c184 c185 c186 c187 c188 c189 c190 c191 c192 c193 c194 c195 c196 c197 c198 c199 c200 c201 c202 c203 c204 : Value) (n p5 g o Ln C : Nat) (x : List UInt8) (sk : St) (w : World) (hx : x.length = 64) (hL : 64 ≤ Ln) (hC : Ln ≤ C) (hgw : g < w.heap.size) (hg5 : g ≠ p5) (hn5 : n ≠ p5) (hcell : ∀ j y, x[j]? = some y → w.cell? ⟨g, o + j, none⟩ = some (bv y)) (hE : Fill p5 50 8 8 (eF sk) w) (hB : Fill n 53 72 72 bgT w) (hsok : sk.ok)
    (Q : Exit → Act → World → Prop) (hQ : ∀ (u7 u8 u9 u10 u11 u12 u13 u14 u15 u16 u17 u18 u19 u20 u21 u22 u23 u35 u36 u37 u38 u39 u40 u41 u42 u43 u44 u45 u46 u47 u48 u49 u50 u51 u52 u53 u54 u55 u56 u57 u58 u59 u60 u61 u62 u63 u64 u65 u66 u67 u68 u69 u70 u71 u72 u73 u74 u75 u76 u77 u78 u79 u80 u81 u82 u83 u84 u85 u86 u87 u88 u89 u90 u91 u92 u93 u94 u95 u96 u97 u98 u99 u100 u101 u102 u103 u104 u105 u106 u107 u108 u109 u110 u111 u112 u113 u114 u115 u116 u117 u118 u119 u120 u121 u122 u123 u124 u125 u126 u127 u128 u129 u130 u131 u132 u133 u134 u135 u136 u137 u138 u139 u140 u141 u142 u143 u144 u145 u146 u147 u148 u149 u150 u151 u152 u153 u154 u155 u156 u157 u158 u159 u160 u161 u162 u163 u164 u165 u166 u167 u168 u169 u170 u171 u172 u173 u174 u175 u176 u177 u178 u179 u180 u181 u182 u183 u184 u185 u186 u187 u188 u189 u190 : Value) (w' : World), Fill p5 50 8 8 (eF (mixS sk (wdsL x))) w' → w.grownBy w' (some p5) → Q .normal ⟨#[c0, c1, .pointer (some ⟨n, 0, none⟩), c3, c4, .pointer (some ⟨p5, 0, none⟩), .slice (some ⟨g, o, none⟩) Ln C, u7, u8, u9, u10, u11, u12, u13, u14, u15, u16, u17, u18, u19, u20, u21, u22, u23, c24, c25, c26, c27, c28, c29, c30, c31, c32, c33, c34, u35, u36, u37, u38, u39, u40, u41, u42, u43, u44, u45, u46, u47, u48, u49, u50, u51, u52, u53, u54, u55, u56, u57, u58, u59, u60, u61, u62, u63, u64, u65, u66, u67, u68, u69, u70, u71, u72, u73, u74, u75, u76, u77, u78, u79, u80, u81, u82, u83, u84, u85, u86, u87, u88, u89, u90, u91, u92, u93, u94, u95, u96, u97, u98, u99, u100, u101, u102, u103, u104, u105, u106, u107, u108, u109, u110, u111, u112, u113, u114, u115, u116, u117, u118, u119, u120, u121, u122, u123, u124, u125, u126, u127, u128, u129, u130, u131, u132, u133, u134, u135, u136, u137, u138, u139, u140, u141, u142, u143, u144, u145, u146, u147, u148, u149, u150, u151, u152, u153, u154, u155, u156, u157, u158, u159, u160, u161, u162, u163, u164, u165, u166, u167, u168, u169, u170, u171, u172, u173, u174, u175, u176, u177, u178, u179, u180, u181, u182, u183, u184, u185, u186, u187, u188, u189, u190, c191, c192, c193, c194, c195, c196, c197, c198, c199, c200, c201, c202, c203, c204], []⟩ w') :
    Code.wp Tryd.prog rsB1 Q ⟨#[c0, c1, .pointer (some ⟨n, 0, none⟩), c3, c4, .pointer (some ⟨p5, 0, none⟩), .slice (some ⟨g, o, none⟩) Ln C, c7, c8, c9, c10, c11, c12, c13, c14, c15, c16, c17, c18, c19, c20, c21, c22, c23, c24, c25, c26, c27, c28, c29, c30, c31, c32, c33, c34, c35, c36, c37, c38, c39, c40, c41, c42, c43, c44, c45, c46, c47, c48, c49, c50, c51, c52, c53, c54, c55, c56, c57, c58, c59, c60, c61, c62, c63, c64, c65, c66, c67, c68, c69, c70, c71, c72, c73, c74, c75, c76, c77, c78, c79, c80, c81, c82, c83, c84, c85, c86, c87, c88, c89, c90, c91, c92, c93, c94, c95, c96, c97, c98, c99, c100, c101, c102, c103, c104, c105, c106, c107, c108, c109, c110, c111, c112, c113, c114, c115, c116, c117, c118, c119, c120, c121, c122, c123, c124, c125, c126, c127, c128, c129, c130, c131, c132, c133, c134, c135, c136, c137, c138, c139, c140, c141, c142, c143, c144, c145, c146, c147, c148, c149, c150, c151, c152, c153, c154, c155, c156, c157, c158, c159, c160, c161, c162, c163, c164, c165, c166, c167, c168, c169, c170, c171, c172, c173, c174, c175, c176, c177, c178, c179, c180, c181, c182, c183, c184, c185, c186, c187, c188, c189, c190, c191, c192, c193, c194, c195, c196, c197, c198, c199, c200, c201, c202, c203, c204], []⟩ w := by
  conv => arg 2; whnf
  dsimp only at hQ ⊢
  have hz64 := zero_64
  have hz8 := zero_8
  have HQ := Lib.hid hQ
  clear hQ
  have hbw := (Below.refl w.heap.size w).alloc (Nat.le_refl _) (.cells (rowV 64 z32) 51)
  have hxc : ∀ j y, x[j]? = some y → (w.alloc (.cells (rowV 64 z32) 51)).cell? ⟨g, o + j, none⟩ = some (bv y) := fun j y hy => (World.cell?_alloc_lt w _ ⟨g, o + j, none⟩ hgw).trans (hcell j y hy)
  have hp5w : p5 < w.heap.size := hE.lt
  have hnw : n < w.heap.size := hB.lt
  have hEa := hE.below hbw hp5w
  have hBa := hB.below hbw hnw
  have HXC := Lib.hid hxc
  clear hcell hE hB hxc
  go_upto_block 2 with fail
  refine rs_b2 _ _ _ _ _ _ _ _ _ _ _ _ _ _ _ _ _ _ _ _ _ _ _ _ _ _ _ _ _ _ _ _ _ _ _ _ _ _ _ _ _ _ _ _ _ _ _ _ _ _ _ _ _ _ _ _ _ _ _ _ _ _ _ _ _ _ _ _ _ _ _ _ _ _ _ _ _ _ _ _ _ _ _ _ _ _ _ _ _ _ _ _ _ _ _ _ _ _ _ _ _ _ _ _ _ _ _ _ _ _ _ _ _ _ _ _ _ _ _ _ _ _ _ _ _ _ _ _ _ _ _ _ _ _ _ _ _ _ _ _ _ _ _ _ _ _ _ _ _ _ _ _ _ _ _ _ _ _ _ _ _ _ _ _ _ _ _ _ _ _ _ _ _ _ _ _ _ _ _ _ _ _ _ _ _ _ _ _ _ _ _ _ _ _ _ _ _ _ _ _ _ _ w.heap.size g o Ln C x (w.alloc (.cells (rowV 64 z32) 51)) hx hL hC hgw HXC.out ⟨_, heap_alloc_new _ _, rowV_size 64 z32, fun j hj => absurd hj (by omega)⟩ _ ?_
  intro u8 u9 u10 u35 u36 u37 u38 u39 u40 u41 u42 u43 u44 u45 u46 u47 u48 u49 u50 u51 u52 u53 u54 u55 u56 u57 u58 u59 u60 u61 u62 u63 u64 u65 u66 u67 u68 u69 u70 u71 u72 u73 u74 u75 u76 u77 u78 u79 u80 u81 u82 u83 u84 u85 u86 u87 u88 w3 hF3 hb3
  have hE4 := hEa.below hb3 hp5w
  have hB4 := hBa.below hb3 hnw
  have hb4 := hbw.trans hb3
  clear hEa hBa hb3 hbw HXC hz64
  have k0 := hE4.at_ 0 (by omega)
  have k1 := hE4.at_ 1 (by omega)
  have k2 := hE4.at_ 2 (by omega)
  have k3 := hE4.at_ 3 (by omega)
  have k4 := hE4.at_ 4 (by omega)
  have k5 := hE4.at_ 5 (by omega)
  have k6 := hE4.at_ 6 (by omega)
  have k7 := hE4.at_ 7 (by omega)
  simp only [eF, rv, St.at] at k0 k1 k2 k3 k4 k5 k6 k7
  obtain ⟨p3, hp3⟩ : ∃ p3, p3 = w.heap.size := ⟨_, rfl⟩
  rw [← hp3] at hF3 ⊢
  clear hp3
  go_wp2_with fail
  go_quiet (fail)
  clear k0 k1 k2 k3 k4 k5 k6 k7
  have HK4 : Hid (∀ i, i < 64 → (w3.drewN nq).cell? ⟨n, 8 + i, none⟩ = some (rv (kN i))) := fun i hi => by
    have := hB4.at_ (8 + i) (by omega)
    rw [bgT_k] at this
    exact this
  have HW4 : Hid (∀ i, i < 64 → (w3.drewN nq).cell? ⟨p3, i, none⟩ = some (rv (wF (wdsL x) i))) := fun i hi => hF3.at_ i hi
  have hE5 := hE4.drewN nq
  have hg5' := grown_of_below (below_drewN hb4 nq) (some p5)
  clear hE4 hB4 hb4 hF3
  generalize w3.drewN nq = w4 at *
  go_upto_block 4 with fail
  refine rs_b4 _ _ _ _ _ _ _ _ _ _ _ _ _ _ _ _ _ _ _ _ _ _ _ _ _ _ _ _ _ _ _ _ _ _ _ _ _ _ _ _ _ _ _ _ _ _ _ _ _ _ _ _ _ _ _ _ _ _ _ _ _ _ _ _ _ _ _ _ _ _ _ _ _ _ _ _ _ _ _ _ _ _ _ _ _ _ _ _ _ _ _ _ _ _ _ _ _ _ _ _ _ _ _ _ _ _ _ _ _ _ _ _ _ _ _ _ _ _ _ _ _ _ _ _ _ _ _ _ _ _ _ _ _ _ _ _ _ _ _ _ _ _ _ _ _ _ _ _ _ _ _ _ _ _ _ _ _ _ _ _ _ _ _ _ _ _ _ _ _ _ _ _ _ _ _ _ _ _ _ _ _ _ _ _ _ _ _ _ _ _ _ _ _ _ n p3 sk (wdsL x) w4 hsok HK4.out HW4.out _ ?_
  clear HK4 HW4
  have HM := Lib.hid (show mixS sk (wdsL x) = sk.plus (rnds sk (wl (wdsL x) 48) 64) from rfl)
  rw [HM.out] at HQ
  clear HM
  generalize rnds sk (wl (wdsL x) 48) 64 = r at *
  unfold rv
  intro u19 u20 u21 u105 u106 u107 u108 u109 u110 u111 u112 u113 u114 u115 u116 u117 u118 u119 u120 u121 u122 u123 u124 u125 u126 u127 u128 u129 u130 u131 u132 u133 u134 u135 u136 u137 u138 u139 u140 u141 u142 u143 u144 u145 u146 u147 u148 u149 u150 u151 u152 u153 u154 u155 u156 u157 u158 u159 u160 u161 u162 u163 u164 u165 u166 u167 u168 w5 hw5
  obtain ⟨m5, hw5⟩ := hw5
  have hE6 : Fill p5 50 8 8 (eF sk) w5 := by rw [hw5]; exact hE5.drewN m5
  have hg6 : w.grownBy w5 (some p5) := by rw [hw5]; exact grown_drewN hg5' m5
  clear hw5 hE5 hg5'
  have HEQ := Lib.hid (eight_row r)
  go_upto_block 6 with (refine wpList_store_row rfl 50 (.tmp 22) (.tmp 177) rfl w5.heap.size (rowV 8 (eF r)) rfl HEQ.out 50 (rowV 8 z32) (heap_alloc_new _ _) (row_size8 r) (row_zero8 r) (row_one r) ?_; rw [World.setRow_alloc_new])
  have hR6 : Fill w5.heap.size 50 8 8 (eF r) (w5.alloc (.cells (rowV 8 (eF r)) 50)) := Fill.of_row (heap_alloc_new _ _)
  have hba := (Below.refl w5.heap.size w5).alloc (Nat.le_refl _) (.cells (rowV 8 (eF r)) 50)
  have hE7 := hE6.below hba hE6.lt
  have hg7 := grown_below hg6 hba
  have hne : p5 ≠ w5.heap.size := Nat.ne_of_lt hE6.lt
  clear hE6 hg6 hba
  generalize w5.alloc (.cells (rowV 8 (eF r)) 50) = w6 at *
  generalize w5.heap.size = p22 at *
  refine rs_b6 _ _ _ _ _ _ _ _ _ _ _ _ _ _ _ _ _ _ _ _ _ _ _ _ _ _ _ _ _ _ _ _ _ _ _ _ _ _ _ _ _ _ _ _ _ _ _ _ _ _ _ _ _ _ _ _ _ _ _ _ _ _ _ _ _ _ _ _ _ _ _ _ _ _ _ _ _ _ _ _ _ _ _ _ _ _ _ _ _ _ _ _ _ _ _ _ _ _ _ _ _ _ _ _ _ _ _ _ _ _ _ _ _ _ _ _ _ _ _ _ _ _ _ _ _ _ _ _ _ _ _ _ _ _ _ _ _ _ _ _ _ _ _ _ _ _ _ _ _ _ _ _ _ _ _ _ _ _ _ _ _ _ _ _ _ _ _ _ _ _ _ _ _ _ _ _ _ _ _ _ _ _ _ _ _ _ _ _ _ _ _ _ _ _ _ _ _ _ _ _ _ _ p5 p22 sk r w6 hne hE7 hR6 _ ?_
  intro u23 u178 u179 u180 u181 u182 u183 u184 u185 u186 u187 u188 u189 u190 w7 hE8 hg8
  have hg9 := hg7.trans hg8
  clear hE7 hR6 hg7 hg8
  go_wp2_with fail
  exact HQ.out _ _ _ _ _ _ _ _ _ _ _ _ _ _ _ _ _ _ _ _ _ _ _ _ _ _ _ _ _ _ _ _ _ _ _ _ _ _ _ _ _ _ _ _ _ _ _ _ _ _ _ _ _ _ _ _ _ _ _ _ _ _ _ _ _ _ _ _ _ _ _ _ _ _ _ _ _ _ _ _ _ _ _ _ _ _ _ _ _ _ _ _ _ _ _ _ _ _ _ _ _ _ _ _ _ _ _ _ _ _ _ _ _ _ _ _ _ _ _ _ _ _ _ _ _ _ _ _ _ _ _ _ _ _ _ _ _ _ _ _ _ _ _ _ _ _ _ _ _ _ _ _ _ _ _ _ _ _ _ _ _ _ _ _ _ _ _ _ _ _ _ _ _ _ hE8 hg9
end Go.Proofs.YthjeanjodhafjaaDoor
