/- The regions of mix's first loop. -/
import Derived.Test.YthjeanjodhafjaaDoorCode
namespace Go.Proofs.YthjeanjodhafjaaDoor
open Go.ChangeShapes Go.WideShapes Go.ChangeAt Go.RowKit
set_option linter.unusedVariables false

noncomputable def mixR9 : Code := ((Tryd.f43.body.bind (regionOf 9))).getD .skip
set_option maxRecDepth 1000000 in
set_option maxHeartbeats 4000000 in
theorem mix_r9 (c0 c1 c2 c3 c4 c5 c8 c9 c10 c11 c12 c13 c14 c15 c16 c17 c18 c19 c20 c21 c22 c23 c24 c25 c26 c27 c28 c29 c30 c31 c32 c33 c34 c35 c36 c37 c38 c39 c40 c41 c42 c43 c44 c45 c46 c47 c48 c49 c50 c51 c52 c53 c54 c55 c56 c57 c58 c59 c60 c61 c62 c63 c64 c65 c66 c67 c68 c69 c70 c71 c72 c73 c74 c75 c76 c77 c78 c79 c80 c81 c82 c83 c84 c85 c86 c87 c88 c89 c90 c91 c92 c93 c94 c95 c96 c97 c98 c99 c100 c101 c102 c103 c104 c105 c106 c107 c108 c109 c110 c111 c112 c113 c114 c115 c116 c117 c118 c119 c120 c121 c122 c123 c124 c125 c126 c127 c128 c129 c130 c131 c132 c133 c134 c135 c136 c137 c138 c139 c140 c141 c142 c143 c144 c145 c146 c147 c148 c149 c150 c151 c152 c153 c154 c155 c156 c157 c158 c159 c160 c161 c162 c163 c164 c165 c166 c167 c168 c169 : Value) (p3 t a1 : Nat) (f : Nat → Nat) (W w : World) (ht1 : 16 ≤ t) (hlt : t < 64) (hF : Fill p3 51 64 t (fun j => rv (f j)) w) (hc : w.cell? ⟨p3, t, none⟩ = some (.int .u32 (a1 : Int))) (hb : Below p3 W w)
    (Q : Exit → Act → World → Prop) (hQ : ∀ (u48 u49 u50 u51 u52 u53 u54 u55 u56 : Value) (w' : World), Hid (Fill p3 51 64 t (fun j => rv (f j)) w) → w' = (w.setCell ⟨p3, t, none⟩ (.int .u32 (ad a1 (f (t - 7)) : Nat))).drew → Q .normal ⟨#[c0, c1, c2, c3, c4, c5, .pointer (some ⟨p3, 0, none⟩), .int .i64 (t : Int), c8, c9, c10, c11, c12, c13, c14, c15, c16, c17, c18, c19, c20, c21, c22, c23, c24, c25, c26, c27, c28, c29, c30, c31, c32, c33, c34, c35, c36, c37, c38, c39, c40, c41, c42, c43, c44, c45, c46, c47, u48, u49, u50, u51, u52, u53, u54, u55, u56, c57, c58, c59, c60, c61, c62, c63, c64, c65, c66, c67, c68, c69, c70, c71, c72, c73, c74, c75, c76, c77, c78, c79, c80, c81, c82, c83, c84, c85, c86, c87, c88, c89, c90, c91, c92, c93, c94, c95, c96, c97, c98, c99, c100, c101, c102, c103, c104, c105, c106, c107, c108, c109, c110, c111, c112, c113, c114, c115, c116, c117, c118, c119, c120, c121, c122, c123, c124, c125, c126, c127, c128, c129, c130, c131, c132, c133, c134, c135, c136, c137, c138, c139, c140, c141, c142, c143, c144, c145, c146, c147, c148, c149, c150, c151, c152, c153, c154, c155, c156, c157, c158, c159, c160, c161, c162, c163, c164, c165, c166, c167, c168, c169], []⟩ w') :
    Code.wp Tryd.prog mixR9 Q ⟨#[c0, c1, c2, c3, c4, c5, .pointer (some ⟨p3, 0, none⟩), .int .i64 (t : Int), c8, c9, c10, c11, c12, c13, c14, c15, c16, c17, c18, c19, c20, c21, c22, c23, c24, c25, c26, c27, c28, c29, c30, c31, c32, c33, c34, c35, c36, c37, c38, c39, c40, c41, c42, c43, c44, c45, c46, c47, c48, c49, c50, c51, c52, c53, c54, c55, c56, c57, c58, c59, c60, c61, c62, c63, c64, c65, c66, c67, c68, c69, c70, c71, c72, c73, c74, c75, c76, c77, c78, c79, c80, c81, c82, c83, c84, c85, c86, c87, c88, c89, c90, c91, c92, c93, c94, c95, c96, c97, c98, c99, c100, c101, c102, c103, c104, c105, c106, c107, c108, c109, c110, c111, c112, c113, c114, c115, c116, c117, c118, c119, c120, c121, c122, c123, c124, c125, c126, c127, c128, c129, c130, c131, c132, c133, c134, c135, c136, c137, c138, c139, c140, c141, c142, c143, c144, c145, c146, c147, c148, c149, c150, c151, c152, c153, c154, c155, c156, c157, c158, c159, c160, c161, c162, c163, c164, c165, c166, c167, c168, c169], []⟩ w := by
  conv => arg 2; whnf
  dsimp only at hQ ⊢
  have hf := hF.frozen t
  have c7 := hF.at_ (t - 7) (by omega)
  have e2 := ad_rule a1 (f (t - 7))
  unfold rv at c7
  have HF := Lib.hid hF
  have HB := Lib.hid hb
  generalize ad a1 (f (t - 7)) = a2 at *
  generalize f (t - 7) = x7 at *
  clear hF hb
  go_region
  exact hQ _ _ _ _ _ _ _ _ _ _ HF rfl
noncomputable def mixR11 : Code := ((Tryd.f43.body.bind (regionOf 11))).getD .skip
set_option maxRecDepth 1000000 in
set_option maxHeartbeats 4000000 in
theorem mix_r11 (c0 c1 c2 c3 c4 c5 c8 c9 c10 c11 c12 c13 c14 c15 c16 c17 c18 c19 c20 c21 c22 c23 c24 c25 c26 c27 c28 c29 c30 c31 c32 c33 c34 c35 c36 c37 c38 c39 c40 c41 c42 c43 c44 c45 c46 c47 c48 c49 c50 c51 c52 c53 c54 c55 c56 c57 c58 c59 c60 c61 c62 c63 c64 c65 c66 c67 c68 c69 c70 c71 c72 c73 c74 c75 c76 c77 c78 c79 c80 c81 c82 c83 c84 c85 c86 c87 c88 c89 c90 c91 c92 c93 c94 c95 c96 c97 c98 c99 c100 c101 c102 c103 c104 c105 c106 c107 c108 c109 c110 c111 c112 c113 c114 c115 c116 c117 c118 c119 c120 c121 c122 c123 c124 c125 c126 c127 c128 c129 c130 c131 c132 c133 c134 c135 c136 c137 c138 c139 c140 c141 c142 c143 c144 c145 c146 c147 c148 c149 c150 c151 c152 c153 c154 c155 c156 c157 c158 c159 c160 c161 c162 c163 c164 c165 c166 c167 c168 c169 : Value) (p3 t a1 : Nat) (f : Nat → Nat) (W w : World) (ht1 : 16 ≤ t) (hlt : t < 64) (hF : Fill p3 51 64 t (fun j => rv (f j)) w) (hc : w.cell? ⟨p3, t, none⟩ = some (.int .u32 (a1 : Int))) (hb : Below p3 W w)
    (Q : Exit → Act → World → Prop) (hQ : ∀ (u69 u70 u71 u72 u73 u74 u75 u76 u77 : Value) (w' : World), Hid (Fill p3 51 64 t (fun j => rv (f j)) w) → w' = (w.setCell ⟨p3, t, none⟩ (.int .u32 (ad a1 (f (t - 16)) : Nat))).drew → Q .normal ⟨#[c0, c1, c2, c3, c4, c5, .pointer (some ⟨p3, 0, none⟩), .int .i64 (t : Int), c8, c9, c10, c11, c12, c13, c14, c15, c16, c17, c18, c19, c20, c21, c22, c23, c24, c25, c26, c27, c28, c29, c30, c31, c32, c33, c34, c35, c36, c37, c38, c39, c40, c41, c42, c43, c44, c45, c46, c47, c48, c49, c50, c51, c52, c53, c54, c55, c56, c57, c58, c59, c60, c61, c62, c63, c64, c65, c66, c67, c68, u69, u70, u71, u72, u73, u74, u75, u76, u77, c78, c79, c80, c81, c82, c83, c84, c85, c86, c87, c88, c89, c90, c91, c92, c93, c94, c95, c96, c97, c98, c99, c100, c101, c102, c103, c104, c105, c106, c107, c108, c109, c110, c111, c112, c113, c114, c115, c116, c117, c118, c119, c120, c121, c122, c123, c124, c125, c126, c127, c128, c129, c130, c131, c132, c133, c134, c135, c136, c137, c138, c139, c140, c141, c142, c143, c144, c145, c146, c147, c148, c149, c150, c151, c152, c153, c154, c155, c156, c157, c158, c159, c160, c161, c162, c163, c164, c165, c166, c167, c168, c169], []⟩ w') :
    Code.wp Tryd.prog mixR11 Q ⟨#[c0, c1, c2, c3, c4, c5, .pointer (some ⟨p3, 0, none⟩), .int .i64 (t : Int), c8, c9, c10, c11, c12, c13, c14, c15, c16, c17, c18, c19, c20, c21, c22, c23, c24, c25, c26, c27, c28, c29, c30, c31, c32, c33, c34, c35, c36, c37, c38, c39, c40, c41, c42, c43, c44, c45, c46, c47, c48, c49, c50, c51, c52, c53, c54, c55, c56, c57, c58, c59, c60, c61, c62, c63, c64, c65, c66, c67, c68, c69, c70, c71, c72, c73, c74, c75, c76, c77, c78, c79, c80, c81, c82, c83, c84, c85, c86, c87, c88, c89, c90, c91, c92, c93, c94, c95, c96, c97, c98, c99, c100, c101, c102, c103, c104, c105, c106, c107, c108, c109, c110, c111, c112, c113, c114, c115, c116, c117, c118, c119, c120, c121, c122, c123, c124, c125, c126, c127, c128, c129, c130, c131, c132, c133, c134, c135, c136, c137, c138, c139, c140, c141, c142, c143, c144, c145, c146, c147, c148, c149, c150, c151, c152, c153, c154, c155, c156, c157, c158, c159, c160, c161, c162, c163, c164, c165, c166, c167, c168, c169], []⟩ w := by
  conv => arg 2; whnf
  dsimp only at hQ ⊢
  have hf := hF.frozen t
  have c7 := hF.at_ (t - 16) (by omega)
  have e2 := ad_rule a1 (f (t - 16))
  unfold rv at c7
  have HF := Lib.hid hF
  have HB := Lib.hid hb
  generalize ad a1 (f (t - 16)) = a2 at *
  generalize f (t - 16) = x7 at *
  clear hF hb
  go_region
  exact hQ _ _ _ _ _ _ _ _ _ _ HF rfl
noncomputable def mixR10 : Code := ((Tryd.f43.body.bind (regionOf 10))).getD .skip
set_option maxRecDepth 1000000 in
set_option maxHeartbeats 4000000 in
theorem mix_r10 (c0 c1 c2 c3 c4 c8 c10 c11 c12 c13 c14 c15 c16 c17 c18 c19 c20 c21 c22 c23 c24 c25 c26 c27 c28 c29 c30 c31 c32 c33 c34 c35 c36 c37 c38 c39 c40 c41 c42 c43 c44 c45 c46 c47 c48 c49 c50 c51 c52 c53 c54 c55 c56 c57 c58 c59 c60 c61 c62 c63 c64 c65 c66 c67 c68 c69 c70 c71 c72 c73 c74 c75 c76 c77 c78 c79 c80 c81 c82 c83 c84 c85 c86 c87 c88 c89 c90 c91 c92 c93 c94 c95 c96 c97 c98 c99 c100 c101 c102 c103 c104 c105 c106 c107 c108 c109 c110 c111 c112 c113 c114 c115 c116 c117 c118 c119 c120 c121 c122 c123 c124 c125 c126 c127 c128 c129 c130 c131 c132 c133 c134 c135 c136 c137 c138 c139 c140 c141 c142 c143 c144 c145 c146 c147 c148 c149 c150 c151 c152 c153 c154 c155 c156 c157 c158 c159 c160 c161 c162 c163 c164 c165 c166 c167 c168 c169 : Value) (p3 t a2 x15 : Nat) (f : Nat → Nat) (w4 : World) (hlt : t < 64) (l15 : x15 < 4294967296) (hF4 : Fill p3 51 64 t (fun j => rv (f j)) w4) (hc4 : w4.cell? ⟨p3, t, none⟩ = some (.int .u32 (a2 : Int)))
    (Q : Exit → Act → World → Prop) (hQ : ∀ (u57 u58 u59 u60 u61 u62 u63 u64 u65 u66 u67 u68 : Value) (w' : World), w' = (w4.drew.alloc (.cells #[.int .i64 7, .int .i64 18] 3)).setCell ⟨p3, t, none⟩ (.int .u32 (ad a2 (xo (turns x15 [7, 18]) (x15 / 8)) : Nat)) → Q .normal ⟨#[c0, c1, c2, c3, c4, .func (.func 45) #[] #[], .pointer (some ⟨p3, 0, none⟩), .int .i64 (t : Int), c8, .int .u32 (x15 : Int), c10, c11, c12, c13, c14, c15, c16, c17, c18, c19, c20, c21, c22, c23, c24, c25, c26, c27, c28, c29, c30, c31, c32, c33, c34, c35, c36, c37, c38, c39, c40, c41, c42, c43, c44, c45, c46, c47, c48, c49, c50, c51, c52, c53, c54, c55, c56, u57, u58, u59, u60, u61, u62, u63, u64, u65, u66, u67, u68, c69, c70, c71, c72, c73, c74, c75, c76, c77, c78, c79, c80, c81, c82, c83, c84, c85, c86, c87, c88, c89, c90, c91, c92, c93, c94, c95, c96, c97, c98, c99, c100, c101, c102, c103, c104, c105, c106, c107, c108, c109, c110, c111, c112, c113, c114, c115, c116, c117, c118, c119, c120, c121, c122, c123, c124, c125, c126, c127, c128, c129, c130, c131, c132, c133, c134, c135, c136, c137, c138, c139, c140, c141, c142, c143, c144, c145, c146, c147, c148, c149, c150, c151, c152, c153, c154, c155, c156, c157, c158, c159, c160, c161, c162, c163, c164, c165, c166, c167, c168, c169], []⟩ w') :
    Code.wp Tryd.prog mixR10 Q ⟨#[c0, c1, c2, c3, c4, .func (.func 45) #[] #[], .pointer (some ⟨p3, 0, none⟩), .int .i64 (t : Int), c8, .int .u32 (x15 : Int), c10, c11, c12, c13, c14, c15, c16, c17, c18, c19, c20, c21, c22, c23, c24, c25, c26, c27, c28, c29, c30, c31, c32, c33, c34, c35, c36, c37, c38, c39, c40, c41, c42, c43, c44, c45, c46, c47, c48, c49, c50, c51, c52, c53, c54, c55, c56, c57, c58, c59, c60, c61, c62, c63, c64, c65, c66, c67, c68, c69, c70, c71, c72, c73, c74, c75, c76, c77, c78, c79, c80, c81, c82, c83, c84, c85, c86, c87, c88, c89, c90, c91, c92, c93, c94, c95, c96, c97, c98, c99, c100, c101, c102, c103, c104, c105, c106, c107, c108, c109, c110, c111, c112, c113, c114, c115, c116, c117, c118, c119, c120, c121, c122, c123, c124, c125, c126, c127, c128, c129, c130, c131, c132, c133, c134, c135, c136, c137, c138, c139, c140, c141, c142, c143, c144, c145, c146, c147, c148, c149, c150, c151, c152, c153, c154, c155, c156, c157, c158, c159, c160, c161, c162, c163, c164, c165, c166, c167, c168, c169], []⟩ w4 := by
  conv => arg 2; whnf
  dsimp only at hQ ⊢
  have hp4 := hF4.lt
  have k1 : (w4.drew.alloc (.cells #[.int .i64 7, .int .i64 18] 3)).cell? ⟨p3, t, none⟩ = some (.int .u32 (a2 : Int)) := (World.cell?_alloc_lt w4.drew _ ⟨p3, t, none⟩ hp4).trans hc4
  have f1 : (w4.drew.alloc (.cells #[.int .i64 7, .int .i64 18] 3)).frozen? ⟨p3, t, none⟩ = false := (World.frozen?_alloc_past (w := w4.drew) _ p3 t hp4).trans (hF4.frozen t)
  have e3 : bits .xor .u32 ((turns x15 [7, 18] : Nat) : Int) ((x15 : Int) / 8) = ((xo (turns x15 [7, 18]) (x15 / 8) : Nat) : Int) := xo_sh _ _ 8
  have HU := Lib.hid (turned2 x15 7 18 w4.drew l15 (by omega) (by omega))
  generalize xo (turns x15 [7, 18]) (x15 / 8) = a3 at *
  generalize turns x15 [7, 18] = y3 at *
  have e4 := ad_rule a2 a3
  have e4w := ad_wrap a2 a3
  generalize ad a2 a3 = a4 at *
  have hf4 := hF4.frozen t
  clear hF4
  have hlt' : (t : Int) < 64 := by omega
  refine wp_region_noPanic ?_
  go_region_law (first | (go_simp; go_at_call 45; refine HU.out.mono ?_; rintro e w5 ⟨rfl, hw5⟩; have hw6 : w4.drew.alloc (.cells #[.int .i64 7, .int .i64 18] 3) = w5 := hw5; have k5 : w5.cell? ⟨p3, t, none⟩ = some (.int .u32 (a2 : Int)) := hw6 ▸ k1; have f5 : w5.frozen? ⟨p3, t, none⟩ = false := hw6 ▸ f1; have H5 := Lib.hid hw6; clear hw5 hw6))
  all_goals refine NoPanic.normal ?_
  all_goals exact hQ _ _ _ _ _ _ _ _ _ _ _ _ _ (by rw [H5.out])
noncomputable def mixR17 : Code := ((Tryd.f43.body.bind (regionOf 17))).getD .skip
set_option maxRecDepth 1000000 in
set_option maxHeartbeats 4000000 in
theorem mix_r17 (c0 c1 c2 c3 c4 c6 c7 c8 c9 c10 c11 c12 c13 c21 c22 c23 c24 c25 c26 c27 c28 c29 c30 c31 c32 c33 c34 c35 c36 c37 c38 c39 c40 c41 c42 c43 c44 c45 c46 c47 c48 c49 c50 c51 c52 c53 c54 c55 c56 c57 c58 c59 c60 c61 c62 c63 c64 c65 c66 c67 c68 c69 c70 c71 c72 c73 c74 c75 c76 c77 c78 c79 c80 c81 c82 c83 c84 c85 c86 c87 c88 c89 c90 c91 c92 c93 c94 c95 c96 c97 c98 c99 c100 c101 c102 c103 c104 c105 c106 c107 c108 c109 c110 c111 c112 c113 c114 c115 c116 c117 c118 c119 c120 c121 c122 c123 c124 c125 c126 c127 c128 c129 c130 c131 c132 c133 c134 c135 c136 c137 c138 c139 c140 c141 c142 c143 c144 c145 c146 c147 c148 c149 c150 c151 c152 c153 c154 c155 c156 c157 c158 c159 c160 c161 c162 c163 c164 c165 c166 c167 c168 c169 c20 : Value) (r : St) (t kt wt : Nat) (wr : World) (hlt : t < 64) (he : r.e < 4294967296) (hk : wr.cell? ⟨1, t, none⟩ = some (.int .u32 (kt : Int))) (hsz : 1 < wr.heap.size)
    (Q : Exit → Act → World → Prop) (hQ : ∀ (u99 u100 u101 u102 u103 u104 u105 u106 u107 u108 u109 u110 u111 u112 u113 u114 u115 u116 u117 u118 u119 : Value) (w' : World), w' = (wr.alloc (.cells #[.int .i64 6, .int .i64 11, .int .i64 25] 3)).drew → Q .normal ⟨#[c0, c1, c2, c3, c4, .func (.func 45) #[] #[], c6, c7, c8, c9, c10, c11, c12, c13, .int .u32 (r.e : Int), .int .u32 (r.f : Int), .int .u32 (r.g : Int), .int .u32 (r.h : Int), .int .i64 (t : Int), .int .u32 (wt : Int), .int .u32 (sumA r kt wt : Nat), c21, c22, c23, c24, c25, c26, c27, c28, c29, c30, c31, c32, c33, c34, c35, c36, c37, c38, c39, c40, c41, c42, c43, c44, c45, c46, c47, c48, c49, c50, c51, c52, c53, c54, c55, c56, c57, c58, c59, c60, c61, c62, c63, c64, c65, c66, c67, c68, c69, c70, c71, c72, c73, c74, c75, c76, c77, c78, c79, c80, c81, c82, c83, c84, c85, c86, c87, c88, c89, c90, c91, c92, c93, c94, c95, c96, c97, c98, u99, u100, u101, u102, u103, u104, u105, u106, u107, u108, u109, u110, u111, u112, u113, u114, u115, u116, u117, u118, u119, c120, c121, c122, c123, c124, c125, c126, c127, c128, c129, c130, c131, c132, c133, c134, c135, c136, c137, c138, c139, c140, c141, c142, c143, c144, c145, c146, c147, c148, c149, c150, c151, c152, c153, c154, c155, c156, c157, c158, c159, c160, c161, c162, c163, c164, c165, c166, c167, c168, c169], []⟩ w') :
    Code.wp Tryd.prog mixR17 Q ⟨#[c0, c1, c2, c3, c4, .func (.func 45) #[] #[], c6, c7, c8, c9, c10, c11, c12, c13, .int .u32 (r.e : Int), .int .u32 (r.f : Int), .int .u32 (r.g : Int), .int .u32 (r.h : Int), .int .i64 (t : Int), .int .u32 (wt : Int), c20, c21, c22, c23, c24, c25, c26, c27, c28, c29, c30, c31, c32, c33, c34, c35, c36, c37, c38, c39, c40, c41, c42, c43, c44, c45, c46, c47, c48, c49, c50, c51, c52, c53, c54, c55, c56, c57, c58, c59, c60, c61, c62, c63, c64, c65, c66, c67, c68, c69, c70, c71, c72, c73, c74, c75, c76, c77, c78, c79, c80, c81, c82, c83, c84, c85, c86, c87, c88, c89, c90, c91, c92, c93, c94, c95, c96, c97, c98, c99, c100, c101, c102, c103, c104, c105, c106, c107, c108, c109, c110, c111, c112, c113, c114, c115, c116, c117, c118, c119, c120, c121, c122, c123, c124, c125, c126, c127, c128, c129, c130, c131, c132, c133, c134, c135, c136, c137, c138, c139, c140, c141, c142, c143, c144, c145, c146, c147, c148, c149, c150, c151, c152, c153, c154, c155, c156, c157, c158, c159, c160, c161, c162, c163, c164, c165, c166, c167, c168, c169], []⟩ wr := by
  conv => arg 2; whnf
  dsimp only at hQ ⊢
  have k0 : wr.drew.cell? ⟨1, t, none⟩ = some (.int .u32 (kt : Int)) := hk
  have k1 : (wr.drew.alloc (.cells #[.int .i64 6, .int .i64 11, .int .i64 25] 3)).cell? ⟨1, t, none⟩ = some (.int .u32 (kt : Int)) := (World.cell?_alloc_lt wr.drew _ ⟨1, t, none⟩ hsz).trans k0
  have HU := Lib.hid (turned3 r.e 6 11 25 wr.drew he (by omega) (by omega) (by omega))
  have HA := Lib.hid (show sumA r kt wt = ad (ad (ad (ad r.h (turns r.e [6, 11, 25])) (xo (an r.e r.f) (an (xo 4294967295 r.e) r.g))) kt) wt from rfl)
  rw [HA.out] at hQ
  clear HA
  generalize turns r.e [6, 11, 25] = T at *
  have e1 := ad_wrap r.h T
  have e2 := an_rule r.e r.f
  have e3 : bits .xor .u32 IntKind.u32.max (r.e : Int) = ((xo 4294967295 r.e : Nat) : Int) := xo_rule 4294967295 r.e
  generalize ad r.h T = A1 at *
  generalize an r.e r.f = X1 at *
  generalize xo 4294967295 r.e = X2 at *
  have e4 := an_rule X2 r.g
  generalize an X2 r.g = X3 at *
  have e5 := xo_rule X1 X3
  generalize xo X1 X3 = X4 at *
  have e6 := ad_wrap A1 X4
  generalize ad A1 X4 = A2 at *
  have e7 := ad_wrap A2 kt
  generalize ad A2 kt = A3 at *
  have e8 := ad_wrap A3 wt
  generalize ad A3 wt = A4 at *
  have HQ := Lib.hid hQ
  clear hQ
  have hlt' : (t : Int) < 64 := by omega
  go_region_held3 (fun u => u.cell? ⟨1, t, none⟩ = some (.int .u32 (kt : Int))) (first | exact k0 | exact k1)
    (first
      | (go_at_call 45; (refine HU.out.mono ?_); rintro e w7 ⟨rfl, rfl⟩))
  exact HQ.out _ _ _ _ _ _ _ _ _ _ _ _ _ _ _ _ _ _ _ _ _ _ rfl
end Go.Proofs.YthjeanjodhafjaaDoor
