/- The reference's Sum: the rounds of a block. -/
import Derived.Test.YthjeanjodhafjaaDoorRsWords
namespace Go.Proofs.YthjeanjodhafjaaDoor
open Go.ChangeShapes Go.WideShapes Go.ChangeAt Go.RowKit
set_option linter.unusedVariables false

noncomputable def rsR17 : Code := ((Tryd.f25.body.bind (regionOf 17))).getD .skip
set_option maxRecDepth 1000000 in
set_option maxHeartbeats 4000000 in
theorem rs_r17 (c0 c1 c3 c4 c5 c6 c8 c9 c10 c11 c12 c13 c14 c20 c21 c22 c23 c24 c25 c26 c27 c28 c29 c30 c31 c32 c33 c34 c35 c36 c37 c38 c39 c40 c41 c42 c43 c44 c45 c46 c47 c48 c49 c50 c51 c52 c53 c54 c55 c56 c57 c58 c59 c60 c61 c62 c63 c64 c65 c66 c67 c68 c69 c70 c71 c72 c73 c74 c75 c76 c77 c78 c79 c80 c81 c82 c83 c84 c85 c86 c87 c88 c89 c90 c91 c92 c93 c94 c95 c96 c97 c98 c99 c100 c101 c102 c103 c104 c105 c106 c107 c108 c109 c110 c111 c112 c113 c114 c115 c116 c117 c118 c119 c120 c121 c122 c123 c124 c125 c126 c127 c128 c129 c130 c131 c132 c133 c134 c135 c136 c137 c138 c139 c140 c141 c142 c143 c144 c145 c146 c147 c148 c149 c150 c151 c152 c153 c154 c155 c156 c157 c158 c159 c160 c161 c162 c163 c164 c165 c166 c167 c168 c169 c170 c171 c172 c173 c174 c175 c176 c177 c178 c179 c180 c181 c182 c183 c184 c185 c186 c187 c188 c189 c190 c191 c192 c193 c194 c195 c196 c197 c198 c199 c200 c201 c202 c203 c204 : Value) (n p3 t kt wt : Nat) (r : St) (w : World) (hlt : t < 64) (he : r.e < 4294967296) (hk : w.cell? ⟨n, 8 + t, none⟩ = some (.int .u32 (kt : Int))) (hw : w.cell? ⟨p3, t, none⟩ = some (.int .u32 (wt : Int)))
    (Q : Exit → Act → World → Prop) (hQ : ∀ (u109 u110 u111 u112 u113 u114 u115 u116 u117 u118 u119 u120 u121 u122 u123 u124 u125 u126 u127 u128 u129 u130 u131 u132 u133 u134 u135 u136 : Value) (w' : World), w' = w.drew → Q .normal ⟨#[c0, c1, .pointer (some ⟨n, 0, none⟩), c3, c4, c5, c6, .pointer (some ⟨p3, 0, none⟩), c8, c9, c10, c11, c12, c13, c14, .int .u32 (r.e : Int), .int .u32 (r.f : Int), .int .u32 (r.g : Int), .int .u32 (r.h : Int), .int .i64 (t : Int), .int .u32 (sumA r kt wt : Nat), c21, c22, c23, c24, c25, c26, c27, c28, c29, c30, c31, c32, c33, c34, c35, c36, c37, c38, c39, c40, c41, c42, c43, c44, c45, c46, c47, c48, c49, c50, c51, c52, c53, c54, c55, c56, c57, c58, c59, c60, c61, c62, c63, c64, c65, c66, c67, c68, c69, c70, c71, c72, c73, c74, c75, c76, c77, c78, c79, c80, c81, c82, c83, c84, c85, c86, c87, c88, c89, c90, c91, c92, c93, c94, c95, c96, c97, c98, c99, c100, c101, c102, c103, c104, c105, c106, c107, c108, u109, u110, u111, u112, u113, u114, u115, u116, u117, u118, u119, u120, u121, u122, u123, u124, u125, u126, u127, u128, u129, u130, u131, u132, u133, u134, u135, u136, c137, c138, c139, c140, c141, c142, c143, c144, c145, c146, c147, c148, c149, c150, c151, c152, c153, c154, c155, c156, c157, c158, c159, c160, c161, c162, c163, c164, c165, c166, c167, c168, c169, c170, c171, c172, c173, c174, c175, c176, c177, c178, c179, c180, c181, c182, c183, c184, c185, c186, c187, c188, c189, c190, c191, c192, c193, c194, c195, c196, c197, c198, c199, c200, c201, c202, c203, c204], []⟩ w') :
    Code.wp Tryd.prog rsR17 Q ⟨#[c0, c1, .pointer (some ⟨n, 0, none⟩), c3, c4, c5, c6, .pointer (some ⟨p3, 0, none⟩), c8, c9, c10, c11, c12, c13, c14, .int .u32 (r.e : Int), .int .u32 (r.f : Int), .int .u32 (r.g : Int), .int .u32 (r.h : Int), .int .i64 (t : Int), c20, c21, c22, c23, c24, c25, c26, c27, c28, c29, c30, c31, c32, c33, c34, c35, c36, c37, c38, c39, c40, c41, c42, c43, c44, c45, c46, c47, c48, c49, c50, c51, c52, c53, c54, c55, c56, c57, c58, c59, c60, c61, c62, c63, c64, c65, c66, c67, c68, c69, c70, c71, c72, c73, c74, c75, c76, c77, c78, c79, c80, c81, c82, c83, c84, c85, c86, c87, c88, c89, c90, c91, c92, c93, c94, c95, c96, c97, c98, c99, c100, c101, c102, c103, c104, c105, c106, c107, c108, c109, c110, c111, c112, c113, c114, c115, c116, c117, c118, c119, c120, c121, c122, c123, c124, c125, c126, c127, c128, c129, c130, c131, c132, c133, c134, c135, c136, c137, c138, c139, c140, c141, c142, c143, c144, c145, c146, c147, c148, c149, c150, c151, c152, c153, c154, c155, c156, c157, c158, c159, c160, c161, c162, c163, c164, c165, c166, c167, c168, c169, c170, c171, c172, c173, c174, c175, c176, c177, c178, c179, c180, c181, c182, c183, c184, c185, c186, c187, c188, c189, c190, c191, c192, c193, c194, c195, c196, c197, c198, c199, c200, c201, c202, c203, c204], []⟩ w := by
  conv => arg 2; whnf
  dsimp only at hQ ⊢
  have hlt' : (t : Int) < 64 := by omega
  have k0 : w.drew.cell? ⟨n, 8 + t, none⟩ = some (.int .u32 (kt : Int)) := hk
  have k1 : w.drew.cell? ⟨p3, t, none⟩ = some (.int .u32 (wt : Int)) := hw
  have C1 := Lib.hid (fun u => rot_same r.e 6 u he (by omega) (by omega))
  have C2 := Lib.hid (fun u => rot_same r.e 11 u he (by omega) (by omega))
  have C3 := Lib.hid (fun u => rot_same r.e 25 u he (by omega) (by omega))
  have HA := Lib.hid (show sumA r kt wt = ad (ad (ad (ad r.h (turns r.e [6, 11, 25])) (xo (an r.e r.f) (an (xo 4294967295 r.e) r.g))) kt) wt from rfl)
  rw [HA.out, turns3 _ _ _ _ (rotr_lt he (by omega))] at hQ
  unfold rv at C1 C2 C3
  clear HA hk hw
  have g1 := xo_rule (rotr r.e 6) (rotr r.e 11)
  have g2 := xo_rule (xo (rotr r.e 6) (rotr r.e 11)) (rotr r.e 25)
  generalize xo (xo (rotr r.e 6) (rotr r.e 11)) (rotr r.e 25) = T at *
  generalize xo (rotr r.e 6) (rotr r.e 11) = T1 at *
  generalize rotr r.e 6 = b1 at *
  generalize rotr r.e 11 = b2 at *
  generalize rotr r.e 25 = b3 at *
  have e1 := ad_wrap r.h T
  have e2 := an_rule r.e r.f
  have e3 : bits .xor .u32 IntKind.u32.max (r.e : Int) = ((xo 4294967295 r.e : Nat) : Int) := xo_rule 4294967295 r.e
  generalize ad r.h T = A1 at *
  generalize an r.e r.f = X1 at *
  generalize xo 4294967295 r.e = X2 at *
  have e4 := an_rule X2 r.g
  generalize an X2 r.g = X3 at *
  have e5 := xo_rule X1 X3
  generalize xo X1 X3 = X4 at *
  have e6 := ad_wrap A1 X4
  generalize ad A1 X4 = A2 at *
  have e7 := ad_wrap A2 kt
  generalize ad A2 kt = A3 at *
  have e8 := ad_wrap A3 wt
  generalize ad A3 wt = A4 at *
  have hsg : IntKind.u32.signed = false := rfl
  have HQ := Lib.hid hQ
  clear hQ
  refine wp_region_still_lit (by kernel_rfl) (by kernel_rfl) ?_
  iterate 2 (refine wpStill_step (fun K hK => ?_); go_simp; refine hK _ ?_; clear hK K)
  refine wpStill_step (fun K hK => ?_); go_simp; refine ⟨_, C1.out _, hK _ ?_⟩; clear hK K
  iterate 1 (refine wpStill_step (fun K hK => ?_); go_simp; refine hK _ ?_; clear hK K)
  refine wpStill_step (fun K hK => ?_); go_simp; refine ⟨_, C2.out _, hK _ ?_⟩; clear hK K
  iterate 2 (refine wpStill_step (fun K hK => ?_); go_simp; refine hK _ ?_; clear hK K)
  refine wpStill_step (fun K hK => ?_); go_simp; refine ⟨_, C3.out _, hK _ ?_⟩; clear hK K
  iterate 21 (refine wpStill_step (fun K hK => ?_); go_simp; refine hK _ ?_; clear hK K)
  refine wpStill_nil ?_
  exact HQ.out _ _ _ _ _ _ _ _ _ _ _ _ _ _ _ _ _ _ _ _ _ _ _ _ _ _ _ _ _ rfl
noncomputable def rsB4 : Code := ((Tryd.f25.body.bind (blockOf 4))).getD .skip
set_option maxRecDepth 1000000 in
set_option maxHeartbeats 4000000 in
theorem rs_b4 (c0 c1 c3 c4 c5 c6 c8 c9 c10 c20 c21 c22 c23 c24 c25 c26 c27 c28 c29 c30 c31 c32 c33 c34 c35 c36 c37 c38 c39 c40 c41 c42 c43 c44 c45 c46 c47 c48 c49 c50 c51 c52 c53 c54 c55 c56 c57 c58 c59 c60 c61 c62 c63 c64 c65 c66 c67 c68 c69 c70 c71 c72 c73 c74 c75 c76 c77 c78 c79 c80 c81 c82 c83 c84 c85 c86 c87 c88 c89 c90 c91 c92 c93 c94 c95 c96 c97 c98 c99 c100 c101 c102 c103 c104 c105 c106 c107 c108 c109 c110 c111 c112 c113 c114 c115 c116 c117 c118 c119 c120 c121 c122 c123 c124 c125 c126 c127 c128 c129 c130 c131 c132 c133 c134 c135 c136 c137 c138 c139 c140 c141 c142 c143 c144 c145 c146 c147 c148 c149 c150 c151 c152 c153 c154 c155 c156 c157 c158 c159 c160 c161 c162 c163 c164 c165 c166 c167 c168 c169 c170 c171 c172 c173 c174 c175 c176 c177 c178 c179 c180 c181 c182 c183 c184 c185 c186 c187 c188 c189 c190 c191 c192 c193 c194 c195 c196 c197 c198 c199 c200 c201 c202 c203 c204 : Value) (n p3 : Nat) (s : St) (b : List Nat) (w : World) (hs : s.ok) (hk : ∀ i, i < 64 → w.cell? ⟨n, 8 + i, none⟩ = some (rv (kN i))) (hw : ∀ i, i < 64 → w.cell? ⟨p3, i, none⟩ = some (rv (wF b i)))
    (Q : Exit → Act → World → Prop) (hQ : ∀ (u19 u20 u21 u105 u106 u107 u108 u109 u110 u111 u112 u113 u114 u115 u116 u117 u118 u119 u120 u121 u122 u123 u124 u125 u126 u127 u128 u129 u130 u131 u132 u133 u134 u135 u136 u137 u138 u139 u140 u141 u142 u143 u144 u145 u146 u147 u148 u149 u150 u151 u152 u153 u154 u155 u156 u157 u158 u159 u160 u161 u162 u163 u164 u165 u166 u167 u168 : Value) (w' : World), (∃ m, w' = w.drewN m) → Q .normal ⟨#[c0, c1, .pointer (some ⟨n, 0, none⟩), c3, c4, c5, c6, .pointer (some ⟨p3, 0, none⟩), c8, c9, c10, rv (rnds s (wl b 48) 64).a, rv (rnds s (wl b 48) 64).b, rv (rnds s (wl b 48) 64).c, rv (rnds s (wl b 48) 64).d, rv (rnds s (wl b 48) 64).e, rv (rnds s (wl b 48) 64).f, rv (rnds s (wl b 48) 64).g, rv (rnds s (wl b 48) 64).h, u19, u20, u21, c22, c23, c24, c25, c26, c27, c28, c29, c30, c31, c32, c33, c34, c35, c36, c37, c38, c39, c40, c41, c42, c43, c44, c45, c46, c47, c48, c49, c50, c51, c52, c53, c54, c55, c56, c57, c58, c59, c60, c61, c62, c63, c64, c65, c66, c67, c68, c69, c70, c71, c72, c73, c74, c75, c76, c77, c78, c79, c80, c81, c82, c83, c84, c85, c86, c87, c88, c89, c90, c91, c92, c93, c94, c95, c96, c97, c98, c99, c100, c101, c102, c103, c104, u105, u106, u107, u108, u109, u110, u111, u112, u113, u114, u115, u116, u117, u118, u119, u120, u121, u122, u123, u124, u125, u126, u127, u128, u129, u130, u131, u132, u133, u134, u135, u136, u137, u138, u139, u140, u141, u142, u143, u144, u145, u146, u147, u148, u149, u150, u151, u152, u153, u154, u155, u156, u157, u158, u159, u160, u161, u162, u163, u164, u165, u166, u167, u168, c169, c170, c171, c172, c173, c174, c175, c176, c177, c178, c179, c180, c181, c182, c183, c184, c185, c186, c187, c188, c189, c190, c191, c192, c193, c194, c195, c196, c197, c198, c199, c200, c201, c202, c203, c204], []⟩ w') :
    Code.wp Tryd.prog rsB4 Q ⟨#[c0, c1, .pointer (some ⟨n, 0, none⟩), c3, c4, c5, c6, .pointer (some ⟨p3, 0, none⟩), c8, c9, c10, .int .u32 (s.a : Int), .int .u32 (s.b : Int), .int .u32 (s.c : Int), .int .u32 (s.d : Int), .int .u32 (s.e : Int), .int .u32 (s.f : Int), .int .u32 (s.g : Int), .int .u32 (s.h : Int), .int .i64 0, c20, c21, c22, c23, c24, c25, c26, c27, c28, c29, c30, c31, c32, c33, c34, c35, c36, c37, c38, c39, c40, c41, c42, c43, c44, c45, c46, c47, c48, c49, c50, c51, c52, c53, c54, c55, c56, c57, c58, c59, c60, c61, c62, c63, c64, c65, c66, c67, c68, c69, c70, c71, c72, c73, c74, c75, c76, c77, c78, c79, c80, c81, c82, c83, c84, c85, c86, c87, c88, c89, c90, c91, c92, c93, c94, c95, c96, c97, c98, c99, c100, c101, c102, c103, c104, c105, c106, c107, c108, c109, c110, c111, c112, c113, c114, c115, c116, c117, c118, c119, c120, c121, c122, c123, c124, c125, c126, c127, c128, c129, c130, c131, c132, c133, c134, c135, c136, c137, c138, c139, c140, c141, c142, c143, c144, c145, c146, c147, c148, c149, c150, c151, c152, c153, c154, c155, c156, c157, c158, c159, c160, c161, c162, c163, c164, c165, c166, c167, c168, c169, c170, c171, c172, c173, c174, c175, c176, c177, c178, c179, c180, c181, c182, c183, c184, c185, c186, c187, c188, c189, c190, c191, c192, c193, c194, c195, c196, c197, c198, c199, c200, c201, c202, c203, c204], []⟩ w := by
  conv => arg 2; whnf
  dsimp only at hQ ⊢
  have HQ := Lib.hid hQ
  have HK := Lib.hid hk
  have HW := Lib.hid hw
  clear hQ hk hw
  go_wp2_with fail
  go_loopw [11, 12, 13, 14, 15, 16, 17, 18, 19] (fun va vb vc vd ve vf vg vh i wr => ∃ t m : Nat, t ≤ 64 ∧ i = .int .i64 t ∧ va = rv (rnds s (wl b 48) t).a ∧ vb = rv (rnds s (wl b 48) t).b ∧ vc = rv (rnds s (wl b 48) t).c ∧ vd = rv (rnds s (wl b 48) t).d ∧ ve = rv (rnds s (wl b 48) t).e ∧ vf = rv (rnds s (wl b 48) t).f ∧ vg = rv (rnds s (wl b 48) t).g ∧ vh = rv (rnds s (wl b 48) t).h ∧ w.drewN m = wr) (fun _ _ _ _ _ _ _ _ i _ => 64 - (intOf i).toNat)
  case atStart => exact ⟨0, 0, by omega, rfl, rfl, rfl, rfl, rfl, rfl, rfl, rfl, rfl, rfl⟩
  case round =>
    obtain ⟨t, m, ht, rfl, rfl, rfl, rfl, rfl, rfl, rfl, rfl, rfl, rfl⟩ := hrel
    have ho := rnds_ok hs (wl b 48) t
    by_cases hlt : t < 64
    · have HR := Lib.hid (show rnds s (wl b 48) (t + 1) = rnd (rnds s (wl b 48) t) (kN t) (wF b t) from rfl)
      have hk := HK.out t hlt
      have hw := HW.out t hlt
      generalize rnds s (wl b 48) t = r at *
      unfold rv at hk hw ⊢
      obtain ⟨ha, hb', hc, hd, he, hf, hg, hh⟩ := ho
      generalize wF b t = wt at *
      generalize kN t = kt at *
      have hd64 : decide ((t : Int) < 64) = true := by simp; omega
      go_wp2_with fail
      refine rs_r17 _ _ _ _ _ _ _ _ _ _ _ _ _ _ _ _ _ _ _ _ _ _ _ _ _ _ _ _ _ _ _ _ _ _ _ _ _ _ _ _ _ _ _ _ _ _ _ _ _ _ _ _ _ _ _ _ _ _ _ _ _ _ _ _ _ _ _ _ _ _ _ _ _ _ _ _ _ _ _ _ _ _ _ _ _ _ _ _ _ _ _ _ _ _ _ _ _ _ _ _ _ _ _ _ _ _ _ _ _ _ _ _ _ _ _ _ _ _ _ _ _ _ _ _ _ _ _ _ _ _ _ _ _ _ _ _ _ _ _ _ _ _ _ _ _ _ _ _ _ _ _ _ _ _ _ _ _ _ _ _ _ _ _ _ _ _ _ _ _ _ _ _ _ _ _ _ _ _ _ _ _ _ _ _ _ _ _ _ _ _ _ _ _ _ _ _ _ _ n p3 t kt wt r (w.drewN m) hlt he hk hw _ ?_
      intro u109 u110 u111 u112 u113 u114 u115 u116 u117 u118 u119 u120 u121 u122 u123 u124 u125 u126 u127 u128 u129 u130 u131 u132 u133 u134 u135 u136 w7 hw7
      have HU1 := Lib.hid (rot_any r.a 2 w7 ha (by omega) (by omega))
      have HU2 := Lib.hid (rot_any r.a 13 w7 ha (by omega) (by omega))
      have HU3 := Lib.hid (rot_any r.a 22 w7 ha (by omega) (by omega))
      have HB := Lib.hid (show sumB r = ad (xo (xo (rotr r.a 2) (rotr r.a 13)) (rotr r.a 22)) (xo (xo (an r.a r.b) (an r.a r.c)) (an r.b r.c)) by rw [← turns3 _ _ _ _ (rotr_lt ha (by omega))]; rfl)
      have HD : Hid (w.drewN (m + 1) = w7) := by rw [hw7]; rfl
      have e0 := xo_rule (rotr r.a 2) (rotr r.a 13)
      have e1 := xo_rule (xo (rotr r.a 2) (rotr r.a 13)) (rotr r.a 22)
      unfold rv at HU1 HU2 HU3
      clear hw7 hk hw
      generalize xo (xo (rotr r.a 2) (rotr r.a 13)) (rotr r.a 22) = T2 at *
      generalize xo (rotr r.a 2) (rotr r.a 13) = T1 at *
      generalize rotr r.a 2 = b1 at *
      generalize rotr r.a 13 = b2 at *
      generalize rotr r.a 22 = b3 at *
      obtain ⟨A4, hA4⟩ : ∃ A4, A4 = sumA r kt wt := ⟨_, rfl⟩
      rw [← hA4]
      have HA := Lib.hid hA4.symm
      clear hA4
      go_wp2_with fail
      refine HU1.out.mono ?_
      rintro e w8 ⟨rfl, rfl⟩
      go_wp2_with fail
      refine HU2.out.mono ?_
      rintro e w8 ⟨rfl, rfl⟩
      go_wp2_with fail
      refine HU3.out.mono ?_
      rintro e w8 ⟨rfl, rfl⟩
      have e2 := an_rule r.a r.b
      have e3 := an_rule r.a r.c
      have e4 := an_rule r.b r.c
      generalize an r.a r.b = Y1 at *
      generalize an r.a r.c = Y2 at *
      generalize an r.b r.c = Y3 at *
      have e5 := xo_rule Y1 Y2
      generalize xo Y1 Y2 = Y4 at *
      have e6 := xo_rule Y4 Y3
      generalize xo Y4 Y3 = Y5 at *
      have e7 := ad_rule T2 Y5
      generalize ad T2 Y5 = B2 at *
      have e8 := ad_rule r.d A4
      have e9 := ad_rule A4 B2
      have H8 := Lib.hid (show (rnd r kt wt).e = ad r.d A4 from congrArg (ad r.d) HA.out)
      have H9 := Lib.hid (show (rnd r kt wt).a = ad A4 B2 by show ad (sumA r kt wt) (sumB r) = _; rw [HA.out, HB.out])
      generalize ad r.d A4 = Z8 at *
      generalize ad A4 B2 = Z9 at *
      go_wp2_with fail
      refine ⟨⟨t + 1, m + 1, by omega, by go_num, ?_, ?_, ?_, ?_, ?_, ?_, ?_, ?_, HD.out⟩, by simp [intOf]; omega⟩
      · rw [HR.out, e9]; exact (congrArg (fun x : Nat => Value.int .u32 (x : Int)) H9.out).symm
      · rw [HR.out]; rfl
      · rw [HR.out]; rfl
      · rw [HR.out]; rfl
      · rw [HR.out, e8]; exact (congrArg (fun x : Nat => Value.int .u32 (x : Int)) H8.out).symm
      · rw [HR.out]; rfl
      · rw [HR.out]; rfl
      · rw [HR.out]; rfl
    · obtain rfl : t = 64 := by omega
      go_wp2_with fail
      exact HQ.out _ _ _ _ _ _ _ _ _ _ _ _ _ _ _ _ _ _ _ _ _ _ _ _ _ _ _ _ _ _ _ _ _ _ _ _ _ _ _ _ _ _ _ _ _ _ _ _ _ _ _ _ _ _ _ _ _ _ _ _ _ _ _ _ _ _ _ _ ⟨m, rfl⟩
end Go.Proofs.YthjeanjodhafjaaDoor
