/- The regions and loops of the reference's Sum. -/
import Derived.Test.YthjeanjodhafjaaDoorRefPut
namespace Go.Proofs.YthjeanjodhafjaaDoor
open Go.ChangeShapes Go.WideShapes Go.ChangeAt Go.RowKit
set_option linter.unusedVariables false

/-- The block of a text that bears a number. -/
def blockOf (i : Nat) : Code → Option Code
  | .block n c => if n = i then some (.block n c) else blockOf i c
  | .seq a b => match blockOf i a with
    | some c => some c
    | none => blockOf i b
  | .cond _ a b => match blockOf i a with
    | some c => some c
    | none => blockOf i b
  | .loop c => blockOf i c
  | .scope c => blockOf i c
  | _ => none
theorem rot_same (x n : Nat) (w : World) (hx : x < 4294967296) (h1 : 1 ≤ n) (h2 : n ≤ 31) :
    Calls Tryd.prog 34 #[.int .u32 (x : Int), .int .u64 (n : Int)] w fun e w' => e = .returned (rv (rotr x n)) ∧ w' = w :=
  (rot_any x n w hx h1 h2).mono fun _ _ h => ⟨h.1, h.2.symm⟩
theorem rv_rot (x n : Nat) : rv (rotr x n) = .int .u32 (rotr x n : Nat) := rfl

noncomputable def rsR12 : Code := ((Tryd.f25.body.bind (regionOf 12))).getD .skip
set_option maxRecDepth 1000000 in
set_option maxHeartbeats 4000000 in
theorem rs_r12 (c0 c1 c2 c3 c4 c5 c6 c11 c12 c13 c14 c15 c16 c17 c18 c19 c20 c21 c22 c23 c24 c25 c26 c27 c28 c29 c30 c31 c32 c33 c34 c35 c36 c37 c38 c39 c40 c41 c42 c43 c44 c45 c46 c47 c48 c49 c50 c51 c52 c53 c54 c55 c56 c57 c58 c59 c60 c61 c62 c63 c64 c65 c66 c67 c68 c69 c70 c71 c72 c73 c74 c75 c76 c77 c78 c79 c80 c81 c82 c83 c84 c85 c86 c87 c88 c89 c90 c91 c92 c93 c94 c95 c96 c97 c98 c99 c100 c101 c102 c103 c104 c105 c106 c107 c108 c109 c110 c111 c112 c113 c114 c115 c116 c117 c118 c119 c120 c121 c122 c123 c124 c125 c126 c127 c128 c129 c130 c131 c132 c133 c134 c135 c136 c137 c138 c139 c140 c141 c142 c143 c144 c145 c146 c147 c148 c149 c150 c151 c152 c153 c154 c155 c156 c157 c158 c159 c160 c161 c162 c163 c164 c165 c166 c167 c168 c169 c170 c171 c172 c173 c174 c175 c176 c177 c178 c179 c180 c181 c182 c183 c184 c185 c186 c187 c188 c189 c190 c191 c192 c193 c194 c195 c196 c197 c198 c199 c200 c201 c202 c203 c204 : Value) (p3 t x2 x15 : Nat) (f : Nat → Nat) (w : World) (ht1 : 16 ≤ t) (hlt : t < 64) (l2 : x2 < 4294967296) (l15 : x15 < 4294967296) (hF : Fill p3 51 64 t (fun j => rv (f j)) w)
    (Q : Exit → Act → World → Prop) (hQ : ∀ (u60 u61 u62 u63 u64 u65 u66 u67 u68 u69 u70 u71 u72 u73 u74 u75 u76 u77 u78 u79 u80 u81 u82 u83 u84 u85 u86 u87 u88 : Value) (w' : World), w' = w.drew.setCell ⟨p3, t, none⟩ (.int .u32 (ad (ad (ad (xo (xo (rotr x2 17) (rotr x2 19)) (x2 / 1024)) (f (t - 7))) (xo (xo (rotr x15 7) (rotr x15 18)) (x15 / 8))) (f (t - 16)) : Nat)) → Q .normal ⟨#[c0, c1, c2, c3, c4, c5, c6, .pointer (some ⟨p3, 0, none⟩), .int .i64 (t : Int), .int .u32 (x2 : Int), .int .u32 (x15 : Int), c11, c12, c13, c14, c15, c16, c17, c18, c19, c20, c21, c22, c23, c24, c25, c26, c27, c28, c29, c30, c31, c32, c33, c34, c35, c36, c37, c38, c39, c40, c41, c42, c43, c44, c45, c46, c47, c48, c49, c50, c51, c52, c53, c54, c55, c56, c57, c58, c59, u60, u61, u62, u63, u64, u65, u66, u67, u68, u69, u70, u71, u72, u73, u74, u75, u76, u77, u78, u79, u80, u81, u82, u83, u84, u85, u86, u87, u88, c89, c90, c91, c92, c93, c94, c95, c96, c97, c98, c99, c100, c101, c102, c103, c104, c105, c106, c107, c108, c109, c110, c111, c112, c113, c114, c115, c116, c117, c118, c119, c120, c121, c122, c123, c124, c125, c126, c127, c128, c129, c130, c131, c132, c133, c134, c135, c136, c137, c138, c139, c140, c141, c142, c143, c144, c145, c146, c147, c148, c149, c150, c151, c152, c153, c154, c155, c156, c157, c158, c159, c160, c161, c162, c163, c164, c165, c166, c167, c168, c169, c170, c171, c172, c173, c174, c175, c176, c177, c178, c179, c180, c181, c182, c183, c184, c185, c186, c187, c188, c189, c190, c191, c192, c193, c194, c195, c196, c197, c198, c199, c200, c201, c202, c203, c204], []⟩ w') :
    Code.wp Tryd.prog rsR12 Q ⟨#[c0, c1, c2, c3, c4, c5, c6, .pointer (some ⟨p3, 0, none⟩), .int .i64 (t : Int), .int .u32 (x2 : Int), .int .u32 (x15 : Int), c11, c12, c13, c14, c15, c16, c17, c18, c19, c20, c21, c22, c23, c24, c25, c26, c27, c28, c29, c30, c31, c32, c33, c34, c35, c36, c37, c38, c39, c40, c41, c42, c43, c44, c45, c46, c47, c48, c49, c50, c51, c52, c53, c54, c55, c56, c57, c58, c59, c60, c61, c62, c63, c64, c65, c66, c67, c68, c69, c70, c71, c72, c73, c74, c75, c76, c77, c78, c79, c80, c81, c82, c83, c84, c85, c86, c87, c88, c89, c90, c91, c92, c93, c94, c95, c96, c97, c98, c99, c100, c101, c102, c103, c104, c105, c106, c107, c108, c109, c110, c111, c112, c113, c114, c115, c116, c117, c118, c119, c120, c121, c122, c123, c124, c125, c126, c127, c128, c129, c130, c131, c132, c133, c134, c135, c136, c137, c138, c139, c140, c141, c142, c143, c144, c145, c146, c147, c148, c149, c150, c151, c152, c153, c154, c155, c156, c157, c158, c159, c160, c161, c162, c163, c164, c165, c166, c167, c168, c169, c170, c171, c172, c173, c174, c175, c176, c177, c178, c179, c180, c181, c182, c183, c184, c185, c186, c187, c188, c189, c190, c191, c192, c193, c194, c195, c196, c197, c198, c199, c200, c201, c202, c203, c204], []⟩ w := by
  conv => arg 2; whnf
  dsimp only at hQ ⊢
  obtain ⟨u0, hu0, hf0⟩ := hF.cell t hlt
  have k7 := hF.at_ (t - 7) (by omega)
  have k16 := hF.at_ (t - 16) (by omega)
  have hlt' : (t : Int) < 64 := by omega
  have C1 := Lib.hid (fun u => rot_same x2 17 u l2 (by omega) (by omega))
  have C2 := Lib.hid (fun u => rot_same x2 19 u l2 (by omega) (by omega))
  have C3 := Lib.hid (fun u => rot_same x15 7 u l15 (by omega) (by omega))
  have C4 := Lib.hid (fun u => rot_same x15 18 u l15 (by omega) (by omega))
  unfold rv at k7 k16 C1 C2 C3 C4
  have e1 := xo_rule (rotr x2 17) (rotr x2 19)
  have e2 : bits .xor .u32 ((xo (rotr x2 17) (rotr x2 19) : Nat) : Int) ((x2 : Int) / 1024) = ((xo (xo (rotr x2 17) (rotr x2 19)) (x2 / 1024) : Nat) : Int) := xo_sh _ _ 1024
  generalize xo (xo (rotr x2 17) (rotr x2 19)) (x2 / 1024) = a1 at *
  generalize xo (rotr x2 17) (rotr x2 19) = a2 at *
  have e3 := xo_rule (rotr x15 7) (rotr x15 18)
  have e4 : bits .xor .u32 ((xo (rotr x15 7) (rotr x15 18) : Nat) : Int) ((x15 : Int) / 8) = ((xo (xo (rotr x15 7) (rotr x15 18)) (x15 / 8) : Nat) : Int) := xo_sh _ _ 8
  generalize xo (xo (rotr x15 7) (rotr x15 18)) (x15 / 8) = a3 at *
  generalize xo (rotr x15 7) (rotr x15 18) = a4 at *
  generalize rotr x2 17 = b1 at *
  generalize rotr x2 19 = b2 at *
  generalize rotr x15 7 = b3 at *
  generalize rotr x15 18 = b4 at *
  generalize f (t - 7) = y7 at *
  generalize f (t - 16) = y16 at *
  have e5 := ad_wrap a1 y7
  generalize ad a1 y7 = a5 at *
  have e6 := ad_wrap a5 a3
  generalize ad a5 a3 = a6 at *
  have e7 := ad_wrap a6 y16
  generalize ad a6 y16 = a7 at *
  have HQ := Lib.hid hQ
  have w7 : IntKind.i64.wrap ((t : Int) - 7) = (t : Int) - 7 := IntWalk.i64_in _ (by omega)
  have w16 : IntKind.i64.wrap ((t : Int) - 16) = (t : Int) - 16 := IntWalk.i64_in _ (by omega)
  have q7 : (7 : Int) ≤ (t : Int) := by omega
  have q16 : (16 : Int) ≤ (t : Int) := by omega
  have m7 : (t : Int) - 7 < 64 := by omega
  have m16 : (t : Int) - 16 < 64 := by omega
  have z7 : ((t : Int) - 7).toNat = t - 7 := by omega
  have z16 : ((t : Int) - 16).toNat = t - 16 := by omega
  clear hQ hF
  refine wp_region_still_tail 29 (by kernel_rfl) (by kernel_rfl) ?_
  simp only [List.take_succ_cons, List.take_zero, List.drop_succ_cons, List.drop_zero]
  iterate 2 (refine wpStill_step (fun K hK => ?_); go_simp; refine hK _ ?_; clear hK K)
  refine wpStill_step (fun K hK => ?_); go_simp; refine ⟨_, C1.out _, hK _ ?_⟩; clear hK K
  iterate 1 (refine wpStill_step (fun K hK => ?_); go_simp; refine hK _ ?_; clear hK K)
  refine wpStill_step (fun K hK => ?_); go_simp; refine ⟨_, C2.out _, hK _ ?_⟩; clear hK K
  iterate 10 (refine wpStill_step (fun K hK => ?_); go_simp; refine hK _ ?_; clear hK K)
  refine wpStill_step (fun K hK => ?_); go_simp; refine ⟨_, C3.out _, hK _ ?_⟩; clear hK K
  iterate 1 (refine wpStill_step (fun K hK => ?_); go_simp; refine hK _ ?_; clear hK K)
  refine wpStill_step (fun K hK => ?_); go_simp; refine ⟨_, C4.out _, hK _ ?_⟩; clear hK K
  iterate 11 (refine wpStill_step (fun K hK => ?_); go_simp; refine hK _ ?_; clear hK K)
  refine wpStill_nil ?_
  go_wp2_with fail
  exact HQ.out _ _ _ _ _ _ _ _ _ _ _ _ _ _ _ _ _ _ _ _ _ _ _ _ _ _ _ _ _ _ rfl
end Go.Proofs.YthjeanjodhafjaaDoor
