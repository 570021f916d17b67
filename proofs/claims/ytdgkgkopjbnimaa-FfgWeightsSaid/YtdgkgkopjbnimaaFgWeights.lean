/- FfgWeights: every two weights. -/
import Derived.Test.YtdgkgkopjbnimaaFgWeigh
namespace Go.Proofs.Ytdgkgkopjbnimaa
open Go.RowKit
set_option linter.unusedVariables false
set_option maxRecDepth 100000

noncomputable def fw_r4C : Code := ((Try.f3.body.bind (regionOf 4))).getD .skip
set_option maxRecDepth 1000000 in
set_option maxHeartbeats 4000000 in
theorem fw_r4 (c0 c1 c2 c3 c4 c5 c7 c9 c10 c11 c12 c13 c14 c15 c16 c17 c18 c19 c20 c21 c22 c23 c24 c25 c26 c27 c28 c29 c30 c31 c32 c33 c34 c35 c36 c37 c38 c39 c40 c41 c42 c43 c44 c45 c46 c47 c48 c49 c50 c51 c52 c53 c54 c55 c56 c57 c58 c59 c60 c61 c62 c63 c64 c65 c66 c67 c68 c69 c70 c71 c72 c73 c74 c75 c76 c77 c78 c79 : Value) (w : World) (a : Nat) (ha : a < 18446744073709551616)
    (Q : Exit → Act → World → Prop) (hQ : ∀ (u26 u27 u28 u29 u30 u31 u32 u33 u34 : Value) (w' : World), w' = w → Q .normal ⟨#[c0, c1, c2, c3, c4, c5, .int .u64 ((a : Int) / 4294967296), c7, .int .u64 ((a : Int) % 4294967296), c9, .int .u64 (((3 * a / 4294967296 : Nat) : Int)), .int .u64 (((3 * a % 4294967296 : Nat) : Int)), c12, c13, c14, c15, c16, c17, c18, c19, c20, c21, c22, c23, c24, c25, u26, u27, u28, u29, u30, u31, u32, u33, u34, c35, c36, c37, c38, c39, c40, c41, c42, c43, c44, c45, c46, c47, c48, c49, c50, c51, c52, c53, c54, c55, c56, c57, c58, c59, c60, c61, c62, c63, c64, c65, c66, c67, c68, c69, c70, c71, c72, c73, c74, c75, c76, c77, c78, c79], []⟩ w') :
    Code.wp Try.prog fw_r4C Q ⟨#[c0, c1, c2, c3, c4, c5, .int .u64 ((a : Int) / 4294967296), c7, .int .u64 ((a : Int) % 4294967296), c9, c10, c11, c12, c13, c14, c15, c16, c17, c18, c19, c20, c21, c22, c23, c24, c25, c26, c27, c28, c29, c30, c31, c32, c33, c34, c35, c36, c37, c38, c39, c40, c41, c42, c43, c44, c45, c46, c47, c48, c49, c50, c51, c52, c53, c54, c55, c56, c57, c58, c59, c60, c61, c62, c63, c64, c65, c66, c67, c68, c69, c70, c71, c72, c73, c74, c75, c76, c77, c78, c79], []⟩ w := by
  conv => arg 2; whnf
  try dsimp only at hQ ⊢
  go_wp2_with fail
  simp (disch := omega) only [maskI]
  rw [show (3 * ((a : Int) / 4294967296) + 3 * ((a : Int) % 4294967296) / 4294967296) = ((3 * a / 4294967296 : Nat) : Int) by omega, show (3 * ((a : Int) % 4294967296) % 4294967296) = ((3 * a % 4294967296 : Nat) : Int) by omega]
  exact hQ _ _ _ _ _ _ _ _ _ _ rfl
noncomputable def fw_r5C : Code := ((Try.f3.body.bind (regionOf 5))).getD .skip
set_option maxRecDepth 1000000 in
set_option maxHeartbeats 4000000 in
theorem fw_r5 (c0 c1 c2 c3 c4 c5 c6 c8 c10 c11 c12 c13 c14 c15 c16 c17 c18 c19 c20 c21 c22 c23 c24 c25 c26 c27 c28 c29 c30 c31 c32 c33 c34 c35 c36 c37 c38 c39 c40 c41 c42 c43 c44 c45 c46 c47 c48 c49 c50 c51 c52 c53 c54 c55 c56 c57 c58 c59 c60 c61 c62 c63 c64 c65 c66 c67 c68 c69 c70 c71 c72 c73 c74 c75 c76 c77 c78 c79 : Value) (w : World) (b : Nat) (hb : b < 18446744073709551616)
    (Q : Exit → Act → World → Prop) (hQ : ∀ (u35 u36 u37 u38 u39 u40 u41 u42 u43 : Value) (w' : World), w' = w → Q .normal ⟨#[c0, c1, c2, c3, c4, c5, c6, .int .u64 ((b : Int) / 4294967296), c8, .int .u64 ((b : Int) % 4294967296), c10, c11, .int .u64 (((2 * b / 4294967296 : Nat) : Int)), .int .u64 (((2 * b % 4294967296 : Nat) : Int)), c14, c15, c16, c17, c18, c19, c20, c21, c22, c23, c24, c25, c26, c27, c28, c29, c30, c31, c32, c33, c34, u35, u36, u37, u38, u39, u40, u41, u42, u43, c44, c45, c46, c47, c48, c49, c50, c51, c52, c53, c54, c55, c56, c57, c58, c59, c60, c61, c62, c63, c64, c65, c66, c67, c68, c69, c70, c71, c72, c73, c74, c75, c76, c77, c78, c79], []⟩ w') :
    Code.wp Try.prog fw_r5C Q ⟨#[c0, c1, c2, c3, c4, c5, c6, .int .u64 ((b : Int) / 4294967296), c8, .int .u64 ((b : Int) % 4294967296), c10, c11, c12, c13, c14, c15, c16, c17, c18, c19, c20, c21, c22, c23, c24, c25, c26, c27, c28, c29, c30, c31, c32, c33, c34, c35, c36, c37, c38, c39, c40, c41, c42, c43, c44, c45, c46, c47, c48, c49, c50, c51, c52, c53, c54, c55, c56, c57, c58, c59, c60, c61, c62, c63, c64, c65, c66, c67, c68, c69, c70, c71, c72, c73, c74, c75, c76, c77, c78, c79], []⟩ w := by
  conv => arg 2; whnf
  try dsimp only at hQ ⊢
  go_wp2_with fail
  simp (disch := omega) only [maskI]
  rw [show (2 * ((b : Int) / 4294967296) + 2 * ((b : Int) % 4294967296) / 4294967296) = ((2 * b / 4294967296 : Nat) : Int) by omega, show (2 * ((b : Int) % 4294967296) % 4294967296) = ((2 * b % 4294967296 : Nat) : Int) by omega]
  exact hQ _ _ _ _ _ _ _ _ _ _ rfl
noncomputable def fw_r6C : Code := ((Try.f3.body.bind (regionOf 6))).getD .skip
set_option maxRecDepth 1000000 in
set_option maxHeartbeats 4000000 in
theorem fw_r6 (c1 c2 c3 c4 c5 c6 c7 c8 c9 c14 c15 c16 c17 c18 c19 c20 c21 c22 c23 c24 c25 c26 c27 c28 c29 c30 c31 c32 c33 c34 c35 c36 c37 c38 c39 c40 c41 c42 c43 c44 c45 c46 c47 c48 c49 c50 c51 c52 c53 c54 c55 c56 c57 c58 c59 c60 c61 c62 c63 c64 c65 c66 c67 c68 c69 c70 c71 c72 c73 c74 c75 c76 c77 c78 c79 : Value) (w : World) (a b h3 l3 h2 l2 : Nat) (E : Hid (h3 = 3 * a / 4294967296 ∧ l3 = 3 * a % 4294967296 ∧ h2 = 2 * b / 4294967296 ∧ l2 = 2 * b % 4294967296))
    (Q : Exit → Act → World → Prop) (hQ : ∀ (u44 u45 u46 u47 u48 u49 u50 u51 u52 u53 u54 u55 u56 u57 u58 u59 u60 : Value) (w' : World), w' = w → Q .normal ⟨#[.int .u64 (a : Int), c1, c2, c3, c4, c5, c6, c7, c8, c9, .int .u64 (h3 : Int), .int .u64 (l3 : Int), .int .u64 (h2 : Int), .int .u64 (l2 : Int), .bool (strongN a b), c15, c16, c17, c18, c19, c20, c21, c22, c23, c24, c25, c26, c27, c28, c29, c30, c31, c32, c33, c34, c35, c36, c37, c38, c39, c40, c41, c42, c43, u44, u45, u46, u47, u48, u49, u50, u51, u52, u53, u54, u55, u56, u57, u58, u59, u60, c61, c62, c63, c64, c65, c66, c67, c68, c69, c70, c71, c72, c73, c74, c75, c76, c77, c78, c79], []⟩ w') :
    Code.wp Try.prog fw_r6C Q ⟨#[.int .u64 (a : Int), c1, c2, c3, c4, c5, c6, c7, c8, c9, .int .u64 (h3 : Int), .int .u64 (l3 : Int), .int .u64 (h2 : Int), .int .u64 (l2 : Int), c14, c15, c16, c17, c18, c19, c20, c21, c22, c23, c24, c25, c26, c27, c28, c29, c30, c31, c32, c33, c34, c35, c36, c37, c38, c39, c40, c41, c42, c43, c44, c45, c46, c47, c48, c49, c50, c51, c52, c53, c54, c55, c56, c57, c58, c59, c60, c61, c62, c63, c64, c65, c66, c67, c68, c69, c70, c71, c72, c73, c74, c75, c76, c77, c78, c79], []⟩ w := by
  conv => arg 2; whnf
  try dsimp only at hQ ⊢
  by_cases c1 : 1 ≤ a
  · have d1 : decide ((a : Int) ≥ 1) = true := by simp; omega
    have d1' : decide (1 ≤ (a : Int)) = true := by simp; omega
    by_cases c2 : h2 < h3
    · have d2 : decide ((h3 : Int) > (h2 : Int)) = true := by simp; omega
      have d2' : decide ((h2 : Int) < (h3 : Int)) = true := by simp; omega
      go_wp2_with fail
      rw [show strongN a b = true from decide_eq_true (by have := E.out; omega)] at hQ
      exact hQ _ _ _ _ _ _ _ _ _ _ _ _ _ _ _ _ _ _ rfl
    · have d2 : decide ((h3 : Int) > (h2 : Int)) = false := by simp; omega
      have d2' : decide ((h2 : Int) < (h3 : Int)) = false := by simp; omega
      by_cases c3 : h3 = h2
      · have d3 : ((h3 : Int) == (h2 : Int)) = true := by rw [beq_iff_eq]; omega
        have d3' : decide ((h3 : Int) = (h2 : Int)) = true := by simp; omega
        by_cases c4 : l2 ≤ l3
        · have d4 : decide ((l3 : Int) ≥ (l2 : Int)) = true := by simp; omega
          have d4' : decide ((l2 : Int) ≤ (l3 : Int)) = true := by simp; omega
          go_wp2_with fail
          rw [show strongN a b = true from decide_eq_true (by have := E.out; omega)] at hQ
          exact hQ _ _ _ _ _ _ _ _ _ _ _ _ _ _ _ _ _ _ rfl
        · have d4 : decide ((l3 : Int) ≥ (l2 : Int)) = false := by simp; omega
          have d4' : decide ((l2 : Int) ≤ (l3 : Int)) = false := by simp; omega
          go_wp2_with fail
          rw [show strongN a b = false from decide_eq_false (by have := E.out; omega)] at hQ
          exact hQ _ _ _ _ _ _ _ _ _ _ _ _ _ _ _ _ _ _ rfl
      · have d3 : ((h3 : Int) == (h2 : Int)) = false := by rw [beq_eq_false_iff_ne]; omega
        have d3' : decide ((h3 : Int) = (h2 : Int)) = false := by simp; omega
        go_wp2_with fail
        rw [show strongN a b = false from decide_eq_false (by have := E.out; omega)] at hQ
        exact hQ _ _ _ _ _ _ _ _ _ _ _ _ _ _ _ _ _ _ rfl
  · have d1 : decide ((a : Int) ≥ 1) = false := by simp; omega
    have d1' : decide (1 ≤ (a : Int)) = false := by simp; omega
    go_wp2_with fail
    rw [show strongN a b = false from decide_eq_false (by omega)] at hQ
    exact hQ _ _ _ _ _ _ _ _ _ _ _ _ _ _ _ _ _ _ rfl
set_option maxRecDepth 1000000 in
set_option maxHeartbeats 8000000 in
theorem ffgWeights_any (a b : Nat) (ha : a < 18446744073709551616) (hb : b < 18446744073709551616) (w : World) : Calls Try.prog 3 #[.int .u64 (a : Int), .int .u64 (b : Int)] w fun e w' => e = .returned (.bool true) ∧ Below w.heap.size w w' := by
  have m1 := Mul64.maskN a ha
  have m2 := Mul64.maskN b hb
  have HA := Lib.hid ha
  have HB := Lib.hid hb
  clear ha hb
  go_enter Try.func3, Try.ntmps3
  go_wp2_with fail
  refine (strongW_c a b HA.out HB.out w).mono ?_
  rintro e w1 ⟨rfl, rfl⟩
  go_upto_region 4 with fail
  refine fw_r4 _ _ _ _ _ _ _ _ _ _ _ _ _ _ _ _ _ _ _ _ _ _ _ _ _ _ _ _ _ _ _ _ _ _ _ _ _ _ _ _ _ _ _ _ _ _ _ _ _ _ _ _ _ _ _ _ _ _ _ _ _ _ _ _ _ _ _ _ _ _ _ _ _ _ _ _ _ _ w1 a HA.out _ ?_
  rintro t26 t27 t28 t29 t30 t31 t32 t33 t34 w2 rfl
  go_upto_region 5 with fail
  refine fw_r5 _ _ _ _ _ _ _ _ _ _ _ _ _ _ _ _ _ _ _ _ _ _ _ _ _ _ _ _ _ _ _ _ _ _ _ _ _ _ _ _ _ _ _ _ _ _ _ _ _ _ _ _ _ _ _ _ _ _ _ _ _ _ _ _ _ _ _ _ _ _ _ _ _ _ _ _ _ _ w2 b HB.out _ ?_
  rintro t35 t36 t37 t38 t39 t40 t41 t42 t43 w3 rfl
  go_upto_region 6 with fail
  refine fw_r6 _ _ _ _ _ _ _ _ _ _ _ _ _ _ _ _ _ _ _ _ _ _ _ _ _ _ _ _ _ _ _ _ _ _ _ _ _ _ _ _ _ _ _ _ _ _ _ _ _ _ _ _ _ _ _ _ _ _ _ _ _ _ _ _ _ _ _ _ _ _ _ _ _ _ _ w3 a b _ _ _ _ (Lib.hid ⟨rfl, rfl, rfl, rfl⟩) _ ?_
  rintro t44 t45 t46 t47 t48 t49 t50 t51 t52 t53 t54 t55 t56 t57 t58 t59 t60 w4 rfl
  have CK := Lib.hid (known_c w4)
  have d9 : (strongN a b == strongN a b) = true := beq_self_eq_true _
  have d8 : (strongN a b != strongN a b) = false := by simp
  clear m1 m2
  by_cases c1 : a < 2305843009213693952
  · have d1 : decide ((a : Int) < 2305843009213693952) = true := by simp; omega
    by_cases c2 : b < 2305843009213693952
    · have d2 : decide ((b : Int) < 2305843009213693952) = true := by simp; omega
      go_wp2_with fail
      refine (refStrongW_c a b c1 c2 w4).mono ?_
      rintro e w5 ⟨rfl, rfl⟩
      go_wp2_with fail
      refine CK.out.mono ?_
      rintro e w6 ⟨rfl, b6⟩
      go_wp2_with fail
      go_ret
      exact ⟨rfl, b6⟩
    · have d2 : decide ((b : Int) < 2305843009213693952) = false := by simp; omega
      go_wp2_with fail
      refine CK.out.mono ?_
      rintro e w5 ⟨rfl, b5⟩
      go_wp2_with fail
      go_ret
      exact ⟨rfl, b5⟩
  · have d1 : decide ((a : Int) < 2305843009213693952) = false := by simp; omega
    go_wp2_with fail
    refine CK.out.mono ?_
    rintro e w5 ⟨rfl, b5⟩
    go_wp2_with fail
    go_ret
    exact ⟨rfl, b5⟩
end Go.Proofs.Ytdgkgkopjbnimaa
