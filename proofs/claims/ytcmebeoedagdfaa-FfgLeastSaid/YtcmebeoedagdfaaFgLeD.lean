/- FgLeast: its other loops. -/
import Derived.Test.YtcmebeoedagdfaaFgLeR
import Derived.Test.YtcmebeoedagdfaaFgFolB
import Derived.Deep.CutBlock
import Derived.Deep.Cut
namespace Go.Proofs.Ytcmebeoedagdfaa
open Go.ChangeMaps Go.MapKept Go.Maps Go.WideElems Go.RowKit Go.ChangeShapes Go.WideShapes Go.ChangeAt
set_option linter.unusedVariables false
set_option maxRecDepth 100000

noncomputable def le_b0C : Code := ((Try.f7.body.bind (blockOf 0))).getD .skip
set_option maxRecDepth 1000000 in
set_option maxHeartbeats 8000000 in
theorem le_b0 (c0 c2 c3 c4 c6 c8 c9 c10 c11 c12 c13 c14 c15 c16 c17 c18 c19 c20 c21 c22 c23 c24 c25 c26 c27 c28 c29 c30 c31 c32 c33 c34 c35 c36 c37 c38 c39 c40 c41 c42 c43 c44 c45 c46 c47 c48 c49 c50 c51 c52 c53 c54 c55 c56 c57 c58 c59 c60 c61 c62 c63 c64 c65 c66 c67 c68 c69 c70 c71 c72 c73 c74 c75 c76 c77 c78 c79 c80 c81 c82 c83 c84 c85 c86 c87 c88 c89 c90 c91 c92 c93 c94 c95 c96 c97 c98 c99 c100 c101 c102 c103 c104 c105 c106 c107 c108 c109 c110 c111 c112 c113 c114 c115 c116 c117 c118 c119 c120 c121 c122 c123 c124 c125 c126 c127 c128 c129 c130 c131 c132 c133 c134 c135 c136 c137 c138 c139 c140 c141 c142 c143 c144 c145 c146 c147 c148 c149 c150 c151 c152 c153 : Value) (w w1 : World) (a : Pt) (g cI nI hz0 : Nat) (AI : Option Addr) (LI : List Lk) (F : Nat → Prop) (hnI : nI = LI.length) (h40 : nI ≤ 40) (hP : ∀ u, Below hz0 w1 u → ∀ (k : Nat) x, LI[k]? = some x → ∃ b o, AI = some ⟨b, o, none⟩ ∧ u.rangeAt b (o + k * 66) (lC x)) (hG : GadG a g F (S0 a) w) (hF : ∀ j, F j → hz0 ≤ j) (hz : hz0 ≤ w.heap.size) (hbz : Below hz0 w1 w)
    (Q : Exit → Act → World → Prop) (hQ : ∀ (u7 u35 u36 u37 u38 u39 u40 u41 u42 u43 u44 u45 u46 : Value) (w' : World), (∃ F' S', S'.told.length ≤ 40 ∧ GadG a g F' S' w' ∧ (∀ j, F' j → hz0 ≤ j) ∧ hz0 ≤ w'.heap.size ∧ Below hz0 w1 w') → Q .normal ⟨#[c0, .slice AI nI cI, c2, c3, c4, .pointer (some ⟨g, 0, none⟩), c6, u7, c8, c9, c10, c11, c12, c13, c14, c15, c16, c17, c18, c19, c20, c21, c22, c23, c24, c25, c26, c27, c28, c29, c30, c31, c32, c33, c34, u35, u36, u37, u38, u39, u40, u41, u42, u43, u44, u45, u46, c47, c48, c49, c50, c51, c52, c53, c54, c55, c56, c57, c58, c59, c60, c61, c62, c63, c64, c65, c66, c67, c68, c69, c70, c71, c72, c73, c74, c75, c76, c77, c78, c79, c80, c81, c82, c83, c84, c85, c86, c87, c88, c89, c90, c91, c92, c93, c94, c95, c96, c97, c98, c99, c100, c101, c102, c103, c104, c105, c106, c107, c108, c109, c110, c111, c112, c113, c114, c115, c116, c117, c118, c119, c120, c121, c122, c123, c124, c125, c126, c127, c128, c129, c130, c131, c132, c133, c134, c135, c136, c137, c138, c139, c140, c141, c142, c143, c144, c145, c146, c147, c148, c149, c150, c151, c152, c153], []⟩ w') :
    Code.wp Try.prog le_b0C Q ⟨#[c0, .slice AI nI cI, c2, c3, c4, .pointer (some ⟨g, 0, none⟩), c6, .int .i64 0, c8, c9, c10, c11, c12, c13, c14, c15, c16, c17, c18, c19, c20, c21, c22, c23, c24, c25, c26, c27, c28, c29, c30, c31, c32, c33, c34, c35, c36, c37, c38, c39, c40, c41, c42, c43, c44, c45, c46, c47, c48, c49, c50, c51, c52, c53, c54, c55, c56, c57, c58, c59, c60, c61, c62, c63, c64, c65, c66, c67, c68, c69, c70, c71, c72, c73, c74, c75, c76, c77, c78, c79, c80, c81, c82, c83, c84, c85, c86, c87, c88, c89, c90, c91, c92, c93, c94, c95, c96, c97, c98, c99, c100, c101, c102, c103, c104, c105, c106, c107, c108, c109, c110, c111, c112, c113, c114, c115, c116, c117, c118, c119, c120, c121, c122, c123, c124, c125, c126, c127, c128, c129, c130, c131, c132, c133, c134, c135, c136, c137, c138, c139, c140, c141, c142, c143, c144, c145, c146, c147, c148, c149, c150, c151, c152, c153], []⟩ w := by
  conv => arg 2; whnf
  try dsimp only at hQ ⊢
  have HQ := Lib.hid hQ
  have HPP := Lib.hid hP
  have HNI := Lib.hid hnI
  have HC := Lib.hid (And.intro hG (And.intro hF (And.intro hz hbz)))
  clear hQ hP hnI hG hF hz hbz
  go_wp2_with fail
  go_loopw [7] (fun v7 u => ∃ k F S, k ≤ nI ∧ v7 = .int .i64 (k : Int) ∧ S.told.length ≤ k ∧ GadG a g F S u ∧ (∀ j, F j → hz0 ≤ j) ∧ hz0 ≤ u.heap.size ∧ Below hz0 w1 u) (fun v7 _ => nI - (intOf v7).toNat)
  case atStart => exact ⟨0, F, S0 a, Nat.zero_le _, rfl, Nat.le_refl _, HC.out.1, HC.out.2.1, HC.out.2.2.1, HC.out.2.2.2⟩
  case round =>
    clear HC
    obtain ⟨k, F2, S2, hk, rfl, q0, q1, q2, q3, q4⟩ := hrel
    have C1 := Lib.hid (And.intro q1 (And.intro q2 (And.intro q3 q4)))
    have L1 := Lib.hid q0
    clear q0 q1 q2 q3 q4
    by_cases hkn : k < nI
    · obtain ⟨x, hx⟩ : ∃ x, LI[k]? = some x := ⟨_, List.getElem?_eq_getElem (by have := HNI.out; omega)⟩
      obtain ⟨b, o, rfl, kx⟩ := HPP.out wr C1.out.2.2.2 k x hx
      clear hx
      have CS := Lib.hid (strongG_c C1.out.1 x (by have := L1.out; omega))
      go_wp2_with (first
        | (refine wpList_load_mid rfl 36 (.tmp 44) rfl b (o + k * 66) (by go_simp) (lC x) _ kx Try.underlying36 rfl (by rw [size_lv]; rfl) ?_; rw [lC_arr])
        | fail)
      refine CS.out.mono ?_
      rintro e w3 ⟨er, F3, S3, rfl, _, g3, k3, f3, l3, _⟩
      have C3 : Hid (GadG a g F3 S3 w3 ∧ (∀ j, F3 j → hz0 ≤ j) ∧ hz0 ≤ w3.heap.size ∧ Below hz0 w1 w3) := ⟨g3, fun j hj => (f3 j hj).elim (C1.out.2.1 j) (fun e => Nat.le_trans C1.out.2.2.1 e), Nat.le_trans C1.out.2.2.1 k3.2.2.2.1, C1.out.2.2.2.trans (k3.below C1.out.2.2.1 C1.out.2.1)⟩
      have L3 := Lib.hid l3
      clear g3 k3 f3 l3 kx CS
      go_wp2_with fail
      exact ⟨⟨k + 1, F3, S3, by omega, by go_num, by have := L1.out; have := L3.out; omega, C3.out⟩, by simp [intOf]; omega⟩
    · obtain rfl : k = nI := by omega
      go_wp2_with fail
      exact HQ.out _ _ _ _ _ _ _ _ _ _ _ _ _ _ ⟨F2, S2, by have := L1.out; omega, C1.out⟩
noncomputable def le_b2C : Code := ((Try.f7.body.bind (blockOf 2))).getD .skip
set_option maxRecDepth 1000000 in
set_option maxHeartbeats 8000000 in
theorem le_b2 (c0 c1 c2 c3 c4 c6 c7 c10 c11 c12 c13 c14 c15 c16 c17 c18 c19 c20 c21 c22 c23 c24 c25 c26 c27 c28 c29 c30 c31 c32 c33 c34 c35 c36 c37 c38 c39 c40 c41 c42 c43 c44 c45 c46 c47 c48 c49 c50 c51 c52 c53 c54 c55 c56 c57 c58 c59 c60 c61 c62 c63 c64 c65 c66 c67 c68 c69 c70 c71 c72 c73 c74 c75 c76 c77 c78 c79 c80 c81 c82 c83 c84 c85 c86 c87 c88 c89 c90 c91 c92 c93 c94 c95 c96 c97 c98 c99 c100 c101 c102 c103 c104 c105 c106 c107 c108 c109 c110 c111 c112 c113 c114 c115 c116 c117 c118 c119 c120 c121 c122 c123 c124 c125 c126 c127 c128 c129 c130 c131 c132 c133 c134 c135 c136 c137 c138 c139 c140 c141 c142 c143 c144 c145 c146 c147 c148 c149 c150 c151 c152 c153 : Value) (w w2 : World) (a : Pt) (g gx gl c8 nL : Nat) (A8 : Option Addr) (F : Nat → Prop) (S : FgS) (T2 : LeT a g gx gl F S w2) (hA : 0 < nL → A8 = some ⟨gl, 0, none⟩) (hnL : nL = S.told.length) (hb : Below w2.heap.size w2 w)
    (Q : Exit → Act → World → Prop) (hQ : ∀ (u4 u9 u59 u60 u61 u62 u63 u64 u65 u66 u67 u68 u69 u70 u71 u72 u73 u74 u75 u76 u77 u78 u79 u80 u81 : Value) (w' : World), Below w2.heap.size w2 w' → Q .normal ⟨#[c0, c1, c2, c3, u4, .pointer (some ⟨g, 0, none⟩), c6, c7, .slice A8 nL c8, u9, c10, c11, c12, c13, c14, c15, c16, c17, c18, c19, c20, c21, c22, c23, c24, c25, c26, c27, c28, c29, c30, c31, c32, c33, c34, c35, c36, c37, c38, c39, c40, c41, c42, c43, c44, c45, c46, c47, c48, c49, c50, c51, c52, c53, c54, c55, c56, c57, c58, u59, u60, u61, u62, u63, u64, u65, u66, u67, u68, u69, u70, u71, u72, u73, u74, u75, u76, u77, u78, u79, u80, u81, c82, c83, c84, c85, c86, c87, c88, c89, c90, c91, c92, c93, c94, c95, c96, c97, c98, c99, c100, c101, c102, c103, c104, c105, c106, c107, c108, c109, c110, c111, c112, c113, c114, c115, c116, c117, c118, c119, c120, c121, c122, c123, c124, c125, c126, c127, c128, c129, c130, c131, c132, c133, c134, c135, c136, c137, c138, c139, c140, c141, c142, c143, c144, c145, c146, c147, c148, c149, c150, c151, c152, c153], []⟩ w') :
    Code.wp Try.prog le_b2C Q ⟨#[c0, c1, c2, c3, c4, .pointer (some ⟨g, 0, none⟩), c6, c7, .slice A8 nL c8, .int .i64 0, c10, c11, c12, c13, c14, c15, c16, c17, c18, c19, c20, c21, c22, c23, c24, c25, c26, c27, c28, c29, c30, c31, c32, c33, c34, c35, c36, c37, c38, c39, c40, c41, c42, c43, c44, c45, c46, c47, c48, c49, c50, c51, c52, c53, c54, c55, c56, c57, c58, c59, c60, c61, c62, c63, c64, c65, c66, c67, c68, c69, c70, c71, c72, c73, c74, c75, c76, c77, c78, c79, c80, c81, c82, c83, c84, c85, c86, c87, c88, c89, c90, c91, c92, c93, c94, c95, c96, c97, c98, c99, c100, c101, c102, c103, c104, c105, c106, c107, c108, c109, c110, c111, c112, c113, c114, c115, c116, c117, c118, c119, c120, c121, c122, c123, c124, c125, c126, c127, c128, c129, c130, c131, c132, c133, c134, c135, c136, c137, c138, c139, c140, c141, c142, c143, c144, c145, c146, c147, c148, c149, c150, c151, c152, c153], []⟩ w := by
  conv => arg 2; whnf
  try dsimp only at hQ ⊢
  have TT := Lib.hid T2
  have HN := Lib.hid hnL
  have HAA := Lib.hid hA
  have HQ := Lib.hid hQ
  have HB := Lib.hid hb
  have h59 : nL ≤ 59 := by rw [hnL]; exact T2.len
  clear T2 hA hnL hb hQ
  go_wp2_with fail
  go_loopw [9] (fun v9 u => ∃ k, k ≤ nL ∧ v9 = .int .i64 (k : Int) ∧ Below w2.heap.size w2 u) (fun v9 _ => nL - (intOf v9).toNat)
  case atStart => exact ⟨0, Nat.zero_le _, rfl, HB.out⟩
  case round =>
    clear HB
    obtain ⟨k, hk, rfl, q1⟩ := hrel
    have B1 := Lib.hid q1
    clear q1
    by_cases hkn : k < nL
    · obtain ⟨y, hy⟩ : ∃ y, S.told[k]? = some y := ⟨_, List.getElem?_eq_getElem (by have := HN.out; omega)⟩
      obtain rfl := HAA.out (by omega)
      have TU := Lib.hid (TT.out.below B1.out)
      have s1 := rangeSrc (TU.out.lks k y hy).2
      have YK := Lib.hid hy
      have CL := Lib.hid (fun h => TT.out.gad.inv.closed (List.mem_of_getElem? hy) h)
      clear hy
      go_wp2_with (first
        | (refine wpList_load_mid rfl 29 (.tmp 69) rfl gl (k * 66) (by go_simp) (pC y.s) _ s1 Try.underlying29 rfl (by rw [size_pv]; rfl) ?_; rw [pC_arr])
        | fail)
      refine (justified_c g _ S _ y.s _ TU.out.gad.mem.toM).mono ?_
      rintro e w3 ⟨rfl, b3⟩
      have B3 := Lib.hid (B1.out.trans (b3.mono B1.out.size))
      clear b3 s1
      by_cases h1 : 1 ≤ stN S.stands y.s
      · rw [decide_eq_true h1]
        have D2 := Lib.hid (decide_eq_true (CL.out h1))
        have TV := Lib.hid (TT.out.below B3.out)
        have s2 := rangeTgt (TV.out.lks k y YK.out).2
        clear h1
        go_wp2_with (first
          | (refine BigFrame.wpList_want rfl (fun K hK => ?_); refine wp_load_midC 29 (.tmp 77) rfl gl (k * 66 + 33) (by go_simp) (pC y.t) _ (pC_arr _) _ s2 Try.underlying29 rfl (size_pv _) ?_; refine hK _ _ ?_; clear hK K)
          | fail)
        refine (justified_c g _ S _ y.t _ TV.out.gad.mem.toM).mono ?_
        rintro e w4 ⟨rfl, b4⟩
        rw [D2.out]
        have B4 := Lib.hid (B3.out.trans (b4.mono B3.out.size))
        clear b4 s2
        go_wp2_with fail
        exact ⟨⟨k + 1, by omega, by go_num, B4.out⟩, by simp [intOf]; omega⟩
      · rw [decide_eq_false h1]
        clear h1
        go_wp2_with fail
        exact ⟨⟨k + 1, by omega, by go_num, B3.out⟩, by simp [intOf]; omega⟩
    · obtain rfl : k = nL := by omega
      go_wp2_with fail
      exact HQ.out _ _ _ _ _ _ _ _ _ _ _ _ _ _ _ _ _ _ _ _ _ _ _ _ _ _ B1.out
noncomputable def le_b10C : Code := ((Try.f7.body.bind (blockOf 10))).getD .skip
set_option maxRecDepth 1000000 in
set_option maxHeartbeats 8000000 in
theorem le_b10 (c0 c1 c2 c3 c4 c6 c7 c8 c9 c10 c11 c12 c13 c14 c15 c18 c19 c20 c21 c22 c23 c24 c25 c26 c27 c28 c29 c30 c31 c32 c33 c34 c35 c36 c37 c38 c39 c40 c41 c42 c43 c44 c45 c46 c47 c48 c49 c50 c51 c52 c53 c54 c55 c56 c57 c58 c59 c60 c61 c62 c63 c64 c65 c66 c67 c68 c69 c70 c71 c72 c73 c74 c75 c76 c77 c78 c79 c80 c81 c82 c83 c84 c85 c86 c87 c88 c89 c90 c91 c92 c93 c94 c95 c96 c97 c98 c99 c100 c101 c102 c103 c104 c105 c106 c107 c108 c109 c110 c111 c112 c113 c114 c115 c116 c117 c118 c119 c120 c121 c122 c123 c124 c125 c126 c127 c128 c129 c130 c131 c132 c133 c134 c135 c136 c137 c138 c139 c140 c141 c142 c143 c144 c145 c146 c147 c148 c149 c150 c151 c152 c153 : Value) (w w2 : World) (a : Pt) (g gx gl d8 nL : Nat) (A8 : Option Addr) (F : Nat → Prop) (S : FgS) (T2 : LeT a g gx gl F S w2) (hA : 0 < nL → A8 = some ⟨gl, 0, none⟩) (hnL : nL = S.told.length) (hb : Below w2.heap.size w2 w) (d10 nP : Nat) (A10 : Option Addr) (Lp : List Pt) (hnP : nP = Lp.length) (hP800 : nP ≤ 800000) (hP : ∀ u, Below w2.heap.size w2 u → ∀ (k : Nat) p, Lp[k]? = some p → ∃ gp, A10 = some ⟨gp, 0, none⟩ ∧ u.rangeAt gp (k * 33) (pC p)) (hm : ∀ p ∈ Lp, 1 ≤ stN S.stands p)
    (Q : Exit → Act → World → Prop) (hQ : ∀ (u4 u17 u140 u141 u142 u143 u144 u145 u146 u147 u148 u149 u150 u151 u152 : Value) (w' : World), Below w2.heap.size w2 w' → Q .normal ⟨#[c0, c1, c2, c3, u4, .pointer (some ⟨g, 0, none⟩), c6, c7, c8, c9, c10, c11, c12, c13, c14, c15, .slice A10 nP d10, u17, c18, c19, c20, c21, c22, c23, c24, c25, c26, c27, c28, c29, c30, c31, c32, c33, c34, c35, c36, c37, c38, c39, c40, c41, c42, c43, c44, c45, c46, c47, c48, c49, c50, c51, c52, c53, c54, c55, c56, c57, c58, c59, c60, c61, c62, c63, c64, c65, c66, c67, c68, c69, c70, c71, c72, c73, c74, c75, c76, c77, c78, c79, c80, c81, c82, c83, c84, c85, c86, c87, c88, c89, c90, c91, c92, c93, c94, c95, c96, c97, c98, c99, c100, c101, c102, c103, c104, c105, c106, c107, c108, c109, c110, c111, c112, c113, c114, c115, c116, c117, c118, c119, c120, c121, c122, c123, c124, c125, c126, c127, c128, c129, c130, c131, c132, c133, c134, c135, c136, c137, c138, c139, u140, u141, u142, u143, u144, u145, u146, u147, u148, u149, u150, u151, u152, c153], []⟩ w') :
    Code.wp Try.prog le_b10C Q ⟨#[c0, c1, c2, c3, c4, .pointer (some ⟨g, 0, none⟩), c6, c7, c8, c9, c10, c11, c12, c13, c14, c15, .slice A10 nP d10, .int .i64 0, c18, c19, c20, c21, c22, c23, c24, c25, c26, c27, c28, c29, c30, c31, c32, c33, c34, c35, c36, c37, c38, c39, c40, c41, c42, c43, c44, c45, c46, c47, c48, c49, c50, c51, c52, c53, c54, c55, c56, c57, c58, c59, c60, c61, c62, c63, c64, c65, c66, c67, c68, c69, c70, c71, c72, c73, c74, c75, c76, c77, c78, c79, c80, c81, c82, c83, c84, c85, c86, c87, c88, c89, c90, c91, c92, c93, c94, c95, c96, c97, c98, c99, c100, c101, c102, c103, c104, c105, c106, c107, c108, c109, c110, c111, c112, c113, c114, c115, c116, c117, c118, c119, c120, c121, c122, c123, c124, c125, c126, c127, c128, c129, c130, c131, c132, c133, c134, c135, c136, c137, c138, c139, c140, c141, c142, c143, c144, c145, c146, c147, c148, c149, c150, c151, c152, c153], []⟩ w := by
  conv => arg 2; whnf
  try dsimp only at hQ ⊢
  have TT := Lib.hid T2
  have HQ := Lib.hid hQ
  have HB := Lib.hid hb
  have HPP := Lib.hid hP
  have HM := Lib.hid hm
  have HNP := Lib.hid hnP
  clear T2 hA hnL hb hQ hP hm hnP
  go_wp2_with fail
  go_loopw [17] (fun v17 u => ∃ k, k ≤ nP ∧ v17 = .int .i64 (k : Int) ∧ Below w2.heap.size w2 u) (fun v17 _ => nP - (intOf v17).toNat)
  case atStart => exact ⟨0, Nat.zero_le _, rfl, HB.out⟩
  case round =>
    clear HB
    obtain ⟨k, hk, rfl, q1⟩ := hrel
    have B1 := Lib.hid q1
    clear q1
    by_cases hkn : k < nP
    · obtain ⟨p, hp⟩ : ∃ p, Lp[k]? = some p := ⟨_, List.getElem?_eq_getElem (by have := HNP.out; omega)⟩
      obtain ⟨gp, rfl, kp⟩ := HPP.out wr B1.out k p hp
      have J1 := Lib.hid (decide_eq_true (HM.out p (List.mem_of_getElem? hp)))
      have TU := Lib.hid (TT.out.below B1.out)
      clear hp
      go_wp2_with (first
        | (refine wpList_load_mid rfl 29 (.tmp 149) rfl gp (k * 33) (by go_simp) (pC p) _ kp Try.underlying29 rfl (by rw [size_pv]; rfl) ?_; rw [pC_arr])
        | fail)
      refine (justified_c g _ S _ p _ TU.out.gad.mem.toM).mono ?_
      rintro e w3 ⟨rfl, b3⟩
      rw [J1.out]
      have B3 := Lib.hid (B1.out.trans (b3.mono B1.out.size))
      clear b3 kp
      go_wp2_with fail
      exact ⟨⟨k + 1, by omega, by go_num, B3.out⟩, by simp [intOf]; omega⟩
    · obtain rfl : k = nP := by omega
      go_wp2_with fail
      exact HQ.out _ _ _ _ _ _ _ _ _ _ _ _ _ _ _ _ B1.out
end Go.Proofs.Ytcmebeoedagdfaa
