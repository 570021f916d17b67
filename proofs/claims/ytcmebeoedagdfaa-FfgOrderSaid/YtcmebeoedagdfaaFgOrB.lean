/- FfgOrder: its loops. -/
import Derived.Test.YtcmebeoedagdfaaFgOrA
import Derived.Deep.CutBlock
import Derived.Deep.Cut
namespace Go.Proofs.Ytcmebeoedagdfaa
open Go.ChangeMaps Go.MapKept Go.Maps Go.WideElems Go.RowKit Go.ChangeShapes Go.WideShapes Go.ChangeAt
set_option linter.unusedVariables false
set_option maxRecDepth 100000

noncomputable def or_b2C : Code := ((Try.f5.body.bind (blockOf 2))).getD .skip
set_option maxRecDepth 1000000 in
set_option maxHeartbeats 8000000 in
theorem or_b2 (c0 c3 c4 c5 c6 c7 c8 c10 c11 c12 c13 c15 c16 c17 c18 c19 c20 c21 c22 c23 c24 c25 c26 c27 c28 c29 c30 c31 c32 c33 c34 c35 c36 c37 c38 c39 c40 c41 c42 c43 c44 c45 c46 c47 c48 c49 c50 c51 c52 c53 c54 c55 c56 c57 c58 c59 c60 c61 c62 c63 c64 c65 c66 c67 c68 c69 c70 c71 c72 c73 c74 c75 c76 c77 c78 c79 c80 c81 c82 c83 c84 c85 c86 c87 c88 c89 c90 c91 c92 c93 c94 c95 c96 c97 c98 c99 c100 c101 c102 c103 c104 c105 c106 c107 c108 c109 c110 c111 c112 c113 c114 c115 c116 c117 c118 c119 c120 c121 c122 c123 c124 c125 c126 c127 c128 c129 c130 c131 c132 : Value) (w W0 : World) (a : Pt) (ga gb cI nI : Nat) (AI : Option Addr) (LI : List Lk) (Fa Fb : Nat → Prop) (Sa Sb : FgS) (hT : Two a ga gb W0 Fa Fb Sa Sb w) (hnI : nI = LI.length) (h30 : nI ≤ 30) (hP : ∀ u, Below W0.heap.size W0 u → ∀ (k : Nat) x, LI[k]? = some x → ∃ b o, AI = some ⟨b, o, none⟩ ∧ u.rangeAt b (o + k * 66) (lC x)) (nO cO : Nat) (AO : Option Addr) (O : List Int) (hnO : nO = O.length) (h60 : nO ≤ 60) (hO : ∀ u, Below W0.heap.size W0 u → ∀ (i : Nat) z, O[i]? = some z → ∃ xb, AO = some xb ∧ u.cell? (xb.add i) = some (.int .i64 z)) (hsub : ∀ y ∈ Sb.told, mayL y = true ∧ y ∈ LI)
    (Q : Exit → Act → World → Prop) (hQ : ∀ (u14 u76 u77 u78 u79 u80 u81 u82 u83 u84 u85 u86 u87 u88 u89 u90 u91 u92 u93 u94 u95 u96 u97 u98 u99 u100 u101 u102 u103 u104 : Value) (w' : World), (∃ Fb' Sb', Two a ga gb W0 Fa Fb' Sa Sb' w' ∧ ∀ y ∈ Sb'.told, mayL y = true ∧ y ∈ LI) → Q .normal ⟨#[c0, .slice AI nI cI, .slice AO nO cO, c3, c4, c5, c6, c7, c8, .pointer (some ⟨gb, 0, none⟩), c10, c11, c12, c13, u14, c15, c16, c17, c18, c19, c20, c21, c22, c23, c24, c25, c26, c27, c28, c29, c30, c31, c32, c33, c34, c35, c36, c37, c38, c39, c40, c41, c42, c43, c44, c45, c46, c47, c48, c49, c50, c51, c52, c53, c54, c55, c56, c57, c58, c59, c60, c61, c62, c63, c64, c65, c66, c67, c68, c69, c70, c71, c72, c73, c74, c75, u76, u77, u78, u79, u80, u81, u82, u83, u84, u85, u86, u87, u88, u89, u90, u91, u92, u93, u94, u95, u96, u97, u98, u99, u100, u101, u102, u103, u104, c105, c106, c107, c108, c109, c110, c111, c112, c113, c114, c115, c116, c117, c118, c119, c120, c121, c122, c123, c124, c125, c126, c127, c128, c129, c130, c131, c132], []⟩ w') :
    Code.wp Try.prog or_b2C Q ⟨#[c0, .slice AI nI cI, .slice AO nO cO, c3, c4, c5, c6, c7, c8, .pointer (some ⟨gb, 0, none⟩), c10, c11, c12, c13, .int .i64 0, c15, c16, c17, c18, c19, c20, c21, c22, c23, c24, c25, c26, c27, c28, c29, c30, c31, c32, c33, c34, c35, c36, c37, c38, c39, c40, c41, c42, c43, c44, c45, c46, c47, c48, c49, c50, c51, c52, c53, c54, c55, c56, c57, c58, c59, c60, c61, c62, c63, c64, c65, c66, c67, c68, c69, c70, c71, c72, c73, c74, c75, c76, c77, c78, c79, c80, c81, c82, c83, c84, c85, c86, c87, c88, c89, c90, c91, c92, c93, c94, c95, c96, c97, c98, c99, c100, c101, c102, c103, c104, c105, c106, c107, c108, c109, c110, c111, c112, c113, c114, c115, c116, c117, c118, c119, c120, c121, c122, c123, c124, c125, c126, c127, c128, c129, c130, c131, c132], []⟩ w := by
  conv => arg 2; whnf
  try dsimp only at hQ ⊢
  have HQ := Lib.hid hQ
  have HPP := Lib.hid hP
  have HNI := Lib.hid hnI
  have HT := Lib.hid hT
  clear hQ hP hnI hT
  have HO := Lib.hid hO
  have HNO := Lib.hid hnO
  have HS := Lib.hid hsub
  clear hO hnO hsub
  go_wp2_with fail
  go_loopw [14] (fun v14 u => ∃ k Fb Sb, k ≤ nO ∧ v14 = .int .i64 (k : Int) ∧ Two a ga gb W0 Fa Fb Sa Sb u ∧ ∀ y ∈ Sb.told, mayL y = true ∧ y ∈ LI) (fun v14 _ => nO - (intOf v14).toNat)
  case atStart => exact ⟨0, Fb, Sb, Nat.zero_le _, rfl, HT.out, HS.out⟩
  case round =>
    clear HT HS
    obtain ⟨k, Fb, Sb, hk, rfl, q1, q2⟩ := hrel
    have T1 := Lib.hid q1
    have M1 := Lib.hid q2
    clear q1 q2
    by_cases hkn : k < nO
    · by_cases hi0 : 0 < nI
      · obtain ⟨z, hz1⟩ : ∃ z, O[k]? = some z := ⟨_, List.getElem?_eq_getElem (by have := HNO.out; omega)⟩
        obtain ⟨xb, rfl, c1⟩ := HO.out wr T1.out.bel k z hz1
        obtain ⟨n, hn, en⟩ := ix_m z nI hi0 (by omega)
        have EN := Lib.hid (And.intro hn en)
        have mnz : (nI : Int) ≠ 0 := by omega
        obtain ⟨x, hx⟩ : ∃ x, LI[n]? = some x := ⟨_, List.getElem?_eq_getElem (by have := HNI.out; omega)⟩
        obtain ⟨b, o, rfl, kx⟩ := HPP.out wr T1.out.bel n x hx
        have HX := Lib.hid (List.mem_of_getElem? hx)
        have L1 : Hid (Sb.told.length ≤ 59) := Nat.le_trans (told_le T1.out.B.inv (LI := LI) (fun y hy => (M1.out y hy).2)) (by have := HNI.out; omega)
        have CS := Lib.hid (strongG_c T1.out.B x L1.out)
        have qn : (n : Int) < (nI : Int) := by omega
        clear hn hx hz1
        go_wp2_with (first
          | (refine wpList_load_mid rfl 36 (.tmp 102) rfl b (o + n * 66) (by go_simp) (lC x) _ kx Try.underlying36 rfl (by rw [size_lv x]; rfl) ?_; rw [lC_arr])
          | fail)
        refine CS.out.mono ?_
        intro e w4 hs
        obtain ⟨er, F4, S4, rfl, t4, mm4⟩ := T1.out.swap.step hs
        have T4 := Lib.hid t4.swap
        have M4 : Hid (∀ y ∈ S4.told, mayL y = true ∧ y ∈ LI) := fun y hy => by
          rcases (mm4 y).1 hy with e | ⟨rfl, e⟩
          · exact M1.out y e
          · exact ⟨e, HX.out⟩
        clear hs t4 mm4 kx CS c1
        go_wp2_with fail
        exact ⟨⟨k + 1, F4, S4, by omega, by go_num, T4.out, M4.out⟩, by simp [intOf]; omega⟩
      · obtain rfl : nI = 0 := by omega
        go_wp2_with fail
        exact HQ.out _ _ _ _ _ _ _ _ _ _ _ _ _ _ _ _ _ _ _ _ _ _ _ _ _ _ _ _ _ _ _ ⟨Fb, Sb, T1.out, M1.out⟩
    · obtain rfl : k = nO := by omega
      go_wp2_with fail
      exact HQ.out _ _ _ _ _ _ _ _ _ _ _ _ _ _ _ _ _ _ _ _ _ _ _ _ _ _ _ _ _ _ _ ⟨Fb, Sb, T1.out, M1.out⟩
noncomputable def or_b4C : Code := ((Try.f5.body.bind (blockOf 4))).getD .skip
set_option maxRecDepth 1000000 in
set_option maxHeartbeats 8000000 in
theorem or_b4 (c0 c2 c3 c4 c5 c6 c7 c8 c10 c11 c12 c13 c14 c16 c17 c18 c19 c20 c21 c22 c23 c24 c25 c26 c27 c28 c29 c30 c31 c32 c33 c34 c35 c36 c37 c38 c39 c40 c41 c42 c43 c44 c45 c46 c47 c48 c49 c50 c51 c52 c53 c54 c55 c56 c57 c58 c59 c60 c61 c62 c63 c64 c65 c66 c67 c68 c69 c70 c71 c72 c73 c74 c75 c76 c77 c78 c79 c80 c81 c82 c83 c84 c85 c86 c87 c88 c89 c90 c91 c92 c93 c94 c95 c96 c97 c98 c99 c100 c101 c102 c103 c104 c105 c106 c107 c108 c109 c110 c111 c112 c113 c114 c115 c116 c117 c118 c119 c120 c121 c122 c123 c124 c125 c126 c127 c128 c129 c130 c131 c132 : Value) (w W0 : World) (a : Pt) (ga gb cI nI : Nat) (AI : Option Addr) (LI : List Lk) (Fa Fb : Nat → Prop) (Sa Sb : FgS) (hT : Two a ga gb W0 Fa Fb Sa Sb w) (hnI : nI = LI.length) (h30 : nI ≤ 30) (hP : ∀ u, Below W0.heap.size W0 u → ∀ (k : Nat) x, LI[k]? = some x → ∃ b o, AI = some ⟨b, o, none⟩ ∧ u.rangeAt b (o + k * 66) (lC x)) (hsub : ∀ y ∈ Sb.told, mayL y = true ∧ y ∈ LI)
    (Q : Exit → Act → World → Prop) (hQ : ∀ (u15 u108 u109 u110 u111 u112 u113 u114 u115 u116 u117 : Value) (w' : World), (∃ Fb' Sb', Two a ga gb W0 Fa Fb' Sa Sb' w' ∧ (∀ y ∈ Sb'.told, mayL y = true ∧ y ∈ LI) ∧ ∀ (i : Nat) y, LI[i]? = some y → mayL y = true → y ∈ Sb'.told) → Q .normal ⟨#[c0, .slice AI nI cI, c2, c3, c4, c5, c6, c7, c8, .pointer (some ⟨gb, 0, none⟩), c10, c11, c12, c13, c14, u15, c16, c17, c18, c19, c20, c21, c22, c23, c24, c25, c26, c27, c28, c29, c30, c31, c32, c33, c34, c35, c36, c37, c38, c39, c40, c41, c42, c43, c44, c45, c46, c47, c48, c49, c50, c51, c52, c53, c54, c55, c56, c57, c58, c59, c60, c61, c62, c63, c64, c65, c66, c67, c68, c69, c70, c71, c72, c73, c74, c75, c76, c77, c78, c79, c80, c81, c82, c83, c84, c85, c86, c87, c88, c89, c90, c91, c92, c93, c94, c95, c96, c97, c98, c99, c100, c101, c102, c103, c104, c105, c106, c107, u108, u109, u110, u111, u112, u113, u114, u115, u116, u117, c118, c119, c120, c121, c122, c123, c124, c125, c126, c127, c128, c129, c130, c131, c132], []⟩ w') :
    Code.wp Try.prog or_b4C Q ⟨#[c0, .slice AI nI cI, c2, c3, c4, c5, c6, c7, c8, .pointer (some ⟨gb, 0, none⟩), c10, c11, c12, c13, c14, .int .i64 ((nI : Int) - 1), c16, c17, c18, c19, c20, c21, c22, c23, c24, c25, c26, c27, c28, c29, c30, c31, c32, c33, c34, c35, c36, c37, c38, c39, c40, c41, c42, c43, c44, c45, c46, c47, c48, c49, c50, c51, c52, c53, c54, c55, c56, c57, c58, c59, c60, c61, c62, c63, c64, c65, c66, c67, c68, c69, c70, c71, c72, c73, c74, c75, c76, c77, c78, c79, c80, c81, c82, c83, c84, c85, c86, c87, c88, c89, c90, c91, c92, c93, c94, c95, c96, c97, c98, c99, c100, c101, c102, c103, c104, c105, c106, c107, c108, c109, c110, c111, c112, c113, c114, c115, c116, c117, c118, c119, c120, c121, c122, c123, c124, c125, c126, c127, c128, c129, c130, c131, c132], []⟩ w := by
  conv => arg 2; whnf
  try dsimp only at hQ ⊢
  have HQ := Lib.hid hQ
  have HPP := Lib.hid hP
  have HNI := Lib.hid hnI
  have HT := Lib.hid hT
  clear hQ hP hnI hT
  have HS := Lib.hid hsub
  clear hsub
  go_wp2_with fail
  go_loopw [15] (fun v15 u => ∃ (j : Nat) (z : Int) (Fb : Nat → Prop) (Sb : FgS), j ≤ nI ∧ z = (j : Int) - 1 ∧ v15 = .int .i64 z ∧ Two a ga gb W0 Fa Fb Sa Sb u ∧ (∀ y ∈ Sb.told, mayL y = true ∧ y ∈ LI) ∧ ∀ i, j ≤ i → ∀ y, LI[i]? = some y → mayL y = true → y ∈ Sb.told) (fun v15 _ => (intOf v15 + 1).toNat)
  case atStart => exact ⟨nI, _, Fb, Sb, Nat.le_refl _, rfl, rfl, HT.out, HS.out, fun i hi y hy => by have := (List.getElem?_eq_some_iff.1 hy).1; have := HNI.out; omega⟩
  case round =>
    clear HT HS
    obtain ⟨j, z, Fb, Sb, hj, hz, rfl, q1, q2, q3⟩ := hrel
    have T1 := Lib.hid q1
    have M1 := Lib.hid q2
    have A1 := Lib.hid q3
    clear q1 q2 q3
    rcases j with _ | n
    · have qz : z < 0 := by omega
      have d0 : decide (z ≥ 0) = false := decide_eq_false (by omega)
      have d0' : decide (0 ≤ z) = false := decide_eq_false (by omega)
      clear hz
      go_wp2_with fail
      exact HQ.out _ _ _ _ _ _ _ _ _ _ _ _ ⟨Fb, Sb, T1.out, M1.out, fun i y hy => A1.out i (Nat.zero_le _) y hy⟩
    · obtain rfl : z = (n : Int) := by omega
      clear hz
      obtain ⟨x, hx⟩ : ∃ x, LI[n]? = some x := ⟨_, List.getElem?_eq_getElem (by have := HNI.out; omega)⟩
      obtain ⟨b, o, rfl, kx⟩ := HPP.out wr T1.out.bel n x hx
      have HX := Lib.hid hx
      have L1 : Hid (Sb.told.length ≤ 59) := Nat.le_trans (told_le T1.out.B.inv (LI := LI) (fun y hy => (M1.out y hy).2)) (by have := HNI.out; omega)
      have CS := Lib.hid (strongG_c T1.out.B x L1.out)
      have qn : (n : Int) < (nI : Int) := by omega
      have d1 : decide ((n : Int) ≥ 0) = true := decide_eq_true (by omega)
      have HJ := Lib.hid hj
      clear hx hj
      go_wp2_with (first
        | (refine wpList_load_mid rfl 36 (.tmp 115) rfl b (o + n * 66) (by go_simp) (lC x) _ kx Try.underlying36 rfl (by rw [size_lv x]; rfl) ?_; rw [lC_arr])
        | fail)
      refine CS.out.mono ?_
      intro e w4 hs
      obtain ⟨er, F4, S4, rfl, t4, mm4⟩ := T1.out.swap.step hs
      have T4 := Lib.hid t4.swap
      have M4 : Hid (∀ y ∈ S4.told, mayL y = true ∧ y ∈ LI) := fun y hy => by
        rcases (mm4 y).1 hy with e | ⟨rfl, e⟩
        · exact M1.out y e
        · exact ⟨e, List.mem_of_getElem? HX.out⟩
      have A4 : Hid (∀ i, n ≤ i → ∀ y, LI[i]? = some y → mayL y = true → y ∈ S4.told) := fun i hi y hy hm => by
        rw [mm4 y]
        by_cases e : i = n
        · subst e
          rw [HX.out] at hy
          injection hy with hy
          exact .inr ⟨hy.symm, by rw [hy]; exact hm⟩
        · exact .inl (A1.out i (by omega) y hy hm)
      clear hs t4 mm4 kx CS
      have wn : IntKind.i64.wrap ((n : Int) - 1) = (n : Int) - 1 := by have := HJ.out; simp [IntKind.wrap, IntKind.bits, IntKind.signed]; omega
      go_wp2_with fail
      exact ⟨⟨n, _, F4, S4, by have := HJ.out; omega, rfl, by go_num, T4.out, M4.out, A4.out⟩, by simp [intOf]⟩
end Go.Proofs.Ytcmebeoedagdfaa
