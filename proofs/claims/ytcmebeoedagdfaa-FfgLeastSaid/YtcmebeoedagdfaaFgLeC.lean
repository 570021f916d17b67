/- FgLeast: from each that is justified. -/
import Derived.Test.YtcmebeoedagdfaaFgLeB
import Derived.Deep.CutBlock
import Derived.Deep.Cut
namespace Go.Proofs.Ytcmebeoedagdfaa
open Go.ChangeMaps Go.MapKept Go.Maps Go.WideElems Go.RowKit Go.ChangeShapes Go.WideShapes Go.ChangeAt
set_option linter.unusedVariables false
set_option maxRecDepth 100000

noncomputable def le_b4C : Code := ((Try.f7.body.bind (blockOf 4))).getD .skip
set_option maxRecDepth 1000000 in
set_option maxHeartbeats 8000000 in
theorem le_b4 (c0 c1 c3 c4 c6 c7 c9 c12 c13 c14 c15 c16 c17 c18 c19 c20 c21 c22 c23 c24 c25 c26 c27 c28 c29 c30 c31 c32 c33 c34 c35 c36 c37 c38 c39 c40 c41 c42 c43 c44 c45 c46 c47 c48 c49 c50 c51 c52 c53 c54 c55 c56 c57 c58 c59 c60 c61 c62 c63 c64 c65 c66 c67 c68 c69 c70 c71 c72 c73 c74 c75 c76 c77 c78 c79 c80 c81 c82 c83 c84 c85 c86 c87 c88 c89 c90 c91 c92 c93 c94 c95 c96 c97 c98 c99 c100 c101 c102 c103 c104 c105 c106 c107 c108 c109 c110 c111 c112 c113 c114 c115 c116 c117 c118 c119 c120 c121 c122 c123 c124 c125 c126 c127 c128 c129 c130 c131 c132 c133 c134 c135 c136 c137 c138 c139 c140 c141 c142 c143 c144 c145 c146 c147 c148 c149 c150 c151 c152 c153 : Value) (w w2 : World) (a : Pt) (g gx gl c8 nL : Nat) (A8 : Option Addr) (F : Nat → Prop) (S : FgS) (T2 : LeT a g gx gl F S w2) (hA : 0 < nL → A8 = some ⟨gl, 0, none⟩) (hnL : nL = S.told.length) (hb : Below w2.heap.size w2 w) (c10 nP : Nat) (A10 : Option Addr) (Lp : List Pt) (hnP : nP = Lp.length) (hP800 : nP ≤ 800000) (hP : ∀ u, Below w2.heap.size w2 u → ∀ (k : Nat) p, Lp[k]? = some p → ∃ gp, A10 = some ⟨gp, 0, none⟩ ∧ u.rangeAt gp (k * 33) (pC p)) (hm : ∀ p ∈ Lp, 1 ≤ stN S.stands p)
    (Q : Exit → Act → World → Prop) (hQ : ∀ (u4 u11 u12 u13 u14 u15 u84 u85 u86 u87 u88 u89 u90 u91 u92 u93 u94 u95 u96 u97 u98 u99 u100 u101 u102 u103 u104 u105 u106 u107 u108 u109 u110 u111 u112 u113 u114 u115 u116 u117 u118 u119 u120 u121 u122 u123 u124 u125 u126 u127 u128 u129 u130 u131 u132 u133 u134 u135 u136 u137 : Value) (w' : World), Below w2.heap.size w2 w' → Q .normal ⟨#[c0, c1, .pointer (some ⟨gx, 0, none⟩), c3, u4, .pointer (some ⟨g, 0, none⟩), c6, c7, .slice A8 nL c8, c9, .slice A10 nP c10, u11, u12, u13, u14, u15, c16, c17, c18, c19, c20, c21, c22, c23, c24, c25, c26, c27, c28, c29, c30, c31, c32, c33, c34, c35, c36, c37, c38, c39, c40, c41, c42, c43, c44, c45, c46, c47, c48, c49, c50, c51, c52, c53, c54, c55, c56, c57, c58, c59, c60, c61, c62, c63, c64, c65, c66, c67, c68, c69, c70, c71, c72, c73, c74, c75, c76, c77, c78, c79, c80, c81, c82, c83, u84, u85, u86, u87, u88, u89, u90, u91, u92, u93, u94, u95, u96, u97, u98, u99, u100, u101, u102, u103, u104, u105, u106, u107, u108, u109, u110, u111, u112, u113, u114, u115, u116, u117, u118, u119, u120, u121, u122, u123, u124, u125, u126, u127, u128, u129, u130, u131, u132, u133, u134, u135, u136, u137, c138, c139, c140, c141, c142, c143, c144, c145, c146, c147, c148, c149, c150, c151, c152, c153], []⟩ w') :
    Code.wp Try.prog le_b4C Q ⟨#[c0, c1, .pointer (some ⟨gx, 0, none⟩), c3, c4, .pointer (some ⟨g, 0, none⟩), c6, c7, .slice A8 nL c8, c9, .slice A10 nP c10, .int .i64 0, c12, c13, c14, c15, c16, c17, c18, c19, c20, c21, c22, c23, c24, c25, c26, c27, c28, c29, c30, c31, c32, c33, c34, c35, c36, c37, c38, c39, c40, c41, c42, c43, c44, c45, c46, c47, c48, c49, c50, c51, c52, c53, c54, c55, c56, c57, c58, c59, c60, c61, c62, c63, c64, c65, c66, c67, c68, c69, c70, c71, c72, c73, c74, c75, c76, c77, c78, c79, c80, c81, c82, c83, c84, c85, c86, c87, c88, c89, c90, c91, c92, c93, c94, c95, c96, c97, c98, c99, c100, c101, c102, c103, c104, c105, c106, c107, c108, c109, c110, c111, c112, c113, c114, c115, c116, c117, c118, c119, c120, c121, c122, c123, c124, c125, c126, c127, c128, c129, c130, c131, c132, c133, c134, c135, c136, c137, c138, c139, c140, c141, c142, c143, c144, c145, c146, c147, c148, c149, c150, c151, c152, c153], []⟩ w := by
  conv => arg 2; whnf
  try dsimp only at hQ ⊢
  have TT := Lib.hid T2
  have HN := Lib.hid hnL
  have HAA := Lib.hid hA
  have HQ := Lib.hid hQ
  have HB := Lib.hid hb
  have HPP := Lib.hid hP
  have HM := Lib.hid hm
  have HNP := Lib.hid hnP
  have hzp := zero_pt
  clear T2 hA hnL hb hQ hP hm hnP
  go_wp2_with fail
  go_loopw [11] (fun v11 u => ∃ k, k ≤ nP ∧ v11 = .int .i64 (k : Int) ∧ Below w2.heap.size w2 u) (fun v11 _ => nP - (intOf v11).toNat)
  case atStart => exact ⟨0, Nat.zero_le _, rfl, HB.out⟩
  case round =>
    clear HB
    obtain ⟨k, hk, rfl, q1⟩ := hrel
    have B1 := Lib.hid q1
    clear q1
    by_cases hkn : k < nP
    · obtain ⟨p, hp⟩ : ∃ p, Lp[k]? = some p := ⟨_, List.getElem?_eq_getElem (by have := HNP.out; omega)⟩
      obtain ⟨gp, rfl, kp⟩ := HPP.out wr B1.out k p hp
      have J1 := Lib.hid (HM.out p (List.mem_of_getElem? hp))
      clear hp
      obtain ⟨ga, hga⟩ : ∃ ga, ga = wr.heap.size := ⟨_, rfl⟩
      obtain ⟨w3, hw3⟩ : ∃ w3, w3 = wr.alloc (.cells (pv p) 29) := ⟨_, rfl⟩
      have b3 : Below wr.heap.size wr w3 := by rw [hw3]; exact (Below.refl _ _).alloc (Nat.le_refl _) _
      have P3 : Hid (PkB ga p w3) := by rw [hw3, hga]; exact PkB.new
      have B3 := Lib.hid (B1.out.trans (b3.mono B1.out.size))
      have HGA : Hid (w2.heap.size ≤ ga) := by rw [hga]; exact B1.out.size
      have HW3 := Lib.hid hw3
      have GAE := Lib.hid hga
      clear b3 hw3 hga
      go_upto_block 6 with (first
        | (refine wpList_load_mid rfl 29 (.tmp 92) rfl gp (k * 33) (by go_simp) (pC p) _ kp Try.underlying29 rfl (by rw [size_pv]; rfl) ?_; rw [pC_arr])
        | (refine wpList_store_row rfl 29 (.tmp 12) (.tmp 93) rfl wr.heap.size (pv p) rfl rfl 29 (pv ptZ) (heap_alloc_new wr _) (size_pv p) (by rw [show (pv p).size = 33 from rowV_size _ _]; exact rowV_size _ _) (rowV_one 33 _ (pf_one p)) ?_; rw [World.setRow_alloc_new, ← HW3.out])
        | fail)
      rw [← GAE.out]
      refine le_b6 _ _ _ _ _ _ _ _ _ _ _ _ _ _ _ _ _ _ _ _ _ _ _ _ _ _ _ _ _ _ _ _ _ _ _ _ _ _ _ _ _ _ _ _ _ _ _ _ _ _ _ _ _ _ _ _ _ _ _ _ _ _ _ _ _ _ _ _ _ _ _ _ _ _ _ _ _ _ _ _ _ _ _ _ _ _ _ _ _ _ _ _ _ _ _ _ _ _ _ _ _ _ _ _ _ _ _ _ _ _ _ _ _ _ _ _ _ _ _ _ _ _ _ _ _ _ _ _ _ _ _ _ _ _ _ _ _ _ _ _ _ _ _ _ _ _ _ _ _ w3 w2 a g gx gl c8 nL A8 F S TT.out HAA.out HN.out B3.out ga p HGA.out P3.out J1.out _ ?_
      intro t4 t13 t14 t15 t94 t95 t96 t97 t98 t99 t100 t101 t102 t103 t104 t105 t106 t107 t108 t109 t110 t111 t112 t113 t114 t115 t116 t117 t118 t119 t120 t121 t122 t123 t124 t125 t126 t127 t128 t129 t130 t131 t132 t133 t134 t135 t136 t137 w4 b4
      have B4 := Lib.hid b4
      clear b4
      go_wp2_with fail
      exact ⟨⟨k + 1, by omega, by go_num, B4.out⟩, by simp [intOf]; omega⟩
    · obtain rfl : k = nP := by omega
      go_wp2_with fail
      exact HQ.out _ _ _ _ _ _ _ _ _ _ _ _ _ _ _ _ _ _ _ _ _ _ _ _ _ _ _ _ _ _ _ _ _ _ _ _ _ _ _ _ _ _ _ _ _ _ _ _ _ _ _ _ _ _ _ _ _ _ _ _ _ B1.out
end Go.Proofs.Ytcmebeoedagdfaa
