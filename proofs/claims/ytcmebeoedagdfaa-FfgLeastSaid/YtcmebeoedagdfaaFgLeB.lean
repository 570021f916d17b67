/- FfgLeast: the way back to the anchor. -/
import Derived.Test.YtcmebeoedagdfaaFgLeA
import Derived.Deep.CutBlock
import Derived.Deep.Cut
namespace Go.Proofs.Ytcmebeoedagdfaa
open Go.ChangeMaps Go.MapKept Go.Maps Go.WideElems Go.RowKit Go.ChangeShapes Go.WideShapes Go.ChangeAt
set_option linter.unusedVariables false
set_option maxRecDepth 100000

noncomputable def le_b6C : Code := ((Try.f7.body.bind (blockOf 6))).getD .skip
set_option maxRecDepth 1000000 in
set_option maxHeartbeats 8000000 in
theorem le_b6 (c0 c1 c3 c4 c6 c7 c9 c10 c11 c14 c15 c16 c17 c18 c19 c20 c21 c22 c23 c24 c25 c26 c27 c28 c29 c30 c31 c32 c33 c34 c35 c36 c37 c38 c39 c40 c41 c42 c43 c44 c45 c46 c47 c48 c49 c50 c51 c52 c53 c54 c55 c56 c57 c58 c59 c60 c61 c62 c63 c64 c65 c66 c67 c68 c69 c70 c71 c72 c73 c74 c75 c76 c77 c78 c79 c80 c81 c82 c83 c84 c85 c86 c87 c88 c89 c90 c91 c92 c93 c94 c95 c96 c97 c98 c99 c100 c101 c102 c103 c104 c105 c106 c107 c108 c109 c110 c111 c112 c113 c114 c115 c116 c117 c118 c119 c120 c121 c122 c123 c124 c125 c126 c127 c128 c129 c130 c131 c132 c133 c134 c135 c136 c137 c138 c139 c140 c141 c142 c143 c144 c145 c146 c147 c148 c149 c150 c151 c152 c153 : Value) (w w2 : World) (a : Pt) (g gx gl c8 nL : Nat) (A8 : Option Addr) (F : Nat → Prop) (S : FgS) (T2 : LeT a g gx gl F S w2) (hA : 0 < nL → A8 = some ⟨gl, 0, none⟩) (hnL : nL = S.told.length) (hb : Below w2.heap.size w2 w) (ga : Nat) (p : Pt) (hga : w2.heap.size ≤ ga) (hp : PkB ga p w) (hj : 1 ≤ stN S.stands p)
    (Q : Exit → Act → World → Prop) (hQ : ∀ (u4 u13 u14 u15 u94 u95 u96 u97 u98 u99 u100 u101 u102 u103 u104 u105 u106 u107 u108 u109 u110 u111 u112 u113 u114 u115 u116 u117 u118 u119 u120 u121 u122 u123 u124 u125 u126 u127 u128 u129 u130 u131 u132 u133 u134 u135 u136 u137 : Value) (w' : World), Below w2.heap.size w2 w' → Q .normal ⟨#[c0, c1, .pointer (some ⟨gx, 0, none⟩), c3, u4, .pointer (some ⟨g, 0, none⟩), c6, c7, .slice A8 nL c8, c9, c10, c11, .pointer (some ⟨ga, 0, none⟩), u13, u14, u15, c16, c17, c18, c19, c20, c21, c22, c23, c24, c25, c26, c27, c28, c29, c30, c31, c32, c33, c34, c35, c36, c37, c38, c39, c40, c41, c42, c43, c44, c45, c46, c47, c48, c49, c50, c51, c52, c53, c54, c55, c56, c57, c58, c59, c60, c61, c62, c63, c64, c65, c66, c67, c68, c69, c70, c71, c72, c73, c74, c75, c76, c77, c78, c79, c80, c81, c82, c83, c84, c85, c86, c87, c88, c89, c90, c91, c92, c93, u94, u95, u96, u97, u98, u99, u100, u101, u102, u103, u104, u105, u106, u107, u108, u109, u110, u111, u112, u113, u114, u115, u116, u117, u118, u119, u120, u121, u122, u123, u124, u125, u126, u127, u128, u129, u130, u131, u132, u133, u134, u135, u136, u137, c138, c139, c140, c141, c142, c143, c144, c145, c146, c147, c148, c149, c150, c151, c152, c153], []⟩ w') :
    Code.wp Try.prog le_b6C Q ⟨#[c0, c1, .pointer (some ⟨gx, 0, none⟩), c3, c4, .pointer (some ⟨g, 0, none⟩), c6, c7, .slice A8 nL c8, c9, c10, c11, .pointer (some ⟨ga, 0, none⟩), .int .i64 0, c14, c15, c16, c17, c18, c19, c20, c21, c22, c23, c24, c25, c26, c27, c28, c29, c30, c31, c32, c33, c34, c35, c36, c37, c38, c39, c40, c41, c42, c43, c44, c45, c46, c47, c48, c49, c50, c51, c52, c53, c54, c55, c56, c57, c58, c59, c60, c61, c62, c63, c64, c65, c66, c67, c68, c69, c70, c71, c72, c73, c74, c75, c76, c77, c78, c79, c80, c81, c82, c83, c84, c85, c86, c87, c88, c89, c90, c91, c92, c93, c94, c95, c96, c97, c98, c99, c100, c101, c102, c103, c104, c105, c106, c107, c108, c109, c110, c111, c112, c113, c114, c115, c116, c117, c118, c119, c120, c121, c122, c123, c124, c125, c126, c127, c128, c129, c130, c131, c132, c133, c134, c135, c136, c137, c138, c139, c140, c141, c142, c143, c144, c145, c146, c147, c148, c149, c150, c151, c152, c153], []⟩ w := by
  conv => arg 2; whnf
  try dsimp only at hQ ⊢
  have TT := Lib.hid T2
  have HN := Lib.hid hnL
  have HAA := Lib.hid hA
  have HQ := Lib.hid hQ
  have HB := Lib.hid hb
  have HG := Lib.hid hga
  have HP := Lib.hid (And.intro hp hj)
  have h59 : nL ≤ 59 := by rw [hnL]; exact T2.len
  have H59 := Lib.hid h59
  clear T2 hA hnL hb hQ hga hp hj
  go_wp2_with fail
  go_loopw [13] (fun v13 u => ∃ (n : Nat) (p : Pt), v13 = .int .i64 (n : Int) ∧ PkB ga p u ∧ 1 ≤ stN S.stands p ∧ n + cntL S.told p.e ≤ nL ∧ Below w2.heap.size w2 u) (fun v13 _ => nL - (intOf v13).toNat)
  case atStart => exact ⟨0, p, rfl, HP.out.1, HP.out.2, by rw [Nat.zero_add, HN.out]; exact cntL_le _ _, HB.out⟩
  case round =>
    clear HB HP
    obtain ⟨n, p, rfl, q1, q2, q3, q4⟩ := hrel
    have P1 := Lib.hid q1
    have J1 := Lib.hid q2
    have C1 := Lib.hid q3
    have B1 := Lib.hid q4
    have TU := Lib.hid (TT.out.below q4)
    clear q1 q2 q3 q4
    have r1 := P1.out.row
    have r2 := TU.out.pk.row
    by_cases hpa : p = a
    · have EQ := Lib.hid (decide_eq_true hpa)
      clear hpa
      go_wp2_with (first
        | (refine wpList_load_row rfl 29 (.tmp 12) rfl ga rfl 29 (pv p) (0, 0) _ r1 Try.underlying29 rfl (size_pv p) ?_)
        | (refine wpList_load_row rfl 29 (.tmp 2) rfl gx rfl 29 (pv a) (0, 0) _ r2 Try.underlying29 rfl (size_pv a) ?_)
        | (refine BigFrame.wpList_want rfl (fun K hK => ?_); refine wp_neq 29 29 (.tmp 94) (.tmp 95) rfl (pv p) (pv a) rfl rfl guard_point _ (eq_point9 p a _) ?_; rw [EQ.out]; refine hK _ _ ?_; clear hK K)
        | fail)
      try simp only [Act.put, List.setIfInBounds_toArray, List.set_cons_zero, List.set_cons_succ]
      exact HQ.out _ _ _ _ _ _ _ _ _ _ _ _ _ _ _ _ _ _ _ _ _ _ _ _ _ _ _ _ _ _ _ _ _ _ _ _ _ _ _ _ _ _ _ _ _ _ _ _ _ B1.out
    · have EQ := Lib.hid (decide_eq_false hpa)
      have X1 : Hid (∃ (k : Nat) (y : Lk), S.told[k]? = some y ∧ y.t = p ∧ 1 ≤ stN S.stands y.s) := by
        rcases TT.out.gad.inv.pend.fro p J1.out with e | ⟨y, e1, e2, e3⟩
        · exact absurd e hpa
        · obtain ⟨k, hk⟩ := List.getElem?_of_mem e1
          exact ⟨k, y, hk, e2, e3⟩
      clear hpa
      go_upto_block 8 with (first
        | (refine wpList_load_row rfl 29 (.tmp 12) rfl ga rfl 29 (pv p) (0, 0) _ r1 Try.underlying29 rfl (size_pv p) ?_)
        | (refine wpList_load_row rfl 29 (.tmp 2) rfl gx rfl 29 (pv a) (0, 0) _ r2 Try.underlying29 rfl (size_pv a) ?_)
        | (refine BigFrame.wpList_want rfl (fun K hK => ?_); refine wp_neq 29 29 (.tmp 94) (.tmp 95) rfl (pv p) (pv a) rfl rfl guard_point _ (eq_point9 p a _) ?_; rw [EQ.out]; refine hK _ _ ?_; clear hK K)
        | fail)
      refine le_b8 _ _ _ _ _ _ _ _ _ _ _ _ _ _ _ _ _ _ _ _ _ _ _ _ _ _ _ _ _ _ _ _ _ _ _ _ _ _ _ _ _ _ _ _ _ _ _ _ _ _ _ _ _ _ _ _ _ _ _ _ _ _ _ _ _ _ _ _ _ _ _ _ _ _ _ _ _ _ _ _ _ _ _ _ _ _ _ _ _ _ _ _ _ _ _ _ _ _ _ _ _ _ _ _ _ _ _ _ _ _ _ _ _ _ _ _ _ _ _ _ _ _ _ _ _ _ _ _ _ _ _ _ _ _ _ _ _ _ _ _ _ _ _ _ _ _ _ _ _ wr w2 a g gx gl c8 nL A8 F S TT.out HAA.out HN.out B1.out ga p HG.out P1.out X1.out _ ?_
      rintro t14 t15 t99 t100 t101 t102 t103 t104 t105 t106 t107 t108 t109 t110 t111 t112 t113 t114 t115 t116 t117 t118 t119 t120 t121 t122 t123 t124 t125 t126 t127 t128 t129 w3 ⟨rfl, ⟨y, y1, y2, y3, y4⟩, b3⟩
      have Y := Lib.hid (And.intro y1 (And.intro y2 (And.intro y3 y4)))
      have B3 := Lib.hid b3
      clear y1 y2 y3 y4 b3 r1 r2
      have hc : n + 1 + cntL S.told y.s.e ≤ nL := by
        obtain ⟨z1, z2, _⟩ := Y.out
        have hm := TT.out.gad.inv.may y z1
        have hlt : y.s.e < y.t.e := by unfold mayL at hm; simp at hm; exact hm.2
        have := cntL_step S.told z1 hlt
        rw [z2] at this
        have := C1.out
        omega
      have HC := Lib.hid hc
      clear hc
      have hn : n ≤ nL := by have := HC.out; omega
      have d1 : decide ((n : Int) > (nL : Int)) = false := by simp; omega
      have d1' : decide ((nL : Int) < (n : Int)) = false := by simp; omega
      go_wp2_with fail
      exact ⟨⟨n + 1, y.s, by go_num, Y.out.2.2.2, Y.out.2.2.1, HC.out, B3.out⟩, by have := HC.out; simp [intOf]; omega⟩
end Go.Proofs.Ytcmebeoedagdfaa
