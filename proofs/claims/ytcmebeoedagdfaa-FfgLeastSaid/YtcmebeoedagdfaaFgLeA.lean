/- FgLeast: the link that leads to one that is justified. -/
import Derived.Test.YtcmebeoedagdfaaFgLeR
import Derived.Test.YtcmebeoedagdfaaFgFolB
import Derived.Deep.CutBlock
import Derived.Deep.Cut
namespace Go.Proofs.Ytcmebeoedagdfaa
open Go.ChangeMaps Go.MapKept Go.Maps Go.WideElems Go.RowKit Go.ChangeShapes Go.WideShapes Go.ChangeAt
set_option linter.unusedVariables false
set_option maxRecDepth 100000

noncomputable def le_b8C : Code := ((Try.f7.body.bind (blockOf 8))).getD .skip
set_option maxRecDepth 1000000 in
set_option maxHeartbeats 8000000 in
theorem le_b8 (c0 c1 c2 c3 c4 c6 c7 c9 c10 c11 c13 c16 c17 c18 c19 c20 c21 c22 c23 c24 c25 c26 c27 c28 c29 c30 c31 c32 c33 c34 c35 c36 c37 c38 c39 c40 c41 c42 c43 c44 c45 c46 c47 c48 c49 c50 c51 c52 c53 c54 c55 c56 c57 c58 c59 c60 c61 c62 c63 c64 c65 c66 c67 c68 c69 c70 c71 c72 c73 c74 c75 c76 c77 c78 c79 c80 c81 c82 c83 c84 c85 c86 c87 c88 c89 c90 c91 c92 c93 c94 c95 c96 c97 c98 c99 c100 c101 c102 c103 c104 c105 c106 c107 c108 c109 c110 c111 c112 c113 c114 c115 c116 c117 c118 c119 c120 c121 c122 c123 c124 c125 c126 c127 c128 c129 c130 c131 c132 c133 c134 c135 c136 c137 c138 c139 c140 c141 c142 c143 c144 c145 c146 c147 c148 c149 c150 c151 c152 c153 : Value) (w w2 : World) (a : Pt) (g gx gl c8 nL : Nat) (A8 : Option Addr) (F : Nat → Prop) (S : FgS) (T2 : LeT a g gx gl F S w2) (hA : 0 < nL → A8 = some ⟨gl, 0, none⟩) (hnL : nL = S.told.length) (hb : Below w2.heap.size w2 w) (ga : Nat) (p : Pt) (hga : w2.heap.size ≤ ga) (hp : PkB ga p w) (hx : ∃ (k : Nat) (y : Lk), S.told[k]? = some y ∧ y.t = p ∧ 1 ≤ stN S.stands y.s)
    (Q : Exit → Act → World → Prop) (hQ : ∀ (u14 u15 u99 u100 u101 u102 u103 u104 u105 u106 u107 u108 u109 u110 u111 u112 u113 u114 u115 u116 u117 u118 u119 u120 u121 u122 u123 u124 u125 u126 u127 u128 u129 : Value) (w' : World), (u14 = .bool true ∧ (∃ y ∈ S.told, y.t = p ∧ 1 ≤ stN S.stands y.s ∧ PkB ga y.s w') ∧ Below w2.heap.size w2 w') → Q .normal ⟨#[c0, c1, c2, c3, c4, .pointer (some ⟨g, 0, none⟩), c6, c7, .slice A8 nL c8, c9, c10, c11, .pointer (some ⟨ga, 0, none⟩), c13, u14, u15, c16, c17, c18, c19, c20, c21, c22, c23, c24, c25, c26, c27, c28, c29, c30, c31, c32, c33, c34, c35, c36, c37, c38, c39, c40, c41, c42, c43, c44, c45, c46, c47, c48, c49, c50, c51, c52, c53, c54, c55, c56, c57, c58, c59, c60, c61, c62, c63, c64, c65, c66, c67, c68, c69, c70, c71, c72, c73, c74, c75, c76, c77, c78, c79, c80, c81, c82, c83, c84, c85, c86, c87, c88, c89, c90, c91, c92, c93, c94, c95, c96, c97, c98, u99, u100, u101, u102, u103, u104, u105, u106, u107, u108, u109, u110, u111, u112, u113, u114, u115, u116, u117, u118, u119, u120, u121, u122, u123, u124, u125, u126, u127, u128, u129, c130, c131, c132, c133, c134, c135, c136, c137, c138, c139, c140, c141, c142, c143, c144, c145, c146, c147, c148, c149, c150, c151, c152, c153], []⟩ w') :
    Code.wp Try.prog le_b8C Q ⟨#[c0, c1, c2, c3, c4, .pointer (some ⟨g, 0, none⟩), c6, c7, .slice A8 nL c8, c9, c10, c11, .pointer (some ⟨ga, 0, none⟩), c13, .bool false, .int .i64 0, c16, c17, c18, c19, c20, c21, c22, c23, c24, c25, c26, c27, c28, c29, c30, c31, c32, c33, c34, c35, c36, c37, c38, c39, c40, c41, c42, c43, c44, c45, c46, c47, c48, c49, c50, c51, c52, c53, c54, c55, c56, c57, c58, c59, c60, c61, c62, c63, c64, c65, c66, c67, c68, c69, c70, c71, c72, c73, c74, c75, c76, c77, c78, c79, c80, c81, c82, c83, c84, c85, c86, c87, c88, c89, c90, c91, c92, c93, c94, c95, c96, c97, c98, c99, c100, c101, c102, c103, c104, c105, c106, c107, c108, c109, c110, c111, c112, c113, c114, c115, c116, c117, c118, c119, c120, c121, c122, c123, c124, c125, c126, c127, c128, c129, c130, c131, c132, c133, c134, c135, c136, c137, c138, c139, c140, c141, c142, c143, c144, c145, c146, c147, c148, c149, c150, c151, c152, c153], []⟩ w := by
  conv => arg 2; whnf
  try dsimp only at hQ ⊢
  have TT := Lib.hid T2
  have HN := Lib.hid hnL
  have HQ := Lib.hid hQ
  have HB := Lib.hid hb
  have HG := Lib.hid hga
  have HP := Lib.hid hp
  have HX := Lib.hid hx
  have h59 : nL ≤ 59 := by rw [hnL]; exact T2.len
  obtain rfl := hA (by obtain ⟨k, y, h1, _⟩ := hx; have := (List.getElem?_eq_some_iff.1 h1).1; omega)
  clear T2 hA hnL hb hQ hga hp hx
  go_wp2_with fail
  go_loopw [14, 15] (fun v14 v15 u => ∃ k, k ≤ nL ∧ v15 = .int .i64 (k : Int) ∧ Below w2.heap.size w2 u ∧ ((v14 = .bool false ∧ PkB ga p u ∧ ∃ k' y, k ≤ k' ∧ S.told[k']? = some y ∧ y.t = p ∧ 1 ≤ stN S.stands y.s) ∨ (v14 = .bool true ∧ ∃ y ∈ S.told, y.t = p ∧ 1 ≤ stN S.stands y.s ∧ PkB ga y.s u))) (fun _ v15 _ => nL - (intOf v15).toNat)
  case atStart => exact ⟨0, Nat.zero_le _, rfl, HB.out, .inl ⟨rfl, HP.out, by obtain ⟨k, y, h⟩ := HX.out; exact ⟨k, y, Nat.zero_le _, h⟩⟩⟩
  case round =>
    clear HB HP HX
    obtain ⟨k, hk, rfl, q1, q2⟩ := hrel
    have B1 := Lib.hid q1
    rcases q2 with ⟨rfl, q2, q3⟩ | ⟨rfl, q2⟩
    · have P1 := Lib.hid q2
      have X1 := Lib.hid q3
      clear q1 q2 q3
      have hkn : k < nL := by
        obtain ⟨k', y, h1, h2, _⟩ := X1.out
        have := (List.getElem?_eq_some_iff.1 h2).1
        have := HN.out; omega
      obtain ⟨y, hy⟩ : ∃ y, S.told[k]? = some y := ⟨_, List.getElem?_eq_getElem (by have := HN.out; omega)⟩
      have TU := Lib.hid (TT.out.below B1.out)
      have YK := Lib.hid hy
      clear hy
      go_wp2_with fail
      by_cases hs : y.t = p
      · refine le_r30t _ _ _ _ _ _ _ _ _ _ _ _ _ _ _ _ _ _ _ _ _ _ _ _ _ _ _ _ _ _ _ _ _ _ _ _ _ _ _ _ _ _ _ _ _ _ _ _ _ _ _ _ _ _ _ _ _ _ _ _ _ _ _ _ _ _ _ _ _ _ _ _ _ _ _ _ _ _ _ _ _ _ _ _ _ _ _ _ _ _ _ _ _ _ _ _ _ _ _ _ _ _ _ _ _ _ _ _ _ _ _ _ _ _ _ _ _ _ _ _ _ _ _ _ _ _ _ _ _ _ _ _ _ _ _ _ _ _ _ _ _ _ _ _ _ _ _ _ _ _ wr a g gl c8 nL ga k F S p y hkn (by omega) (TU.out.lks k y YK.out).1 (TU.out.lks k y YK.out).2 P1.out TU.out.gad hs _ ?_
        intro t109 t110 t111 t112 t113 t114 t115 t116 t117 t118 t119 t120 t121 t122 t123 w3 b3
        have B3 := Lib.hid (B1.out.trans (b3.mono B1.out.size))
        have P3 := Lib.hid (P1.out.below b3 P1.out.lt)
        have HS := Lib.hid hs
        clear b3 hs
        by_cases h1 : 1 ≤ stN S.stands y.s
        · rw [decide_eq_true h1]
          have H1 := Lib.hid h1
          have s1 := rangeSrc ((TT.out.below B3.out).lks k y YK.out).2
          have r3 := P3.out.row
          have GL := Lib.hid ((TT.out.below B3.out).lks k y YK.out).1
          clear h1
          go_wp2_with (first
            | (refine wpList_load_mid rfl 29 (.tmp 128) rfl gl (k * 66) (by go_simp) (pC y.s) _ s1 Try.underlying29 rfl (by rw [size_pv]; rfl) ?_; rw [pC_arr])
            | (refine wpList_store_row rfl 29 (.tmp 12) (.tmp 129) rfl ga (pv y.s) rfl rfl 29 (pv p) r3 (size_pv y.s) (by rw [show (pv y.s).size = 33 from rowV_size _ _]; exact rowV_size _ _) (rowV_one 33 _ (pf_one y.s)) ?_; obtain ⟨w4, hw4⟩ : ∃ w4, w4 = w3.setRow ga (pv y.s) := ⟨_, rfl⟩; rw [← hw4]; have P4 : Hid (PkB ga y.s w4) := (by rw [hw4]; exact Fill.of_row (setRow_heap _ _ _ _ _ _ r3)); have B4 : Hid (Below w2.heap.size w2 w4) := (by rw [hw4]; exact below_setRow B3.out HG.out _); clear hw4)
            | fail)
          exact ⟨⟨k + 1, by omega, by go_num, B4.out, .inr ⟨rfl, y, List.mem_of_getElem? YK.out, HS.out, H1.out, P4.out⟩⟩, by simp [intOf]; omega⟩
        · rw [decide_eq_false h1]
          have X3 : Hid (∃ k' y, k + 1 ≤ k' ∧ S.told[k']? = some y ∧ y.t = p ∧ 1 ≤ stN S.stands y.s) := by
            obtain ⟨k', z, e1, e2, e3, e4⟩ := X1.out
            rcases Nat.lt_or_ge k k' with e | e
            · exact ⟨k', z, e, e2, e3, e4⟩
            · obtain rfl : k' = k := by omega
              rw [YK.out] at e2
              injection e2 with e2
              subst e2
              exact absurd e4 h1
          clear h1
          go_wp2_with fail
          exact ⟨⟨k + 1, by omega, by go_num, B3.out, .inl ⟨rfl, P3.out, X3.out⟩⟩, by simp [intOf]; omega⟩
      · refine le_r30f _ _ _ _ _ _ _ _ _ _ _ _ _ _ _ _ _ _ _ _ _ _ _ _ _ _ _ _ _ _ _ _ _ _ _ _ _ _ _ _ _ _ _ _ _ _ _ _ _ _ _ _ _ _ _ _ _ _ _ _ _ _ _ _ _ _ _ _ _ _ _ _ _ _ _ _ _ _ _ _ _ _ _ _ _ _ _ _ _ _ _ _ _ _ _ _ _ _ _ _ _ _ _ _ _ _ _ _ _ _ _ _ _ _ _ _ _ _ _ _ _ _ _ _ _ _ _ _ _ _ _ _ _ _ _ _ _ _ _ _ _ _ _ _ _ _ _ _ _ _ wr a g gl c8 nL ga k F S p y hkn (by omega) (TU.out.lks k y YK.out).1 (TU.out.lks k y YK.out).2 P1.out TU.out.gad hs _ ?_
        intro t109 t110 t111 t112 t113 t114 t115 t116 t117 t118 t119 t120 t121 t122 t123 w3 b3
        have B3 := Lib.hid (B1.out.trans (b3.mono B1.out.size))
        have P3 := Lib.hid (P1.out.below b3 P1.out.lt)
        have X3 : Hid (∃ k' y, k + 1 ≤ k' ∧ S.told[k']? = some y ∧ y.t = p ∧ 1 ≤ stN S.stands y.s) := by
          obtain ⟨k', z, e1, e2, e3, e4⟩ := X1.out
          rcases Nat.lt_or_ge k k' with e | e
          · exact ⟨k', z, e, e2, e3, e4⟩
          · obtain rfl : k' = k := by omega
            rw [YK.out] at e2
            injection e2 with e2
            subst e2
            exact absurd e3 hs
        clear b3 hs
        go_wp2_with fail
        exact ⟨⟨k + 1, by omega, by go_num, B3.out, .inl ⟨rfl, P3.out, X3.out⟩⟩, by simp [intOf]; omega⟩
    · have Y1 := Lib.hid q2
      clear q1 q2
      by_cases hkn : k < nL
      · go_wp2_with fail
        exact HQ.out _ _ _ _ _ _ _ _ _ _ _ _ _ _ _ _ _ _ _ _ _ _ _ _ _ _ _ _ _ _ _ _ _ _ ⟨rfl, Y1.out, B1.out⟩
      · go_wp2_with fail
        exact HQ.out _ _ _ _ _ _ _ _ _ _ _ _ _ _ _ _ _ _ _ _ _ _ _ _ _ _ _ _ _ _ _ _ _ _ ⟨rfl, Y1.out, B1.out⟩
end Go.Proofs.Ytcmebeoedagdfaa
