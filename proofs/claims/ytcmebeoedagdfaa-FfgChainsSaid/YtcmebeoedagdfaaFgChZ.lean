/- FfgChains: the loops that tell its links. -/
import Derived.Test.YtcmebeoedagdfaaFgChX
import Derived.Test.YtcmebeoedagdfaaFgChR
import Derived.Deep.CutBlock
namespace Go.Proofs.Ytcmebeoedagdfaa
open Go.ChangeMaps Go.MapKept Go.Maps Go.WideElems Go.RowKit Go.ChangeShapes Go.WideShapes Go.ChangeAt
set_option linter.unusedVariables false
set_option maxRecDepth 100000

theorem ch_r21' (c0 c1 c2 c3 c4 c6 c8 c9 c10 c12 c13 c14 c15 c16 c17 c18 c19 c20 c21 c22 c23 c24 c25 c26 c27 c28 c29 c30 c31 c32 c33 c34 c35 c36 c37 c38 c39 c40 c41 c42 c43 c44 c45 c46 c47 c48 c49 c50 c51 c52 c53 c54 c55 c56 c57 c58 c59 c60 c61 c62 c63 c64 c65 c66 c67 c68 c69 c70 c71 c72 c73 c74 c75 c76 c77 c78 c79 c80 c81 c82 c83 c84 c85 c86 c87 c88 c89 c90 c91 c92 c93 c94 c95 c96 c97 c98 c99 c100 c101 c102 c103 c104 c105 c106 c107 c108 c109 c110 c111 c112 c113 c114 c115 c116 c117 c118 c119 c120 c121 c122 c123 c124 c125 c126 c127 c128 c129 c130 c131 c132 c133 c134 c135 c136 c137 c138 c139 c140 c141 c142 c143 c144 c145 c146 c147 c148 c149 c150 c151 c152 c153 c154 c155 c156 c157 c158 c159 c160 c161 c162 c163 c164 c165 c166 c167 c168 c169 c170 c171 c172 c173 c174 c175 c176 c177 c178 c179 c180 c181 c182 c183 c184 c185 c186 c187 c188 c189 c190 : Value) (w : World) (g gA cA n k3 nL n0 MM KK : Nat) (F : Nat → Prop) (S : FgS) (x y : Pt) (hk3 : n + 1 = k3) (hf : FgK g F S n0 MM KK w) (hx : w.rangeAt gA (n * 33) (pC x)) (hy : w.rangeAt gA ((n + 1) * 33) (pC y)) (hgA : gA < w.heap.size) (hgF : ¬ F gA) (hn : n + 1 < nL) (hnL : nL ≤ 60) (hM : MM ≤ 1000) (hK' : KK ≤ 1000) (hn0 : n0 ≤ 800000) (hl : S.links.length ≤ 1000000)
    (Q : Exit → Act → World → Prop) (hQ : ∀ (u121 u122 u123 u124 u125 u126 u127 u128 u129 u130 u131 u132 : Value) (w' : World), StrongR g F S ⟨x, y⟩ n0 MM KK w w' → Q .normal ⟨#[c0, c1, c2, c3, c4, .slice (some ⟨gA, 0, none⟩) nL cA, c6, .pointer (some ⟨g, 0, none⟩), c8, c9, c10, .int .i64 (k3 : Int), c12, c13, c14, c15, c16, c17, c18, c19, c20, c21, c22, c23, c24, c25, c26, c27, c28, c29, c30, c31, c32, c33, c34, c35, c36, c37, c38, c39, c40, c41, c42, c43, c44, c45, c46, c47, c48, c49, c50, c51, c52, c53, c54, c55, c56, c57, c58, c59, c60, c61, c62, c63, c64, c65, c66, c67, c68, c69, c70, c71, c72, c73, c74, c75, c76, c77, c78, c79, c80, c81, c82, c83, c84, c85, c86, c87, c88, c89, c90, c91, c92, c93, c94, c95, c96, c97, c98, c99, c100, c101, c102, c103, c104, c105, c106, c107, c108, c109, c110, c111, c112, c113, c114, c115, c116, c117, c118, c119, c120, u121, u122, u123, u124, u125, u126, u127, u128, u129, u130, u131, u132, c133, c134, c135, c136, c137, c138, c139, c140, c141, c142, c143, c144, c145, c146, c147, c148, c149, c150, c151, c152, c153, c154, c155, c156, c157, c158, c159, c160, c161, c162, c163, c164, c165, c166, c167, c168, c169, c170, c171, c172, c173, c174, c175, c176, c177, c178, c179, c180, c181, c182, c183, c184, c185, c186, c187, c188, c189, c190], []⟩ w') :
    Code.wp Try.prog ch_r21C Q ⟨#[c0, c1, c2, c3, c4, .slice (some ⟨gA, 0, none⟩) nL cA, c6, .pointer (some ⟨g, 0, none⟩), c8, c9, c10, .int .i64 (k3 : Int), c12, c13, c14, c15, c16, c17, c18, c19, c20, c21, c22, c23, c24, c25, c26, c27, c28, c29, c30, c31, c32, c33, c34, c35, c36, c37, c38, c39, c40, c41, c42, c43, c44, c45, c46, c47, c48, c49, c50, c51, c52, c53, c54, c55, c56, c57, c58, c59, c60, c61, c62, c63, c64, c65, c66, c67, c68, c69, c70, c71, c72, c73, c74, c75, c76, c77, c78, c79, c80, c81, c82, c83, c84, c85, c86, c87, c88, c89, c90, c91, c92, c93, c94, c95, c96, c97, c98, c99, c100, c101, c102, c103, c104, c105, c106, c107, c108, c109, c110, c111, c112, c113, c114, c115, c116, c117, c118, c119, c120, c121, c122, c123, c124, c125, c126, c127, c128, c129, c130, c131, c132, c133, c134, c135, c136, c137, c138, c139, c140, c141, c142, c143, c144, c145, c146, c147, c148, c149, c150, c151, c152, c153, c154, c155, c156, c157, c158, c159, c160, c161, c162, c163, c164, c165, c166, c167, c168, c169, c170, c171, c172, c173, c174, c175, c176, c177, c178, c179, c180, c181, c182, c183, c184, c185, c186, c187, c188, c189, c190], []⟩ w := by
  subst hk3
  exact ch_r21 c0 c1 c2 c3 c4 c6 c8 c9 c10 c12 c13 c14 c15 c16 c17 c18 c19 c20 c21 c22 c23 c24 c25 c26 c27 c28 c29 c30 c31 c32 c33 c34 c35 c36 c37 c38 c39 c40 c41 c42 c43 c44 c45 c46 c47 c48 c49 c50 c51 c52 c53 c54 c55 c56 c57 c58 c59 c60 c61 c62 c63 c64 c65 c66 c67 c68 c69 c70 c71 c72 c73 c74 c75 c76 c77 c78 c79 c80 c81 c82 c83 c84 c85 c86 c87 c88 c89 c90 c91 c92 c93 c94 c95 c96 c97 c98 c99 c100 c101 c102 c103 c104 c105 c106 c107 c108 c109 c110 c111 c112 c113 c114 c115 c116 c117 c118 c119 c120 c121 c122 c123 c124 c125 c126 c127 c128 c129 c130 c131 c132 c133 c134 c135 c136 c137 c138 c139 c140 c141 c142 c143 c144 c145 c146 c147 c148 c149 c150 c151 c152 c153 c154 c155 c156 c157 c158 c159 c160 c161 c162 c163 c164 c165 c166 c167 c168 c169 c170 c171 c172 c173 c174 c175 c176 c177 c178 c179 c180 c181 c182 c183 c184 c185 c186 c187 c188 c189 c190 w g gA cA n nL n0 MM KK F S x y hf hx hy hgA hgF hn hnL hM hK' hn0 hl Q hQ
noncomputable def ch_b4C : Code := ((Try.f8.body.bind (blockOf 4))).getD .skip
set_option maxRecDepth 1000000 in
set_option maxHeartbeats 8000000 in
theorem ch_b4 (c0 c1 c2 c3 c4 c6 c8 c9 c10 c12 c13 c14 c15 c16 c17 c18 c19 c20 c21 c22 c23 c24 c25 c26 c27 c28 c29 c30 c31 c32 c33 c34 c35 c36 c37 c38 c39 c40 c41 c42 c43 c44 c45 c46 c47 c48 c49 c50 c51 c52 c53 c54 c55 c56 c57 c58 c59 c60 c61 c62 c63 c64 c65 c66 c67 c68 c69 c70 c71 c72 c73 c74 c75 c76 c77 c78 c79 c80 c81 c82 c83 c84 c85 c86 c87 c88 c89 c90 c91 c92 c93 c94 c95 c96 c97 c98 c99 c100 c101 c102 c103 c104 c105 c106 c107 c108 c109 c110 c111 c112 c113 c114 c115 c116 c117 c118 c119 c120 c121 c122 c123 c124 c125 c126 c127 c128 c129 c130 c131 c132 c133 c134 c135 c136 c137 c138 c139 c140 c141 c142 c143 c144 c145 c146 c147 c148 c149 c150 c151 c152 c153 c154 c155 c156 c157 c158 c159 c160 c161 c162 c163 c164 c165 c166 c167 c168 c169 c170 c171 c172 c173 c174 c175 c176 c177 c178 c179 c180 c181 c182 c183 c184 c185 c186 c187 c188 c189 c190 : Value) (w : World) (w0 : World) (g gA c5 i M hz : Nat) (E : List Nat) (F : Nat → Prop) (S : FgS) (hC : ChS E M i g gA hz w0 F S w) (inj : ∀ a b, a ≤ M → b ≤ M → pk E a = pk E b → a = b) (may : ∀ k, k < M → mayL (lkk (pk E) k) = true) (hM : M + 1 = i) (h60 : i ≤ 60)
    (Q : Exit → Act → World → Prop) (hQ : ∀ (u11 u117 u118 u119 u120 u121 u122 u123 u124 u125 u126 u127 u128 u129 u130 u131 u132 : Value) (w' : World), (∃ F S, ChS E M i g gA hz w0 F S w' ∧ ∀ k, k < M → lkk (pk E) k ∈ S.told) → Q .normal ⟨#[c0, c1, c2, c3, c4, .slice (some ⟨gA, 0, none⟩) i c5, c6, .pointer (some ⟨g, 0, none⟩), c8, c9, c10, u11, c12, c13, c14, c15, c16, c17, c18, c19, c20, c21, c22, c23, c24, c25, c26, c27, c28, c29, c30, c31, c32, c33, c34, c35, c36, c37, c38, c39, c40, c41, c42, c43, c44, c45, c46, c47, c48, c49, c50, c51, c52, c53, c54, c55, c56, c57, c58, c59, c60, c61, c62, c63, c64, c65, c66, c67, c68, c69, c70, c71, c72, c73, c74, c75, c76, c77, c78, c79, c80, c81, c82, c83, c84, c85, c86, c87, c88, c89, c90, c91, c92, c93, c94, c95, c96, c97, c98, c99, c100, c101, c102, c103, c104, c105, c106, c107, c108, c109, c110, c111, c112, c113, c114, c115, c116, u117, u118, u119, u120, u121, u122, u123, u124, u125, u126, u127, u128, u129, u130, u131, u132, c133, c134, c135, c136, c137, c138, c139, c140, c141, c142, c143, c144, c145, c146, c147, c148, c149, c150, c151, c152, c153, c154, c155, c156, c157, c158, c159, c160, c161, c162, c163, c164, c165, c166, c167, c168, c169, c170, c171, c172, c173, c174, c175, c176, c177, c178, c179, c180, c181, c182, c183, c184, c185, c186, c187, c188, c189, c190], []⟩ w') :
    Code.wp Try.prog ch_b4C Q ⟨#[c0, c1, c2, c3, c4, .slice (some ⟨gA, 0, none⟩) i c5, c6, .pointer (some ⟨g, 0, none⟩), c8, c9, c10, .int .i64 (M : Int), c12, c13, c14, c15, c16, c17, c18, c19, c20, c21, c22, c23, c24, c25, c26, c27, c28, c29, c30, c31, c32, c33, c34, c35, c36, c37, c38, c39, c40, c41, c42, c43, c44, c45, c46, c47, c48, c49, c50, c51, c52, c53, c54, c55, c56, c57, c58, c59, c60, c61, c62, c63, c64, c65, c66, c67, c68, c69, c70, c71, c72, c73, c74, c75, c76, c77, c78, c79, c80, c81, c82, c83, c84, c85, c86, c87, c88, c89, c90, c91, c92, c93, c94, c95, c96, c97, c98, c99, c100, c101, c102, c103, c104, c105, c106, c107, c108, c109, c110, c111, c112, c113, c114, c115, c116, c117, c118, c119, c120, c121, c122, c123, c124, c125, c126, c127, c128, c129, c130, c131, c132, c133, c134, c135, c136, c137, c138, c139, c140, c141, c142, c143, c144, c145, c146, c147, c148, c149, c150, c151, c152, c153, c154, c155, c156, c157, c158, c159, c160, c161, c162, c163, c164, c165, c166, c167, c168, c169, c170, c171, c172, c173, c174, c175, c176, c177, c178, c179, c180, c181, c182, c183, c184, c185, c186, c187, c188, c189, c190], []⟩ w := by
  conv => arg 2; whnf
  try dsimp only at hQ ⊢
  have C0 := Lib.hid hC
  have INJ := Lib.hid inj
  have MAY := Lib.hid may
  have HM := Lib.hid hM
  have HQ := Lib.hid hQ
  clear hC inj may hM hQ
  go_wp2_with fail
  go_loopw [11] (fun v11 u => ∃ k F S, k ≤ M ∧ v11 = .int .i64 (k : Int) ∧ ChS E M i g gA hz w0 F S u ∧ ∀ j, k ≤ j → j < M → lkk (pk E) j ∈ S.told) (fun v11 _ => (intOf v11).toNat)
  case atStart => exact ⟨M, F, S, Nat.le_refl _, rfl, C0.out, fun j h1 h2 => by omega⟩
  case round =>
    clear C0
    obtain ⟨k3, F3, S3, hk3, rfl, q1, q2⟩ := hrel
    have C3 := Lib.hid q1
    have T3 := Lib.hid q2
    clear q1 q2
    rcases Nat.eq_zero_or_pos k3 with h0 | h0
    · subst h0
      go_wp2_with fail
      exact HQ.out _ _ _ _ _ _ _ _ _ _ _ _ _ _ _ _ _ _ ⟨F3, S3, C3.out, fun k hk => T3.out k (Nat.zero_le _) hk⟩
    · obtain ⟨n, hn⟩ : ∃ n, n + 1 = k3 := ⟨k3 - 1, by omega⟩
      have d0 : decide ((k3 : Int) > 0) = true := decide_eq_true (by omega)
      have d0' : decide (0 < (k3 : Int)) = true := decide_eq_true (by omega)
      have KN := Lib.hid hn
      have HK3 := Lib.hid hk3
      obtain ⟨p1, p2, p3, p4⟩ := C3.out.row.pre (by have := HM.out; omega)
      clear hn hk3
      go_wp2_with fail
      refine ch_r21' _ _ _ _ _ _ _ _ _ _ _ _ _ _ _ _ _ _ _ _ _ _ _ _ _ _ _ _ _ _ _ _ _ _ _ _ _ _ _ _ _ _ _ _ _ _ _ _ _ _ _ _ _ _ _ _ _ _ _ _ _ _ _ _ _ _ _ _ _ _ _ _ _ _ _ _ _ _ _ _ _ _ _ _ _ _ _ _ _ _ _ _ _ _ _ _ _ _ _ _ _ _ _ _ _ _ _ _ _ _ _ _ _ _ _ _ _ _ _ _ _ _ _ _ _ _ _ _ _ _ _ _ _ _ _ _ _ _ _ _ _ _ _ _ _ _ _ _ _ _ _ _ _ _ _ _ _ _ _ _ _ _ _ _ _ _ _ _ _ _ _ _ _ _ _ _ _ _ _ _ _ _ _ _ _ _ _ _ wr g gA c5 n k3 i (nS S3.told.length) S3.told.length (1 + 2 * S3.told.length) F3 S3 (pk E n) (pk E (n + 1)) KN.out C3.out.row.mem (C3.out.cells n (by have := HM.out; have := KN.out; have := HK3.out; omega)) (C3.out.cells (n + 1) (by have := HM.out; have := KN.out; have := HK3.out; omega)) (Nat.lt_of_lt_of_le C3.out.lo C3.out.size) C3.out.noF (by have := HM.out; have := KN.out; have := HK3.out; omega) h60 p1 p2 p3 p4 _ ?_
      intro t121 t122 t123 t124 t125 t126 t127 t128 t129 t130 t131 t132 w2 hr
      obtain ⟨F4, S4, c4, m4, t4⟩ := C3.out.step INJ.out (show n < M by have := KN.out; have := HK3.out; omega) (MAY.out n (by have := KN.out; have := HK3.out; omega)) hr
      have C4 := Lib.hid c4
      have T4 : Hid (∀ j, n ≤ j → j < M → lkk (pk E) j ∈ S4.told) := fun j h1 h2 => by
        have := KN.out
        rcases Nat.lt_or_ge n j with h3 | h3
        · exact t4 _ (T3.out j (by omega) h2)
        · obtain rfl : j = n := by omega
          exact m4
      clear c4 hr m4 t4 p1 p2 p3 p4
      have wn : IntKind.i64.wrap ((k3 : Int) - 1) = (n : Int) := by have := HM.out; have := KN.out; have := HK3.out; simp [IntKind.wrap, IntKind.bits, IntKind.signed]; omega
      go_wp2_with fail
      exact ⟨⟨n, F4, S4, by have := KN.out; have := HK3.out; omega, by go_num, C4.out, T4.out⟩, by have := KN.out; simp [intOf]; omega⟩
end Go.Proofs.Ytcmebeoedagdfaa
