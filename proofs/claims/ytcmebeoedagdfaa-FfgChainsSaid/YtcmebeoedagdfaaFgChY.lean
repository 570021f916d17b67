/- FfgChains: the loops that tell its links. -/
import Derived.Test.YtcmebeoedagdfaaFgChX
import Derived.Test.YtcmebeoedagdfaaFgChR
import Derived.Deep.CutBlock
namespace Go.Proofs.Ytcmebeoedagdfaa
open Go.ChangeMaps Go.MapKept Go.Maps Go.WideElems Go.RowKit Go.ChangeShapes Go.WideShapes Go.ChangeAt
set_option linter.unusedVariables false
set_option maxRecDepth 100000

theorem ix_n (z : Int) (M i : Nat) (hM : M + 1 = i) (hM1 : 1 ≤ M) (hi : i ≤ 60) : ∃ n : Nat, n < M ∧ (wrap64 (wrap64 (z.tmod (M : Int) + (i : Int)) - 1)).tmod (M : Int) = (n : Int) := by
  have h1 : z.tmod (M : Int) < M := Int.tmod_lt_of_pos z (by omega)
  have h2 : -(M : Int) < z.tmod (M : Int) := by
    have := Int.tmod_lt_of_pos (-z) (show (0:Int) < M by omega)
    rw [Int.neg_tmod] at this
    omega
  have e1 : wrap64 (z.tmod (M : Int) + (i : Int)) = z.tmod (M : Int) + (i : Int) := by unfold wrap64; omega
  have e2 : wrap64 (z.tmod (M : Int) + (i : Int) - 1) = z.tmod (M : Int) + (i : Int) - 1 := by unfold wrap64; omega
  rw [e1, e2]
  obtain ⟨y, hy⟩ := Int.eq_ofNat_of_zero_le (show 0 ≤ z.tmod (M : Int) + (i : Int) - 1 by omega)
  rw [hy]
  refine ⟨y % M, Nat.mod_lt _ (by omega), ?_⟩
  rw [← Int.ofNat_tmod]
noncomputable def ch_b2C : Code := ((Try.f8.body.bind (blockOf 2))).getD .skip
set_option maxRecDepth 1000000 in
set_option maxHeartbeats 8000000 in
theorem ch_b2 (c0 c2 c3 c4 c6 c8 c10 c11 c12 c13 c14 c15 c16 c17 c18 c19 c20 c21 c22 c23 c24 c25 c26 c27 c28 c29 c30 c31 c32 c33 c34 c35 c36 c37 c38 c39 c40 c41 c42 c43 c44 c45 c46 c47 c48 c49 c50 c51 c52 c53 c54 c55 c56 c57 c58 c59 c60 c61 c62 c63 c64 c65 c66 c67 c68 c69 c70 c71 c72 c73 c74 c75 c76 c77 c78 c79 c80 c81 c82 c83 c84 c85 c86 c87 c88 c89 c90 c91 c92 c93 c94 c95 c96 c97 c98 c99 c100 c101 c102 c103 c104 c105 c106 c107 c108 c109 c110 c111 c112 c113 c114 c115 c116 c117 c118 c119 c120 c121 c122 c123 c124 c125 c126 c127 c128 c129 c130 c131 c132 c133 c134 c135 c136 c137 c138 c139 c140 c141 c142 c143 c144 c145 c146 c147 c148 c149 c150 c151 c152 c153 c154 c155 c156 c157 c158 c159 c160 c161 c162 c163 c164 c165 c166 c167 c168 c169 c170 c171 c172 c173 c174 c175 c176 c177 c178 c179 c180 c181 c182 c183 c184 c185 c186 c187 c188 c189 c190 : Value) (w : World) (w0 : World) (g gA c5 i nO cO M hz : Nat) (B : Option Addr) (E : List Nat) (O : List Int) (F : Nat → Prop) (S : FgS) (hC : ChS E M i g gA hz w0 F S w) (inj : ∀ a b, a ≤ M → b ≤ M → pk E a = pk E b → a = b) (may : ∀ k, k < M → mayL (lkk (pk E) k) = true) (hM : M + 1 = i) (h60 : i ≤ 60) (hO : nO ≤ 200) (hnO : nO = O.length) (KO : ∀ u, Below w0.heap.size w0 u → ∀ (i : Nat) z, O[i]? = some z → ∃ xb, B = some xb ∧ u.cell? (xb.add i) = some (.int .i64 z))
    (Q : Exit → Act → World → Prop) (hQ : ∀ (u9 u10 u75 u76 u77 u78 u79 u80 u81 u82 u83 u84 u85 u86 u87 u88 u89 u90 u91 u92 u93 u94 u95 u96 u97 u98 u99 u100 u101 u102 u103 u104 u105 u106 u107 u108 u109 u110 u111 u112 u113 : Value) (w' : World), (∃ F S, ChS E M i g gA hz w0 F S w') → Q .normal ⟨#[c0, .slice B nO cO, c2, c3, c4, .slice (some ⟨gA, 0, none⟩) i c5, c6, .pointer (some ⟨g, 0, none⟩), c8, u9, u10, c11, c12, c13, c14, c15, c16, c17, c18, c19, c20, c21, c22, c23, c24, c25, c26, c27, c28, c29, c30, c31, c32, c33, c34, c35, c36, c37, c38, c39, c40, c41, c42, c43, c44, c45, c46, c47, c48, c49, c50, c51, c52, c53, c54, c55, c56, c57, c58, c59, c60, c61, c62, c63, c64, c65, c66, c67, c68, c69, c70, c71, c72, c73, c74, u75, u76, u77, u78, u79, u80, u81, u82, u83, u84, u85, u86, u87, u88, u89, u90, u91, u92, u93, u94, u95, u96, u97, u98, u99, u100, u101, u102, u103, u104, u105, u106, u107, u108, u109, u110, u111, u112, u113, c114, c115, c116, c117, c118, c119, c120, c121, c122, c123, c124, c125, c126, c127, c128, c129, c130, c131, c132, c133, c134, c135, c136, c137, c138, c139, c140, c141, c142, c143, c144, c145, c146, c147, c148, c149, c150, c151, c152, c153, c154, c155, c156, c157, c158, c159, c160, c161, c162, c163, c164, c165, c166, c167, c168, c169, c170, c171, c172, c173, c174, c175, c176, c177, c178, c179, c180, c181, c182, c183, c184, c185, c186, c187, c188, c189, c190], []⟩ w') :
    Code.wp Try.prog ch_b2C Q ⟨#[c0, .slice B nO cO, c2, c3, c4, .slice (some ⟨gA, 0, none⟩) i c5, c6, .pointer (some ⟨g, 0, none⟩), c8, .int .i64 0, c10, c11, c12, c13, c14, c15, c16, c17, c18, c19, c20, c21, c22, c23, c24, c25, c26, c27, c28, c29, c30, c31, c32, c33, c34, c35, c36, c37, c38, c39, c40, c41, c42, c43, c44, c45, c46, c47, c48, c49, c50, c51, c52, c53, c54, c55, c56, c57, c58, c59, c60, c61, c62, c63, c64, c65, c66, c67, c68, c69, c70, c71, c72, c73, c74, c75, c76, c77, c78, c79, c80, c81, c82, c83, c84, c85, c86, c87, c88, c89, c90, c91, c92, c93, c94, c95, c96, c97, c98, c99, c100, c101, c102, c103, c104, c105, c106, c107, c108, c109, c110, c111, c112, c113, c114, c115, c116, c117, c118, c119, c120, c121, c122, c123, c124, c125, c126, c127, c128, c129, c130, c131, c132, c133, c134, c135, c136, c137, c138, c139, c140, c141, c142, c143, c144, c145, c146, c147, c148, c149, c150, c151, c152, c153, c154, c155, c156, c157, c158, c159, c160, c161, c162, c163, c164, c165, c166, c167, c168, c169, c170, c171, c172, c173, c174, c175, c176, c177, c178, c179, c180, c181, c182, c183, c184, c185, c186, c187, c188, c189, c190], []⟩ w := by
  conv => arg 2; whnf
  try dsimp only at hQ ⊢
  have C0 := Lib.hid hC
  have INJ := Lib.hid inj
  have MAY := Lib.hid may
  have HM := Lib.hid hM
  have KOh := Lib.hid KO
  have HN := Lib.hid hnO
  have HQ := Lib.hid hQ
  clear hC inj may hM KO hnO hQ
  go_wp2_with fail
  go_loopw [9] (fun v9 u => ∃ k F S, k ≤ nO ∧ v9 = .int .i64 (k : Int) ∧ ChS E M i g gA hz w0 F S u) (fun v9 _ => nO - (intOf v9).toNat)
  case atStart => exact ⟨0, F, S, Nat.zero_le _, rfl, C0.out⟩
  case round =>
    clear C0
    obtain ⟨k, F2, S2, hk, rfl, q1⟩ := hrel
    have C1 := Lib.hid q1
    clear q1
    by_cases hkO : k < nO
    · by_cases hi2 : 1 < i
      · obtain ⟨z, hz1⟩ : ∃ z, O[k]? = some z := ⟨_, List.getElem?_eq_getElem (by have := HN.out; omega)⟩
        obtain ⟨xb, hB, c1⟩ := KOh.out wr C1.out.bel k z hz1
        subst hB
        have wi : IntKind.i64.wrap ((i : Int) - 1) = (M : Int) := by have := HM.out; simp [IntKind.wrap, IntKind.bits, IntKind.signed]; omega
        have mnz : (M : Int) ≠ 0 := by have := HM.out; omega
        obtain ⟨n, hn, en⟩ := ix_n z M i HM.out (by have := HM.out; omega) h60
        have EN := Lib.hid (And.intro hn en)
        clear hn en
        go_wp2_with fail
        rw [EN.out.2]
        obtain ⟨p1, p2, p3, p4⟩ := C1.out.row.pre (by have := HM.out; omega)
        refine ch_r17 _ _ _ _ _ _ _ _ _ _ _ _ _ _ _ _ _ _ _ _ _ _ _ _ _ _ _ _ _ _ _ _ _ _ _ _ _ _ _ _ _ _ _ _ _ _ _ _ _ _ _ _ _ _ _ _ _ _ _ _ _ _ _ _ _ _ _ _ _ _ _ _ _ _ _ _ _ _ _ _ _ _ _ _ _ _ _ _ _ _ _ _ _ _ _ _ _ _ _ _ _ _ _ _ _ _ _ _ _ _ _ _ _ _ _ _ _ _ _ _ _ _ _ _ _ _ _ _ _ _ _ _ _ _ _ _ _ _ _ _ _ _ _ _ _ _ _ _ _ _ _ _ _ _ _ _ _ _ _ _ _ _ _ _ _ _ _ _ _ _ _ _ _ _ _ _ _ _ _ _ _ _ _ _ _ _ _ _ wr g gA c5 n i (nS S2.told.length) S2.told.length (1 + 2 * S2.told.length) F2 S2 (pk E n) (pk E (n + 1)) C1.out.row.mem (C1.out.cells n (by have := EN.out.1; have := HM.out; omega)) (C1.out.cells (n + 1) (by have := EN.out.1; have := HM.out; omega)) (Nat.lt_of_lt_of_le C1.out.lo C1.out.size) C1.out.noF (by have := EN.out.1; have := HM.out; omega) h60 p1 p2 p3 p4 _ ?_
        intro t102 t103 t104 t105 t106 t107 t108 t109 t110 t111 t112 t113 w2 hr
        obtain ⟨F3, S3, c3, _, _⟩ := C1.out.step INJ.out EN.out.1 (MAY.out n EN.out.1) hr
        have C3 := Lib.hid c3
        clear c3 hr p1 p2 p3 p4
        go_wp2_with fail
        exact ⟨⟨k + 1, F3, S3, by omega, by go_num, C3.out⟩, by simp [intOf]; omega⟩
      · have di : decide ((i : Int) > 1) = false := by simp; omega
        have di' : decide (1 < (i : Int)) = false := by simp; omega
        go_wp2_with fail
        exact HQ.out _ _ _ _ _ _ _ _ _ _ _ _ _ _ _ _ _ _ _ _ _ _ _ _ _ _ _ _ _ _ _ _ _ _ _ _ _ _ _ _ _ _ ⟨F2, S2, C1.out⟩
    · obtain rfl : k = nO := by omega
      go_wp2_with fail
      exact HQ.out _ _ _ _ _ _ _ _ _ _ _ _ _ _ _ _ _ _ _ _ _ _ _ _ _ _ _ _ _ _ _ _ _ _ _ _ _ _ _ _ _ _ ⟨F2, S2, C1.out⟩
end Go.Proofs.Ytcmebeoedagdfaa
