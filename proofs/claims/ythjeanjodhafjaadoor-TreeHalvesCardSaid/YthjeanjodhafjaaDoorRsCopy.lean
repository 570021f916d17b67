/- The reference's Sum: a piece of the hash's bytes. -/
import Derived.Test.YthjeanjodhafjaaDoorRsRounds
namespace Go.Proofs.YthjeanjodhafjaaDoor
open Go.ChangeShapes Go.WideShapes Go.ChangeAt Go.RowKit
set_option linter.unusedVariables false

theorem grown_drewN {a w : World} {row : Option Nat} (h : a.grownBy w row) (m : Nat) : a.grownBy (w.drewN m) row := ⟨h.os, h.tape, h.output, h.size, h.block⟩
theorem refPut4 (q : Nat) (w : World) (hq : q < 18446744073709551616) :
    Calls Tryd.prog 35 #[.int .u64 (q : Int), .int .i64 4] w fun e w' => ∃ ad c, e = .returned (.slice (some ad) 4 c) ∧ (∀ j v, ((be4 q).map bv)[j]? = some v → w'.cell? (ad.add j) = some v) ∧ Below w.heap.size w w' := by
  refine (refPut_any q 4 w hq (by omega)).mono ?_
  rw [bes4]
  rintro e w' ⟨A, c, rfl, ho, hb⟩
  obtain ⟨A', c', e1, hl, hA⟩ := own_slice ho
  injection e1 with e1 _ e2
  subst e1
  subst e2
  obtain ⟨g, rfl, _, _, hc⟩ := hA (show 0 < 4 by omega)
  refine ⟨_, c, rfl, fun j v hv => ?_, hb⟩
  have hj : j < 4 := by
    rcases Nat.lt_or_ge j 4 with h | h
    · exact h
    · rw [List.getElem?_eq_none (by rw [List.length_map]; exact h)] at hv; cases hv
  rw [addr_add, hc j hj]
  exact hv
theorem be4_at (n j : Nat) (h : j < 4) : (be4 n)[j]? = some (byteAt n (3 - j)) := by
  match j, h with
  | 0, _ => rfl
  | 1, _ => rfl
  | 2, _ => rfl
  | 3, _ => rfl
theorem out_piece (s : St) (i j : Nat) (h : j < 4) (hi : i < 8) : hF (outS s) (4 * i + j) = bv (byteAt (s.at i) (3 - j)) := by
  unfold hF
  rw [outS_at s (4 * i + j) (by omega), show (4 * i + j) / 4 = i by omega, show (4 * i + j) % 4 = j by omega]
theorem Fill.spliced {g t n k : Nat} {f : Nat → Value} {cur : Array Value} {w' : World} {cs : List Value} (hs : cur.size = n) (hk : ∀ j, j < k → cur[j]? = some (f j)) (h : w'.heap[g]? = some (.cells (splice cur.toList k cs).toArray t (0, 0))) (hc : ∀ j, j < cs.length → cs[j]? = some (f (k + j))) (hn : k + cs.length ≤ n) : Fill g t n (k + cs.length) f w' := by
  refine ⟨_, h, ?_, fun j hj => ?_⟩
  · simp [splice]
    omega
  · rw [List.getElem?_toArray]
    unfold splice
    by_cases h1 : j < k
    · rw [List.getElem?_append_left (by simp; omega), List.getElem?_take, if_pos h1, Array.getElem?_toList, hk j h1]
    · rw [List.getElem?_append_right (by simp; omega), List.length_take, Nat.min_eq_left (by simp; omega), List.getElem?_append_left (by omega), hc (j - k) (by omega), show k + (j - k) = j by omega]

noncomputable def rsR36 : Code := ((Tryd.f25.body.bind (regionOf 36))).getD .skip
set_option maxRecDepth 1000000 in
set_option maxHeartbeats 4000000 in
theorem rs_r36 (c0 c1 c2 c3 c4 c6 c7 c8 c9 c10 c11 c12 c13 c14 c15 c16 c17 c18 c19 c20 c21 c22 c23 c26 c27 c28 c29 c30 c31 c32 c33 c34 c35 c36 c37 c38 c39 c40 c41 c42 c43 c44 c45 c46 c47 c48 c49 c50 c51 c52 c53 c54 c55 c56 c57 c58 c59 c60 c61 c62 c63 c64 c65 c66 c67 c68 c69 c70 c71 c72 c73 c74 c75 c76 c77 c78 c79 c80 c81 c82 c83 c84 c85 c86 c87 c88 c89 c90 c91 c92 c93 c94 c95 c96 c97 c98 c99 c100 c101 c102 c103 c104 c105 c106 c107 c108 c109 c110 c111 c112 c113 c114 c115 c116 c117 c118 c119 c120 c121 c122 c123 c124 c125 c126 c127 c128 c129 c130 c131 c132 c133 c134 c135 c136 c137 c138 c139 c140 c141 c142 c143 c144 c145 c146 c147 c148 c149 c150 c151 c152 c153 c154 c155 c156 c157 c158 c159 c160 c161 c162 c163 c164 c165 c166 c167 c168 c169 c170 c171 c172 c173 c174 c175 c176 c177 c178 c179 c180 c181 c182 c183 c184 c185 c186 c187 c188 c189 c190 c191 c192 c193 c194 c195 c196 c197 c198 c199 c200 c201 c202 c203 c204 : Value) (p5 p24 i q : Nat) (cur : Array Value) (w0 w : World) (hlt : i < 8) (hp : p5 < p24) (hq1 : q < 4294967296) (hc : w.cell? ⟨p5, i, none⟩ = some (.int .u32 (q : Int))) (hg1 : w.heap[p24]? = some (.cells cur 25 (0, 0))) (hg2 : cur.size = 32) (hb : Below p24 w0 w)
    (Q : Exit → Act → World → Prop) (hQ : ∀ (u195 u196 u197 u198 u199 u200 u201 u202 u203 : Value) (w' : World), w'.heap[p24]? = some (.cells (splice cur.toList (4 * i) ((be4 q).map bv)).toArray 25 (0, 0)) → Below p24 w0 w' → Q .normal ⟨#[c0, c1, c2, c3, c4, .pointer (some ⟨p5, 0, none⟩), c6, c7, c8, c9, c10, c11, c12, c13, c14, c15, c16, c17, c18, c19, c20, c21, c22, c23, .pointer (some ⟨p24, 0, none⟩), .int .i64 (i : Int), c26, c27, c28, c29, c30, c31, c32, c33, c34, c35, c36, c37, c38, c39, c40, c41, c42, c43, c44, c45, c46, c47, c48, c49, c50, c51, c52, c53, c54, c55, c56, c57, c58, c59, c60, c61, c62, c63, c64, c65, c66, c67, c68, c69, c70, c71, c72, c73, c74, c75, c76, c77, c78, c79, c80, c81, c82, c83, c84, c85, c86, c87, c88, c89, c90, c91, c92, c93, c94, c95, c96, c97, c98, c99, c100, c101, c102, c103, c104, c105, c106, c107, c108, c109, c110, c111, c112, c113, c114, c115, c116, c117, c118, c119, c120, c121, c122, c123, c124, c125, c126, c127, c128, c129, c130, c131, c132, c133, c134, c135, c136, c137, c138, c139, c140, c141, c142, c143, c144, c145, c146, c147, c148, c149, c150, c151, c152, c153, c154, c155, c156, c157, c158, c159, c160, c161, c162, c163, c164, c165, c166, c167, c168, c169, c170, c171, c172, c173, c174, c175, c176, c177, c178, c179, c180, c181, c182, c183, c184, c185, c186, c187, c188, c189, c190, c191, c192, c193, c194, u195, u196, u197, u198, u199, u200, u201, u202, u203, c204], []⟩ w') :
    Code.wp Tryd.prog rsR36 Q ⟨#[c0, c1, c2, c3, c4, .pointer (some ⟨p5, 0, none⟩), c6, c7, c8, c9, c10, c11, c12, c13, c14, c15, c16, c17, c18, c19, c20, c21, c22, c23, .pointer (some ⟨p24, 0, none⟩), .int .i64 (i : Int), c26, c27, c28, c29, c30, c31, c32, c33, c34, c35, c36, c37, c38, c39, c40, c41, c42, c43, c44, c45, c46, c47, c48, c49, c50, c51, c52, c53, c54, c55, c56, c57, c58, c59, c60, c61, c62, c63, c64, c65, c66, c67, c68, c69, c70, c71, c72, c73, c74, c75, c76, c77, c78, c79, c80, c81, c82, c83, c84, c85, c86, c87, c88, c89, c90, c91, c92, c93, c94, c95, c96, c97, c98, c99, c100, c101, c102, c103, c104, c105, c106, c107, c108, c109, c110, c111, c112, c113, c114, c115, c116, c117, c118, c119, c120, c121, c122, c123, c124, c125, c126, c127, c128, c129, c130, c131, c132, c133, c134, c135, c136, c137, c138, c139, c140, c141, c142, c143, c144, c145, c146, c147, c148, c149, c150, c151, c152, c153, c154, c155, c156, c157, c158, c159, c160, c161, c162, c163, c164, c165, c166, c167, c168, c169, c170, c171, c172, c173, c174, c175, c176, c177, c178, c179, c180, c181, c182, c183, c184, c185, c186, c187, c188, c189, c190, c191, c192, c193, c194, c195, c196, c197, c198, c199, c200, c201, c202, c203, c204], []⟩ w := by
  conv => arg 2; whnf
  dsimp only at hQ ⊢
  have hlt' : (i : Int) < 8 := by omega
  have k0 : w.drew.cell? ⟨p5, i, none⟩ = some (.int .u32 (q : Int)) := hc
  have HQ := Lib.hid hQ
  clear hQ
  have HPUT := Lib.hid (refPut4 q w.drew (by omega))
  have HG : Hid (∀ u, Below w.drew.heap.size w.drew u → u.heap[p24]? = some (.cells cur.toList.toArray 25 (0, 0))) := fun u hu => (hu.block p24 (by
    rcases Nat.lt_or_ge p24 w.heap.size with h | h
    · exact h
    · rw [Array.getElem?_eq_none h] at hg1; cases hg1)).trans hg1
  have HB0 : Hid (∀ u, Below w.drew.heap.size w.drew u → Below p24 w0 u) := fun u hu => hb.drew.trans (hu.mono (by
    rcases Nat.lt_or_ge p24 w.heap.size with h | h
    · exact Nat.le_of_lt h
    · rw [Array.getElem?_eq_none h] at hg1; cases hg1))
  have HC1 : Hid (∀ u, Below w.drew.heap.size w.drew u → u.cell? ⟨p5, i, none⟩ = some (.int .u32 (q : Int))) := fun u hu => (hu.cell (p := ⟨p5, i, none⟩) (by
    rcases Nat.lt_or_ge p24 w.heap.size with h | h
    · exact Nat.lt_trans hp h
    · rw [Array.getElem?_eq_none h] at hg1; cases hg1)).trans k0
  have HW0 : Hid (w0.cell? ⟨p5, i, none⟩ = some (.int .u32 (q : Int))) := (hb.cell (p := ⟨p5, i, none⟩) hp).symm.trans hc
  have HSZ := Lib.hid hg2
  have hcl : (be4 q).length = 4 := rfl
  clear hg1 hg2 hc hb
  have i4 : (i : Int) * 4 ≤ 28 := by omega
  have i5 : 4 * (i : Int) ≤ 32 := by omega
  have wA : IntKind.i64.wrap (4 * (i : Int)) = 4 * (i : Int) := IntWalk.i64_in _ (by omega)
  have wB : (4 * (i : Int)).toNat = 4 * i := by omega
  have wC : (0 : Int) ≤ 4 * (i : Int) := by omega
  have i6 : ¬ (32 = 4 * i) := by omega
  have wQ : IntKind.u64.wrap (q : Int) = (q : Int) := u64_in _ (by omega) (by omega)
  go_region_held3 (fun u => u.cell? ⟨p5, i, none⟩ = some (.int .u32 (q : Int))) (first | exact k0 | exact k2 | exact k1)
    (first
      | (go_at_call 35; (refine HPUT.out.mono ?_); rintro e w4 ⟨ad4, c4, rfl, hsrc4, hb4⟩; have k1 := HC1.out _ hb4; have HS4 := Lib.hid hsrc4; have HB4 := Lib.hid hb4; clear hsrc4 hb4)
      | (refine step_copy_splice rfl (.tmp 197) (.tmp 202) 56 56 rfl 5 Tryd.underlying56 size_u8 (some ⟨p24, 4 * i, none⟩) (some ad4) (32 - 4 * i) (32 - 4 * i) 4 c4 rfl rfl p24 (4 * i) cur.toList 25 (HG.out _ HB4.out) ((be4 q).map bv) (by rw [List.length_map, hcl]; show 4 = min 4 (32 - 4 * i); omega) (fun _ => ⟨rfl, ad4, rfl, HS4.out⟩) (by rw [List.length_map, hcl, Array.length_toList, HSZ.out]; omega) (bv_one _) p24 w0 (HB0.out _ HB4.out) (Nat.le_refl _) ?_; intro w5 hg5 hb5; have k2 := (hb5.cell (p := ⟨p5, i, none⟩) hp).trans HW0.out))
  all_goals exact HQ.out _ _ _ _ _ _ _ _ _ _ hg5.out hb5
end Go.Proofs.YthjeanjodhafjaaDoor
