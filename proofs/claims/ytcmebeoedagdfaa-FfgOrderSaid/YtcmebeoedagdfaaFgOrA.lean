/- FfgOrder: its loops. -/
import Derived.Test.YtcmebeoedagdfaaFgTwo
import Derived.Deep.CutBlock
import Derived.Deep.Cut
namespace Go.Proofs.Ytcmebeoedagdfaa
open Go.ChangeMaps Go.MapKept Go.Maps Go.WideElems Go.RowKit Go.ChangeShapes Go.WideShapes Go.ChangeAt
set_option linter.unusedVariables false
set_option maxRecDepth 100000

theorem ix_m (z : Int) (M : Nat) (hM1 : 1 ≤ M) (hi : M ≤ 60) : ∃ n : Nat, n < M ∧ (wrap64 (z.tmod (M : Int) + (M : Int))).tmod (M : Int) = (n : Int) := by
  have h1 : z.tmod (M : Int) < M := Int.tmod_lt_of_pos z (by omega)
  have h2 : -(M : Int) < z.tmod (M : Int) := by
    have := Int.tmod_lt_of_pos (-z) (show (0:Int) < M by omega)
    rw [Int.neg_tmod] at this
    omega
  have e1 : wrap64 (z.tmod (M : Int) + (M : Int)) = z.tmod (M : Int) + (M : Int) := by unfold wrap64; omega
  rw [e1]
  obtain ⟨y, hy⟩ := Int.eq_ofNat_of_zero_le (show 0 ≤ z.tmod (M : Int) + (M : Int) by omega)
  rw [hy]
  refine ⟨y % M, Nat.mod_lt _ (by omega), ?_⟩
  rw [← Int.ofNat_tmod]
theorem told_le {a : Pt} {S : FgS} (h : Inv a S) {LI : List Lk} (hs : ∀ y ∈ S.told, y ∈ LI) : S.told.length ≤ LI.length := nodup_le lkZ h.nod hs
noncomputable def or_b0C : Code := ((Try.f5.body.bind (blockOf 0))).getD .skip
set_option maxRecDepth 1000000 in
set_option maxHeartbeats 8000000 in
theorem or_b0 (c0 c2 c3 c4 c5 c6 c8 c10 c12 c13 c14 c15 c16 c17 c18 c19 c20 c21 c22 c23 c24 c25 c26 c27 c28 c29 c30 c31 c32 c33 c34 c35 c36 c37 c38 c39 c40 c41 c42 c43 c44 c45 c46 c47 c48 c49 c50 c51 c52 c53 c54 c55 c56 c57 c58 c59 c60 c61 c62 c63 c64 c65 c66 c67 c68 c69 c70 c71 c72 c73 c74 c75 c76 c77 c78 c79 c80 c81 c82 c83 c84 c85 c86 c87 c88 c89 c90 c91 c92 c93 c94 c95 c96 c97 c98 c99 c100 c101 c102 c103 c104 c105 c106 c107 c108 c109 c110 c111 c112 c113 c114 c115 c116 c117 c118 c119 c120 c121 c122 c123 c124 c125 c126 c127 c128 c129 c130 c131 c132 : Value) (w W0 : World) (a : Pt) (ga gb cI nI : Nat) (AI : Option Addr) (LI : List Lk) (Fa Fb : Nat → Prop) (Sa Sb : FgS) (hT : Two a ga gb W0 Fa Fb Sa Sb w) (hnI : nI = LI.length) (h30 : nI ≤ 30) (hP : ∀ u, Below W0.heap.size W0 u → ∀ (k : Nat) x, LI[k]? = some x → ∃ b o, AI = some ⟨b, o, none⟩ ∧ u.rangeAt b (o + k * 66) (lC x)) (hempty : Sa.told = [])
    (Q : Exit → Act → World → Prop) (hQ : ∀ (u6 u11 u12 u13 u47 u48 u49 u50 u51 u52 u53 u54 u55 u56 u57 u58 u59 u60 u61 u62 u63 u64 u65 u66 u67 u68 u69 u70 u71 u72 u73 u74 u75 : Value) (w' : World), (∃ Fa' Sa', Two a ga gb W0 Fa' Fb Sa' Sb w' ∧ ∀ y, y ∈ Sa'.told ↔ mayL y = true ∧ ∃ i, i < nI ∧ LI[i]? = some y) → Q .normal ⟨#[c0, .slice AI nI cI, c2, c3, c4, c5, u6, .pointer (some ⟨ga, 0, none⟩), c8, .pointer (some ⟨gb, 0, none⟩), c10, u11, u12, u13, c14, c15, c16, c17, c18, c19, c20, c21, c22, c23, c24, c25, c26, c27, c28, c29, c30, c31, c32, c33, c34, c35, c36, c37, c38, c39, c40, c41, c42, c43, c44, c45, c46, u47, u48, u49, u50, u51, u52, u53, u54, u55, u56, u57, u58, u59, u60, u61, u62, u63, u64, u65, u66, u67, u68, u69, u70, u71, u72, u73, u74, u75, c76, c77, c78, c79, c80, c81, c82, c83, c84, c85, c86, c87, c88, c89, c90, c91, c92, c93, c94, c95, c96, c97, c98, c99, c100, c101, c102, c103, c104, c105, c106, c107, c108, c109, c110, c111, c112, c113, c114, c115, c116, c117, c118, c119, c120, c121, c122, c123, c124, c125, c126, c127, c128, c129, c130, c131, c132], []⟩ w') :
    Code.wp Try.prog or_b0C Q ⟨#[c0, .slice AI nI cI, c2, c3, c4, c5, c6, .pointer (some ⟨ga, 0, none⟩), c8, .pointer (some ⟨gb, 0, none⟩), c10, .int .i64 0, c12, c13, c14, c15, c16, c17, c18, c19, c20, c21, c22, c23, c24, c25, c26, c27, c28, c29, c30, c31, c32, c33, c34, c35, c36, c37, c38, c39, c40, c41, c42, c43, c44, c45, c46, c47, c48, c49, c50, c51, c52, c53, c54, c55, c56, c57, c58, c59, c60, c61, c62, c63, c64, c65, c66, c67, c68, c69, c70, c71, c72, c73, c74, c75, c76, c77, c78, c79, c80, c81, c82, c83, c84, c85, c86, c87, c88, c89, c90, c91, c92, c93, c94, c95, c96, c97, c98, c99, c100, c101, c102, c103, c104, c105, c106, c107, c108, c109, c110, c111, c112, c113, c114, c115, c116, c117, c118, c119, c120, c121, c122, c123, c124, c125, c126, c127, c128, c129, c130, c131, c132], []⟩ w := by
  conv => arg 2; whnf
  try dsimp only at hQ ⊢
  have HQ := Lib.hid hQ
  have HPP := Lib.hid hP
  have HNI := Lib.hid hnI
  have HT := Lib.hid hT
  clear hQ hP hnI hT
  have HE := Lib.hid hempty
  clear hempty
  go_wp2_with fail
  go_loopw [11] (fun v11 u => ∃ k Fa Sa, k ≤ nI ∧ v11 = .int .i64 (k : Int) ∧ Two a ga gb W0 Fa Fb Sa Sb u ∧ ∀ y, y ∈ Sa.told ↔ mayL y = true ∧ ∃ i, i < k ∧ LI[i]? = some y) (fun v11 _ => nI - (intOf v11).toNat)
  case atStart => exact ⟨0, Fa, Sa, Nat.zero_le _, rfl, HT.out, fun y => by rw [HE.out]; constructor; (intro h; cases h); (rintro ⟨_, i, h, _⟩; omega)⟩
  case round =>
    clear HT HE
    obtain ⟨k, Fa, Sa, hk, rfl, q1, q2⟩ := hrel
    have T1 := Lib.hid q1
    have M1 := Lib.hid q2
    clear q1 q2
    by_cases hkn : k < nI
    · obtain ⟨x, hx⟩ : ∃ x, LI[k]? = some x := ⟨_, List.getElem?_eq_getElem (by have := HNI.out; omega)⟩
      have L1 : Hid (Sa.told.length ≤ 59) := Nat.le_trans (told_le T1.out.A.inv (LI := LI) (fun y hy => by obtain ⟨_, i, _, h⟩ := (M1.out y).1 hy; exact List.mem_of_getElem? h)) (by have := HNI.out; omega)
      have HX := Lib.hid hx
      clear hx
      have CJ := Lib.hid (allJustifiedN_c T1.out.A L1.out)
      go_wp2_with fail
      refine CJ.out.mono ?_
      rintro e w2 ⟨A1, c1, Lp, rfl, m2, o2, b2, l2, r2⟩
      have T2 := Lib.hid (T1.out.below b2)
      have J2 := Lib.hid (And.intro m2 r2)
      have N2 := Lib.hid l2
      clear m2 o2 b2 l2 r2 CJ
      have CC := Lib.hid (copy_c T2.out.A L1.out)
      go_wp2_with fail
      refine CC.out.mono ?_
      rintro e w3 ⟨g', sN, m1, m2, m3, vN, hdN, F', n', rfl, a3, f3, n3, b3, lo3, g3⟩
      have T3 := Lib.hid (T2.out.below b3)
      have C3 := Lib.hid (And.intro a3 f3)
      have N3 := Lib.hid n3
      have FN : Hid (∀ k, Fa k → k < w2.heap.size) := T2.out.A.fin.2
      have LO := Lib.hid (And.intro lo3 g3)
      clear a3 f3 n3 b3 lo3 g3 CC
      obtain ⟨b, o, rfl, kx⟩ := HPP.out w3 T3.out.bel k x HX.out
      have CS := Lib.hid (strongG_c T3.out.A x L1.out)
      go_wp2_with (first
        | (refine wpList_load_mid rfl 36 (.tmp 61) rfl b (o + k * 66) (by go_simp) (lC x) _ kx Try.underlying36 rfl (by rw [size_lv x]; rfl) ?_; rw [lC_arr])
        | fail)
      refine CS.out.mono ?_
      intro e w4 hs
      have hk4 : Kept Fa w3 w4 := by obtain ⟨_, _, _, _, _, _, q, _⟩ := hs; exact q
      obtain ⟨er, F4, S4, rfl, t4, mm4⟩ := T3.out.step hs
      have T4 := Lib.hid t4
      have MM := Lib.hid mm4
      have C4 : Hid (GaB g' sN w4 ∧ FgB sN m1 m2 m3 vN hdN F' Sa n' w4) := ⟨(hk4.2.2.2.2 g' C3.out.1.lt (fun e => by have := FN.out _ e; have := LO.out.2; omega)).trans C3.out.1, C3.out.2.keep (fun k hk => hk4.2.2.2.2 k (C3.out.2.fin k hk) (fun e => by have := FN.out _ e; have := LO.out.1 k hk; omega)) hk4.2.2.2.1⟩
      clear hs hk4 t4 mm4 kx CS C3
      have M4 : Hid (∀ y, y ∈ S4.told ↔ mayL y = true ∧ ∃ i, i < k + 1 ∧ LI[i]? = some y) := fun y => by
        rw [MM.out y, M1.out y]
        constructor
        · rintro (⟨e1, i, e2, e3⟩ | ⟨rfl, e1⟩)
          · exact ⟨e1, i, by omega, e3⟩
          · exact ⟨e1, k, by omega, HX.out⟩
        · rintro ⟨e1, i, e2, e3⟩
          by_cases hi : i < k
          · exact .inl ⟨e1, i, hi, e3⟩
          · obtain rfl : i = k := by omega
            rw [HX.out] at e3
            injection e3 with e3
            exact .inr ⟨e3.symm, by rw [e3]; exact e1⟩
      have L4 : Hid (S4.told.length ≤ 59) := Nat.le_trans (told_le T4.out.A.inv (LI := LI) (fun y hy => by obtain ⟨_, i, _, h⟩ := (M4.out y).1 hy; exact List.mem_of_getElem? h)) (by have := HNI.out; omega)
      have CK := Lib.hid (allJustifiedN_c T4.out.A L4.out)
      go_wp2_with fail
      refine CK.out.mono ?_
      rintro e w5 ⟨A5, c5, Lq, rfl, m5, o5, b5, l5, r5⟩
      have hle : Lp.length ≤ Lq.length := nodup_le ptZ (rise_nodup J2.out.2) (fun p hp => (m5 p).2 (inv_mono T1.out.A.inv T4.out.A.inv (fun y hy => (MM.out y).2 (.inl hy)) _ p (Nat.le_refl _) ((J2.out.1 p).1 hp)))
      have d1 : decide ((Lq.length : Int) < (Lp.length : Int)) = false := decide_eq_false (by omega)
      have T5 := Lib.hid (T4.out.below b5)
      have C5 : Hid (GaB g' sN w5 ∧ FgB sN m1 m2 m3 vN hdN F' Sa n' w5) := ⟨(b5.block g' C4.out.1.lt).trans C4.out.1, C4.out.2.below b5⟩
      have N5 := Lib.hid l5
      clear m5 o5 b5 l5 r5 CK C4
      have CB := Lib.hid (allJustifiedB_c C5.out.1 C5.out.2 N3.out)
      go_wp2_with fail
      refine CB.out.mono ?_
      rintro e w6 ⟨A6, c6, Lr, rfl, m6, o6, b6, l6, r6⟩
      have he : Lr = Lp := rise_ext r6 J2.out.2 (fun p => (m6 p).trans (J2.out.1 p).symm)
      subst he
      have d2 : ((Lr.length : Int) != (Lr.length : Int)) = false := by simp
      have T6 := Lib.hid (T5.out.below b6)
      clear m6 o6 b6 l6 r6 CB
      go_wp2_with fail
      exact ⟨⟨k + 1, F4, S4, by omega, by go_num, T6.out, M4.out⟩, by simp [intOf]; omega⟩
    · obtain rfl : k = nI := by omega
      go_wp2_with fail
      exact HQ.out _ _ _ _ _ _ _ _ _ _ _ _ _ _ _ _ _ _ _ _ _ _ _ _ _ _ _ _ _ _ _ _ _ _ ⟨Fa, Sa, T1.out, M1.out⟩
end Go.Proofs.Ytcmebeoedagdfaa
