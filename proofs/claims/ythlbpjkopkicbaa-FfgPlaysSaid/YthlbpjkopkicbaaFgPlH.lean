/- FfgPlays: a round. -/
import Derived.Test.YthlbpjkopkicbaaFgPlG
import Derived.Deep.CutRange
namespace Go.Proofs.Ythlbpjkopkicbaa
open Go.ChangeMaps Go.MapKept Go.Maps Go.WideElems Go.RowKit Go.ChangeShapes Go.WideShapes Go.ChangeAt
set_option linter.unusedVariables false
set_option maxRecDepth 100000

theorem last_is {S : FgS} {least : Nat} {L : List Pt} {q q1 : Pt} {k : Nat} (hr : Rise L) (hm : ∀ p, p ∈ L ↔ least ≤ stN S.stands p) (hq : LastOf S least q1) (hl : L.length = k + 1) (hk : L[k]? = some q) : q = q1 := by
  have h := last_rise hr hm hq
  rw [hl, Nat.add_sub_cancel, hk] at h
  injection h
noncomputable def pl_r27C : Code := ((Try.f4.body.bind (regionOf 27))).getD .skip
set_option maxRecDepth 1000000 in
set_option maxHeartbeats 8000000 in
theorem pl_r27 (c0 c1 c2 c3 c4 c6 c7 c8 c9 c10 c11 c12 c15 c16 c17 c18 c19 c20 c21 c22 c23 c24 c25 c26 c27 c28 c29 c30 c31 c32 c33 c34 c35 c36 c37 c38 c39 c40 c41 c42 c43 c44 c45 c46 c47 c48 c49 c50 c51 c52 c53 c54 c55 c56 c57 c58 c59 c60 c61 c62 c63 c64 c65 c66 c67 c68 c69 c70 c71 c72 c73 c74 c75 c76 c77 c78 c79 c80 c81 c82 c83 c84 c85 c86 c87 c88 c89 c90 c91 c92 c93 c94 c95 c96 c97 c98 c99 c100 c101 c102 c103 c104 c105 c106 c107 c108 c109 c110 c111 c112 c113 c114 c115 c116 c117 c118 c119 c120 c121 c122 c123 c124 c125 c126 c127 c128 c129 c130 c131 c132 c133 c134 c135 c136 c137 c138 c139 c140 c141 c142 c143 c144 c145 c146 c147 c148 c149 c150 c151 c152 c153 c154 c155 c156 c157 c158 c159 c160 c161 c162 c163 c164 c165 c166 c167 c168 c169 c170 c171 c172 c173 c174 c175 c176 c177 c178 c179 c180 c181 c182 c183 c184 c185 c186 c187 c188 c189 c190 c191 c192 c193 c194 c195 c196 c197 c198 c199 c200 c201 c202 c203 c204 c205 c206 c207 c208 c209 c210 c211 c212 c213 c214 c215 c216 c217 c218 c219 c220 c221 c222 c223 c224 : Value) (w : World) (a : Pt) (g : Nat) (F : Nat → Prop) (S : FgS) (gJ gF kJ kF cJ cF : Nat) (J Fi : List Pt) (pJ pF : Pt) (hS : S.told.length ≤ 59) (hG : GadG a g F S w) (pJ' : PtsAt w (some ⟨gJ, 0, none⟩) J) (pF' : PtsAt w (some ⟨gF, 0, none⟩) Fi) (hJ : J.length = kJ + 1) (hF : Fi.length = kF + 1) (hb : kJ ≤ 1000 ∧ kF ≤ 1000) (rJ : Rise J) (mJ : ∀ p, p ∈ J ↔ 1 ≤ stN S.stands p) (rF : Rise Fi) (mF : ∀ p, p ∈ Fi ↔ 2 ≤ stN S.stands p) (lJ : J[kJ]? = some pJ) (lF : Fi[kF]? = some pF)
    (Q : Exit → Act → World → Prop) (hQ : ∀ (u105 u106 u107 u108 u109 u110 u111 u112 u113 u114 u115 u116 u117 u118 u119 u120 u121 u122 u123 u124 u125 u126 u127 u128 u129 u130 u131 u132 u133 u134 u135 u136 u137 : Value) (w' : World), Below w.heap.size w w' → Q .normal ⟨#[c0, c1, c2, c3, c4, .pointer (some ⟨g, 0, none⟩), c6, c7, c8, c9, c10, c11, c12, .slice (some ⟨gJ, 0, none⟩) (kJ + 1) cJ, .slice (some ⟨gF, 0, none⟩) (kF + 1) cF, c15, c16, c17, c18, c19, c20, c21, c22, c23, c24, c25, c26, c27, c28, c29, c30, c31, c32, c33, c34, c35, c36, c37, c38, c39, c40, c41, c42, c43, c44, c45, c46, c47, c48, c49, c50, c51, c52, c53, c54, c55, c56, c57, c58, c59, c60, c61, c62, c63, c64, c65, c66, c67, c68, c69, c70, c71, c72, c73, c74, c75, c76, c77, c78, c79, c80, c81, c82, c83, c84, c85, c86, c87, c88, c89, c90, c91, c92, c93, c94, c95, c96, c97, c98, c99, c100, c101, c102, c103, c104, u105, u106, u107, u108, u109, u110, u111, u112, u113, u114, u115, u116, u117, u118, u119, u120, u121, u122, u123, u124, u125, u126, u127, u128, u129, u130, u131, u132, u133, u134, u135, u136, u137, .bool false, c139, c140, c141, c142, c143, c144, c145, c146, c147, c148, c149, c150, c151, c152, c153, c154, c155, c156, c157, c158, c159, c160, c161, c162, c163, c164, c165, c166, c167, c168, c169, c170, c171, c172, c173, c174, c175, c176, c177, c178, c179, c180, c181, c182, c183, c184, c185, c186, c187, c188, c189, c190, c191, c192, c193, c194, c195, c196, c197, c198, c199, c200, c201, c202, c203, c204, c205, c206, c207, c208, c209, c210, c211, c212, c213, c214, c215, c216, c217, c218, c219, c220, c221, c222, c223, c224], []⟩ w') :
    Code.wp Try.prog pl_r27C Q ⟨#[c0, c1, c2, c3, c4, .pointer (some ⟨g, 0, none⟩), c6, c7, c8, c9, c10, c11, c12, .slice (some ⟨gJ, 0, none⟩) (kJ + 1) cJ, .slice (some ⟨gF, 0, none⟩) (kF + 1) cF, c15, c16, c17, c18, c19, c20, c21, c22, c23, c24, c25, c26, c27, c28, c29, c30, c31, c32, c33, c34, c35, c36, c37, c38, c39, c40, c41, c42, c43, c44, c45, c46, c47, c48, c49, c50, c51, c52, c53, c54, c55, c56, c57, c58, c59, c60, c61, c62, c63, c64, c65, c66, c67, c68, c69, c70, c71, c72, c73, c74, c75, c76, c77, c78, c79, c80, c81, c82, c83, c84, c85, c86, c87, c88, c89, c90, c91, c92, c93, c94, c95, c96, c97, c98, c99, c100, c101, c102, c103, c104, c105, c106, c107, c108, c109, c110, c111, c112, c113, c114, c115, c116, c117, c118, c119, c120, c121, c122, c123, c124, c125, c126, c127, c128, c129, c130, c131, c132, c133, c134, c135, c136, c137, c138, c139, c140, c141, c142, c143, c144, c145, c146, c147, c148, c149, c150, c151, c152, c153, c154, c155, c156, c157, c158, c159, c160, c161, c162, c163, c164, c165, c166, c167, c168, c169, c170, c171, c172, c173, c174, c175, c176, c177, c178, c179, c180, c181, c182, c183, c184, c185, c186, c187, c188, c189, c190, c191, c192, c193, c194, c195, c196, c197, c198, c199, c200, c201, c202, c203, c204, c205, c206, c207, c208, c209, c210, c211, c212, c213, c214, c215, c216, c217, c218, c219, c220, c221, c222, c223, c224], []⟩ w := by
  conv => arg 2; whnf
  try dsimp only at hQ ⊢
  have q1 : (kF : Int) < ((kF + 1 : Nat) : Int) := by omega
  have q2 : (kJ : Int) < ((kJ + 1 : Nat) : Int) := by omega
  have q3 : (kF : Int) < (kF : Int) + 1 := by omega
  have q4 : (kJ : Int) < (kJ : Int) + 1 := by omega
  have q5 : (0 : Int) ≤ (kF : Int) := by omega
  have q6 : (0 : Int) ≤ (kJ : Int) := by omega
  have dB : Below w.heap.size w w.drew := (Below.refl _ _).drew
  have GG : Hid (∀ u : World, Below w.heap.size w.drew u → GadG a g F S u) := fun u hu => hG.below (dB.trans hu)
  have KJ : Hid (∀ u : World, Below w.heap.size w.drew u → PtsAt u (some ⟨gJ, 0, none⟩) J) := fun u hu => pJ'.below (dB.trans hu)
  have KF : Hid (∀ u : World, Below w.heap.size w.drew u → PtsAt u (some ⟨gF, 0, none⟩) Fi) := fun u hu => pF'.below (dB.trans hu)
  have KP : Hid (∀ u : World, Below w.heap.size w.drew u → u.rangeAt gF (kF * 33) (pC pF) ∧ u.rangeAt gJ (kJ * 33) (pC pJ)) := fun u hu => by
    obtain ⟨g1, e1, h1⟩ := pF' u (dB.trans hu) kF pF lF
    obtain ⟨g2, e2, h2⟩ := pJ' u (dB.trans hu) kJ pJ lJ
    injection e1 with e1
    injection e2 with e2
    injection e1 with e1
    injection e2 with e2
    subst e1
    subst e2
    exact ⟨h1, h2⟩
  have HN : Hid (nS S.told.length ≤ 1000000000) := by have := (hG.pre hS).2.2.1; exact Nat.le_trans this (by omega)
  have RJ := Lib.hid (And.intro rJ mJ)
  have RF := Lib.hid (And.intro rF mF)
  have LJ := Lib.hid lJ
  have LF := Lib.hid lF
  have LJl := Lib.hid hJ
  have LFl := Lib.hid hF
  have BX : Hid (Below w.heap.size w.drew w.drew) := Below.refl _ _
  clear dB hG pJ' pF' rJ mJ rF mF lJ lF
  refine wp_region_noPanic ?_
  refine wp_region_held_drew (S := (fun u => u.rangeAt gF (kF * 33) (pC pF) ∧ u.rangeAt gJ (kJ * 33) (pC pJ))) (by kernel_rfl) (KP.out _ BX.out) (fun hHeld => ?_)
  refine takeH (i := 0) (d := 105) (oi := _) (v := .pointer (some ⟨g, 0, none⟩)) rfl (by kernel_rfl) (by kernel_rfl) (by kernel_rfl) (by kernel_rfl) (fun _ _ _ h => h) (Or.inl ⟨by kernel_rfl, by intro u hSw; clear hSw; go_simp⟩) hHeld ?_
  try simp only [List.setIfInBounds_toArray, List.set_cons_zero, List.set_cons_succ]
  refine takeH (i := 2) (d := 107) (oi := _) (v := .slice (some ⟨gJ, 0, none⟩) (kJ + 1) cJ) rfl (by kernel_rfl) (by kernel_rfl) (by kernel_rfl) (by kernel_rfl) (fun _ _ _ h => h) (Or.inl ⟨by kernel_rfl, by intro u hSw; clear hSw; go_simp⟩) hHeld ?_
  try simp only [List.setIfInBounds_toArray, List.set_cons_zero, List.set_cons_succ]
  refine wpAnyH_ready (rs := [1]) (by kernel_rfl) (by simp) ?_
  refine AllReadyH.cons (o := _) rfl (fun K hK => ?_) (AllReadyH.nil)
  go_simp
  go_at_call 17
  refine (allJustifiedN_c (GG.out _ BX.out) hS).mono ?_
  rintro e w2 ⟨A1, A1c, A1L, rfl, m1, o1, b1, l1, r1⟩
  obtain rfl : J = A1L := (rise_ext r1 RJ.out.1 (fun p => (m1 p).trans (RJ.out.2 p).symm)).symm
  rw [hJ]
  have P1 := Lib.hid (own_pts o1)
  have BX := Lib.hid (BX.out.trans (b1.mono BX.out.size))
  clear m1 o1 b1 l1 r1
  go_simp
  refine hK.out _ _ (KP.out _ BX.out) (fun hHeld => ?_)
  clear hK K
  try simp only [Act.put, List.setIfInBounds_toArray, List.set_cons_zero, List.set_cons_succ]
  refine wpAnyH_ready (rs := [3]) (by kernel_rfl) (by simp) ?_
  refine AllReadyH.cons (o := _) rfl (fun K hK => ?_) (AllReadyH.nil)
  go_simp
  go_at_call 16
  refine (same_c _ A1 (some ⟨gJ, 0, none⟩) (kJ + 1) A1c cJ J hJ.symm (by omega) P1.out (KJ.out _ BX.out)).mono ?_
  rintro e w2 ⟨rfl, b1⟩
  have BX := Lib.hid (BX.out.trans (b1.mono BX.out.size))
  clear b1 P1
  go_simp
  refine hK.out _ _ (KP.out _ BX.out) (fun hHeld => ?_)
  clear hK K
  try simp only [Act.put, List.setIfInBounds_toArray, List.set_cons_zero, List.set_cons_succ]
  refine takeH (i := 4) (d := 109) (oi := _) (v := .bool false) rfl (by kernel_rfl) (by kernel_rfl) (by kernel_rfl) (by kernel_rfl) (fun _ _ _ h => h) (Or.inl ⟨by kernel_rfl, by intro u hSw; clear hSw; go_simp⟩) hHeld ?_
  try simp only [List.setIfInBounds_toArray, List.set_cons_zero, List.set_cons_succ]
  refine takeH (i := 5) (d := 110) (oi := _) (v := .bool false) rfl (by kernel_rfl) (by kernel_rfl) (by kernel_rfl) (by kernel_rfl) (fun _ _ _ h => h) (Or.inl ⟨by kernel_rfl, by intro u hSw; clear hSw; go_simp⟩) hHeld ?_
  try simp only [List.setIfInBounds_toArray, List.set_cons_zero, List.set_cons_succ]
  refine takeH (i := 6) (d := 111) (oi := _) (v := .pointer (some ⟨g, 0, none⟩)) rfl (by kernel_rfl) (by kernel_rfl) (by kernel_rfl) (by kernel_rfl) (fun _ _ _ h => h) (Or.inl ⟨by kernel_rfl, by intro u hSw; clear hSw; go_simp⟩) hHeld ?_
  try simp only [List.setIfInBounds_toArray, List.set_cons_zero, List.set_cons_succ]
  refine takeH (i := 8) (d := 113) (oi := _) (v := .slice (some ⟨gF, 0, none⟩) (kF + 1) cF) rfl (by kernel_rfl) (by kernel_rfl) (by kernel_rfl) (by kernel_rfl) (fun _ _ _ h => h) (Or.inl ⟨by kernel_rfl, by intro u hSw; clear hSw; go_simp⟩) hHeld ?_
  try simp only [List.setIfInBounds_toArray, List.set_cons_zero, List.set_cons_succ]
  refine wpAnyH_ready (rs := [7]) (by kernel_rfl) (by simp) ?_
  refine AllReadyH.cons (o := _) rfl (fun K hK => ?_) (AllReadyH.nil)
  go_simp
  go_at_call 18
  refine (allFinalN_c (GG.out _ BX.out) hS).mono ?_
  rintro e w2 ⟨A2, A2c, A2L, rfl, m1, o1, b1, l1, r1⟩
  obtain rfl : Fi = A2L := (rise_ext r1 RF.out.1 (fun p => (m1 p).trans (RF.out.2 p).symm)).symm
  rw [hF]
  have P2 := Lib.hid (own_pts o1)
  have BX := Lib.hid (BX.out.trans (b1.mono BX.out.size))
  clear m1 o1 b1 l1 r1
  go_simp
  refine hK.out _ _ (KP.out _ BX.out) (fun hHeld => ?_)
  clear hK K
  try simp only [Act.put, List.setIfInBounds_toArray, List.set_cons_zero, List.set_cons_succ]
  refine wpAnyH_ready (rs := [9]) (by kernel_rfl) (by simp) ?_
  refine AllReadyH.cons (o := _) rfl (fun K hK => ?_) (AllReadyH.nil)
  go_simp
  go_at_call 16
  refine (same_c _ A2 (some ⟨gF, 0, none⟩) (kF + 1) A2c cF Fi hF.symm (by omega) P2.out (KF.out _ BX.out)).mono ?_
  rintro e w2 ⟨rfl, b1⟩
  have BX := Lib.hid (BX.out.trans (b1.mono BX.out.size))
  clear b1 P2
  go_simp
  refine hK.out _ _ (KP.out _ BX.out) (fun hHeld => ?_)
  clear hK K
  try simp only [Act.put, List.setIfInBounds_toArray, List.set_cons_zero, List.set_cons_succ]
  refine takeH (i := 10) (d := 115) (oi := _) (v := .bool false) rfl (by kernel_rfl) (by kernel_rfl) (by kernel_rfl) (by kernel_rfl) (fun _ _ _ h => h) (Or.inl ⟨by kernel_rfl, by intro u hSw; clear hSw; go_simp⟩) hHeld ?_
  try simp only [List.setIfInBounds_toArray, List.set_cons_zero, List.set_cons_succ]
  refine takeH (i := 11) (d := 116) (oi := _) (v := .bool false) rfl (by kernel_rfl) (by kernel_rfl) (by kernel_rfl) (by kernel_rfl) (fun _ _ _ h => h) (Or.inl ⟨by kernel_rfl, by intro u hSw; clear hSw; go_simp⟩) hHeld ?_
  try simp only [List.setIfInBounds_toArray, List.set_cons_zero, List.set_cons_succ]
  refine takeH (i := 12) (d := 117) (oi := _) (v := .bool false) rfl (by kernel_rfl) (by kernel_rfl) (by kernel_rfl) (by kernel_rfl) (fun _ _ _ h => h) (Or.inl ⟨by kernel_rfl, by intro u hSw; clear hSw; go_simp⟩) hHeld ?_
  try simp only [List.setIfInBounds_toArray, List.set_cons_zero, List.set_cons_succ]
  refine takeH (i := 13) (d := 118) (oi := _) (v := .pointer (some ⟨g, 0, none⟩)) rfl (by kernel_rfl) (by kernel_rfl) (by kernel_rfl) (by kernel_rfl) (fun _ _ _ h => h) (Or.inl ⟨by kernel_rfl, by intro u hSw; clear hSw; go_simp⟩) hHeld ?_
  try simp only [List.setIfInBounds_toArray, List.set_cons_zero, List.set_cons_succ]
  refine takeH (i := 15) (d := 120) (oi := _) (v := .slice (some ⟨gF, 0, none⟩) (kF + 1) cF) rfl (by kernel_rfl) (by kernel_rfl) (by kernel_rfl) (by kernel_rfl) (fun _ _ _ h => h) (Or.inl ⟨by kernel_rfl, by intro u hSw; clear hSw; go_simp⟩) hHeld ?_
  try simp only [List.setIfInBounds_toArray, List.set_cons_zero, List.set_cons_succ]
  refine takeH (i := 16) (d := 121) (oi := _) (v := .slice (some ⟨gF, 0, none⟩) (kF + 1) cF) rfl (by kernel_rfl) (by kernel_rfl) (by kernel_rfl) (by kernel_rfl) (fun _ _ _ h => h) (Or.inl ⟨by kernel_rfl, by intro u hSw; clear hSw; go_simp⟩) hHeld ?_
  try simp only [List.setIfInBounds_toArray, List.set_cons_zero, List.set_cons_succ]
  refine takeH (i := 17) (d := 122) (oi := _) (v := .int .i64 ((kF + 1 : Nat) : Int)) rfl (by kernel_rfl) (by kernel_rfl) (by kernel_rfl) (by kernel_rfl) (fun _ _ _ h => h) (Or.inl ⟨by kernel_rfl, by intro u hSw; clear hSw; go_simp⟩) hHeld ?_
  try simp only [List.setIfInBounds_toArray, List.set_cons_zero, List.set_cons_succ]
  refine takeH (i := 18) (d := 123) (oi := _) (v := .int .i64 (kF : Int)) rfl (by kernel_rfl) (by kernel_rfl) (by kernel_rfl) (by kernel_rfl) (fun _ _ _ h => h) (Or.inl ⟨by kernel_rfl, by intro u hSw; clear hSw; go_simp; simp [IntKind.wrap, IntKind.bits, IntKind.signed]; omega⟩) hHeld ?_
  try simp only [List.setIfInBounds_toArray, List.set_cons_zero, List.set_cons_succ]
  refine takeH (i := 19) (d := 124) (oi := _) (v := .pointer (some ⟨gF, (kF * 33), none⟩)) rfl (by kernel_rfl) (by kernel_rfl) (by kernel_rfl) (by kernel_rfl) (fun _ _ _ h => h) (Or.inl ⟨by kernel_rfl, by intro u hSw; clear hSw; go_simp⟩) hHeld ?_
  try simp only [List.setIfInBounds_toArray, List.set_cons_zero, List.set_cons_succ]
  refine takeH (i := 20) (d := 125) (oi := _) (v := .agg (pv pF)) rfl (by kernel_rfl) (by kernel_rfl) (by kernel_rfl) (by kernel_rfl) (fun _ _ _ h => h) (yieldsIf_load_midC (by kernel_rfl) _ _ rfl (gF) (kF * 33) rfl (pC pF) (pv pF) (pC_arr pF) _ (fun u hSw => hSw.1) Try.underlying29 rfl (size_pv pF)) hHeld ?_
  try simp only [List.setIfInBounds_toArray, List.set_cons_zero, List.set_cons_succ]
  refine wpAnyH_ready (rs := [14]) (by kernel_rfl) (by simp) ?_
  refine AllReadyH.cons (o := _) rfl (fun K hK => ?_) (AllReadyH.nil)
  go_simp
  go_at_call 19
  refine (best_c g _ S _ _ (GG.out _ BX.out).mem.toM HN.out ⟨pF, (RF.out.2 pF).1 (List.mem_of_getElem? LF.out)⟩).mono ?_
  rintro e w2 ⟨q1, rfl, lo1, b1⟩
  obtain rfl : pF = q1 := last_is RF.out.1 RF.out.2 lo1 LFl.out LF.out
  have BX := Lib.hid (BX.out.trans (b1.mono BX.out.size))
  clear lo1 b1
  go_simp
  refine hK.out _ _ (KP.out _ BX.out) (fun hHeld => ?_)
  clear hK K
  try simp only [Act.put, List.setIfInBounds_toArray, List.set_cons_zero, List.set_cons_succ]
  refine takeH (i := 21) (d := 126) (oi := _) (v := .bool false) rfl (by kernel_rfl) (by kernel_rfl) (by kernel_rfl) (by kernel_rfl) (fun _ _ _ h => h) (yieldsIf_neq (by kernel_rfl) 29 29 (.tmp 119) (.tmp 125) rfl (pv pF) (pv pF) rfl rfl guard_point true (fun w => (eq_point9 pF pF w).trans (by simp))) hHeld ?_
  try simp only [List.setIfInBounds_toArray, List.set_cons_zero, List.set_cons_succ]
  refine takeH (i := 22) (d := 127) (oi := _) (v := .bool false) rfl (by kernel_rfl) (by kernel_rfl) (by kernel_rfl) (by kernel_rfl) (fun _ _ _ h => h) (Or.inl ⟨by kernel_rfl, by intro u hSw; clear hSw; go_simp⟩) hHeld ?_
  try simp only [List.setIfInBounds_toArray, List.set_cons_zero, List.set_cons_succ]
  refine takeH (i := 23) (d := 128) (oi := _) (v := .bool false) rfl (by kernel_rfl) (by kernel_rfl) (by kernel_rfl) (by kernel_rfl) (fun _ _ _ h => h) (Or.inl ⟨by kernel_rfl, by intro u hSw; clear hSw; go_simp⟩) hHeld ?_
  try simp only [List.setIfInBounds_toArray, List.set_cons_zero, List.set_cons_succ]
  refine takeH (i := 24) (d := 129) (oi := _) (v := .pointer (some ⟨g, 0, none⟩)) rfl (by kernel_rfl) (by kernel_rfl) (by kernel_rfl) (by kernel_rfl) (fun _ _ _ h => h) (Or.inl ⟨by kernel_rfl, by intro u hSw; clear hSw; go_simp⟩) hHeld ?_
  try simp only [List.setIfInBounds_toArray, List.set_cons_zero, List.set_cons_succ]
  refine takeH (i := 26) (d := 131) (oi := _) (v := .slice (some ⟨gJ, 0, none⟩) (kJ + 1) cJ) rfl (by kernel_rfl) (by kernel_rfl) (by kernel_rfl) (by kernel_rfl) (fun _ _ _ h => h) (Or.inl ⟨by kernel_rfl, by intro u hSw; clear hSw; go_simp⟩) hHeld ?_
  try simp only [List.setIfInBounds_toArray, List.set_cons_zero, List.set_cons_succ]
  refine takeH (i := 27) (d := 132) (oi := _) (v := .slice (some ⟨gJ, 0, none⟩) (kJ + 1) cJ) rfl (by kernel_rfl) (by kernel_rfl) (by kernel_rfl) (by kernel_rfl) (fun _ _ _ h => h) (Or.inl ⟨by kernel_rfl, by intro u hSw; clear hSw; go_simp⟩) hHeld ?_
  try simp only [List.setIfInBounds_toArray, List.set_cons_zero, List.set_cons_succ]
  refine takeH (i := 28) (d := 133) (oi := _) (v := .int .i64 ((kJ + 1 : Nat) : Int)) rfl (by kernel_rfl) (by kernel_rfl) (by kernel_rfl) (by kernel_rfl) (fun _ _ _ h => h) (Or.inl ⟨by kernel_rfl, by intro u hSw; clear hSw; go_simp⟩) hHeld ?_
  try simp only [List.setIfInBounds_toArray, List.set_cons_zero, List.set_cons_succ]
  refine takeH (i := 29) (d := 134) (oi := _) (v := .int .i64 (kJ : Int)) rfl (by kernel_rfl) (by kernel_rfl) (by kernel_rfl) (by kernel_rfl) (fun _ _ _ h => h) (Or.inl ⟨by kernel_rfl, by intro u hSw; clear hSw; go_simp; simp [IntKind.wrap, IntKind.bits, IntKind.signed]; omega⟩) hHeld ?_
  try simp only [List.setIfInBounds_toArray, List.set_cons_zero, List.set_cons_succ]
  refine takeH (i := 30) (d := 135) (oi := _) (v := .pointer (some ⟨gJ, (kJ * 33), none⟩)) rfl (by kernel_rfl) (by kernel_rfl) (by kernel_rfl) (by kernel_rfl) (fun _ _ _ h => h) (Or.inl ⟨by kernel_rfl, by intro u hSw; clear hSw; go_simp⟩) hHeld ?_
  try simp only [List.setIfInBounds_toArray, List.set_cons_zero, List.set_cons_succ]
  refine takeH (i := 31) (d := 136) (oi := _) (v := .agg (pv pJ)) rfl (by kernel_rfl) (by kernel_rfl) (by kernel_rfl) (by kernel_rfl) (fun _ _ _ h => h) (yieldsIf_load_midC (by kernel_rfl) _ _ rfl (gJ) (kJ * 33) rfl (pC pJ) (pv pJ) (pC_arr pJ) _ (fun u hSw => hSw.2) Try.underlying29 rfl (size_pv pJ)) hHeld ?_
  try simp only [List.setIfInBounds_toArray, List.set_cons_zero, List.set_cons_succ]
  refine wpAnyH_ready (rs := [25]) (by kernel_rfl) (by simp) ?_
  refine AllReadyH.cons (o := _) rfl (fun K hK => ?_) (AllReadyH.nil)
  go_simp
  go_at_call 20
  refine (highest_c g _ S _ _ (GG.out _ BX.out).mem.toM HN.out ⟨pJ, (RJ.out.2 pJ).1 (List.mem_of_getElem? LJ.out)⟩).mono ?_
  rintro e w2 ⟨q1, rfl, lo1, b1⟩
  obtain rfl : pJ = q1 := last_is RJ.out.1 RJ.out.2 lo1 LJl.out LJ.out
  have BX := Lib.hid (BX.out.trans (b1.mono BX.out.size))
  clear lo1 b1
  go_simp
  refine hK.out _ _ (KP.out _ BX.out) (fun hHeld => ?_)
  clear hK K
  try simp only [Act.put, List.setIfInBounds_toArray, List.set_cons_zero, List.set_cons_succ]
  refine takeH (i := 32) (d := 137) (oi := _) (v := .bool false) rfl (by kernel_rfl) (by kernel_rfl) (by kernel_rfl) (by kernel_rfl) (fun _ _ _ h => h) (yieldsIf_neq (by kernel_rfl) 29 29 (.tmp 130) (.tmp 136) rfl (pv pJ) (pv pJ) rfl rfl guard_point true (fun w => (eq_point9 pJ pJ w).trans (by simp))) hHeld ?_
  try simp only [List.setIfInBounds_toArray, List.set_cons_zero, List.set_cons_succ]
  refine takeH (i := 33) (d := 138) (oi := _) (v := .bool false) rfl (by kernel_rfl) (by kernel_rfl) (by kernel_rfl) (by kernel_rfl) (fun _ _ _ h => h) (Or.inl ⟨by kernel_rfl, by intro u hSw; clear hSw; go_simp⟩) hHeld ?_
  try simp only [List.setIfInBounds_toArray, List.set_cons_zero, List.set_cons_succ]
  refine wpAnyH_done (by kernel_rfl) ?_ _
  refine NoPanic.normal ?_
  exact hQ _ _ _ _ _ _ _ _ _ _ _ _ _ _ _ _ _ _ _ _ _ _ _ _ _ _ _ _ _ _ _ _ _ _ ((Below.refl w.heap.size w).drew.trans BX.out)
end Go.Proofs.Ythlbpjkopkicbaa
namespace Go.Proofs.Ythlbpjkopkicbaa
open Go.ChangeMaps Go.MapKept Go.Maps Go.WideElems Go.RowKit Go.ChangeShapes Go.WideShapes Go.ChangeAt
set_option linter.unusedVariables false
set_option maxRecDepth 100000

noncomputable def pl_r26C : Code := ((Try.f4.body.bind (regionOf 26))).getD .skip
set_option maxRecDepth 1000000 in
set_option maxHeartbeats 8000000 in
theorem pl_r26 (c0 c1 c3 c4 c5 c6 c8 c9 c10 c11 c12 c13 c14 c15 c16 c17 c18 c19 c20 c21 c22 c23 c24 c25 c26 c27 c28 c29 c30 c31 c32 c33 c34 c35 c36 c37 c38 c39 c40 c41 c42 c43 c44 c45 c46 c47 c48 c49 c50 c51 c52 c53 c54 c55 c56 c57 c58 c59 c60 c61 c62 c63 c64 c65 c66 c67 c68 c69 c70 c71 c72 c73 c74 c75 c76 c77 c78 c79 c80 c81 c82 c83 c84 c85 c86 c87 c88 c89 c90 c91 c92 c93 c94 c95 c96 c97 c98 c99 c100 c101 c102 c103 c104 c105 c106 c107 c108 c109 c110 c111 c112 c113 c114 c115 c116 c117 c118 c119 c120 c121 c122 c123 c124 c125 c126 c127 c128 c129 c130 c131 c132 c133 c134 c135 c136 c137 c138 c139 c140 c141 c142 c143 c144 c145 c146 c147 c148 c149 c150 c151 c152 c153 c154 c155 c156 c157 c158 c159 c160 c161 c162 c163 c164 c165 c166 c167 c168 c169 c170 c171 c172 c173 c174 c175 c176 c177 c178 c179 c180 c181 c182 c183 c184 c185 c186 c187 c188 c189 c190 c191 c192 c193 c194 c195 c196 c197 c198 c199 c200 c201 c202 c203 c204 c205 c206 c207 c208 c209 c210 c211 c212 c213 c214 c215 c216 c217 c218 c219 c220 c221 c222 c223 c224 : Value) (w : World) (A7 : Option Addr) (gx n c7 : Nat) (a : Pt) (D : List Lk) (hn : n = D.length) (hn2 : n ≤ 100) (hx : PkB gx a w) (hD : LksAt w w.heap.size A7 D)
    (Q : Exit → Act → World → Prop) (hQ : ∀ (u13 u14 u99 u100 u101 u102 u103 u104 : Value) (w' : World), (∃ AJ cJ J AF cF F, u13 = .slice AJ (List.length J) cJ ∧ u14 = .slice AF (List.length F) cF ∧ w'.ownsRow w.heap.size 29 33 (.slice AJ J.length cJ) J.length (pts J) ∧ w'.ownsRow w.heap.size 29 33 (.slice AF F.length cF) F.length (pts F) ∧ (Rise J ∧ (∀ p, p ∈ J ↔ p ∈ jus a D) ∧ J.length ≤ n + 1) ∧ (Rise F ∧ (∃ J2, (∀ p, p ∈ F ↔ p ∈ fis a J2 D) ∧ ∀ p, p ∈ J2 ↔ p ∈ jus a D) ∧ F.length ≤ n + 1) ∧ Below w.heap.size w w') → Q .normal ⟨#[c0, c1, .pointer (some ⟨gx, 0, none⟩), c3, c4, c5, c6, .slice A7 n c7, c8, c9, c10, c11, c12, u13, u14, c15, c16, c17, c18, c19, c20, c21, c22, c23, c24, c25, c26, c27, c28, c29, c30, c31, c32, c33, c34, c35, c36, c37, c38, c39, c40, c41, c42, c43, c44, c45, c46, c47, c48, c49, c50, c51, c52, c53, c54, c55, c56, c57, c58, c59, c60, c61, c62, c63, c64, c65, c66, c67, c68, c69, c70, c71, c72, c73, c74, c75, c76, c77, c78, c79, c80, c81, c82, c83, c84, c85, c86, c87, c88, c89, c90, c91, c92, c93, c94, c95, c96, c97, c98, u99, u100, u101, u102, u103, u104, c105, c106, c107, c108, c109, c110, c111, c112, c113, c114, c115, c116, c117, c118, c119, c120, c121, c122, c123, c124, c125, c126, c127, c128, c129, c130, c131, c132, c133, c134, c135, c136, c137, c138, c139, c140, c141, c142, c143, c144, c145, c146, c147, c148, c149, c150, c151, c152, c153, c154, c155, c156, c157, c158, c159, c160, c161, c162, c163, c164, c165, c166, c167, c168, c169, c170, c171, c172, c173, c174, c175, c176, c177, c178, c179, c180, c181, c182, c183, c184, c185, c186, c187, c188, c189, c190, c191, c192, c193, c194, c195, c196, c197, c198, c199, c200, c201, c202, c203, c204, c205, c206, c207, c208, c209, c210, c211, c212, c213, c214, c215, c216, c217, c218, c219, c220, c221, c222, c223, c224], []⟩ w') :
    Code.wp Try.prog pl_r26C Q ⟨#[c0, c1, .pointer (some ⟨gx, 0, none⟩), c3, c4, c5, c6, .slice A7 n c7, c8, c9, c10, c11, c12, c13, c14, c15, c16, c17, c18, c19, c20, c21, c22, c23, c24, c25, c26, c27, c28, c29, c30, c31, c32, c33, c34, c35, c36, c37, c38, c39, c40, c41, c42, c43, c44, c45, c46, c47, c48, c49, c50, c51, c52, c53, c54, c55, c56, c57, c58, c59, c60, c61, c62, c63, c64, c65, c66, c67, c68, c69, c70, c71, c72, c73, c74, c75, c76, c77, c78, c79, c80, c81, c82, c83, c84, c85, c86, c87, c88, c89, c90, c91, c92, c93, c94, c95, c96, c97, c98, c99, c100, c101, c102, c103, c104, c105, c106, c107, c108, c109, c110, c111, c112, c113, c114, c115, c116, c117, c118, c119, c120, c121, c122, c123, c124, c125, c126, c127, c128, c129, c130, c131, c132, c133, c134, c135, c136, c137, c138, c139, c140, c141, c142, c143, c144, c145, c146, c147, c148, c149, c150, c151, c152, c153, c154, c155, c156, c157, c158, c159, c160, c161, c162, c163, c164, c165, c166, c167, c168, c169, c170, c171, c172, c173, c174, c175, c176, c177, c178, c179, c180, c181, c182, c183, c184, c185, c186, c187, c188, c189, c190, c191, c192, c193, c194, c195, c196, c197, c198, c199, c200, c201, c202, c203, c204, c205, c206, c207, c208, c209, c210, c211, c212, c213, c214, c215, c216, c217, c218, c219, c220, c221, c222, c223, c224], []⟩ w := by
  conv => arg 2; whnf
  try dsimp only at hQ ⊢
  have dB : Hid (Below w.heap.size w w.drew) := (Below.refl _ _).drew
  have KP : Hid (∀ u : World, Below w.heap.size w.drew u → u.rangeAt gx 0 (pC a)) := fun u hu => (hx.below (dB.out.trans hu) hx.lt).all
  have KD : Hid (∀ u : World, Below w.heap.size w.drew u → LksAt u u.heap.size A7 D) := fun u hu v hv => hD v (dB.out.trans (hu.trans (hv.mono hu.size)))
  have BX : Hid (Below w.heap.size w.drew w.drew) := Below.refl _ _
  have HN := Lib.hid hn
  clear hx hD hn
  refine wp_region_noPanic ?_
  refine wp_region_held_drew (S := (fun u => u.rangeAt gx 0 (pC a))) (by kernel_rfl) (KP.out _ BX.out) (fun hHeld => ?_)
  refine takeH (i := 0) (d := 99) (oi := _) (v := .agg (pv a)) rfl (by kernel_rfl) (by kernel_rfl) (by kernel_rfl) (by kernel_rfl) (fun _ _ _ h => h) (yieldsIf_load_midC (by kernel_rfl) _ _ rfl (gx) 0 rfl (pC a) (pv a) (pC_arr a) _ (fun u hSw => hSw) Try.underlying29 rfl (size_pv a)) hHeld ?_
  try simp only [List.setIfInBounds_toArray, List.set_cons_zero, List.set_cons_succ]
  refine takeH (i := 1) (d := 100) (oi := _) (v := .slice A7 n c7) rfl (by kernel_rfl) (by kernel_rfl) (by kernel_rfl) (by kernel_rfl) (fun _ _ _ h => h) (Or.inl ⟨by kernel_rfl, by intro u hSw; clear hSw; go_simp⟩) hHeld ?_
  try simp only [List.setIfInBounds_toArray, List.set_cons_zero, List.set_cons_succ]
  refine takeH (i := 3) (d := 102) (oi := _) (v := .agg (pv a)) rfl (by kernel_rfl) (by kernel_rfl) (by kernel_rfl) (by kernel_rfl) (fun _ _ _ h => h) (yieldsIf_load_midC (by kernel_rfl) _ _ rfl (gx) 0 rfl (pC a) (pv a) (pC_arr a) _ (fun u hSw => hSw) Try.underlying29 rfl (size_pv a)) hHeld ?_
  try simp only [List.setIfInBounds_toArray, List.set_cons_zero, List.set_cons_succ]
  refine takeH (i := 4) (d := 103) (oi := _) (v := .slice A7 n c7) rfl (by kernel_rfl) (by kernel_rfl) (by kernel_rfl) (by kernel_rfl) (fun _ _ _ h => h) (Or.inl ⟨by kernel_rfl, by intro u hSw; clear hSw; go_simp⟩) hHeld ?_
  try simp only [List.setIfInBounds_toArray, List.set_cons_zero, List.set_cons_succ]
  refine wpAnyH_ready (rs := [2]) (by kernel_rfl) (by simp) ?_
  refine AllReadyH.cons (o := _) rfl (fun K hK => ?_) (AllReadyH.nil)
  go_simp
  go_at_call 14
  refine (justified_ref _ A7 n c7 a D HN.out hn2 (KD.out _ BX.out)).mono ?_
  rintro e w2 ⟨AJ, cJ, J, rfl, oJ, rJ, mJ, bJ, lJ⟩
  have OJ := Lib.hid (own_base oJ BX.out.size)
  have FJ := Lib.hid (And.intro rJ (And.intro mJ lJ))
  have BX := Lib.hid (BX.out.trans (bJ.mono BX.out.size))
  (try replace OF := Lib.hid (own_below0 OF.out bJ))
  clear oJ rJ mJ bJ lJ
  go_simp
  refine hK.out _ _ (KP.out _ BX.out) (fun hHeld => ?_)
  clear hK K
  try simp only [Act.put, List.setIfInBounds_toArray, List.set_cons_zero, List.set_cons_succ]
  refine wpAnyH_ready (rs := [5]) (by kernel_rfl) (by simp) ?_
  refine AllReadyH.cons (o := _) rfl (fun K hK => ?_) (AllReadyH.nil)
  go_simp
  go_at_call 15
  refine (final_ref _ A7 n c7 a D HN.out hn2 (KD.out _ BX.out)).mono ?_
  rintro e w2 ⟨AF, cF, F, J2, rfl, oF, rF, mF, mJ2, bF, lF⟩
  have OF := Lib.hid (own_base oF BX.out.size)
  have FF : Hid (Rise F ∧ (∃ J2, (∀ p, p ∈ F ↔ p ∈ fis a J2 D) ∧ ∀ p, p ∈ J2 ↔ p ∈ jus a D) ∧ F.length ≤ n + 1) := ⟨rF, ⟨J2, mF, mJ2⟩, lF⟩
  have BX := Lib.hid (BX.out.trans (bF.mono BX.out.size))
  (try replace OJ := Lib.hid (own_below0 OJ.out bF))
  clear oF rF mF mJ2 bF lF
  go_simp
  refine hK.out _ _ (KP.out _ BX.out) (fun hHeld => ?_)
  clear hK K
  try simp only [Act.put, List.setIfInBounds_toArray, List.set_cons_zero, List.set_cons_succ]
  refine takeH (i := 6) (d := 13) (oi := _) (v := .slice AJ (List.length J) cJ) rfl (by kernel_rfl) (by kernel_rfl) (by kernel_rfl) (by kernel_rfl) (fun _ _ _ h => h) (Or.inl ⟨by kernel_rfl, by intro u hSw; clear hSw; go_simp⟩) hHeld ?_
  try simp only [List.setIfInBounds_toArray, List.set_cons_zero, List.set_cons_succ]
  refine takeH (i := 7) (d := 14) (oi := _) (v := .slice AF (List.length F) cF) rfl (by kernel_rfl) (by kernel_rfl) (by kernel_rfl) (by kernel_rfl) (fun _ _ _ h => h) (Or.inl ⟨by kernel_rfl, by intro u hSw; clear hSw; go_simp⟩) hHeld ?_
  try simp only [List.setIfInBounds_toArray, List.set_cons_zero, List.set_cons_succ]
  refine wpAnyH_done (by kernel_rfl) ?_ _
  refine NoPanic.normal ?_
  exact hQ _ _ _ _ _ _ _ _ _ ⟨AJ, cJ, J, AF, cF, F, rfl, rfl, OJ.out, OF.out, FJ.out, FF.out, dB.out.trans BX.out⟩
end Go.Proofs.Ythlbpjkopkicbaa
namespace Go.Proofs.Ythlbpjkopkicbaa
open Go.ChangeMaps Go.MapKept Go.Maps Go.WideElems Go.RowKit Go.ChangeShapes Go.WideShapes Go.ChangeAt
set_option linter.unusedVariables false
set_option maxRecDepth 100000

theorem fill_src {g : Nat} {x : Lk} {t : TypeId} {w : World} (h : Fill g t 66 66 (lkf x) w) : w.rangeAt g 0 (pC x.s) := fun j v hv => by
  have hj : j < 33 := by rw [← pC_len x.s]; exact (List.getElem?_eq_some_iff.1 hv).1
  unfold pC at hv
  rw [List.getElem?_map, List.getElem?_range hj] at hv
  rw [Nat.zero_add, Fill.at_ h j (by omega), ← hv]
  show some (lkf x j) = some _
  rw [lkf, if_pos hj]
theorem fill_tgt {g : Nat} {x : Lk} {t : TypeId} {w : World} (h : Fill g t 66 66 (lkf x) w) : w.rangeAt g 33 (pC x.t) := fun j v hv => by
  have hj : j < 33 := by rw [← pC_len x.t]; exact (List.getElem?_eq_some_iff.1 hv).1
  unfold pC at hv
  rw [List.getElem?_map, List.getElem?_range hj] at hv
  rw [Fill.at_ h (33 + j) (by omega), ← hv]
  show some (lkf x (33 + j)) = some _
  rw [lkf, if_neg (by omega), show 33 + j - 33 = j by omega]
theorem pair_points (x : Lk) (u : World) : (Instr.buildSlice 38 2 #[(0, .agg (pv x.s)), (1, .agg (pv x.t))]).run Try.prog u = .ok (.slice (some ⟨u.heap.size, 0, none⟩) 2 2) (u.alloc (.cells (lv x) 29)) := by
  have hie : Try.prog.info? 29 = some ((Try.prog.info? 29).get (by kernel_rfl)) := (Option.some_get _).symm
  refine run_buildSlice u _ 29 2 _ (lv x) _ _ Try.underlying38 hie (Option.some_get (by kernel_rfl)).symm (by decide +kernel) (by decide +kernel) ?_
  kernel_rfl
theorem own_lks {w : World} {base c : Nat} {A : Option Addr} {D : List Lk} (h : w.ownsRow base 36 66 (.slice A D.length c) D.length (lks D)) : LksAt w w.heap.size A D := fun u hu k p hk => by
  have hlt := (List.getElem?_eq_some_iff.1 hk).1
  obtain ⟨g, hg⟩ := own_rowS h
  obtain ⟨rfl, hgl⟩ := hg (by omega)
  exact ⟨g, rfl, rangeB hu hgl (link_cells h hk)⟩
/-- What stands at a round's head: the gadget; those done are those told, in a row of their own. -/
structure Pl (a : Pt) (g : Nat) (W0 : World) (F : Nat → Prop) (S : FgS) (A : Option Addr) (n c : Nat) (u : World) : Prop where
  G : GadG a g F S u
  lo : ∀ k, F k → W0.heap.size ≤ k
  bel : Below W0.heap.size W0 u
  len : n = S.told.length
  row : u.ownsRow W0.heap.size 36 66 (.slice A n c) n (lks S.told)
  off : ∀ gl, (Value.slice A n c).ownBlock = some gl → ¬ F gl
section
variable {a : Pt} {g : Nat} {W0 : World} {F : Nat → Prop} {S : FgS} {A : Option Addr} {n c : Nat} {u u' : World}
theorem Pl.below (h : Pl a g W0 F S A n c u) (hb : Below u.heap.size u u') : Pl a g W0 F S A n c u' := { h with G := h.G.below hb, bel := h.bel.trans (hb.mono h.bel.size), row := own_below0 h.row hb }
theorem Pl.links (h : Pl a g W0 F S A n c u) : LksAt u u.heap.size A S.told := by
  have := h.row
  rw [h.len] at this
  exact own_lks this
/-- A link is told: those done stay. -/
theorem Pl.step {x : Lk} {e : Ending} (h : Pl a g W0 F S A n c u) (hs : StrongG a g F S x u e u') : ∃ er F' S', e = .returned (.int .i64 er) ∧ er = (if mayL x = false then 2 else if x ∈ S.told then 11 else 0) ∧ GadG a g F' S' u' ∧ (∀ k, F' k → W0.heap.size ≤ k) ∧ Below W0.heap.size W0 u' ∧ u'.ownsRow W0.heap.size 36 66 (.slice A n c) n (lks S.told) ∧ (∀ gl, (Value.slice A n c).ownBlock = some gl → ¬ F' gl) ∧ Kept F u u' ∧ (er ≠ 0 → S' = S) ∧ (er = 0 → S'.told = S.told ++ [x]) := by
  obtain ⟨er, F', S', rfl, q1, q2, q3, q4, _, q6, q7⟩ := hs
  exact ⟨er, F', S', rfl, strongs_er q1, q2, fun k hk => (q4 k hk).elim (h.lo k) (Nat.le_trans h.bel.size), h.bel.trans (q3.below h.bel.size h.lo), ownKeep h.row (fun gl hg => q3.2.2.2.2 gl (h.row.lt gl hg).2 (h.off gl hg)), fun gl hg hF => (q4 gl hF).elim (h.off gl hg) (fun e => by have := (h.row.lt gl hg).2; omega), q3, q6, q7⟩
end
noncomputable def pl_r20C : Code := ((Try.f4.body.bind (regionOf 20))).getD .skip
set_option maxRecDepth 1000000 in
set_option maxHeartbeats 8000000 in
theorem pl_r20 (c0 c1 c2 c3 c4 c5 c6 c7 c8 c10 c11 c12 c13 c14 c15 c16 c17 c18 c19 c20 c21 c22 c23 c24 c25 c26 c27 c28 c29 c30 c31 c32 c33 c34 c35 c36 c37 c38 c39 c40 c41 c42 c43 c44 c45 c46 c47 c48 c49 c50 c51 c52 c53 c54 c55 c56 c57 c58 c59 c60 c61 c62 c63 c64 c65 c66 c67 c68 c69 c70 c71 c72 c73 c74 c75 c76 c77 c78 c79 c80 c81 c82 c83 c84 c85 c86 c87 c88 c89 c90 c91 c92 c93 c94 c95 c96 c97 c98 c99 c100 c101 c102 c103 c104 c105 c106 c107 c108 c109 c110 c111 c112 c113 c114 c115 c116 c117 c118 c119 c120 c121 c122 c123 c124 c125 c126 c127 c128 c129 c130 c131 c132 c133 c134 c135 c136 c137 c138 c139 c140 c141 c142 c143 c144 c145 c146 c147 c148 c149 c150 c151 c152 c153 c154 c155 c156 c157 c158 c159 c160 c161 c162 c163 c164 c165 c166 c167 c168 c169 c170 c171 c172 c173 c174 c175 c176 c177 c178 c179 c180 c181 c182 c183 c184 c185 c186 c187 c188 c189 c190 c191 c192 c193 c194 c195 c196 c197 c198 c199 c200 c201 c202 c203 c204 c205 c206 c207 c208 c209 c210 c211 c212 c213 c214 c215 c216 c217 c218 c219 c220 c221 c222 c223 c224 : Value) (w : World) (gx : Nat) (x : Lk) (hx : LkB gx x w)
    (Q : Exit → Act → World → Prop) (hQ : ∀ (u71 u72 u73 u74 u75 u76 u77 u78 u79 u80 u81 u82 u83 u84 u85 u86 u87 u88 : Value) (w' : World), w' = w → Q .normal ⟨#[c0, c1, c2, c3, c4, c5, c6, c7, c8, .pointer (some ⟨gx, 0, none⟩), c10, c11, c12, c13, c14, c15, c16, c17, c18, c19, c20, c21, c22, c23, c24, c25, c26, c27, c28, c29, c30, c31, c32, c33, c34, c35, c36, c37, c38, c39, c40, c41, c42, c43, c44, c45, c46, c47, c48, c49, c50, c51, c52, c53, c54, c55, c56, c57, c58, c59, c60, c61, c62, c63, c64, c65, c66, c67, c68, c69, c70, u71, u72, u73, u74, u75, u76, u77, u78, u79, u80, u81, u82, u83, u84, u85, u86, u87, u88, .bool (!mayL x), c90, c91, c92, c93, c94, c95, c96, c97, c98, c99, c100, c101, c102, c103, c104, c105, c106, c107, c108, c109, c110, c111, c112, c113, c114, c115, c116, c117, c118, c119, c120, c121, c122, c123, c124, c125, c126, c127, c128, c129, c130, c131, c132, c133, c134, c135, c136, c137, c138, c139, c140, c141, c142, c143, c144, c145, c146, c147, c148, c149, c150, c151, c152, c153, c154, c155, c156, c157, c158, c159, c160, c161, c162, c163, c164, c165, c166, c167, c168, c169, c170, c171, c172, c173, c174, c175, c176, c177, c178, c179, c180, c181, c182, c183, c184, c185, c186, c187, c188, c189, c190, c191, c192, c193, c194, c195, c196, c197, c198, c199, c200, c201, c202, c203, c204, c205, c206, c207, c208, c209, c210, c211, c212, c213, c214, c215, c216, c217, c218, c219, c220, c221, c222, c223, c224], []⟩ w') :
    Code.wp Try.prog pl_r20C Q ⟨#[c0, c1, c2, c3, c4, c5, c6, c7, c8, .pointer (some ⟨gx, 0, none⟩), c10, c11, c12, c13, c14, c15, c16, c17, c18, c19, c20, c21, c22, c23, c24, c25, c26, c27, c28, c29, c30, c31, c32, c33, c34, c35, c36, c37, c38, c39, c40, c41, c42, c43, c44, c45, c46, c47, c48, c49, c50, c51, c52, c53, c54, c55, c56, c57, c58, c59, c60, c61, c62, c63, c64, c65, c66, c67, c68, c69, c70, c71, c72, c73, c74, c75, c76, c77, c78, c79, c80, c81, c82, c83, c84, c85, c86, c87, c88, c89, c90, c91, c92, c93, c94, c95, c96, c97, c98, c99, c100, c101, c102, c103, c104, c105, c106, c107, c108, c109, c110, c111, c112, c113, c114, c115, c116, c117, c118, c119, c120, c121, c122, c123, c124, c125, c126, c127, c128, c129, c130, c131, c132, c133, c134, c135, c136, c137, c138, c139, c140, c141, c142, c143, c144, c145, c146, c147, c148, c149, c150, c151, c152, c153, c154, c155, c156, c157, c158, c159, c160, c161, c162, c163, c164, c165, c166, c167, c168, c169, c170, c171, c172, c173, c174, c175, c176, c177, c178, c179, c180, c181, c182, c183, c184, c185, c186, c187, c188, c189, c190, c191, c192, c193, c194, c195, c196, c197, c198, c199, c200, c201, c202, c203, c204, c205, c206, c207, c208, c209, c210, c211, c212, c213, c214, c215, c216, c217, c218, c219, c220, c221, c222, c223, c224], []⟩ w := by
  conv => arg 2; whnf
  try dsimp only at hQ ⊢
  have HQ := Lib.hid hQ
  have c0 := hx.epoch
  have c33 := hx.epochT
  clear hQ hx
  by_cases h1 : 4611686018427387904 < x.s.e
  · have hm : (!mayL x) = true := by unfold mayL; rw [decide_eq_false (by omega : ¬ x.s.e ≤ 4611686018427387904)]; rfl
    have d1 : decide ((x.s.e : Int) > 4611686018427387904) = true := decide_eq_true (by omega)
    have d1' : decide (4611686018427387904 < (x.s.e : Int)) = true := decide_eq_true (by omega)
    rw [hm] at HQ
    clear hm h1
    go_wp2_with fail
    exact HQ.out _ _ _ _ _ _ _ _ _ _ _ _ _ _ _ _ _ _ _ rfl
  · have d1 : decide ((x.s.e : Int) > 4611686018427387904) = false := decide_eq_false (by omega)
    have d1' : decide (4611686018427387904 < (x.s.e : Int)) = false := decide_eq_false (by omega)
    by_cases h2 : 4611686018427387904 < x.t.e
    · have hm : (!mayL x) = true := by unfold mayL; rw [decide_eq_false (by omega : ¬ x.t.e ≤ 4611686018427387904)]; simp
      have d2 : decide ((x.t.e : Int) > 4611686018427387904) = true := decide_eq_true (by omega)
      have d2' : decide (4611686018427387904 < (x.t.e : Int)) = true := decide_eq_true (by omega)
      rw [hm] at HQ
      clear hm h1 h2
      go_wp2_with fail
      exact HQ.out _ _ _ _ _ _ _ _ _ _ _ _ _ _ _ _ _ _ _ rfl
    · have d2 : decide ((x.t.e : Int) > 4611686018427387904) = false := decide_eq_false (by omega)
      have d2' : decide (4611686018427387904 < (x.t.e : Int)) = false := decide_eq_false (by omega)
      by_cases h3 : x.s.e < x.t.e
      · have hm : (!mayL x) = false := by
          unfold mayL
          rw [decide_eq_true (by omega : x.s.e ≤ 4611686018427387904), decide_eq_true (by omega : x.t.e ≤ 4611686018427387904), decide_eq_true h3]; rfl
        have d3 : decide ((x.t.e : Int) ≤ (x.s.e : Int)) = false := decide_eq_false (by omega)
        have d3' : decide (x.t.e ≤ x.s.e) = false := decide_eq_false (by omega)
        rw [hm] at HQ
        clear hm h1 h2 h3
        go_wp2_with fail
        exact HQ.out _ _ _ _ _ _ _ _ _ _ _ _ _ _ _ _ _ _ _ rfl
      · have hm : (!mayL x) = true := by
          unfold mayL
          rw [decide_eq_false h3]; simp
        have d3 : decide ((x.t.e : Int) ≤ (x.s.e : Int)) = true := decide_eq_true (by omega)
        have d3' : decide (x.t.e ≤ x.s.e) = true := decide_eq_true (by omega)
        rw [hm] at HQ
        clear hm h1 h2 h3
        go_wp2_with fail
        exact HQ.out _ _ _ _ _ _ _ _ _ _ _ _ _ _ _ _ _ _ _ rfl
end Go.Proofs.Ythlbpjkopkicbaa
namespace Go.Proofs.Ythlbpjkopkicbaa
open Go.ChangeMaps Go.MapKept Go.Maps Go.WideElems Go.RowKit Go.ChangeShapes Go.WideShapes Go.ChangeAt
set_option linter.unusedVariables false
set_option maxRecDepth 100000

noncomputable def pl_b1C : Code := ((Try.f4.body.bind (blockOf 1))).getD .skip
set_option maxRecDepth 1000000 in
set_option maxHeartbeats 16000000 in
theorem pl_b1 (c0 c3 c4 c6 c9 c10 c11 c12 c13 c14 c15 c16 c17 c18 c19 c20 c21 c22 c23 c24 c25 c26 c27 c28 c29 c30 c31 c32 c33 c34 c35 c36 c37 c38 c39 c40 c41 c42 c43 c44 c45 c46 c47 c48 c49 c50 c51 c52 c53 c54 c55 c56 c57 c58 c59 c60 c61 c62 c63 c64 c65 c66 c67 c68 c69 c70 c71 c72 c73 c74 c75 c76 c77 c78 c79 c80 c81 c82 c83 c84 c85 c86 c87 c88 c89 c90 c91 c92 c93 c94 c95 c96 c97 c98 c99 c100 c101 c102 c103 c104 c105 c106 c107 c108 c109 c110 c111 c112 c113 c114 c115 c116 c117 c118 c119 c120 c121 c122 c123 c124 c125 c126 c127 c128 c129 c130 c131 c132 c133 c134 c135 c136 c137 c138 c139 c140 c141 c142 c143 c144 c145 c146 c147 c148 c149 c150 c151 c152 c153 c154 c155 c156 c157 c158 c159 c160 c161 c162 c163 c164 c165 c166 c167 c168 c169 c170 c171 c172 c173 c174 c175 c176 c177 c178 c179 c180 c181 c182 c183 c184 c185 c186 c187 c188 c189 c190 c191 c192 c193 c194 c195 c196 c197 c198 c199 c200 c201 c202 c203 c204 c205 c206 c207 c208 c209 c210 c211 c212 c213 c214 c215 c216 c217 c218 c219 c220 c221 c222 c223 c224 : Value) (w W0 : World) (a : Pt) (g B0 nI cI k n c7 : Nat) (AI A7 : Option Addr) (x : Lk) (F : Nat → Prop) (S : FgS) (hP : Pl a g W0 F S A7 n c7 w) (ha : PkB B0 a W0) (hkx : ∀ u, Below W0.heap.size W0 u → ∃ b o, AI = some ⟨b, o, none⟩ ∧ u.rangeAt b (o + k * 66) (lC x)) (hk : k < nI) (hl : n ≤ 45)
    (Q : Exit → Act → World → Prop) (hQ : ∀ (u4 u7 u9 u10 u11 u12 u13 u14 u15 u16 u17 u18 u19 u20 u21 u22 u52 u53 u54 u55 u56 u57 u58 u59 u60 u61 u62 u63 u64 u65 u66 u67 u68 u69 u70 u71 u72 u73 u74 u75 u76 u77 u78 u79 u80 u81 u82 u83 u84 u85 u86 u87 u88 u89 u90 u91 u92 u93 u94 u95 u96 u97 u98 u99 u100 u101 u102 u103 u104 u105 u106 u107 u108 u109 u110 u111 u112 u113 u114 u115 u116 u117 u118 u119 u120 u121 u122 u123 u124 u125 u126 u127 u128 u129 u130 u131 u132 u133 u134 u135 u136 u137 u138 u139 u140 u141 u142 u143 u144 u145 u146 u147 u148 u149 u150 u151 u152 u153 u154 u155 u156 u157 u158 u159 u160 u161 u162 u163 u164 u165 u166 u167 u168 u169 u170 u171 u172 u173 u174 u175 u176 u177 u178 u179 u180 u181 u182 u183 u184 u185 u186 u187 u188 u189 u190 u191 u192 u193 u194 u195 u196 u197 u198 u199 u200 u201 u202 u203 u204 u205 u206 u207 u208 u209 u210 u211 u212 u213 u214 u215 u216 u217 u218 u219 u220 u221 u222 u223 : Value) (w' : World), (∃ A' n' c' F' S', u7 = .slice A' n' c' ∧ Pl a g W0 F' S' A' n' c' w' ∧ n' ≤ n + 1) → Q .normal ⟨#[c0, .slice AI nI cI, .pointer (some ⟨B0, 0, none⟩), c3, u4, .pointer (some ⟨g, 0, none⟩), c6, u7, .int .i64 (k : Int), u9, u10, u11, u12, u13, u14, u15, u16, u17, u18, u19, u20, u21, u22, c23, c24, c25, c26, c27, c28, c29, c30, c31, c32, c33, c34, c35, c36, c37, c38, c39, c40, c41, c42, c43, c44, c45, c46, c47, c48, c49, c50, c51, u52, u53, u54, u55, u56, u57, u58, u59, u60, u61, u62, u63, u64, u65, u66, u67, u68, u69, u70, u71, u72, u73, u74, u75, u76, u77, u78, u79, u80, u81, u82, u83, u84, u85, u86, u87, u88, u89, u90, u91, u92, u93, u94, u95, u96, u97, u98, u99, u100, u101, u102, u103, u104, u105, u106, u107, u108, u109, u110, u111, u112, u113, u114, u115, u116, u117, u118, u119, u120, u121, u122, u123, u124, u125, u126, u127, u128, u129, u130, u131, u132, u133, u134, u135, u136, u137, u138, u139, u140, u141, u142, u143, u144, u145, u146, u147, u148, u149, u150, u151, u152, u153, u154, u155, u156, u157, u158, u159, u160, u161, u162, u163, u164, u165, u166, u167, u168, u169, u170, u171, u172, u173, u174, u175, u176, u177, u178, u179, u180, u181, u182, u183, u184, u185, u186, u187, u188, u189, u190, u191, u192, u193, u194, u195, u196, u197, u198, u199, u200, u201, u202, u203, u204, u205, u206, u207, u208, u209, u210, u211, u212, u213, u214, u215, u216, u217, u218, u219, u220, u221, u222, u223, c224], []⟩ w') :
    Code.wp Try.prog pl_b1C Q ⟨#[c0, .slice AI nI cI, .pointer (some ⟨B0, 0, none⟩), c3, c4, .pointer (some ⟨g, 0, none⟩), c6, .slice A7 n c7, .int .i64 (k : Int), c9, c10, c11, c12, c13, c14, c15, c16, c17, c18, c19, c20, c21, c22, c23, c24, c25, c26, c27, c28, c29, c30, c31, c32, c33, c34, c35, c36, c37, c38, c39, c40, c41, c42, c43, c44, c45, c46, c47, c48, c49, c50, c51, c52, c53, c54, c55, c56, c57, c58, c59, c60, c61, c62, c63, c64, c65, c66, c67, c68, c69, c70, c71, c72, c73, c74, c75, c76, c77, c78, c79, c80, c81, c82, c83, c84, c85, c86, c87, c88, c89, c90, c91, c92, c93, c94, c95, c96, c97, c98, c99, c100, c101, c102, c103, c104, c105, c106, c107, c108, c109, c110, c111, c112, c113, c114, c115, c116, c117, c118, c119, c120, c121, c122, c123, c124, c125, c126, c127, c128, c129, c130, c131, c132, c133, c134, c135, c136, c137, c138, c139, c140, c141, c142, c143, c144, c145, c146, c147, c148, c149, c150, c151, c152, c153, c154, c155, c156, c157, c158, c159, c160, c161, c162, c163, c164, c165, c166, c167, c168, c169, c170, c171, c172, c173, c174, c175, c176, c177, c178, c179, c180, c181, c182, c183, c184, c185, c186, c187, c188, c189, c190, c191, c192, c193, c194, c195, c196, c197, c198, c199, c200, c201, c202, c203, c204, c205, c206, c207, c208, c209, c210, c211, c212, c213, c214, c215, c216, c217, c218, c219, c220, c221, c222, c223, c224], []⟩ w := by
  conv => arg 2; whnf
  try dsimp only at hQ ⊢
  have HQ := Lib.hid hQ
  have HP := Lib.hid hP
  have HA := Lib.hid ha
  have HL := Lib.hid hl
  obtain ⟨i0, hi0⟩ : ∃ i0, Try.prog.info? 36 = some i0 := ⟨_, (Option.some_get (by kernel_rfl)).symm⟩
  obtain ⟨hz0, hz1, hz2⟩ := link_row hi0
  obtain ⟨b, o, rfl, kx⟩ := hkx w hP.bel
  have hzl := zero_link
  obtain ⟨W1, hW1⟩ : ∃ W1, W1 = w.alloc (.cells (lv x) 36) := ⟨_, rfl⟩
  have bW : Below w.heap.size w W1 := by rw [hW1]; exact (Below.refl _ _).alloc (Nat.le_refl _) _
  have X1 : Hid (LkB w.heap.size x W1) := by rw [hW1]; exact LkB.new
  have HW1 := Lib.hid hW1
  have P1 := Lib.hid (hP.below bW)
  have RL : Hid (∀ gl, (Value.slice A7 n c7).ownBlock = some gl → gl < w.heap.size) := fun gl hg => (hP.row.lt gl hg).2
  have NF : Hid (¬ F w.heap.size) := fun h => by have := hP.G.fin.2 _ h; omega
  have g1 := X1.out.row
  have qk : (k : Int) < (nI : Int) := by omega
  have CS := Lib.hid (strongG_c P1.out.G x (by have := P1.out.len; omega))
  clear hQ hP ha hl hkx hW1 bW
  go_wp2_with (first
    | (refine wpList_load_mid rfl 36 (.tmp 54) rfl b (o + k * 66) (by go_simp) (lC x) _ kx Try.underlying36 rfl (by rw [size_lv x]; rfl) ?_; rw [lC_arr])
    | (refine wpList_store_row rfl 36 (.tmp 9) (.tmp 55) rfl w.heap.size (lv x) rfl rfl 36 (lv lkZ) (heap_alloc_new w _) (size_lv x) (by unfold lv; rw [rowV_size, rowV_size]) (rowV_one 66 _ (lkf_one x)) ?_; rw [World.setRow_alloc_new]; rw [← HW1.out])
    | (refine wpList_load_row rfl 36 (.tmp 9) rfl w.heap.size rfl 36 (lv x) (0, 0) _ g1 Try.underlying36 rfl (size_lv x) ?_)
    | fail)
  refine CS.out.mono ?_
  intro e w2 hs
  obtain ⟨er, F2, S2, rfl, her, gG2, lo2, bel2, row2, off2, kp2, hne, heq⟩ := P1.out.step hs
  have X2 : Hid (LkB w.heap.size x w2) := X1.out.keep (kp2.2.2.2.2 _ X1.out.lt NF.out)
  have LD : Hid (LksAt w2 w2.heap.size A7 S.told) := by
    have := row2
    rw [P1.out.len] at this
    exact own_lks this
  have HER := Lib.hid her
  have ST := Lib.hid (And.intro hne heq)
  have GG := Lib.hid (And.intro gG2 (And.intro lo2 (And.intro bel2 (And.intro row2 off2))))
  clear g1 kx hs CS her gG2 lo2 bel2 row2 off2 kp2 hne heq
  go_upto_block 2 with fail
  refine pl_b2 _ _ _ _ _ _ _ _ _ _ _ _ _ _ _ _ _ _ _ _ _ _ _ _ _ _ _ _ _ _ _ _ _ _ _ _ _ _ _ _ _ _ _ _ _ _ _ _ _ _ _ _ _ _ _ _ _ _ _ _ _ _ _ _ _ _ _ _ _ _ _ _ _ _ _ _ _ _ _ _ _ _ _ _ _ _ _ _ _ _ _ _ _ _ _ _ _ _ _ _ _ _ _ _ _ _ _ _ _ _ _ _ _ _ _ _ _ _ _ _ _ _ _ _ _ _ _ _ _ _ _ _ _ _ _ _ _ _ _ _ _ _ _ _ _ _ _ _ _ _ _ _ _ _ _ _ _ _ _ _ _ _ _ _ _ _ _ _ _ _ _ _ _ _ _ _ _ _ _ _ _ _ _ _ _ _ _ _ _ _ _ _ _ _ _ _ _ _ _ _ _ _ _ _ _ _ _ _ _ _ _ _ _ _ _ _ _ _ _ _ _ w2 A7 w.heap.size n c7 x S.told P1.out.len (by have := P1.out.len; have := HL.out; omega) LD.out X2.out _ ?_
  rintro t11 t12 t59 t60 t61 t62 t63 t64 t65 t66 t67 t68 t69 t70 w3 ⟨z, rfl, hz, b3⟩
  have X3 := Lib.hid (X2.out.below b3 X2.out.lt)
  have B3 := Lib.hid b3
  have HZ := Lib.hid hz
  clear b3 hz LD
  go_upto_region 20 with fail
  refine pl_r20 _ _ _ _ _ _ _ _ _ _ _ _ _ _ _ _ _ _ _ _ _ _ _ _ _ _ _ _ _ _ _ _ _ _ _ _ _ _ _ _ _ _ _ _ _ _ _ _ _ _ _ _ _ _ _ _ _ _ _ _ _ _ _ _ _ _ _ _ _ _ _ _ _ _ _ _ _ _ _ _ _ _ _ _ _ _ _ _ _ _ _ _ _ _ _ _ _ _ _ _ _ _ _ _ _ _ _ _ _ _ _ _ _ _ _ _ _ _ _ _ _ _ _ _ _ _ _ _ _ _ _ _ _ _ _ _ _ _ _ _ _ _ _ _ _ _ _ _ _ _ _ _ _ _ _ _ _ _ _ _ _ _ _ _ _ _ _ _ _ _ _ _ _ _ _ _ _ _ _ _ _ _ _ _ _ _ _ _ _ _ _ _ _ _ _ _ _ _ _ _ _ _ _ _ _ _ _ _ _ _ _ _ _ _ _ _ _ _ _ _ _ _ _ _ w3 w.heap.size x X3.out _ ?_
  rintro t71 t72 t73 t74 t75 t76 t77 t78 t79 t80 t81 t82 t83 t84 t85 t86 t87 t88 w4 e4
  obtain rfl : w3 = w4 := e4.symm
  go_upto_if 89 with fail
  go_cut [11] from 71 to 98 (fun v11 wx => v11 = .int .i64 er ∧ wx = w3)
  case first =>
    cases hm : mayL x
    · have e2 := Lib.hid (show er = 2 by rw [HER.out, if_pos hm])
      have n0 : (!false) = true := rfl
      go_wp2_with fail
      go_meet
      case rel => exact ⟨by rw [e2.out], rfl⟩
    · have e2 := Lib.hid (show er = z by rw [HER.out, HZ.out, if_neg (by rw [hm]; decide)])
      have n0 : (!true) = false := rfl
      go_wp2_with fail
      go_meet
      case rel => exact ⟨by rw [e2.out], rfl⟩
  case rest =>
    obtain ⟨rfl, rfl⟩ := hcut
    have n1 : (er != er) = false := by simp
    clear HZ
    obtain ⟨n2, hn2⟩ : ∃ n2, n2 = S2.told.length := ⟨_, rfl⟩
    have HN2 := Lib.hid hn2
    have HL2 : Hid (n2 ≤ n + 1) := by
      show n2 ≤ n + 1
      by_cases h0 : er = 0
      · have := ST.out.2 h0
        have e2 := P1.out.len
        rw [HN2.out, this, List.length_append, List.length_singleton]; omega
      · have e1 := ST.out.1 h0
        have e2 := P1.out.len
        rw [HN2.out, e1]; omega
    clear hn2
    go_upto_if 94 with fail
    go_cut [7] from 71 to 98 (fun v7 wx => ∃ A2 c2, v7 = .slice A2 n2 c2 ∧ Pl a g W0 F2 S2 A2 n2 c2 wx ∧ LkB w.heap.size x wx)
    case first =>
      by_cases h0 : er = 0
      · subst h0
        have T0 := Lib.hid (ST.out.2 rfl)
        have hl0 := P1.out.len
        have row3 := own_below0 GG.out.2.2.2.1 B3.out
        have gG3 := GG.out.1.below B3.out
        have bel3 : Below W0.heap.size W0 wc := GG.out.2.2.1.trans (B3.out.mono GG.out.2.2.1.size)
        obtain ⟨W4, hW4⟩ : ∃ W4, W4 = wc.alloc (.cells (lv x) 36) := ⟨_, rfl⟩
        have hb4 := one_link x wc
        have NV : Hid (W4.ownsRow 0 36 66 (.slice (some ⟨wc.heap.size, 0, none⟩) 1 1) 1 (lC x)) := by rw [hW4]; exact own_link x wc
        have b4 : Below wc.heap.size wc W4 := by rw [hW4]; exact (Below.refl _ _).alloc (Nat.le_refl _) _
        rw [← hW4] at hb4
        have O5 := Lib.hid (own_below0 row3 b4)
        have G4 := Lib.hid (gG3.below b4)
        have B4 := Lib.hid (bel3.trans (b4.mono bel3.size))
        have X4 := Lib.hid (X3.out.below b4 X3.out.lt)
        have XO : Hid (∀ gl, (Value.slice A7 n c7).ownBlock = some gl → ¬ F2 gl ∧ gl ≠ w.heap.size) := fun gl hg => ⟨GG.out.2.2.2.2 gl hg, by have := RL.out gl hg; omega⟩
        have g3 := X3.out.row
        clear b4 hW4 row3 gG3 bel3
        go_wp2_with (first
          | (refine wpList_load_row rfl 36 (.tmp 9) rfl w.heap.size rfl 36 (lv x) (0, 0) _ g3 Try.underlying36 rfl (size_lv x) ?_)
          | (refine wpList_buildSlice_row (v := .slice (some ⟨wc.heap.size, 0, none⟩) 1 1) (w' := W4) rfl 30 1 #[(0, .tmp 96)] rfl ?hr ?_; case hr => (simp only [List.map_toArray, List.map_cons, List.map_nil]; exact hb4))
          | (at_builtin; refine wpList_append_row rfl (.tmp 95) (.tmp 97) 30 rfl W0.heap.size 36 i0 _ 66 80 Try.underlying30 hi0 hz0 hz1 hz2 (by show (lv lkZ).size = 66; exact rowV_size _ _) (by decide) (.slice A7 n c7) n (lks S.told) rfl O5.out 0 _ 1 (lC x) rfl NV.out (lC_one _) (by have := HL.out; unfold maxLen; omega) (by have := HL.out; omega) B4.out.size ?_; intro v' W5 o5 g5 b5; rw [lks_more] at o5)
          | fail)
        obtain ⟨A5, c5, rfl, _⟩ := ownForm o5
        have hN : n2 = n + 1 := by have e1 := T0.out; have e2 := P1.out.len; rw [HN2.out, e1, List.length_append, List.length_singleton]; omega
        have T := T0.out
        subst hN
        have hgx : ∀ gl, (Value.slice A7 n c7).ownBlock = some gl → gl ≠ g := fun gl hg => by
          obtain ⟨s, bt, bs, bw, vl, hd, ga, _⟩ := G4.out.mem
          exact own_other O5.out hg ga (by decide)
        have PP : Pl a g W0 F2 S2 A5 (n + 1) c5 W5 := {
          G := G4.out.keep (g5.block g G4.out.fin.1 (fun e => hgx g e.symm rfl)) (fun k hk => g5.block k (G4.out.fin.2 k hk) (fun e => (XO.out k e.symm).1 hk)) g5.size
          lo := GG.out.2.1
          bel := B4.out.grown g5 B4.out.size (fun k e => (O5.out.lt k e).1)
          len := HN2.out
          row := by rw [T]; exact o5
          off := fun gl hg hF => b5.elim (fun e => (XO.out gl (e ▸ hg)).1 hF) (fun e => by rw [hg] at e; injection e with e; have := G4.out.fin.2 gl hF; omega) }
        have XX : LkB w.heap.size x W5 := X4.out.keep (g5.block _ X4.out.lt (fun e => (XO.out _ e.symm).2 rfl))
        go_meet
        case rel => exact ⟨A5, c5, rfl, PP, XX⟩
      · have n3 : (er == 0) = false := by simp [h0]
        have e3 : S2 = S := ST.out.1 h0
        have e4 := P1.out.len
        have hN : n2 = n := by rw [HN2.out, e3]; exact e4.symm
        subst hN
        have PP : Pl a g W0 F2 S2 A7 n2 c7 wc := {
          G := GG.out.1.below B3.out
          lo := GG.out.2.1
          bel := GG.out.2.2.1.trans (B3.out.mono GG.out.2.2.1.size)
          len := HN2.out
          row := by rw [e3]; exact own_below0 GG.out.2.2.2.1 B3.out
          off := GG.out.2.2.2.2 }
        have PH := Lib.hid PP
        clear PP e3 e4
        go_wp2_with fail
        go_meet
        case rel => exact ⟨A7, c7, rfl, PH.out, X3.out⟩
    case rest =>
      obtain ⟨A2, c2, rfl, hP2, hX2⟩ := hcut
      have P2 := Lib.hid hP2
      have X5 := Lib.hid hX2
      have PA : Hid (PkB B0 a wc) := HA.out.below P2.out.bel HA.out.lt
      have L59 : Hid (S2.told.length ≤ 59) := by
        show _ ≤ _
        rw [← HN2.out]
        have := HL2.out
        have := HL.out
        omega
      have hn100 : n2 ≤ 100 := by rw [HN2.out]; exact Nat.le_trans L59.out (by omega)
      clear hP2 hX2 GG ST HER X3 X2 B3
      go_upto_region 26 with fail
      refine pl_r26 _ _ _ _ _ _ _ _ _ _ _ _ _ _ _ _ _ _ _ _ _ _ _ _ _ _ _ _ _ _ _ _ _ _ _ _ _ _ _ _ _ _ _ _ _ _ _ _ _ _ _ _ _ _ _ _ _ _ _ _ _ _ _ _ _ _ _ _ _ _ _ _ _ _ _ _ _ _ _ _ _ _ _ _ _ _ _ _ _ _ _ _ _ _ _ _ _ _ _ _ _ _ _ _ _ _ _ _ _ _ _ _ _ _ _ _ _ _ _ _ _ _ _ _ _ _ _ _ _ _ _ _ _ _ _ _ _ _ _ _ _ _ _ _ _ _ _ _ _ _ _ _ _ _ _ _ _ _ _ _ _ _ _ _ _ _ _ _ _ _ _ _ _ _ _ _ _ _ _ _ _ _ _ _ _ _ _ _ _ _ _ _ _ _ _ _ _ _ _ _ _ _ _ _ _ _ _ _ _ _ _ _ _ _ _ _ _ _ _ _ _ _ _ wc A2 B0 n2 c2 a S2.told P2.out.len hn100 PA.out P2.out.links _ ?_
      rintro t13 t14 t99 t100 t101 t102 t103 t104 w4 ⟨AJ, cJ, J, AF, cF, Fi, rfl, rfl, oJ, oF, ⟨rJ, mJ, lJ⟩, ⟨rF, ⟨J2, mF, mJ2⟩, lF⟩, b4⟩
      have TT : ∀ y, y ∈ S2.told ↔ y ∈ S2.told := fun _ => Iff.rfl
      have MJ : Hid (∀ p, p ∈ J ↔ 1 ≤ stN S2.stands p) := fun p => (mJ p).trans (jus_iff P2.out.G.inv TT p)
      have MF : Hid (∀ p, p ∈ Fi ↔ 2 ≤ stN S2.stands p) := fun p => (mF p).trans (fis_iff P2.out.G.inv TT mJ2 p)
      have anc := P2.out.G.inv.pend.anc
      obtain ⟨kJ, hkJ⟩ : ∃ kJ, J.length = kJ + 1 := ⟨J.length - 1, by have := List.length_pos_of_mem ((MJ.out a).2 (by omega)); omega⟩
      obtain ⟨kF, hkF⟩ : ∃ kF, Fi.length = kF + 1 := ⟨Fi.length - 1, by have := List.length_pos_of_mem ((MF.out a).2 (by omega)); omega⟩
      obtain ⟨gJ, hgJ⟩ := own_rowS oJ
      obtain ⟨rfl, _⟩ := hgJ (by omega)
      obtain ⟨gF, hgF⟩ := own_rowS oF
      obtain ⟨rfl, _⟩ := hgF (by omega)
      have PJ : Hid (PtsAt w4 (some ⟨gJ, 0, none⟩) J) := own_pts oJ
      have PF : Hid (PtsAt w4 (some ⟨gF, 0, none⟩) Fi) := own_pts oF
      obtain ⟨pJ, hpJ⟩ : ∃ q, J[kJ]? = some q := ⟨_, List.getElem?_eq_getElem (by omega)⟩
      obtain ⟨pF, hpF⟩ : ∃ q, Fi[kF]? = some q := ⟨_, List.getElem?_eq_getElem (by omega)⟩
      have P4 := Lib.hid (P2.out.below b4)
      have X6 := Lib.hid (X5.out.below b4 X5.out.lt)
      have HKJ := Lib.hid hkJ
      have HKF := Lib.hid hkF
      have RJ := Lib.hid rJ
      have RF := Lib.hid rF
      have LJ := Lib.hid hpJ
      have LF := Lib.hid hpF
      have hbb : kJ ≤ 900 ∧ kF ≤ 900 := by omega
      have HBB : Hid (kJ ≤ 900 ∧ kF ≤ 900) := hbb
      rw [hkJ, hkF]
      clear hgJ hgF oJ oF hpJ hpF b4 hkJ hkF rJ rF mJ mF mJ2 TT anc lJ lF P2 X5 hbb
      go_upto_region 27 with fail
      refine pl_r27 _ _ _ _ _ _ _ _ _ _ _ _ _ _ _ _ _ _ _ _ _ _ _ _ _ _ _ _ _ _ _ _ _ _ _ _ _ _ _ _ _ _ _ _ _ _ _ _ _ _ _ _ _ _ _ _ _ _ _ _ _ _ _ _ _ _ _ _ _ _ _ _ _ _ _ _ _ _ _ _ _ _ _ _ _ _ _ _ _ _ _ _ _ _ _ _ _ _ _ _ _ _ _ _ _ _ _ _ _ _ _ _ _ _ _ _ _ _ _ _ _ _ _ _ _ _ _ _ _ _ _ _ _ _ _ _ _ _ _ _ _ _ _ _ _ _ _ _ _ _ _ _ _ _ _ _ _ _ _ _ _ _ _ _ _ _ _ _ _ _ _ _ _ _ _ _ _ _ _ _ _ _ _ _ _ _ _ _ _ _ _ _ _ _ _ _ _ _ _ _ _ _ _ _ _ _ _ _ _ _ _ _ _ _ _ _ _ _ _ _ _ _ w4 a g F2 S2 gJ gF kJ kF cJ cF J Fi pJ pF L59.out P4.out.G PJ.out PF.out HKJ.out HKF.out (by have := HBB.out; omega) RJ.out MJ.out RF.out MF.out LJ.out LF.out _ ?_
      rintro t105 t106 t107 t108 t109 t110 t111 t112 t113 t114 t115 t116 t117 t118 t119 t120 t121 t122 t123 t124 t125 t126 t127 t128 t129 t130 t131 t132 t133 t134 t135 t136 t137 w5 b5
      have P5 := Lib.hid (P4.out.below b5)
      have X7 := Lib.hid (X6.out.below b5 X6.out.lt)
      have PJ5 := Lib.hid (PJ.out.below b5)
      have PF5 := Lib.hid (PF.out.below b5)
      have CL := Lib.hid (links_c P5.out.G L59.out)
      have n4 : ((n2 : Int) != (n2 : Int)) = false := by simp
      clear b5 P4 X6 PJ PF RJ RF LJ LF
      go_wp2_with fail
      refine CL.out.mono ?_
      rintro e w6 ⟨A15, c15, rfl, o6, b6⟩
      have P6 := Lib.hid (P5.out.below b6)
      have X8 := Lib.hid (X7.out.below b6 X7.out.lt)
      have PJ6 := Lib.hid (PJ5.out.below b6)
      have PF6 := Lib.hid (PF5.out.below b6)
      have LL := Lib.hid (own_lks o6)
      rw [← HN2.out]
      clear o6 b6 P5 X7 PJ5 PF5 CL
      go_upto_block 4 with fail
      refine pl_b4 _ _ _ _ _ _ _ _ _ _ _ _ _ _ _ _ _ _ _ _ _ _ _ _ _ _ _ _ _ _ _ _ _ _ _ _ _ _ _ _ _ _ _ _ _ _ _ _ _ _ _ _ _ _ _ _ _ _ _ _ _ _ _ _ _ _ _ _ _ _ _ _ _ _ _ _ _ _ _ _ _ _ _ _ _ _ _ _ _ _ _ _ _ _ _ _ _ _ _ _ _ _ _ _ _ _ _ _ _ _ _ _ _ _ _ _ _ _ _ _ _ _ _ _ _ _ _ _ _ _ _ _ _ _ _ _ _ _ _ _ _ _ _ _ _ _ _ _ _ _ _ _ _ _ _ _ _ _ _ _ _ _ _ _ _ _ _ _ _ _ _ _ _ _ _ _ _ _ _ _ _ _ _ _ _ _ _ _ _ _ _ _ _ _ _ _ _ _ _ _ _ _ _ _ _ _ _ _ _ _ _ _ _ _ _ _ _ _ _ _ _ _ w6 A2 A15 n2 c2 c15 S2.told HN2.out hn100 P6.out.links LL.out _ ?_
      rintro t4 t16 t146 t147 t148 t149 t150 t151 t152 t153 t154 t155 t156 t157 t158 t159 t160 w7 b7
      have P7 := Lib.hid (P6.out.below b7)
      have X9 := Lib.hid (X8.out.below b7 X8.out.lt)
      have PJ7 := Lib.hid (PJ6.out.below b7)
      have PF7 := Lib.hid (PF6.out.below b7)
      obtain ⟨W8, hW8⟩ : ∃ W8, W8 = w7.alloc (.cells (lv x) 29) := ⟨_, rfl⟩
      have hb8 := pair_points x w7
      have FX : Hid (Fill w7.heap.size 29 66 66 (lkf x) W8) := by rw [hW8]; exact Fill.of_row (heap_alloc_new w7 _)
      have b8 : Below w7.heap.size w7 W8 := by rw [hW8]; exact (Below.refl _ _).alloc (Nat.le_refl _) _
      rw [← hW8] at hb8
      have k1 := X9.out.src
      have k2 := X9.out.tgt
      have P8 := Lib.hid (P7.out.below b8)
      have PJ8 := Lib.hid (PJ7.out.below b8)
      have PF8 := Lib.hid (PF7.out.below b8)
      clear b7 b8 hW8 P6 X8 PJ6 PF6 P7 PJ7 PF7
      go_upto_block 6 with (first
        | (refine wpList_load_mid rfl 29 (.tmp 161) rfl w.heap.size (0) (by go_simp) (pC x.s) _ (k1) Try.underlying29 rfl (by rw [size_pv x.s]; rfl) ?_; rw [pC_arr])
        | (refine wpList_load_mid rfl 29 (.tmp 163) rfl w.heap.size (33) (by go_simp) (pC x.t) _ (k2) Try.underlying29 rfl (by rw [size_pv x.t]; rfl) ?_; rw [pC_arr])
        | (refine wpList_buildSlice_row (v := .slice (some ⟨w7.heap.size, 0, none⟩) 2 2) (w' := W8) rfl 38 2 #[(0, .tmp 162), (1, .tmp 164)] rfl ?hr ?_; case hr => (simp only [List.map_toArray, List.map_cons, List.map_nil]; exact hb8))
        | fail)
      refine pl_b6 _ _ _ _ _ _ _ _ _ _ _ _ _ _ _ _ _ _ _ _ _ _ _ _ _ _ _ _ _ _ _ _ _ _ _ _ _ _ _ _ _ _ _ _ _ _ _ _ _ _ _ _ _ _ _ _ _ _ _ _ _ _ _ _ _ _ _ _ _ _ _ _ _ _ _ _ _ _ _ _ _ _ _ _ _ _ _ _ _ _ _ _ _ _ _ _ _ _ _ _ _ _ _ _ _ _ _ _ _ _ _ _ _ _ _ _ _ _ _ _ _ _ _ _ _ _ _ _ _ _ _ _ _ _ _ _ _ _ _ _ _ _ _ _ _ _ _ _ _ _ _ _ _ _ _ _ _ _ _ _ _ _ _ _ _ _ _ _ _ _ _ _ _ _ _ _ _ _ _ _ _ _ _ _ _ _ _ _ _ _ _ _ _ _ _ _ _ _ _ _ _ _ _ _ _ _ _ _ _ _ _ _ _ _ _ _ _ _ _ _ W8 a g F2 S2 (some ⟨gJ, 0, none⟩) (some ⟨gF, 0, none⟩) w7.heap.size (kJ + 1) (kF + 1) cJ cF 2 x J Fi HKJ.out.symm HKF.out.symm (by have := HBB.out; omega) (by have := HBB.out; omega) P8.out.G PJ8.out PF8.out MJ.out MF.out (fun u hu => ⟨fill_src (Fill.below FX.out hu FX.out.lt), fill_tgt (Fill.below FX.out hu FX.out.lt)⟩) _ ?_
      rintro t4 t18 t19 t20 t21 t22 t166 t167 t168 t169 t170 t171 t172 t173 t174 t175 t176 t177 t178 t179 t180 t181 t182 t183 t184 t185 t186 t187 t188 t189 t190 t191 t192 t193 t194 t195 t196 t197 t198 t199 t200 t201 t202 t203 t204 t205 t206 t207 t208 t209 t210 t211 t212 t213 t214 t215 t216 t217 t218 t219 t220 t221 t222 t223 w9 b9
      have P9 := Lib.hid (P8.out.below b9)
      clear b9
      (try go_wp2_with fail)
      exact HQ.out _ _ _ _ _ _ _ _ _ _ _ _ _ _ _ _ _ _ _ _ _ _ _ _ _ _ _ _ _ _ _ _ _ _ _ _ _ _ _ _ _ _ _ _ _ _ _ _ _ _ _ _ _ _ _ _ _ _ _ _ _ _ _ _ _ _ _ _ _ _ _ _ _ _ _ _ _ _ _ _ _ _ _ _ _ _ _ _ _ _ _ _ _ _ _ _ _ _ _ _ _ _ _ _ _ _ _ _ _ _ _ _ _ _ _ _ _ _ _ _ _ _ _ _ _ _ _ _ _ _ _ _ _ _ _ _ _ _ _ _ _ _ _ _ _ _ _ _ _ _ _ _ _ _ _ _ _ _ _ _ _ _ _ _ _ _ _ _ _ _ _ _ _ _ _ _ _ _ _ _ _ _ _ _ _ _ _ _ _ ⟨A2, n2, c2, F2, S2, rfl, P9.out, HL2.out⟩
end Go.Proofs.Ythlbpjkopkicbaa
