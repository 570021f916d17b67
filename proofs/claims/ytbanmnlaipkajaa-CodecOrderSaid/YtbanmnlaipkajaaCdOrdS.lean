/- The last region of CodecOrder. -/
import Derived.Test.YtbanmnlaipkajaaCdOrdR
import Derived.Test.YtbanmnlaipkajaaCdKnown
import Derived.Test.YtbanmnlaipkajaaStr
namespace Go.Proofs.Ytbanmnlaipkajaa
open Go.ChangeShapes Go.WideShapes Go.ChangeAt Go.RowKit
set_option linter.unusedVariables false
set_option maxRecDepth 100000

theorem str_toListC (l : List UInt8) : (ByteArray.mk l.toArray).toList = l := by rw [ByteArray.toList_eq]
theorem lss_str (x y : List UInt8) (u : World) : (binOp .lss 9 (strOf x) (strOf y)).run Try.prog u = .ok (.bool (decide (Lib.compareBytes x y < 0))) u := by
  unfold strOf
  rw [binOp_string_lss, str_toListC, str_toListC, bytesLess_cmp]
  rfl
noncomputable def orderR7 : Code := ((Try.f8.body.bind (regionOf 7))).getD .skip
set_option maxRecDepth 1000000 in
set_option maxHeartbeats 4000000 in
theorem order_r7 (c0 c1 c2 c5 c6 c8 c10 c11 c12 c13 c14 c15 c16 c17 c18 c19 c20 c21 c22 c23 c24 c25 c26 c27 c28 c29 c30 c31 c32 c33 c34 c35 c36 c37 c38 c39 c40 c41 c42 c43 c44 c45 c46 c47 c48 c49 c50 c51 c52 c53 c54 c55 c56 c57 c58 c59 c60 c61 c62 c63 c64 c65 c66 c67 c68 c69 c70 c71 c72 c73 c74 c75 c76 c77 : Value) (g e0 e1 n0 n1 k0 k1 : Nat) (l0 l1 : List UInt8) (A0 A1 : Option Addr) (W : World) (he0 : e0 < 18446744073709551616) (he1 : e1 < 18446744073709551616) (hl0 : l0.length = 32) (hl1 : l1.length = 32) (hn0 : n0 = (ptL e0 l0).length) (hn1 : n1 = (ptL e1 l1).length)
    (p0 : PtB g e0 l0 W) (p1 : PtB (g + 1) e1 l1 W) (r0 : Rd W 0 W.heap.size A0 (ptL e0 l0)) (r1 : Rd W 0 W.heap.size A1 (ptL e1 l1))
    (Q : Exit → Act → World → Prop) (hQ : ∀ (u66 u67 u68 u69 u70 u71 u72 u73 u74 u75 u76 u77 : Value) (w' : World), Below W.heap.size W.drew w' → Q .normal ⟨#[c0, c1, c2, .pointer (some ⟨g, 0, none⟩), .pointer (some ⟨g + 1, 0, none⟩), c5, .bool true, .slice A0 n0 k0, c8, .slice A1 n1 k1, c10, c11, c12, c13, c14, c15, c16, c17, c18, c19, c20, c21, c22, c23, c24, c25, c26, c27, c28, c29, c30, c31, c32, c33, c34, c35, c36, c37, c38, c39, c40, c41, c42, c43, c44, c45, c46, c47, c48, c49, c50, c51, c52, c53, c54, c55, c56, c57, c58, c59, c60, c61, c62, c63, c64, c65, u66, u67, u68, u69, u70, u71, u72, u73, u74, u75, u76, u77], []⟩ w') :
    Code.wp Try.prog orderR7 Q ⟨#[c0, c1, c2, .pointer (some ⟨g, 0, none⟩), .pointer (some ⟨g + 1, 0, none⟩), c5, c6, .slice A0 n0 k0, c8, .slice A1 n1 k1, c10, c11, c12, c13, c14, c15, c16, c17, c18, c19, c20, c21, c22, c23, c24, c25, c26, c27, c28, c29, c30, c31, c32, c33, c34, c35, c36, c37, c38, c39, c40, c41, c42, c43, c44, c45, c46, c47, c48, c49, c50, c51, c52, c53, c54, c55, c56, c57, c58, c59, c60, c61, c62, c63, c64, c65, c66, c67, c68, c69, c70, c71, c72, c73, c74, c75, c76, c77], []⟩ W := by
  conv => arg 2; whnf
  try dsimp only at hQ ⊢
  have HQ := Lib.hid (fun a0 a1 a2 a3 a4 a5 a6 a7 a8 a9 a10 a11 u h => hQ a0 a1 a2 a3 a4 a5 a6 a7 a8 a9 a10 a11 u h)
  clear hQ
  have KP : Hid (∀ u : World, Below W.heap.size W.drew u → PtB g e0 l0 u ∧ PtB (g + 1) e1 l1 u ∧ Rd u 0 W.heap.size A0 (ptL e0 l0) ∧ Rd u 0 W.heap.size A1 (ptL e1 l1)) := fun u hu =>
    ⟨(show PtB _ _ _ W.drew from p0).below hu p0.lt, (show PtB _ _ _ W.drew from p1).below hu p1.lt, (show Rd W.drew _ _ _ _ from r0).below hu (Nat.le_refl _), (show Rd W.drew _ _ _ _ from r1).below hu (Nat.le_refl _)⟩
  have BX : Hid (Below W.heap.size W.drew W.drew) := Below.refl _ _
  clear p0 p1 r0 r1
  have CL := Lib.hid (fun u => pointLess_c e0 e1 l0 l1 u hl0 hl1)
  have CK := Lib.hid known_c
  obtain ⟨sx, hsx⟩ : ∃ sx : ByteArray, sx = ⟨(ptL e0 l0).toArray⟩ := ⟨_, rfl⟩
  obtain ⟨sy, hsy⟩ : ∃ sy : ByteArray, sy = ⟨(ptL e1 l1).toArray⟩ := ⟨_, rfl⟩
  have hlt : Op.bytesLess sx.toList sy.toList = lessP e0 l0 e1 l1 := by rw [hsx, hsy, str_toListC, str_toListC, bytesLess_cmp, lessP_bytes e0 e1 l0 l1 he0 he1]
  have HX : Hid (Value.string sx = strOf (ptL e0 l0)) := by rw [hsx]; exact rfl
  have HY : Hid (Value.string sy = strOf (ptL e1 l1)) := by rw [hsy]; exact rfl
  have HN0 := Lib.hid hn0
  have HN1 := Lib.hid hn1
  clear he0 he1 hl0 hl1 hn0 hn1
  obtain ⟨p, hp⟩ : ∃ p, p = lessP e0 l0 e1 l1 := ⟨_, rfl⟩
  rw [← hp] at CL hlt
  clear hp hsx hsy
  refine wp_region_noPanic ?_
  refine wp_region_held_drew (S := (fun u => PtB g e0 l0 u ∧ PtB (g + 1) e1 l1 u ∧ Rd u 0 W.heap.size A0 (ptL e0 l0) ∧ Rd u 0 W.heap.size A1 (ptL e1 l1))) (by kernel_rfl) (KP.out _ BX.out) (fun hHeld => ?_)
  refine takeH (i := 0) (d := 66) (oi := _) (v := .agg (ptV e0 l0)) rfl (by kernel_rfl) (by kernel_rfl) (by kernel_rfl) (by kernel_rfl) (fun _ _ _ h => h) (yieldsIf_load_midC (by rfl) _ _ rfl g 0 rfl (ptC e0 l0) (ptV e0 l0) rfl _ (fun w h => ptC0 h.1) Try.underlying26 rfl (size_ptV _ _)) hHeld ?_
  try simp only [List.setIfInBounds_toArray, List.set_cons_zero, List.set_cons_succ]
  refine takeH (i := 1) (d := 67) (oi := _) (v := .agg (ptV e1 l1)) rfl (by kernel_rfl) (by kernel_rfl) (by kernel_rfl) (by kernel_rfl) (fun _ _ _ h => h) (yieldsIf_load_midC (by rfl) _ _ rfl (g + 1) 0 rfl (ptC e1 l1) (ptV e1 l1) rfl _ (fun w h => ptC0 h.2.1) Try.underlying26 rfl (size_ptV _ _)) hHeld ?_
  try simp only [List.setIfInBounds_toArray, List.set_cons_zero, List.set_cons_succ]
  refine takeH (i := 3) (d := 69) (oi := _) (v := .slice A0 n0 k0) rfl (by kernel_rfl) (by kernel_rfl) (by kernel_rfl) (by kernel_rfl) (fun _ _ _ h => h) (Or.inl ⟨by rfl, by intro w hSw; go_simp⟩) hHeld ?_
  try simp only [List.setIfInBounds_toArray, List.set_cons_zero, List.set_cons_succ]
  refine takeH (i := 4) (d := 70) (oi := _) (v := (.string sx)) rfl (by kernel_rfl) (by kernel_rfl) (by kernel_rfl) (by kernel_rfl) (fun _ _ _ h => h) (Or.inl ⟨by rfl, by
    intro u hSw
    have hst : (convert 27 9 (.slice A0 n0 k0)).run Try.prog u = .ok (.string sx) u := by rw [HX.out]; exact run_str hSw.2.2.1 _ _ HN0.out
    clear hSw
    go_simp⟩) hHeld ?_
  try simp only [List.setIfInBounds_toArray, List.set_cons_zero, List.set_cons_succ]
  refine takeH (i := 5) (d := 71) (oi := _) (v := .slice A1 n1 k1) rfl (by kernel_rfl) (by kernel_rfl) (by kernel_rfl) (by kernel_rfl) (fun _ _ _ h => h) (Or.inl ⟨by rfl, by intro w hSw; go_simp⟩) hHeld ?_
  try simp only [List.setIfInBounds_toArray, List.set_cons_zero, List.set_cons_succ]
  refine takeH (i := 6) (d := 72) (oi := _) (v := (.string sy)) rfl (by kernel_rfl) (by kernel_rfl) (by kernel_rfl) (by kernel_rfl) (fun _ _ _ h => h) (Or.inl ⟨by rfl, by
    intro u hSw
    have hst : (convert 27 9 (.slice A1 n1 k1)).run Try.prog u = .ok (.string sy) u := by rw [HY.out]; exact run_str hSw.2.2.2 _ _ HN1.out
    clear hSw
    go_simp⟩) hHeld ?_
  try simp only [List.setIfInBounds_toArray, List.set_cons_zero, List.set_cons_succ]
  refine takeH (i := 7) (d := 73) (oi := _) (v := .bool p) rfl (by kernel_rfl) (by kernel_rfl) (by kernel_rfl) (by kernel_rfl) (fun _ _ _ h => h) (Or.inl ⟨by rfl, by intro w hSw; go_simp⟩) hHeld ?_
  try simp only [List.setIfInBounds_toArray, List.set_cons_zero, List.set_cons_succ]
  refine wpAnyH_ready (rs := [2]) (by kernel_rfl) (by simp) ?_
  refine AllReadyH.cons (o := _) rfl (fun K hK => ?_) AllReadyH.nil
  go_simp
  go_at_call 19
  refine (CL.out _).mono ?_
  rintro x w1 ⟨rfl, b1⟩
  have BX := Lib.hid (BX.out.trans (b1.mono BX.out.size))
  clear b1
  go_simp
  refine hK.out _ _ (KP.out _ BX.out) (fun hHeld => ?_)
  clear hK K
  try simp only [Act.put, List.setIfInBounds_toArray, List.set_cons_zero, List.set_cons_succ]
  cases p
  all_goals
    refine takeH (i := 8) (d := 74) (oi := _) (v := .bool true) rfl (by kernel_rfl) (by kernel_rfl) (by kernel_rfl) (by kernel_rfl) (fun _ _ _ h => h) (Or.inl ⟨by rfl, by intro w hSw; go_simp⟩) hHeld ?_
    try simp only [List.setIfInBounds_toArray, List.set_cons_zero, List.set_cons_succ]
    refine takeH (i := 9) (d := 75) (oi := _) (v := .bool true) rfl (by kernel_rfl) (by kernel_rfl) (by kernel_rfl) (by kernel_rfl) (fun _ _ _ h => h) (Or.inl ⟨by rfl, by intro w hSw; go_simp⟩) hHeld ?_
    try simp only [List.setIfInBounds_toArray, List.set_cons_zero, List.set_cons_succ]
    refine wpAnyH_ready (rs := [10]) (by kernel_rfl) (by simp) ?_
    refine AllReadyH.cons (o := _) rfl (fun K hK => ?_) AllReadyH.nil
    go_simp
    go_at_call 10
    refine (CK.out _).mono ?_
    rintro x w1 ⟨rfl, b1⟩
    have BX := Lib.hid (BX.out.trans (b1.mono BX.out.size))
    clear b1
    go_simp
    refine hK.out _ _ (KP.out _ BX.out) (fun hHeld => ?_)
    clear hK K
    try simp only [Act.put, List.setIfInBounds_toArray, List.set_cons_zero, List.set_cons_succ]
    refine takeH (i := 11) (d := 77) (oi := _) (v := .bool true) rfl (by kernel_rfl) (by kernel_rfl) (by kernel_rfl) (by kernel_rfl) (fun _ _ _ h => h) (Or.inl ⟨by rfl, by intro w hSw; go_simp⟩) hHeld ?_
    try simp only [List.setIfInBounds_toArray, List.set_cons_zero, List.set_cons_succ]
    refine takeH (i := 12) (d := 6) (oi := _) (v := .bool true) rfl (by kernel_rfl) (by kernel_rfl) (by kernel_rfl) (by kernel_rfl) (fun _ _ _ h => h) (Or.inl ⟨by rfl, by intro w hSw; go_simp⟩) hHeld ?_
    try simp only [List.setIfInBounds_toArray, List.set_cons_zero, List.set_cons_succ]
    refine wpAnyH_done (by kernel_rfl) ?_ _
    refine NoPanic.normal ?_
    exact HQ.out _ _ _ _ _ _ _ _ _ _ _ _ _ BX.out
end Go.Proofs.Ytbanmnlaipkajaa
