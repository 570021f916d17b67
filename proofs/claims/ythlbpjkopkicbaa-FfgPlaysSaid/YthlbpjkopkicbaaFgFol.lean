/- What follows of a link. -/
import Derived.Test.YthlbpjkopkicbaaFgFolB
import Derived.ScopeJumps
import Derived.Deep.CutBlock
namespace Go.Proofs.Ythlbpjkopkicbaa
open Go.ChangeMaps Go.MapKept Go.Maps Go.RowKit Go.ChangeShapes Go.WideShapes Go.ChangeAt
set_option linter.unusedVariables false
set_option maxRecDepth 100000

theorem wpList_buildSlice_row {P : Program} {w w' : World} {ops : Array Oper} {rest : List Oper} {o : Oper} {a : Act} {Q : Exit → Act → World → Prop} (hg : o.guard = none) (t : TypeId) (len : Nat) (parts : Array (Nat × Operand)) (ho : o.op = .buildSlice t len parts) (v : Value)
    (hrun : (Instr.buildSlice t len (parts.map fun (i, x) => (i, a.eval x))).run P w = .ok v w') (h : wpList P ops Q rest (a.put o.dst v) w') : wpList P ops Q (o :: rest) a w :=
  wpList_plain hg fun _ hK => by
    unfold Oper.wp execOp
    simp only [ho, Sem.run_bind, hrun, Result.andThen_ok]
    exact hK _ _ h
/-- A text's first scope. -/
def scopeOf : Code → Option Code
  | .scope c => some c
  | .seq a b => match scopeOf a with
    | some c => some c
    | none => scopeOf b
  | _ => none
/-- What holds at the label. -/
def FolJ (s bt bs bw : Nat) (vl : Value) (F : Nat → Prop) (M : Nat) (S0 : FgS) (x : Lk) (n0 : Nat) (w : World) (gL cL : Nat) (LL : List Lk) (u : World) : Prop :=
  ∃ BL S1 hd1 n1, FgB s bt bs bw vl hd1 F S1 n1 u ∧ u.ownsRow BL 36 66 (.slice (some ⟨gL, 0, none⟩) LL.length cL) LL.length (lks LL) ∧ ¬ F gL ∧ (∀ p L, S1.waiting p = some L → L.length ≤ M) ∧ mapSize u bw ≤ mapSize w bw ∧ n1 + 2 * (LL.length + M * mapSize u bw) ≤ n0 + 2 * (1 + M * mapSize w bw) ∧ (∀ S', Follows S1 LL S' → Follows S0 [x] S') ∧ Kept F w u
/-- The end. -/
def FolE (s bt bs bw : Nat) (vl : Value) (F : Nat → Prop) (M : Nat) (S0 : FgS) (x : Lk) (n0 : Nat) (w w' : World) : Prop :=
  ∃ S' hd' n', Follows S0 [x] S' ∧ FgB s bt bs bw vl hd' F S' n' w' ∧ n' ≤ n0 + 2 * (1 + M * mapSize w bw) ∧ Kept F w w' ∧ (∀ p L, S'.waiting p = some L → L.length ≤ M) ∧ mapSize w' bw ≤ mapSize w bw
section
variable {s bt bs bw M n0 n1 BL : Nat} {vl : Value} {F : Nat → Prop} {S0 S1 : FgS} {hd1 : Pt → Option Value} {x : Lk} {w u w' : World} {LL : List Lk}
theorem fol_end (hF : Follows S1 LL (roundS S1 LL).1 → Follows S0 [x] (roundS S1 LL).1) (hm : mapSize u bw ≤ mapSize w bw) (hb : n1 + 2 * (LL.length + M * mapSize u bw) ≤ n0 + 2 * (1 + M * mapSize w bw)) (hK : Kept F w u) {v5 : Value} (hR : FolR s bt bs bw vl F M S1 n1 u LL LL.length v5 w') (h0 : (roundS S1 LL).2 = []) : FolE s bt bs bw vl F M S0 x n0 w w' := by
  obtain ⟨hd', n', q1, q2, q3, q4, q5, q6, q7, q8⟩ := hR
  rw [List.take_length] at q1 q3 q6 q7 q8
  exact ⟨_, hd', n', hF (.done S1 LL h0), q1, by omega, hK.trans q4 (fun k e => .inl e), q8, by omega⟩
theorem fol_again (h : FgB s bt bs bw vl hd1 F S1 n1 u) (hF : ∀ S', Follows S1 LL S' → Follows S0 [x] S') (hm : mapSize u bw ≤ mapSize w bw) (hb : n1 + 2 * (LL.length + M * mapSize u bw) ≤ n0 + 2 * (1 + M * mapSize w bw)) (hK : Kept F w u) {v4 : Value} (hR : FolR s bt bs bw vl F M S1 n1 u LL LL.length v4 w') (h0 : (roundS S1 LL).2 ≠ []) :
    ∃ gL cL, v4 = .slice (some ⟨gL, 0, none⟩) (roundS S1 LL).2.length cL ∧ FolJ s bt bs bw vl F M S0 x n0 w gL cL (roundS S1 LL).2 w' ∧ mapSize w' bw < mapSize u bw := by
  obtain ⟨hd', n', q1, q2, q3, q4, q5, q6, q7, q8⟩ := hR
  rw [List.take_length] at q1 q3 q6 q7 q8
  obtain ⟨A, c, rfl, _, _, hA⟩ := ownForm q3
  have hpos : 0 < (roundS S1 LL).2.length := List.length_pos_iff.2 h0
  rcases hA with rfl | ⟨g, rfl, hg, _⟩
  · rcases q3.2 with ⟨_, e⟩ | ⟨g, cap, cur, e, _⟩
    · omega
    · cases e
  · refine ⟨g, c, rfl, ⟨u.heap.size, _, hd', n', q1, q3, fun e => by have := h.fin g e; omega, q8, by omega, ?_, fun S' hs => hF S' (.more S1 LL S' h0 hs), hK.trans q4 (fun k e => .inl e)⟩, q6.resolve_left h0⟩
    have e1 : M * mapSize u bw = M * (mapSize u bw - mapSize w' bw) + M * mapSize w' bw := by rw [← Nat.mul_add, Nat.sub_add_cancel q5]
    omega
end
/-- A text but for its first step. -/
def behindOf : Code → Code
  | .seq _ b => b
  | c => c
noncomputable def folRest : Code := behindOf (((Try.f47.body.bind scopeOf).bind (findLabel · 0)).getD .skip)
set_option maxRecDepth 1000000 in
set_option maxHeartbeats 8000000 in
theorem fol_pass (c1 c2 c3 c5 c6 c7 c8 c9 c10 c11 c12 c13 c14 c15 c16 c17 c18 c19 c20 c21 c22 c23 c24 c25 c26 c27 c28 c29 c30 c31 c32 c33 c34 c35 c36 c37 c38 c39 c40 c41 c42 c43 c44 c45 c46 c47 c48 c49 c50 c51 c52 c53 c54 c55 c56 c57 c58 c59 c60 c61 c62 c63 : Value) (w : World) (s bt bs bw gL cL n M BL : Nat) (vl : Value) (hd : Pt → Option Value) (F : Nat → Prop) (S : FgS) (LL : List Lk) (h : FgB s bt bs bw vl hd F S n w)
    (hL : w.ownsRow BL 36 66 (.slice (some ⟨gL, 0, none⟩) LL.length cL) LL.length (lks LL)) (hgF : ¬ F gL) (hM : ∀ p L, S.waiting p = some L → L.length ≤ M) (hM2 : M ≤ 100000) (hW : mapSize w bw ≤ 1000) (hn : n ≤ 1000000000) (hLL : LL.length ≤ 200000000) (nL : Nat) (hnL : nL = LL.length)
    (Q : Exit → Act → World → Prop) (hQn : ∀ (u5 u7 u10 u11 u12 u13 u14 u15 u16 u17 u18 u19 u20 u21 u22 u23 u24 u25 u26 u27 u28 u29 u30 u31 u32 u33 u34 u35 u36 u37 u38 u39 u40 u41 u42 u43 u44 u45 u46 u47 u48 u49 u50 u51 u52 u53 u54 u55 u56 u57 u58 u59 u60 u61 u62 u63 v5 : Value) (w' : World), FolR s bt bs bw vl F M S n w LL LL.length v5 w' → (roundS S LL).2 = [] → Q .normal ⟨#[.pointer (some ⟨s, 0, none⟩), c1, c2, c3, .slice (some ⟨gL, 0, none⟩) nL cL, u5, c6, u7, c8, c9, u10, u11, u12, u13, u14, u15, u16, u17, u18, u19, u20, u21, u22, u23, u24, u25, u26, u27, u28, u29, u30, u31, u32, u33, u34, u35, u36, u37, u38, u39, u40, u41, u42, u43, u44, u45, u46, u47, u48, u49, u50, u51, u52, u53, u54, u55, u56, u57, u58, u59, u60, u61, u62, u63], []⟩ w')
    (hQg : ∀ (u5 u7 u10 u11 u12 u13 u14 u15 u16 u17 u18 u19 u20 u21 u22 u23 u24 u25 u26 u27 u28 u29 u30 u31 u32 u33 u34 u35 u36 u37 u38 u39 u40 u41 u42 u43 u44 u45 u46 u47 u48 u49 u50 u51 u52 u53 u54 u55 u56 u57 u58 u59 u60 u61 u62 u63 v4 : Value) (w' : World), FolR s bt bs bw vl F M S n w LL LL.length v4 w' → (roundS S LL).2 ≠ [] → Q (.goto 0) ⟨#[.pointer (some ⟨s, 0, none⟩), c1, c2, c3, v4, u5, c6, u7, c8, c9, u10, u11, u12, u13, u14, u15, u16, u17, u18, u19, u20, u21, u22, u23, u24, u25, u26, u27, u28, u29, u30, u31, u32, u33, u34, u35, u36, u37, u38, u39, u40, u41, u42, u43, u44, u45, u46, u47, u48, u49, u50, u51, u52, u53, u54, u55, u56, u57, u58, u59, u60, u61, u62, u63], []⟩ w') :
    Code.wp Try.prog folRest Q ⟨#[.pointer (some ⟨s, 0, none⟩), c1, c2, c3, .slice (some ⟨gL, 0, none⟩) nL cL, c5, c6, c7, c8, c9, c10, c11, c12, c13, c14, c15, c16, c17, c18, c19, c20, c21, c22, c23, c24, c25, c26, c27, c28, c29, c30, c31, c32, c33, c34, c35, c36, c37, c38, c39, c40, c41, c42, c43, c44, c45, c46, c47, c48, c49, c50, c51, c52, c53, c54, c55, c56, c57, c58, c59, c60, c61, c62, c63], []⟩ w := by
  subst hnL
  conv => arg 2; whnf
  try dsimp only at hQn hQg ⊢
  have HN := Lib.hid hQn
  have HG := Lib.hid hQg
  clear hQn hQg
  go_upto_block 0 with fail
  refine fol_b0 _ _ _ _ _ _ _ _ _ _ _ _ _ _ _ _ _ _ _ _ _ _ _ _ _ _ _ _ _ _ _ _ _ _ _ _ _ _ _ _ _ _ _ _ _ _ _ _ _ _ _ _ _ _ _ _ _ _ _ w s bt bs bw gL cL n M BL vl hd F S LL h hL hgF hM hM2 hW hn hLL _ ?_
  intro t7 t12 t13 t14 t15 t16 t17 t18 t19 t20 t21 t22 t23 t24 t25 t26 t27 t28 t29 t30 t31 t32 t33 t34 t35 t36 t37 t38 t39 t40 t41 t42 t43 t44 t45 t46 t47 t48 t49 t50 t51 t52 t53 t54 t55 t56 t57 t58 t59 v5 w' hR
  have ho := hR
  obtain ⟨hd', n', q1, q2, q3, _⟩ := ho
  rw [List.take_length] at q3
  obtain ⟨A, c5, rfl, _, _, _⟩ := ownForm q3
  have HR := Lib.hid hR
  clear q1 q2 q3 hR h hL hM
  cases hN : (roundS S LL).2 with
  | nil =>
    rw [hN] at HR
    go_wp2_with fail
    exact HN.out _ _ _ _ _ _ _ _ _ _ _ _ _ _ _ _ _ _ _ _ _ _ _ _ _ _ _ _ _ _ _ _ _ _ _ _ _ _ _ _ _ _ _ _ _ _ _ _ _ _ _ _ _ _ _ _ _ _ HR.out hN
  | cons y N =>
    rw [hN] at HR
    have d1 : decide (((y :: N).length : Int) > 0) = true := by simp
    go_wp2_with fail
    go_step3
    exact HG.out _ _ _ _ _ _ _ _ _ _ _ _ _ _ _ _ _ _ _ _ _ _ _ _ _ _ _ _ _ _ _ _ _ _ _ _ _ _ _ _ _ _ _ _ _ _ _ _ _ _ _ _ _ _ _ _ _ _ HR.out (by rw [hN]; simp)
def FolA (s bt bs bw : Nat) (vl : Value) (F : Nat → Prop) (M : Nat) (S : FgS) (x : Lk) (n : Nat) (w : World) (a : Act) (u : World) : Prop := ∃ c1 c2 c3 c5 c6 c7 c8 c9 c10 c11 c12 c13 c14 c15 c16 c17 c18 c19 c20 c21 c22 c23 c24 c25 c26 c27 c28 c29 c30 c31 c32 c33 c34 c35 c36 c37 c38 c39 c40 c41 c42 c43 c44 c45 c46 c47 c48 c49 c50 c51 c52 c53 c54 c55 c56 c57 c58 c59 c60 c61 c62 c63 gL cL LL, a = ⟨#[.pointer (some ⟨s, 0, none⟩), c1, c2, c3, .slice (some ⟨gL, 0, none⟩) LL.length cL, c5, c6, c7, c8, c9, c10, c11, c12, c13, c14, c15, c16, c17, c18, c19, c20, c21, c22, c23, c24, c25, c26, c27, c28, c29, c30, c31, c32, c33, c34, c35, c36, c37, c38, c39, c40, c41, c42, c43, c44, c45, c46, c47, c48, c49, c50, c51, c52, c53, c54, c55, c56, c57, c58, c59, c60, c61, c62, c63], []⟩ ∧ FolJ s bt bs bw vl F M S x n w gL cL LL u
set_option maxRecDepth 1000000 in
set_option maxHeartbeats 8000000 in
theorem fol_c (w : World) (s bt bs bw n M : Nat) (vl : Value) (hd : Pt → Option Value) (F : Nat → Prop) (S : FgS) (x : Lk) (h : FgB s bt bs bw vl hd F S n w) (hM : ∀ p L, S.waiting p = some L → L.length ≤ M) (hM2 : M ≤ 100000) (hW : mapSize w bw ≤ 1000) (hn : n ≤ 100000000) :
    Calls Try.prog 47 #[.pointer (some ⟨s, 0, none⟩), .agg (lv x)] w fun e w' => e = .returned (.tuple #[]) ∧ FolE s bt bs bw vl F M S x n w w' := by
  have hMW : M * mapSize w bw ≤ 100000 * 1000 := Nat.mul_le_mul hM2 hW
  obtain ⟨W1, hW1⟩ : ∃ W1, W1 = (w.alloc (.cells (lv x) 36)).alloc (.cells (lv x) 36) := ⟨_, rfl⟩
  have b1 : Below w.heap.size w W1 := by rw [hW1]; exact ((Below.refl _ _).alloc (Nat.le_refl _) _).alloc (by simp) _
  have hrow : W1.ownsRow 0 36 66 (.slice (some ⟨w.heap.size + 1, 0, none⟩) 1 1) 1 (lC x) := by
    rw [hW1]
    have := own_link x (w.alloc (.cells (lv x) 36))
    rw [heap_sz] at this
    exact this
  have hJ0 : FolJ s bt bs bw vl F M S x n w (w.heap.size + 1) 1 [x] W1 := ⟨0, S, hd, n, h.below b1, by rw [show lks [x] = lC x by simp [lks]]; exact hrow, fun e => by have := h.fin _ e; omega, hM, by rw [mapSize_keep (b1.block bw (h.fin bw h.foot.2.2.2.1))]; exact Nat.le_refl _, by rw [mapSize_keep (b1.block bw (h.fin bw h.foot.2.2.2.1))]; exact Nat.le_refl _, fun S' hs => hs, Kept.of_below b1⟩
  have hb1 : (Instr.buildSlice 30 1 #[(0, .agg (lv x))]).run Try.prog (w.alloc (.cells (lv x) 36)) = .ok (.slice (some ⟨w.heap.size + 1, 0, none⟩) 1 1) ((w.alloc (.cells (lv x) 36)).alloc (.cells (lv x) 36)) := by
    have := one_link x (w.alloc (.cells (lv x) 36))
    rw [heap_sz] at this
    exact this
  have g0 := heap_alloc_new w (.cells (lv x) 36)
  have HW1 := Lib.hid hW1
  have HJ0 := Lib.hid hJ0
  clear hW1 b1 hrow hJ0 h hM
  go_enter Try.func47, Try.ntmps47
  go_wp2_with fail
  refine wp_scope_jumps 0 (FolA s bt bs bw vl F M S x n w) (fun _ u => mapSize u bw) rfl ?_ ?_
  · go_wp2_with (first
      | (refine wpList_load_row rfl 36 (.tmp 3) rfl w.heap.size rfl 36 (lv x) (0, 0) _ g0 Try.underlying36 rfl (size_lv x) ?_)
      | (refine wpList_buildSlice_row (v := .slice (some ⟨w.heap.size + 1, 0, none⟩) 1 1) (w' := W1) rfl 30 1 #[(0, .tmp 8)] rfl ?hr ?_; case hr => (simp only [List.map_toArray, List.map_cons, List.map_nil]; rw [HW1.out]; exact hb1))
      | fail)
    go_step3
    have hJ := HJ0.out
    obtain ⟨u, hu⟩ : ∃ u, u = W1 := ⟨_, rfl⟩
    rw [← hu] at hJ ⊢
    obtain ⟨BL, S1, hd1, n1, j1, j2, j3, j4, j5, j6, j7, j8⟩ := hJ
    obtain ⟨gL, hgL⟩ : ∃ gL, gL = w.heap.size + 1 := ⟨_, rfl⟩
    rw [← hgL] at j2 j3 ⊢
    rename_i K1 hK1
    first
      | refine hK1 _ _ ?_
      | refine K1 _ _ ?_
    obtain ⟨cL, hcL⟩ : ∃ cL, cL = 1 := ⟨_, rfl⟩
    obtain ⟨LL, hLL⟩ : ∃ LL, LL = [x] := ⟨_, rfl⟩
    refine fol_pass _ _ _ _ _ _ _ _ _ _ _ _ _ _ _ _ _ _ _ _ _ _ _ _ _ _ _ _ _ _ _ _ _ _ _ _ _ _ _ _ _ _ _ _ _ _ _ _ _ _ _ _ _ _ _ _ _ _ _ _ _ _ u s bt bs bw gL 1 n1 M BL vl hd1 F S1 [x] j1 j2 j3 j4 hM2 (by omega) (by omega) (by omega) 1 rfl _ ?_ ?_
    · intro t5 t7 t10 t11 t12 t13 t14 t15 t16 t17 t18 t19 t20 t21 t22 t23 t24 t25 t26 t27 t28 t29 t30 t31 t32 t33 t34 t35 t36 t37 t38 t39 t40 t41 t42 t43 t44 t45 t46 t47 t48 t49 t50 t51 t52 t53 t54 t55 t56 t57 t58 t59 t60 t61 t62 t63 v5 w' hR h0
      have FIN := fol_end (j7 _) j5 j6 j8 hR h0
      simp only [Exit.jump]
      exact bodyPost_end (results_none rfl _ _ _) rfl ⟨rfl, FIN⟩
    · intro t5 t7 t10 t11 t12 t13 t14 t15 t16 t17 t18 t19 t20 t21 t22 t23 t24 t25 t26 t27 t28 t29 t30 t31 t32 t33 t34 t35 t36 t37 t38 t39 t40 t41 t42 t43 t44 t45 t46 t47 t48 t49 t50 t51 t52 t53 t54 t55 t56 t57 t58 t59 t60 t61 t62 t63 v4 w' hR h0
      obtain ⟨gL', cL', rfl, hJ, hlt⟩ := fol_again j1 j7 j5 j6 j8 hR h0
      exact ⟨rfl, _, _, _, _, _, _, _, _, _, _, _, _, _, _, _, _, _, _, _, _, _, _, _, _, _, _, _, _, _, _, _, _, _, _, _, _, _, _, _, _, _, _, _, _, _, _, _, _, _, _, _, _, _, _, _, _, _, _, _, _, _, _, _, _, _, rfl, hJ⟩
  · rintro a' u ⟨c1, c2, c3, c5, c6, c7, c8, c9, c10, c11, c12, c13, c14, c15, c16, c17, c18, c19, c20, c21, c22, c23, c24, c25, c26, c27, c28, c29, c30, c31, c32, c33, c34, c35, c36, c37, c38, c39, c40, c41, c42, c43, c44, c45, c46, c47, c48, c49, c50, c51, c52, c53, c54, c55, c56, c57, c58, c59, c60, c61, c62, c63, gL, cL, LL, rfl, BL, S1, hd1, n1, j1, j2, j3, j4, j5, j6, j7, j8⟩
    change Code.wp Try.prog (Code.seq Code.skip folRest) _ _ _
    refine wp_seq ?_
    refine wp_skip ?_
    show Code.wp Try.prog folRest _ _ _
    refine fol_pass _ _ _ _ _ _ _ _ _ _ _ _ _ _ _ _ _ _ _ _ _ _ _ _ _ _ _ _ _ _ _ _ _ _ _ _ _ _ _ _ _ _ _ _ _ _ _ _ _ _ _ _ _ _ _ _ _ _ _ _ _ _ u s bt bs bw gL cL n1 M BL vl hd1 F S1 LL j1 j2 j3 j4 hM2 (by omega) (by omega) (by omega) _ rfl _ ?_ ?_
    · intro t5 t7 t10 t11 t12 t13 t14 t15 t16 t17 t18 t19 t20 t21 t22 t23 t24 t25 t26 t27 t28 t29 t30 t31 t32 t33 t34 t35 t36 t37 t38 t39 t40 t41 t42 t43 t44 t45 t46 t47 t48 t49 t50 t51 t52 t53 t54 t55 t56 t57 t58 t59 t60 t61 t62 t63 v5 w' hR h0
      have FIN := fol_end (j7 _) j5 j6 j8 hR h0
      simp only [Exit.jump]
      exact bodyPost_end (results_none rfl _ _ _) rfl ⟨rfl, FIN⟩
    · intro t5 t7 t10 t11 t12 t13 t14 t15 t16 t17 t18 t19 t20 t21 t22 t23 t24 t25 t26 t27 t28 t29 t30 t31 t32 t33 t34 t35 t36 t37 t38 t39 t40 t41 t42 t43 t44 t45 t46 t47 t48 t49 t50 t51 t52 t53 t54 t55 t56 t57 t58 t59 t60 t61 t62 t63 v4 w' hR h0
      obtain ⟨gL', cL', rfl, hJ, hlt⟩ := fol_again j1 j7 j5 j6 j8 hR h0
      exact ⟨rfl, ⟨_, _, _, _, _, _, _, _, _, _, _, _, _, _, _, _, _, _, _, _, _, _, _, _, _, _, _, _, _, _, _, _, _, _, _, _, _, _, _, _, _, _, _, _, _, _, _, _, _, _, _, _, _, _, _, _, _, _, _, _, _, _, _, _, _, rfl, hJ⟩, hlt⟩
end Go.Proofs.Ythlbpjkopkicbaa
