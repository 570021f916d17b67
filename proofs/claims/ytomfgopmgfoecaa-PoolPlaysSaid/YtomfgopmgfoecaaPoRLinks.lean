/- The reference's Links. -/
import Derived.Test.YtomfgopmgfoecaaPoSame
import Derived.BigFrame
namespace Go.Proofs.Ytomfgopmgfoecaa
open Go.ChangeMaps Go.MapKept Go.Maps Go.RowKit Go.ChangeShapes Go.WideShapes Go.ChangeAt
set_option linter.unusedVariables false
set_option maxRecDepth 100000

theorem wpList_buildSlice_row {P : Program} {w w' : World} {ops : Array Oper} {rest : List Oper} {o : Oper} {a : Act} {Q : Exit → Act → World → Prop} (hg : o.guard = none) (t : TypeId) (len : Nat) (parts : Array (Nat × Operand)) (ho : o.op = .buildSlice t len parts) (v : Value)
    (hrun : (Instr.buildSlice t len (parts.map fun (i, x) => (i, a.eval x))).run P w = .ok v w') (h : wpList P ops Q rest (a.put o.dst v) w') : wpList P ops Q (o :: rest) a w :=
  wpList_plain hg fun _ hK => by
    unfold Oper.wp execOp
    simp only [ho, Sem.run_bind, hrun, Result.andThen_ok]
    exact hK _ _ h
noncomputable def rl_r10aC : Code := ((Try.f28.body.bind (regionOf 10))).getD .skip
set_option maxRecDepth 1000000 in
set_option maxHeartbeats 8000000 in
theorem rl_r10a (c0 c1 c2 c4 c8 c9 c10 c11 c12 c13 c14 c15 c16 c17 c18 c19 c20 c21 c22 c23 c24 c25 c26 c27 c28 c29 c30 c31 c32 c33 c34 c35 c36 c37 c38 c39 c40 c41 c42 c43 c44 c45 c46 c47 : Value) (w : World) (gl gx k m c : Nat) (x y : Lk) (hk : k < m) (hy : w.rangeAt gl (k * 66) (lC y)) (hx : LkB gx x w)
    (Q : Exit → Act → World → Prop) (hQ : ∀ (u32 u33 u34 u35 u36 u37 u38 u39 u40 : Value) (w' : World), Below w.heap.size w w' → Q .normal ⟨#[c0, c1, c2, .slice (some ⟨gl, 0, none⟩) m c, c4, .pointer (some ⟨gx, 0, none⟩), .bool true, .int .i64 (k : Int), c8, c9, c10, c11, c12, c13, c14, c15, c16, c17, c18, c19, c20, c21, c22, c23, c24, c25, c26, c27, c28, c29, c30, c31, u32, u33, u34, u35, u36, u37, u38, u39, u40, c41, c42, c43, c44, c45, c46, c47], []⟩ w') :
    Code.wp Try.prog rl_r10aC Q ⟨#[c0, c1, c2, .slice (some ⟨gl, 0, none⟩) m c, c4, .pointer (some ⟨gx, 0, none⟩), .bool true, .int .i64 (k : Int), c8, c9, c10, c11, c12, c13, c14, c15, c16, c17, c18, c19, c20, c21, c22, c23, c24, c25, c26, c27, c28, c29, c30, c31, c32, c33, c34, c35, c36, c37, c38, c39, c40, c41, c42, c43, c44, c45, c46, c47], []⟩ w := by
  conv => arg 2; whnf
  try dsimp only at hQ ⊢
  have q1 : (k : Int) < (m : Int) := by omega
  have q0 : (0 : Int) ≤ (k : Int) := by omega
  obtain ⟨w2, hw2⟩ : ∃ w2, w2 = w.drew := ⟨_, rfl⟩
  have BX : Hid (Below w.heap.size w w2) := by rw [hw2]; exact (Below.refl _ _).drew
  have KP : Hid (w2.rangeAt gl (k * 66) (lC y) ∧ LkB gx x w2) := by rw [hw2]; exact ⟨hy, hx⟩
  clear hy hx
  refine wp_region_noPanic ?_
  refine wp_region_held_drew (S := (fun u => u.rangeAt gl (k * 66) (lC y) ∧ LkB gx x u)) (by kernel_rfl) (by rw [← hw2]; exact KP.out) (fun hHeld => ?_)
  rw [← hw2]
  rw [← hw2] at hHeld
  clear hw2
  refine takeH (i := 0) (d := 32) (oi := _) (v := .bool true) rfl (by kernel_rfl) (by kernel_rfl) (by kernel_rfl) (by kernel_rfl) (fun _ _ _ h => h) (Or.inl ⟨by kernel_rfl, by intro u hSw; clear hSw; go_simp⟩) hHeld ?_
  try simp only [List.setIfInBounds_toArray, List.set_cons_zero, List.set_cons_succ]
  refine takeH (i := 1) (d := 33) (oi := _) (v := .bool true) rfl (by kernel_rfl) (by kernel_rfl) (by kernel_rfl) (by kernel_rfl) (fun _ _ _ h => h) (Or.inl ⟨by kernel_rfl, by intro u hSw; clear hSw; go_simp⟩) hHeld ?_
  try simp only [List.setIfInBounds_toArray, List.set_cons_zero, List.set_cons_succ]
  refine takeH (i := 2) (d := 34) (oi := _) (v := undef) rfl (by kernel_rfl) (by kernel_rfl) (by kernel_rfl) (by kernel_rfl) (fun _ _ _ h => h) (Or.inr ⟨by kernel_rfl, rfl⟩) hHeld ?_
  try simp only [List.setIfInBounds_toArray, List.set_cons_zero, List.set_cons_succ]
  refine takeH (i := 3) (d := 35) (oi := _) (v := undef) rfl (by kernel_rfl) (by kernel_rfl) (by kernel_rfl) (by kernel_rfl) (fun _ _ _ h => h) (Or.inr ⟨by kernel_rfl, rfl⟩) hHeld ?_
  try simp only [List.setIfInBounds_toArray, List.set_cons_zero, List.set_cons_succ]
  refine takeH (i := 4) (d := 36) (oi := _) (v := undef) rfl (by kernel_rfl) (by kernel_rfl) (by kernel_rfl) (by kernel_rfl) (fun _ _ _ h => h) (Or.inr ⟨by kernel_rfl, rfl⟩) hHeld ?_
  try simp only [List.setIfInBounds_toArray, List.set_cons_zero, List.set_cons_succ]
  refine takeH (i := 5) (d := 37) (oi := _) (v := undef) rfl (by kernel_rfl) (by kernel_rfl) (by kernel_rfl) (by kernel_rfl) (fun _ _ _ h => h) (Or.inr ⟨by kernel_rfl, rfl⟩) hHeld ?_
  try simp only [List.setIfInBounds_toArray, List.set_cons_zero, List.set_cons_succ]
  refine takeH (i := 6) (d := 38) (oi := _) (v := undef) rfl (by kernel_rfl) (by kernel_rfl) (by kernel_rfl) (by kernel_rfl) (fun _ _ _ h => h) (Or.inr ⟨by kernel_rfl, rfl⟩) hHeld ?_
  try simp only [List.setIfInBounds_toArray, List.set_cons_zero, List.set_cons_succ]
  refine takeH (i := 7) (d := 39) (oi := _) (v := undef) rfl (by kernel_rfl) (by kernel_rfl) (by kernel_rfl) (by kernel_rfl) (fun _ _ _ h => h) (Or.inr ⟨by kernel_rfl, rfl⟩) hHeld ?_
  try simp only [List.setIfInBounds_toArray, List.set_cons_zero, List.set_cons_succ]
  refine takeH (i := 8) (d := 40) (oi := _) (v := .bool true) rfl (by kernel_rfl) (by kernel_rfl) (by kernel_rfl) (by kernel_rfl) (fun _ _ _ h => h) (Or.inl ⟨by kernel_rfl, by intro u hSw; clear hSw; go_simp⟩) hHeld ?_
  try simp only [List.setIfInBounds_toArray, List.set_cons_zero, List.set_cons_succ]
  refine takeH (i := 9) (d := 6) (oi := _) (v := .bool true) rfl (by kernel_rfl) (by kernel_rfl) (by kernel_rfl) (by kernel_rfl) (fun _ _ _ h => h) (Or.inl ⟨by kernel_rfl, by intro u hSw; clear hSw; go_simp⟩) hHeld ?_
  try simp only [List.setIfInBounds_toArray, List.set_cons_zero, List.set_cons_succ]
  refine wpAnyH_done (by kernel_rfl) ?_ _
  refine NoPanic.normal ?_
  exact hQ _ _ _ _ _ _ _ _ _ _ BX.out
noncomputable def rl_r10bC : Code := ((Try.f28.body.bind (regionOf 10))).getD .skip
set_option maxRecDepth 1000000 in
set_option maxHeartbeats 8000000 in
theorem rl_r10b (c0 c1 c2 c4 c8 c9 c10 c11 c12 c13 c14 c15 c16 c17 c18 c19 c20 c21 c22 c23 c24 c25 c26 c27 c28 c29 c30 c31 c32 c33 c34 c35 c36 c37 c38 c39 c40 c41 c42 c43 c44 c45 c46 c47 : Value) (w : World) (gl gx k m c : Nat) (x y : Lk) (hk : k < m) (hy : w.rangeAt gl (k * 66) (lC y)) (hx : LkB gx x w)
    (Q : Exit → Act → World → Prop) (hQ : ∀ (u32 u33 u34 u35 u36 u37 u38 u39 u40 : Value) (w' : World), Below w.heap.size w w' → Q .normal ⟨#[c0, c1, c2, .slice (some ⟨gl, 0, none⟩) m c, c4, .pointer (some ⟨gx, 0, none⟩), .bool (decide (y = x)), .int .i64 (k : Int), c8, c9, c10, c11, c12, c13, c14, c15, c16, c17, c18, c19, c20, c21, c22, c23, c24, c25, c26, c27, c28, c29, c30, c31, u32, u33, u34, u35, u36, u37, u38, u39, u40, c41, c42, c43, c44, c45, c46, c47], []⟩ w') :
    Code.wp Try.prog rl_r10bC Q ⟨#[c0, c1, c2, .slice (some ⟨gl, 0, none⟩) m c, c4, .pointer (some ⟨gx, 0, none⟩), .bool false, .int .i64 (k : Int), c8, c9, c10, c11, c12, c13, c14, c15, c16, c17, c18, c19, c20, c21, c22, c23, c24, c25, c26, c27, c28, c29, c30, c31, c32, c33, c34, c35, c36, c37, c38, c39, c40, c41, c42, c43, c44, c45, c46, c47], []⟩ w := by
  conv => arg 2; whnf
  try dsimp only at hQ ⊢
  have q1 : (k : Int) < (m : Int) := by omega
  have q0 : (0 : Int) ≤ (k : Int) := by omega
  obtain ⟨w2, hw2⟩ : ∃ w2, w2 = w.drew := ⟨_, rfl⟩
  have BX : Hid (Below w.heap.size w w2) := by rw [hw2]; exact (Below.refl _ _).drew
  have KP : Hid (w2.rangeAt gl (k * 66) (lC y) ∧ LkB gx x w2) := by rw [hw2]; exact ⟨hy, hx⟩
  clear hy hx
  refine wp_region_noPanic ?_
  refine wp_region_held_drew (S := (fun u => u.rangeAt gl (k * 66) (lC y) ∧ LkB gx x u)) (by kernel_rfl) (by rw [← hw2]; exact KP.out) (fun hHeld => ?_)
  rw [← hw2]
  rw [← hw2] at hHeld
  clear hw2
  refine takeH (i := 0) (d := 32) (oi := _) (v := .bool false) rfl (by kernel_rfl) (by kernel_rfl) (by kernel_rfl) (by kernel_rfl) (fun _ _ _ h => h) (Or.inl ⟨by kernel_rfl, by intro u hSw; clear hSw; go_simp⟩) hHeld ?_
  try simp only [List.setIfInBounds_toArray, List.set_cons_zero, List.set_cons_succ]
  refine takeH (i := 1) (d := 33) (oi := _) (v := .bool false) rfl (by kernel_rfl) (by kernel_rfl) (by kernel_rfl) (by kernel_rfl) (fun _ _ _ h => h) (Or.inl ⟨by kernel_rfl, by intro u hSw; clear hSw; go_simp⟩) hHeld ?_
  try simp only [List.setIfInBounds_toArray, List.set_cons_zero, List.set_cons_succ]
  refine takeH (i := 2) (d := 34) (oi := _) (v := .slice (some ⟨gl, 0, none⟩) m c) rfl (by kernel_rfl) (by kernel_rfl) (by kernel_rfl) (by kernel_rfl) (fun _ _ _ h => h) (Or.inl ⟨by kernel_rfl, by intro u hSw; clear hSw; go_simp⟩) hHeld ?_
  try simp only [List.setIfInBounds_toArray, List.set_cons_zero, List.set_cons_succ]
  refine takeH (i := 3) (d := 35) (oi := _) (v := .int .i64 (k : Int)) rfl (by kernel_rfl) (by kernel_rfl) (by kernel_rfl) (by kernel_rfl) (fun _ _ _ h => h) (Or.inl ⟨by kernel_rfl, by intro u hSw; clear hSw; go_simp⟩) hHeld ?_
  try simp only [List.setIfInBounds_toArray, List.set_cons_zero, List.set_cons_succ]
  refine takeH (i := 4) (d := 36) (oi := _) (v := .pointer (some ⟨gl, (k * 66), none⟩)) rfl (by kernel_rfl) (by kernel_rfl) (by kernel_rfl) (by kernel_rfl) (fun _ _ _ h => h) (Or.inl ⟨by kernel_rfl, by intro u hSw; clear hSw; go_simp⟩) hHeld ?_
  try simp only [List.setIfInBounds_toArray, List.set_cons_zero, List.set_cons_succ]
  refine takeH (i := 5) (d := 37) (oi := _) (v := .agg (lv y)) rfl (by kernel_rfl) (by kernel_rfl) (by kernel_rfl) (by kernel_rfl) (fun _ _ _ h => h) (yieldsIf_load_midC (by kernel_rfl) _ _ rfl (gl) (k * 66) rfl (lC y) (lv y) (lC_arr y) _ (fun u hSw => hSw.1) Try.underlying50 rfl (size_lv y)) hHeld ?_
  try simp only [List.setIfInBounds_toArray, List.set_cons_zero, List.set_cons_succ]
  refine takeH (i := 6) (d := 38) (oi := _) (v := .agg (lv x)) rfl (by kernel_rfl) (by kernel_rfl) (by kernel_rfl) (by kernel_rfl) (fun _ _ _ h => h) (yieldsIf_load_midC (by kernel_rfl) _ _ rfl (gx) 0 rfl (lC x) (lv x) (lC_arr x) _ (fun u hSw => hSw.2.all) Try.underlying50 rfl (size_lv x)) hHeld ?_
  try simp only [List.setIfInBounds_toArray, List.set_cons_zero, List.set_cons_succ]
  refine takeH (i := 7) (d := 39) (oi := _) (v := .bool (decide (y = x))) rfl (by kernel_rfl) (by kernel_rfl) (by kernel_rfl) (by kernel_rfl) (fun _ _ _ h => h) (yieldsIf_eql (by kernel_rfl) 50 50 (.tmp 37) (.tmp 38) rfl (lv y) (lv x) rfl rfl guard_link _ (eq_link y x)) hHeld ?_
  try simp only [List.setIfInBounds_toArray, List.set_cons_zero, List.set_cons_succ]
  refine takeH (i := 8) (d := 40) (oi := _) (v := .bool (decide (y = x))) rfl (by kernel_rfl) (by kernel_rfl) (by kernel_rfl) (by kernel_rfl) (fun _ _ _ h => h) (Or.inl ⟨by kernel_rfl, by intro u hSw; clear hSw; go_simp⟩) hHeld ?_
  try simp only [List.setIfInBounds_toArray, List.set_cons_zero, List.set_cons_succ]
  refine takeH (i := 9) (d := 6) (oi := _) (v := .bool (decide (y = x))) rfl (by kernel_rfl) (by kernel_rfl) (by kernel_rfl) (by kernel_rfl) (fun _ _ _ h => h) (Or.inl ⟨by kernel_rfl, by intro u hSw; clear hSw; go_simp⟩) hHeld ?_
  try simp only [List.setIfInBounds_toArray, List.set_cons_zero, List.set_cons_succ]
  refine wpAnyH_done (by kernel_rfl) ?_ _
  refine NoPanic.normal ?_
  exact hQ _ _ _ _ _ _ _ _ _ _ BX.out
set_option maxRecDepth 1000000 in
set_option maxHeartbeats 16000000 in
theorem refLinks_c {g : Nat} {G : Nat → Prop} {V : List Sg} {w : World} (h : RfM g G V w) (hl : V.length ≤ 100000) : Calls Try.prog 28 #[.pointer (some ⟨g, 0, none⟩)] w fun e w' => ∃ A c, e = .returned (.slice A (ddl (V.map (·.k))).length c) ∧ w'.ownsRow w.heap.size 50 66 (.slice A (ddl (V.map (·.k))).length c) (ddl (V.map (·.k))).length (rws lC (ddl (V.map (·.k)))) ∧ Below w.heap.size w w' := by
  obtain ⟨i0, hi0⟩ : ∃ i0, Try.prog.info? 50 = some i0 := ⟨_, (Option.some_get (by kernel_rfl)).symm⟩
  obtain ⟨hz0, hz1, hz2⟩ := link_row hi0
  have hzl := zero_lk
  obtain ⟨A2, cv, hc, hrow⟩ := h.cells
  have hgw := World.block_lt_of_cell? w _ hc
  obtain ⟨m, hm⟩ : ∃ m, m = V.length := ⟨_, rfl⟩
  have LM := Lib.hid hm
  rw [← hm] at hc
  have m9 : m ≤ 100000 := by omega
  have HC := Lib.hid (show ∀ u, Below w.heap.size w u → u.cell? ⟨g, 0, none⟩ = some (.slice A2 m cv) from fun u hu => (hu.cell (p := ⟨g, 0, none⟩) hgw).trans hc)
  have ROW := Lib.hid (show ∀ (i : Nat) x, V[i]? = some x → ∃ b, A2 = some ⟨b, 0, none⟩ ∧ ∀ u, Below w.heap.size w u → u.rangeAt b (i * 101) (sgC x) from fun i x hx => by
    obtain ⟨b, e, r⟩ := hrow i x hx
    exact ⟨b, e, fun u hu j v hv => (hu.cell (p := ⟨b, i * 101 + j, none⟩) (World.block_lt_of_cell? w _ (r j v hv))).trans (r j v hv)⟩)
  clear h hl hm hrow hgw hc
  go_enter Try.func28, Try.ntmps28
  go_wp2_with fail
  go_loopw [3, 4] (fun v3 v4 u => ∃ (i n c : Nat) (A : Option Addr) (D : List Lk), i ≤ m ∧ v4 = .int .i64 (i : Int) ∧ v3 = .slice A n c ∧ n = D.length ∧ n ≤ i ∧ D = ddl ((V.take i).map (·.k)) ∧ u.ownsRow w.heap.size 50 66 (.slice A n c) n (rws lC D) ∧ Below w.heap.size w u) (fun _ v4 _ => m - (intOf v4).toNat)
  case atStart => exact ⟨0, 0, 0, none, [], Nat.zero_le _, rfl, rfl, rfl, Nat.le_refl _, rfl, ⟨rfl, .inl ⟨rfl, rfl⟩⟩, Below.refl _ _⟩
  case round =>
    obtain ⟨i, n, c, A, D, hi, rfl, rfl, hn, hni, hD, ow, bx⟩ := hrel
    have HD := Lib.hid (And.intro hn hD)
    have OW := Lib.hid ow
    have BX := Lib.hid bx
    clear hn hD ow bx
    have hc := HC.out _ BX.out
    have n9 : n ≤ 100000 := by omega
    by_cases hin : i < m
    · obtain ⟨x, hx⟩ : ∃ v, V[i]? = some v := ⟨_, List.getElem?_eq_getElem (by have := LM.out; omega)⟩
      obtain ⟨b, rfl, rr⟩ := ROW.out i x hx
      have rv := sg_vote (rr wr BX.out)
      have TK := Lib.hid (show ddl ((V.take (i + 1)).map (·.k)) = if x.k ∈ D then D else D ++ [x.k] by
        rw [List.take_add_one, hx, List.map_append, show Option.toList (some x) = [x] from rfl, List.map_cons, List.map_nil, ddl_snoc, ← HD.out.2])
      obtain ⟨xn, hxn⟩ : ∃ y, y = x.n := ⟨_, rfl⟩
      obtain ⟨xk, hxk⟩ : ∃ y, y = x.k := ⟨_, rfl⟩
      obtain ⟨xs, hxs⟩ : ∃ y, y = x.sv := ⟨_, rfl⟩
      rw [← hxn, ← hxk, ← hxs] at rv
      rw [← hxk] at TK
      clear hx rr hxn hxk hxs
      go_wp2_with (first
        | (refine wpList_load_mid rfl 40 (.tmp 23) rfl b (i * 101) (by go_simp) (vtC xn xk xs) _ rv Try.underlying40 rfl (by rw [vtC_len]; exact size_vt) ?_; rw [vtC_arr])
        | fail)
      refine (refLinkOf_c xn xk xs _).mono ?_
      rintro e w5 ⟨rfl, b5⟩
      have B5 := Lib.hid (BX.out.trans (b5.mono BX.out.size))
      have O5 := Lib.hid (ownKeep OW.out (fun q hq => b5.block q (OW.out.lt q hq).2))
      obtain ⟨u1, hu1⟩ : ∃ u1, u1 = w5.alloc (.cells (lv xk) 50) := ⟨_, rfl⟩
      have b1 : Below w5.heap.size w5 u1 := by rw [hu1]; exact (Below.refl _ _).alloc (Nat.le_refl _) _
      have X1 : Hid (LkB w5.heap.size xk u1) := by rw [hu1]; exact LkB.new
      have B1 := Lib.hid (B5.out.trans (b1.mono B5.out.size))
      have O1 := Lib.hid (ownKeep O5.out (fun q hq => b1.block q (O5.out.lt q hq).2))
      have HU1 := Lib.hid hu1
      clear rv b5 hc hu1 b1
      go_wp2_with (first
        | (refine wpList_store_row rfl 50 (.tmp 5) (.tmp 25) rfl w5.heap.size (lv xk) rfl rfl 50 (lv lkZ) (heap_alloc_new w5 _) (size_lv xk) (by rw [show (lv xk).size = 66 from rowV_size _ _]; exact rowV_size _ _) (rowV_one 66 _ (lkf_one xk)) ?_; rw [World.setRow_alloc_new]; rw [← HU1.out])
        | fail)
      obtain ⟨gx, hgx⟩ : ∃ q, q = w5.heap.size := ⟨_, rfl⟩
      rw [← hgx] at X1 ⊢
      clear hgx HU1
      go_loopw [6, 7] (fun v6 v7 u => ∃ k : Nat, k ≤ n ∧ v7 = .int .i64 (k : Int) ∧ v6 = .bool (decide (xk ∈ D.take k)) ∧ LkB gx xk u ∧ u.ownsRow w.heap.size 50 66 (.slice A n c) n (rws lC D) ∧ Below w.heap.size w u) (fun _ v7 _ => n - (intOf v7).toNat)
      case atStart => exact ⟨0, Nat.zero_le _, rfl, rfl, X1.out, O1.out, B1.out⟩
      case round =>
        clear X1 O1 B1 O5 B5 OW
        obtain ⟨k, hk, rfl, rfl, x1, ow, bx⟩ := hrel
        have X1 := Lib.hid x1
        have OW := Lib.hid ow
        have B1 := Lib.hid bx
        clear x1 bx
        by_cases hkn : k < n
        · obtain ⟨y, hy⟩ : ∃ v, D[k]? = some v := ⟨_, List.getElem?_eq_getElem (by have := HD.out.1; omega)⟩
          obtain ⟨gl, rfl⟩ : ∃ gl, A = some ⟨gl, 0, none⟩ := by
            rcases ow.2 with ⟨e, h0⟩ | ⟨g, cap, cur, e, _⟩
            · omega
            · injection e with e1 _ _
              exact ⟨g, e1⟩
          have hx := rws_cells (n := 66) (c := lC) (LL := D) (base := w.heap.size) (cap := c) lC_len (by rw [← HD.out.1]; exact ow) hy
          have TD := Lib.hid (show decide (xk ∈ D.take (k + 1)) = (decide (xk ∈ D.take k) || decide (y = xk)) by
            rw [List.take_add_one, hy, show Option.toList (some y) = [y] from rfl, Bool.eq_iff_iff]
            simp only [List.mem_append, List.mem_singleton, decide_eq_true_eq, Bool.or_eq_true]
            exact ⟨fun h => h.imp id Eq.symm, fun h => h.imp id Eq.symm⟩)
          have HXX := Lib.hid hx
          obtain ⟨q, hq⟩ : ∃ q, q = decide (xk ∈ D.take k) := ⟨_, rfl⟩
          rw [← hq] at TD ⊢
          have q1 : (k : Int) < (n : Int) := by omega
          clear hy ow hx hq
          cases q with
          | true =>
            go_wp2_with fail
            refine rl_r10a _ _ _ _ _ _ _ _ _ _ _ _ _ _ _ _ _ _ _ _ _ _ _ _ _ _ _ _ _ _ _ _ _ _ _ _ _ _ _ _ _ _ _ _ wr gl gx k n c xk y hkn HXX.out X1.out _ ?_
            intro u0 u1 u2 u3 u4 u5 u6 u7 u8 w6 b6
            have X6 := Lib.hid (X1.out.below b6 X1.out.lt)
            have O6 := Lib.hid (ownKeep OW.out (fun q hq => b6.block q (OW.out.lt q hq).2))
            have B6 := Lib.hid (B1.out.trans (b6.mono B1.out.size))
            clear b6
            go_wp2_with fail
            exact ⟨⟨k + 1, by omega, by go_num, by rw [TD.out]; rfl, X6.out, O6.out, B6.out⟩, by simp [intOf]; omega⟩
          | false =>
            go_wp2_with fail
            refine rl_r10b _ _ _ _ _ _ _ _ _ _ _ _ _ _ _ _ _ _ _ _ _ _ _ _ _ _ _ _ _ _ _ _ _ _ _ _ _ _ _ _ _ _ _ _ wr gl gx k n c xk y hkn HXX.out X1.out _ ?_
            intro u0 u1 u2 u3 u4 u5 u6 u7 u8 w6 b6
            have X6 := Lib.hid (X1.out.below b6 X1.out.lt)
            have O6 := Lib.hid (ownKeep OW.out (fun q hq => b6.block q (OW.out.lt q hq).2))
            have B6 := Lib.hid (B1.out.trans (b6.mono B1.out.size))
            clear b6
            go_wp2_with fail
            exact ⟨⟨k + 1, by omega, by go_num, by rw [TD.out]; rfl, X6.out, O6.out, B6.out⟩, by simp [intOf]; omega⟩
        · obtain rfl : k = n := by omega
          have hD : D.take k = D := by rw [HD.out.1, List.take_length]
          rw [hD]
          clear hD ow
          by_cases hmem : xk ∈ D
          · rw [decide_eq_true hmem]
            have TK2 := Lib.hid (TK.out.trans (if_pos hmem))
            clear hmem
            go_wp2_with fail
            exact ⟨⟨i + 1, k, c, A, D, by omega, by go_num, rfl, HD.out.1, by omega, TK2.out.symm, OW.out, B1.out⟩, by simp [intOf]; omega⟩
          · rw [decide_eq_false hmem]
            have TK2 := Lib.hid (TK.out.trans (if_neg hmem))
            clear hmem
            obtain ⟨u2, hu2⟩ : ∃ u2, u2 = wr.alloc (.cells (lv xk) 50) := ⟨_, rfl⟩
            have b2 : Below wr.heap.size wr u2 := by rw [hu2]; exact (Below.refl _ _).alloc (Nat.le_refl _) _
            have hb2 : (Instr.buildSlice 57 1 #[(0, .agg (lv xk))]).run Try.prog wr = .ok (.slice (some ⟨wr.heap.size, 0, none⟩) 1 1) u2 := by rw [hu2]; exact one_link xk wr
            have N2 : Hid (u2.ownsRow 0 50 66 (.slice (some ⟨wr.heap.size, 0, none⟩) 1 1) 1 (lC xk)) := by rw [hu2]; exact own_link xk wr
            have O3 := Lib.hid (ownKeep OW.out (fun q hq => b2.block q (OW.out.lt q hq).2))
            have B3 := Lib.hid (B1.out.trans (b2.mono B1.out.size))
            have L3 := Lib.hid (show w.heap.size ≤ u2.heap.size from B3.out.size)
            have x1 := X1.out.row
            have OB := Lib.hid (show ∀ q, (Value.slice A k c).ownBlock = some q → w.heap.size ≤ q from fun q e => (OW.out.lt q e).1)
            clear b2 hu2
            go_wp2_with (first
              | (refine wpList_load_row rfl 50 (.tmp 5) rfl gx rfl 50 (lv xk) (0, 0) _ x1 Try.underlying50 rfl (size_lv xk) ?_)
              | (refine wpList_buildSlice_row (v := .slice (some ⟨wr.heap.size, 0, none⟩) 1 1) (w' := u2) rfl 57 1 #[(0, .tmp 44)] rfl ?hr ?_; case hr => (simp only [List.map_toArray, List.map_cons, List.map_nil]; exact hb2))
              | (at_builtin; refine wpList_append_row rfl (.tmp 43) (.tmp 45) 57 rfl w.heap.size 50 i0 _ 66 80 Try.underlying57 hi0 hz0 hz1 hz2 (by show (lv lkZ).size = 66; exact rowV_size _ _) (by decide) (.slice A k c) k (rws lC D) rfl O3.out 0 _ 1 (lC xk) rfl N2.out (lC_one xk) (by unfold maxLen; omega) (by omega) L3.out ?_; intro v' w3 o3 g3 b3; rw [rws_more] at o3)
              | fail)
            obtain ⟨A6, c6, rfl, _, _, _⟩ := ownForm o3
            exact ⟨⟨i + 1, k + 1, c6, A6, D ++ [xk], by omega, by go_num, rfl, by rw [List.length_append, ← HD.out.1]; rfl, by omega, TK2.out.symm, o3, B3.out.grown g3 B3.out.size (fun q e => OB.out q e)⟩, by simp [intOf]; omega⟩
    · obtain rfl : i = m := by omega
      have E := Lib.hid (show D = ddl (V.map (·.k)) by rw [HD.out.2, LM.out, List.take_length])
      have NE := Lib.hid (show n = (ddl (V.map (·.k))).length by rw [HD.out.1, E.out])
      have OWN := Lib.hid (show wr.ownsRow w.heap.size 50 66 (.slice A n c) n (rws lC (ddl (V.map (·.k)))) by rw [← E.out]; exact OW.out)
      clear OW
      go_wp2_with fail
      go_ret
      refine ⟨A, c, ?_, ?_, BX.out⟩
      · rw [← NE.out]
        rfl
      · rw [← NE.out]
        exact OWN.out
end Go.Proofs.Ytomfgopmgfoecaa
