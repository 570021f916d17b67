/- The last of some checkpoints. -/
import Derived.Test.YthlbpjkopkicbaaFgAll
namespace Go.Proofs.Ythlbpjkopkicbaa
open Go.ChangeMaps Go.MapKept Go.Maps Go.WideElems Go.RowKit Go.ChangeShapes Go.WideShapes Go.ChangeAt
set_option linter.unusedVariables false
set_option maxRecDepth 100000

/-- Bytes as one number. -/
def bnum : List UInt8 → Nat
  | [] => 0
  | x :: a => x.toNat * 256 ^ a.length + bnum a
theorem bnum_lt : ∀ a : List UInt8, bnum a < 256 ^ a.length
  | [] => by simp [bnum]
  | x :: a => by
    have h := bnum_lt a
    have hx := x.toNat_lt
    have h2 : x.toNat * 256 ^ a.length ≤ 255 * 256 ^ a.length := Nat.mul_le_mul_right _ (by omega)
    show x.toNat * 256 ^ a.length + bnum a < 256 ^ (a.length + 1)
    rw [Nat.pow_succ]
    omega
theorem two_parts (x y X Y B : Nat) (hX : X < B) (hY : Y < B) : cmpN (x * B + X) (y * B + Y) = orI (cmpN x y) (cmpN X Y) := by
  have key : ∀ a b A C : Nat, a < b → A < B → a * B + A < b * B + C := fun a b A C h hA => by
    have : (a + 1) * B ≤ b * B := Nat.mul_le_mul_right _ h
    rw [Nat.add_mul, Nat.one_mul] at this
    omega
  rcases Nat.lt_trichotomy x y with h | rfl | h
  · have h1 := key x y X Y h hX
    unfold cmpN orI
    rw [if_pos h1, if_pos h, if_neg (by omega)]
  · unfold cmpN orI
    rw [if_neg (Nat.lt_irrefl x), if_neg (Nat.lt_irrefl x), if_pos rfl]
    by_cases h2 : X < Y
    · rw [if_pos (by omega), if_pos h2]
    · rw [if_neg (by omega), if_neg h2]
      by_cases h3 : Y < X
      · rw [if_pos (by omega), if_pos h3]
      · rw [if_neg (by omega), if_neg h3]
  · have h1 := key y x Y X h hY
    unfold cmpN orI
    rw [if_neg (by omega), if_pos h1, if_neg (show ¬ x < y by omega), if_pos h, if_neg (by omega)]
theorem cmpL_num : ∀ a b : List UInt8, a.length = b.length → cmpL a b = cmpN (bnum a) (bnum b)
  | [], [], _ => rfl
  | x :: a, y :: b, h => by
    have h' : a.length = b.length := by simpa using h
    show orI (cmpN x.toNat y.toNat) (cmpL a b) = cmpN (x.toNat * 256 ^ a.length + bnum a) (y.toNat * 256 ^ b.length + bnum b)
    rw [cmpL_num a b h', ← h']
    exact (two_parts _ _ _ _ _ (bnum_lt a) (by rw [h']; exact bnum_lt b)).symm
/-- A checkpoint's place among all. -/
def keyN (p : Pt) : Nat := p.e * 256 ^ 32 + bnum p.l
theorem cmpP_key (p q : Pt) : cmpP p q = cmpN (keyN p) (keyN q) := by
  have h1 := bnum_lt p.l
  have h2 := bnum_lt q.l
  rw [p.hl] at h1
  rw [q.hl] at h2
  unfold cmpP keyN
  rw [cmpL_num _ _ (p.hl.trans q.hl.symm), two_parts _ _ _ _ _ h1 h2]
theorem cmpP_pos (p q : Pt) : decide (cmpP p q > 0) = decide (keyN q < keyN p) := by
  rw [cmpP_key]
  unfold cmpN
  by_cases h1 : keyN p < keyN q
  · rw [if_pos h1, decide_eq_false (by omega), decide_eq_false (by omega)]
  · rw [if_neg h1]
    by_cases h2 : keyN q < keyN p
    · rw [if_pos h2, decide_eq_true (by omega), decide_eq_true h2]
    · rw [if_neg h2, decide_eq_false (by omega), decide_eq_false h2]
theorem point_cells {w : World} {base g c : Nat} {LL : List Pt} (h : w.ownsRow base 29 33 (.slice (some ⟨g, 0, none⟩) LL.length c) LL.length (pts LL)) {k : Nat} {x : Pt} (hk : LL[k]? = some x) : w.rangeAt g (k * 33) (pC x) := fun j v hv => by
  have hj : j < 33 := by rw [← pC_len x]; exact (List.getElem?_eq_some_iff.1 hv).1
  have hl : k < LL.length := (List.getElem?_eq_some_iff.1 hk).1
  rw [h.cellAt (k * 33 + j) (by omega), pts_at LL k j x hk hj, hv]
noncomputable def max_r7C : Code := ((Try.f51.body.bind (regionOf 7))).getD .skip
set_option maxRecDepth 1000000 in
set_option maxHeartbeats 4000000 in
theorem max_r7 (c2 c3 c4 c7 c8 c9 c10 c11 c12 c13 c14 c15 c16 c17 c18 c19 c20 c21 c22 c23 c24 c25 c26 c27 c28 c29 c30 c31 c32 : Value) (w : World) (gA cA g5 k nL : Nat) (x p : Pt) (hk : k < nL) (hgA : gA < w.heap.size) (hx : w.rangeAt gA (k * 33) (pC x)) (hp : PkB g5 p w)
    (Q : Exit → Act → World → Prop) (hQ : ∀ (u20 u21 u22 u23 u24 u25 u26 : Value) (w' : World), Below w.heap.size w w' → Q .normal ⟨#[.slice (some ⟨gA, 0, none⟩) nL cA, .func (.func 44) #[] #[], c2, c3, c4, .pointer (some ⟨g5, 0, none⟩), .int .i64 (k : Int), c7, c8, c9, c10, c11, c12, c13, c14, c15, c16, c17, c18, c19, u20, u21, u22, u23, u24, u25, u26, .bool (decide (keyN p < keyN x)), c28, c29, c30, c31, c32], []⟩ w') :
    Code.wp Try.prog max_r7C Q ⟨#[.slice (some ⟨gA, 0, none⟩) nL cA, .func (.func 44) #[] #[], c2, c3, c4, .pointer (some ⟨g5, 0, none⟩), .int .i64 (k : Int), c7, c8, c9, c10, c11, c12, c13, c14, c15, c16, c17, c18, c19, c20, c21, c22, c23, c24, c25, c26, c27, c28, c29, c30, c31, c32], []⟩ w := by
  conv => arg 2; whnf
  try dsimp only at hQ ⊢
  have KP : Hid (∀ u : World, Below w.heap.size w.drew u → u.rangeAt gA (k * 33) (pC x) ∧ PkB g5 p u) := fun u hu => ⟨fun j v hv => (hu.cell (p := ⟨gA, k * 33 + j, none⟩) hgA).trans (hx j v hv), (show PkB g5 p w.drew from hp).below hu hp.lt⟩
  have BX : Hid (Below w.heap.size w.drew w.drew) := Below.refl _ _
  have q1 : (k : Int) < (nL : Int) := by omega
  clear hx hp
  refine wp_region_noPanic ?_
  refine wp_region_held_drew (S := (fun u => u.rangeAt gA (k * 33) (pC x) ∧ PkB g5 p u)) (by kernel_rfl) (KP.out _ BX.out) (fun hHeld => ?_)
  refine takeH (i := 0) (d := 20) (oi := _) (v := .func (.func 44) #[] #[]) rfl (by kernel_rfl) (by kernel_rfl) (by kernel_rfl) (by kernel_rfl) (fun _ _ _ h => h) (Or.inl ⟨by kernel_rfl, by intro u hSw; clear hSw; go_simp⟩) hHeld ?_
  try simp only [List.setIfInBounds_toArray, List.set_cons_zero, List.set_cons_succ]
  refine takeH (i := 1) (d := 21) (oi := _) (v := .slice (some ⟨gA, 0, none⟩) nL cA) rfl (by kernel_rfl) (by kernel_rfl) (by kernel_rfl) (by kernel_rfl) (fun _ _ _ h => h) (Or.inl ⟨by kernel_rfl, by intro u hSw; clear hSw; go_simp⟩) hHeld ?_
  try simp only [List.setIfInBounds_toArray, List.set_cons_zero, List.set_cons_succ]
  refine takeH (i := 2) (d := 22) (oi := _) (v := .int .i64 (k : Int)) rfl (by kernel_rfl) (by kernel_rfl) (by kernel_rfl) (by kernel_rfl) (fun _ _ _ h => h) (Or.inl ⟨by kernel_rfl, by intro u hSw; clear hSw; go_simp⟩) hHeld ?_
  try simp only [List.setIfInBounds_toArray, List.set_cons_zero, List.set_cons_succ]
  refine takeH (i := 3) (d := 23) (oi := _) (v := .pointer (some ⟨gA, k * 33, none⟩)) rfl (by kernel_rfl) (by kernel_rfl) (by kernel_rfl) (by kernel_rfl) (fun _ _ _ h => h) (Or.inl ⟨by kernel_rfl, by intro u hSw; clear hSw; go_simp⟩) hHeld ?_
  try simp only [List.setIfInBounds_toArray, List.set_cons_zero, List.set_cons_succ]
  refine takeH (i := 4) (d := 24) (oi := _) (v := .agg (pv x)) rfl (by kernel_rfl) (by kernel_rfl) (by kernel_rfl) (by kernel_rfl) (fun _ _ _ h => h) (yieldsIf_load_midC (by kernel_rfl) _ _ rfl (gA) (k * 33) rfl (pC x) (pv x) (pC_arr x) _ (fun u hSw => hSw.1) Try.underlying29 rfl (size_pv x)) hHeld ?_
  try simp only [List.setIfInBounds_toArray, List.set_cons_zero, List.set_cons_succ]
  refine takeH (i := 5) (d := 25) (oi := _) (v := .agg (pv p)) rfl (by kernel_rfl) (by kernel_rfl) (by kernel_rfl) (by kernel_rfl) (fun _ _ _ h => h) (yieldsIf_load_midC (by kernel_rfl) _ _ rfl (g5) 0 rfl (pC p) (pv p) (pC_arr p) _ (fun u hSw => hSw.2.all) Try.underlying29 rfl (size_pv p)) hHeld ?_
  try simp only [List.setIfInBounds_toArray, List.set_cons_zero, List.set_cons_succ]
  refine wpAnyH_ready (rs := [6]) (by kernel_rfl) (by simp) ?_
  refine AllReadyH.cons (o := _) rfl (fun K hK => ?_) (AllReadyH.nil)
  go_simp
  refine (compare_c x p _).mono ?_
  rintro e w2 ⟨rfl, b2⟩
  have BX := Lib.hid (BX.out.trans (b2.mono BX.out.size))
  clear b2
  go_simp
  refine hK.out _ _ (KP.out _ BX.out) (fun hHeld => ?_)
  clear hK K
  try simp only [Act.put, List.setIfInBounds_toArray, List.set_cons_zero, List.set_cons_succ]
  refine takeH (i := 7) (d := 27) (oi := _) (v := .bool (decide (keyN p < keyN x))) rfl (by kernel_rfl) (by kernel_rfl) (by kernel_rfl) (by kernel_rfl) (fun _ _ _ h => h) (Or.inl ⟨by kernel_rfl, by intro u hSw; clear hSw; (have hq := cmpP_pos x p; go_simp; try (rw [← hq]))⟩) hHeld ?_
  try simp only [List.setIfInBounds_toArray, List.set_cons_zero, List.set_cons_succ]
  refine wpAnyH_done (by kernel_rfl) ?_ _
  refine NoPanic.normal ?_
  exact hQ _ _ _ _ _ _ _ _ ((show Below w.heap.size w w.drew from (Below.refl _ _).drew).trans BX.out)
set_option maxRecDepth 1000000 in
set_option maxHeartbeats 8000000 in
theorem max_c (w : World) (A : Option Addr) (cA base : Nat) (Lp : List Pt) (h : w.ownsRow base 29 33 (.slice A Lp.length cA) Lp.length (pts Lp)) (hL : Lp ≠ []) (hl : Lp.length ≤ 2000000000) :
    Calls Try.prog 51 #[.slice A Lp.length cA, .func (.func 44) #[] #[]] w fun e w' => ∃ p, e = .returned (.agg (pv p)) ∧ p ∈ Lp ∧ (∀ q ∈ Lp, keyN q ≤ keyN p) ∧ Below w.heap.size w w' := by
  have hpos : 0 < Lp.length := List.length_pos_iff.2 hL
  obtain ⟨gA, rfl⟩ : ∃ gA, A = some ⟨gA, 0, none⟩ := by
    rcases h.2 with ⟨e, h0⟩ | ⟨g, cap, cur, e, _⟩
    · omega
    · injection e with e1 e2 e3
      exact ⟨g, e1⟩
  have hgA := (h.lt gA rfl).2
  have hzp := zero_pt
  obtain ⟨x0, hx0⟩ : ∃ x0, Lp[0]? = some x0 := ⟨_, List.getElem?_eq_getElem hpos⟩
  have k0 := point_cells h hx0
  rw [Nat.zero_mul] at k0
  obtain ⟨W0, hW0⟩ : ∃ W0, W0 = w.alloc (.cells (pv ptZ) 29) := ⟨_, rfl⟩
  obtain ⟨W1, hW1⟩ : ∃ W1, W1 = W0.alloc (.cells (pv x0) 29) := ⟨_, rfl⟩
  have b0 : Below w.heap.size w W0 := by rw [hW0]; exact (Below.refl _ _).alloc (Nat.le_refl _) _
  have z0 : W0.heap.size = w.heap.size + 1 := by rw [hW0]; simp
  have b1 : Below W0.heap.size W0 W1 := by rw [hW1]; exact (Below.refl _ _).alloc (Nat.le_refl _) _
  have r4 : W1.heap[w.heap.size]? = some (.cells (pv ptZ) 29 (0, 0)) := (b1.block _ (by omega)).trans (by rw [hW0]; exact heap_alloc_new w _)
  have r5 : PkB W0.heap.size x0 W1 := by rw [hW1]; exact PkB.new
  have k0' : W0.rangeAt gA 0 (pC x0) := fun j v hv => (b0.cell (p := ⟨gA, 0 + j, none⟩) hgA).trans (k0 j v hv)
  have HW0 := Lib.hid hW0
  have HW1 := Lib.hid hW1
  have HB1 := Lib.hid (b0.trans (b1.mono b0.size))
  have R4 := Lib.hid r4
  have R5 := Lib.hid r5
  have HR := Lib.hid h
  have Z0 := Lib.hid z0
  have d1 : decide ((Lp.length : Int) < 1) = false := by simp; omega
  have HX0 := Lib.hid (show x0 ∈ Lp.take 1 ∧ ∀ q ∈ Lp.take 1, keyN q ≤ keyN x0 by
    have e : Lp.take 1 = [x0] := by
      cases Lp with
      | nil => cases hx0
      | cons y r => injection hx0 with hx0; subst hx0; rfl
    rw [e]
    exact ⟨by simp, fun q hq => by rw [List.mem_singleton.1 hq]; exact Nat.le_refl _⟩)
  clear hW0 hW1 b0 b1 z0 r4 r5 k0 h hx0
  go_enter Try.func51, Try.ntmps51
  go_wp2_with (first
    | (refine wpList_load_mid rfl 29 (.tmp 12) rfl gA 0 (by go_simp) (pC x0) _ (by rw [← HW0.out]; exact k0') Try.underlying29 rfl (by rw [size_pv x0]; rfl) ?_; rw [pC_arr, ← HW0.out])
    | (refine wpList_store_row rfl 29 (.tmp 5) (.tmp 13) rfl W0.heap.size (pv x0) rfl rfl 29 (pv ptZ) (heap_alloc_new W0 _) (size_pv x0) (by rw [show (pv x0).size = 33 from rowV_size _ _]; exact rowV_size _ _) (rowV_one 33 _ (pf_one x0)) ?_; rw [World.setRow_alloc_new]; rw [← HW1.out])
    | fail)
  go_loopw [6] (fun v u => ∃ (k : Nat) (p : Pt), 1 ≤ k ∧ k ≤ Lp.length ∧ v = .int .i64 (k : Int) ∧ PkB W0.heap.size p u ∧ p ∈ Lp.take k ∧ (∀ q ∈ Lp.take k, keyN q ≤ keyN p) ∧ Below w.heap.size w u ∧ u.heap[w.heap.size]? = some (.cells (pv ptZ) 29 (0, 0))) (fun v _ => Lp.length - (intOf v).toNat)
  case atStart => exact ⟨1, x0, Nat.le_refl _, hpos, rfl, R5.out, HX0.out.1, HX0.out.2, HB1.out, R4.out⟩
  case round =>
    obtain ⟨k, p, hk1, hk, rfl, q1, q2, q3, q4, q5⟩ := hrel
    have Q1 := Lib.hid q1
    have Q2 := Lib.hid q2
    have Q3 := Lib.hid q3
    have Q4 := Lib.hid q4
    have Q5 := Lib.hid q5
    clear q1 q2 q3 q4 q5
    by_cases hlt : k < Lp.length
    · obtain ⟨x, hx⟩ : ∃ x, Lp[k]? = some x := ⟨_, List.getElem?_eq_getElem hlt⟩
      have hrow : wr.ownsRow base 29 33 (.slice (some ⟨gA, 0, none⟩) Lp.length cA) Lp.length (pts Lp) := ownKeep HR.out (fun g hg => by injection hg with hg; subst hg; exact Q4.out.block _ hgA)
      have kx := point_cells hrow hx
      have KX := Lib.hid kx
      have TK := Lib.hid (show Lp.take (k + 1) = Lp.take k ++ [x] by
        rw [List.take_succ_eq_append_getElem hlt, (List.getElem?_eq_some_iff.1 hx).2])
      clear hrow kx hx
      go_wp2_with fail
      refine max_r7 _ _ _ _ _ _ _ _ _ _ _ _ _ _ _ _ _ _ _ _ _ _ _ _ _ _ _ _ _ wr gA cA W0.heap.size k Lp.length x p hlt (Nat.lt_of_lt_of_le hgA Q4.out.size) KX.out Q1.out _ ?_
      intro t20 t21 t22 t23 t24 t25 t26 w2 b2
      have B2 := Lib.hid (Q4.out.trans (b2.mono Q4.out.size))
      have P2 := Lib.hid (Q1.out.below b2 Q1.out.lt)
      have E2 : Hid (w2.heap[w.heap.size]? = some (.cells (pv ptZ) 29 (0, 0))) := (b2.block _ (by have := Q1.out.lt; have := Z0.out; omega)).trans Q5.out
      have kx2 : w2.rangeAt gA (k * 33) (pC x) := fun j v hv => (b2.cell (p := ⟨gA, k * 33 + j, none⟩) (Nat.lt_of_lt_of_le hgA Q4.out.size)).trans (KX.out j v hv)
      clear b2
      by_cases hgt : keyN p < keyN x
      · rw [decide_eq_true hgt]
        have p2 := P2.out.row
        have NG := Lib.hid (show w.heap.size ≠ W0.heap.size by have := Z0.out; omega)
        have NL := Lib.hid (show w.heap.size ≤ W0.heap.size by have := Z0.out; omega)
        go_wp2_with (first
          | (refine wpList_load_mid rfl 29 (.tmp 30) rfl gA (k * 33) (by go_simp) (pC x) _ kx2 Try.underlying29 rfl (by rw [size_pv x]; rfl) ?_; rw [pC_arr])
          | (refine wpList_store_row rfl 29 (.tmp 5) (.tmp 31) rfl W0.heap.size (pv x) rfl rfl 29 (pv p) p2 (size_pv x) (by rw [show (pv x).size = 33 from rowV_size _ _]; exact rowV_size _ _) (rowV_one 33 _ (pf_one x)) ?_; obtain ⟨w3, hw3⟩ : ∃ w3, w3 = w2.setRow W0.heap.size (pv x) := ⟨_, rfl⟩; rw [← hw3]; have P3 : Hid (PkB W0.heap.size x w3) := (by rw [hw3]; exact Fill.of_row (setRow_heap _ _ _ _ _ _ p2)); have B3 : Hid (Below w.heap.size w w3) := (by rw [hw3]; exact below_setRow B2.out NL.out _); have E3 : Hid (w3.heap[w.heap.size]? = some (.cells (pv ptZ) 29 (0, 0))) := (by rw [hw3]; exact (setRow_other _ _ _ _ NG.out).trans E2.out); clear hw3)
          | fail)
        exact ⟨⟨k + 1, x, by omega, by omega, by go_num, P3.out, by rw [TK.out]; simp, fun q hq => by
          rw [TK.out] at hq
          rcases List.mem_append.1 hq with hq | hq
          · have := Q3.out q hq; omega
          · rw [List.mem_singleton.1 hq]; exact Nat.le_refl _, B3.out, E3.out⟩, by simp [intOf]; omega⟩
      · rw [decide_eq_false hgt]
        go_wp2_with fail
        exact ⟨⟨k + 1, p, by omega, by omega, by go_num, P2.out, by rw [TK.out]; exact List.mem_append_left _ Q2.out, fun q hq => by
          rw [TK.out] at hq
          rcases List.mem_append.1 hq with hq | hq
          · exact Q3.out q hq
          · rw [List.mem_singleton.1 hq]; omega, B2.out, E2.out⟩, by simp [intOf]; omega⟩
    · obtain rfl : k = Lp.length := by omega
      have p2 := Q1.out.row
      have e2 := Q5.out
      go_wp2_with (first
        | (refine wpList_load_row rfl 29 (.tmp 5) rfl W0.heap.size rfl 29 (pv p) (0, 0) _ p2 Try.underlying29 rfl (size_pv p) ?_)
        | (refine wpList_store_row rfl 29 (.tmp 4) (.tmp 32) rfl w.heap.size (pv p) rfl rfl 29 (pv ptZ) e2 (size_pv p) (by rw [show (pv p).size = 33 from rowV_size _ _]; exact rowV_size _ _) (rowV_one 33 _ (pf_one p)) ?_)
        | fail)
      have h3 := Q3.out
      have h2 := Q2.out
      rw [List.take_length] at h2 h3
      exact bodyPost_ret (v := .agg (pv p)) (results_cell_row rfl _ _ w.heap.size 29 (pv p) (0, 0) _ rfl (setRow_heap _ _ _ _ _ _ e2) Try.underlying29 rfl (size_pv p)) rfl ⟨p, rfl, h2, h3, below_setRow Q4.out (Nat.le_refl _) _⟩
end Go.Proofs.Ythlbpjkopkicbaa
