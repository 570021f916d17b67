/- The reference's pool: a list of votes. -/
import Derived.Test.YtomfgopmgfoecaaPoOrdR
import Derived.Deep.Cut
import Derived.BigFrame
namespace Go.Proofs.Ytomfgopmgfoecaa
open Go.ChangeMaps Go.MapKept Go.Maps Go.RowKit Go.ChangeShapes Go.WideShapes Go.ChangeAt
set_option linter.unusedVariables false
set_option maxRecDepth 100000

set_option maxHeartbeats 4000000 in
theorem refLinkOf_c (n : Int) (x : Lk) (sv : Value) (w : World) : Calls Try.prog 30 #[.agg (vtw n x sv)] w fun e w' => e = .returned (.agg (lv x)) ∧ Below w.heap.size w w' := by
  have hz := zero_lk
  obtain ⟨W0, hW0⟩ : ∃ W0, W0 = w.alloc (.cells (vtw n x sv) 40) := ⟨_, rfl⟩
  obtain ⟨W1, hW1⟩ : ∃ W1, W1 = W0.alloc (.cells (lv lkZ) 50) := ⟨_, rfl⟩
  obtain ⟨W2, hW2⟩ : ∃ W2, W2 = W0.alloc (.cells (lv x) 50) := ⟨_, rfl⟩
  have b0 : Below w.heap.size w W0 := by rw [hW0]; exact (Below.refl _ _).alloc (Nat.le_refl _) _
  have b2 : Below W0.heap.size W0 W2 := by rw [hW2]; exact (Below.refl _ _).alloc (Nat.le_refl _) _
  have b1 : Below W0.heap.size W0 W1 := by rw [hW1]; exact (Below.refl _ _).alloc (Nat.le_refl _) _
  have v0 : VtK w.heap.size n x sv W0 := by rw [hW0]; exact VtK.new
  have v1 := v0.below b1 v0.lt
  have s1 := v1.src
  have s2 := v1.tgt
  have k2 : W2.heap[W0.heap.size]? = some (.cells (lv x) 50 (0, 0)) := by rw [hW2]; exact heap_alloc_new W0 _
  have HW0 := Lib.hid hW0
  have HW1 := Lib.hid hW1
  have HW2 := Lib.hid hW2
  have HB := Lib.hid (b0.trans (b2.mono b0.size))
  have z0 : W0.heap.size = w.heap.size + 1 := by rw [hW0]; simp
  have k1 : W1.heap[w.heap.size + 1]? = some (.cells (lv lkZ) 50 (0, 0)) := by rw [← z0, hW1]; exact heap_alloc_new W0 _
  have e2 : W1.setRow (w.heap.size + 1) (lv x) = W2 := by rw [← z0, hW1, hW2, World.setRow_alloc_new]
  rw [z0] at k2
  have K2 := Lib.hid k2
  have K1 := Lib.hid k1
  have E2 := Lib.hid e2
  clear hW0 hW1 hW2 b0 b1 b2 v0 v1 k2 z0 k1 e2
  go_enter Try.func30, Try.ntmps30
  go_wp2_with (first
    | (rw [← HW0.out, ← HW1.out]; refine wpList_load_mid rfl 37 (.tmp 3) rfl w.heap.size 1 (by go_simp) (pC x.s) _ s1 Try.underlying37 rfl (by rw [size_pv x.s]; rfl) ?_; rw [pC_arr])
    | (refine wpList_load_mid rfl 37 (.tmp 5) rfl w.heap.size 34 (by go_simp) (pC x.t) _ s2 Try.underlying37 rfl (by rw [size_pv x.t]; rfl) ?_; rw [pC_arr])
    | (refine wpList_build_as' rfl 50 #[(0, .tmp 4), (1, .tmp 6)] rfl _ _ (built_lk x) (by kernel_rfl) ?_)
    | (refine wpList_store_row rfl 50 (.tmp 2) (.tmp 7) rfl (w.heap.size + 1) (lv x) rfl rfl 50 (lv lkZ) K1.out (size_lv x) (by rw [show (lv x).size = 66 from rowV_size _ _]; exact rowV_size _ _) (rowV_one 66 _ (lkf_one x)) ?_; rw [E2.out])
    | fail)
  exact bodyPost_ret (v := .agg (lv x)) (results_cell_row rfl _ _ (w.heap.size + 1) 50 (lv x) (0, 0) _ rfl K2.out Try.underlying50 rfl (size_lv x)) rfl ⟨rfl, HB.out⟩
/-- A reference's pool in memory: a slice in a cell, a row of its own; G: its blocks. -/
structure RfM (g : Nat) (G : Nat → Prop) (V : List Sg) (w : World) : Prop where
  ex : ∃ v, w.heap[g]? = some (.cells #[v] 31 (0, 0)) ∧ w.ownsRow 0 42 101 v V.length (rws sgC V) ∧ ∀ k, v.ownBlock = some k → G k ∧ k ≠ g
  at_ : G g
  fin : ∀ k, G k → k < w.heap.size
theorem RfM.keep {g : Nat} {G : Nat → Prop} {V : List Sg} {w w' : World} (h : RfM g G V w) (hk : ∀ k, G k → w'.heap[k]? = w.heap[k]?) (hs : w.heap.size ≤ w'.heap.size) : RfM g G V w' := by
  obtain ⟨v, h1, h2, h3⟩ := h.ex
  exact ⟨⟨v, (hk g h.at_).trans h1, ownKeep h2 (fun k e => hk k (h3 k e).1), h3⟩, h.at_, fun k e => Nat.lt_of_lt_of_le (h.fin k e) hs⟩
theorem RfM.below {g : Nat} {G : Nat → Prop} {V : List Sg} {w w' : World} (h : RfM g G V w) (hb : Below w.heap.size w w') : RfM g G V w' := h.keep (fun k e => hb.block k (h.fin k e)) hb.size
theorem RfM.kept {g : Nat} {F G : Nat → Prop} {V : List Sg} {w w' : World} (h : RfM g G V w) (hk : Kept F w w') (hF : ∀ k, G k → ¬ F k) : RfM g G V w' := h.keep (fun k e => hk.2.2.2.2 k (h.fin k e) (hF k e)) hk.2.2.2.1
/-- Where its votes lie. -/
theorem RfM.cells {g : Nat} {G : Nat → Prop} {V : List Sg} {w : World} (h : RfM g G V w) : ∃ A c, w.cell? ⟨g, 0, none⟩ = some (.slice A V.length c) ∧ ∀ (i : Nat) x, V[i]? = some x → ∃ b, A = some ⟨b, 0, none⟩ ∧ w.rangeAt b (i * 101) (sgC x) := by
  obtain ⟨v, h1, h2, h3⟩ := h.ex
  obtain ⟨A, c, rfl, _, _, hA⟩ := ownForm h2
  refine ⟨A, c, cell_of_row w g 0 _ _ (0, 0) h1, fun i x hx => ?_⟩
  rcases hA with rfl | ⟨b, rfl, _, _⟩
  · rcases h2.2 with ⟨e, h0⟩ | ⟨b, cap, cur, e, _⟩
    · injection e with _ e1 _
      have := (List.getElem?_eq_some_iff.1 hx).1
      omega
    · cases e
  · exact ⟨b, rfl, rws_cells sgC_len h2 hx⟩
noncomputable def rw_r5C : Code := ((Try.f29.body.bind (regionOf 5))).getD .skip
set_option maxRecDepth 1000000 in
set_option maxHeartbeats 8000000 in
theorem rw_r5 (c1 c2 c4 c5 c7 c8 c9 c10 c11 c12 c13 c14 c15 c16 c17 c18 c19 c20 c21 c22 c23 c24 c25 c26 c27 c28 c29 c30 c31 c32 c33 c34 c35 c36 c37 : Value) (w : World) (g b gl n c i : Nat) (x : Sg) (l : Lk) (hi : i < n) (hc : w.cell? ⟨g, 0, none⟩ = some (.slice (some ⟨b, 0, none⟩) n c)) (hx : w.rangeAt b (i * 101) (sgC x)) (hl : LkB gl l w)
    (Q : Exit → Act → World → Prop) (hQ : ∀ (u16 u17 u18 u19 u20 u21 u22 u23 u24 u25 : Value) (w' : World), Below w.heap.size w w' → Q .normal ⟨#[.pointer (some ⟨g, 0, none⟩), c1, c2, .pointer (some ⟨gl, 0, none⟩), c4, c5, .int .i64 (i : Int), c7, c8, c9, c10, c11, c12, c13, c14, c15, u16, u17, u18, u19, u20, u21, u22, u23, u24, u25, .bool (decide (x.k = l)), c27, c28, c29, c30, c31, c32, c33, c34, c35, c36, c37], []⟩ w') :
    Code.wp Try.prog rw_r5C Q ⟨#[.pointer (some ⟨g, 0, none⟩), c1, c2, .pointer (some ⟨gl, 0, none⟩), c4, c5, .int .i64 (i : Int), c7, c8, c9, c10, c11, c12, c13, c14, c15, c16, c17, c18, c19, c20, c21, c22, c23, c24, c25, c26, c27, c28, c29, c30, c31, c32, c33, c34, c35, c36, c37], []⟩ w := by
  conv => arg 2; whnf
  try dsimp only at hQ ⊢
  have q1 : (i : Int) < (n : Int) := by omega
  obtain ⟨w2, hw2⟩ : ∃ w2, w2 = w.drew := ⟨_, rfl⟩
  have BX : Hid (Below w.heap.size w w2) := by rw [hw2]; exact (Below.refl _ _).drew
  have KP : Hid (∀ u : World, Below w.heap.size w u → u.cell? ⟨g, 0, none⟩ = some (.slice (some ⟨b, 0, none⟩) n c) ∧ u.rangeAt b (i * 101) (sgC x) ∧ LkB gl l u) := fun u hu => ⟨(hu.cell (p := ⟨g, 0, none⟩) (World.block_lt_of_cell? w _ hc)).trans hc, fun j v hv => (hu.cell (p := ⟨b, i * 101 + j, none⟩) (World.block_lt_of_cell? w _ (hx j v hv))).trans (hx j v hv), hl.below hu hl.lt⟩
  clear hc hx hl
  refine wp_region_noPanic ?_
  refine wp_region_held_drew (S := (fun u => u.cell? ⟨g, 0, none⟩ = some (.slice (some ⟨b, 0, none⟩) n c) ∧ u.rangeAt b (i * 101) (sgC x) ∧ LkB gl l u)) (by kernel_rfl) (by rw [← hw2]; exact KP.out _ BX.out) (fun hHeld => ?_)
  rw [← hw2]
  rw [← hw2] at hHeld
  clear hw2
  refine takeH (i := 0) (d := 16) (oi := _) (v := .pointer (some ⟨g, 0, none⟩)) rfl (by kernel_rfl) (by kernel_rfl) (by kernel_rfl) (by kernel_rfl) (fun _ _ _ h => h) (Or.inl ⟨by kernel_rfl, by intro u hSw; clear hSw; go_simp⟩) hHeld ?_
  try simp only [List.setIfInBounds_toArray, List.set_cons_zero, List.set_cons_succ]
  refine takeH (i := 1) (d := 17) (oi := _) (v := .pointer (some ⟨g, 0, none⟩)) rfl (by kernel_rfl) (by kernel_rfl) (by kernel_rfl) (by kernel_rfl) (fun _ _ _ h => h) (Or.inl ⟨by kernel_rfl, by intro u hSw; clear hSw; go_simp⟩) hHeld ?_
  try simp only [List.setIfInBounds_toArray, List.set_cons_zero, List.set_cons_succ]
  refine takeH (i := 2) (d := 18) (oi := _) (v := .pointer (some ⟨g, 0, none⟩)) rfl (by kernel_rfl) (by kernel_rfl) (by kernel_rfl) (by kernel_rfl) (fun _ _ _ h => h) (Or.inl ⟨by kernel_rfl, by intro u hSw; clear hSw; go_simp⟩) hHeld ?_
  try simp only [List.setIfInBounds_toArray, List.set_cons_zero, List.set_cons_succ]
  refine takeH (i := 3) (d := 19) (oi := _) (v := .slice (some ⟨b, 0, none⟩) n c) rfl (by kernel_rfl) (by kernel_rfl) (by kernel_rfl) (by kernel_rfl) (fun _ _ _ h => h) (Or.inl ⟨by kernel_rfl, by intro u hSw; (have hc := hSw.1; clear hSw; go_simp)⟩) hHeld ?_
  try simp only [List.setIfInBounds_toArray, List.set_cons_zero, List.set_cons_succ]
  refine takeH (i := 4) (d := 20) (oi := _) (v := .int .i64 (i : Int)) rfl (by kernel_rfl) (by kernel_rfl) (by kernel_rfl) (by kernel_rfl) (fun _ _ _ h => h) (Or.inl ⟨by kernel_rfl, by intro u hSw; clear hSw; go_simp⟩) hHeld ?_
  try simp only [List.setIfInBounds_toArray, List.set_cons_zero, List.set_cons_succ]
  refine takeH (i := 5) (d := 21) (oi := _) (v := .pointer (some ⟨b, (i * 101), none⟩)) rfl (by kernel_rfl) (by kernel_rfl) (by kernel_rfl) (by kernel_rfl) (fun _ _ _ h => h) (Or.inl ⟨by kernel_rfl, by intro u hSw; clear hSw; go_simp⟩) hHeld ?_
  try simp only [List.setIfInBounds_toArray, List.set_cons_zero, List.set_cons_succ]
  refine takeH (i := 6) (d := 22) (oi := _) (v := .pointer (some ⟨b, (i * 101), none⟩)) rfl (by kernel_rfl) (by kernel_rfl) (by kernel_rfl) (by kernel_rfl) (fun _ _ _ h => h) (Or.inl ⟨by kernel_rfl, by intro u hSw; clear hSw; go_simp⟩) hHeld ?_
  try simp only [List.setIfInBounds_toArray, List.set_cons_zero, List.set_cons_succ]
  refine takeH (i := 7) (d := 23) (oi := _) (v := .agg (vtw x.n x.k x.sv)) rfl (by kernel_rfl) (by kernel_rfl) (by kernel_rfl) (by kernel_rfl) (fun _ _ _ h => h) (yieldsIf_load_midC (by kernel_rfl) _ _ rfl (b) (i * 101) rfl (vtC x.n x.k x.sv) (vtw x.n x.k x.sv) (vtC_arr x.n x.k x.sv) _ (fun u hSw => sg_vote hSw.2.1) Try.underlying40 rfl (size_vtw x.n x.k x.sv)) hHeld ?_
  try simp only [List.setIfInBounds_toArray, List.set_cons_zero, List.set_cons_succ]
  refine takeH (i := 9) (d := 25) (oi := _) (v := .agg (lv l)) rfl (by kernel_rfl) (by kernel_rfl) (by kernel_rfl) (by kernel_rfl) (fun _ _ _ h => h) (yieldsIf_load_midC (by kernel_rfl) _ _ rfl (gl) 0 rfl (lC l) (lv l) (lC_arr l) _ (fun u hSw => hSw.2.2.all) Try.underlying50 rfl (size_lv l)) hHeld ?_
  try simp only [List.setIfInBounds_toArray, List.set_cons_zero, List.set_cons_succ]
  refine wpAnyH_ready (rs := [8]) (by kernel_rfl) (by simp) ?_
  refine AllReadyH.cons (o := _) rfl (fun K hK => ?_) (AllReadyH.nil)
  go_simp
  go_at_call 30
  refine (refLinkOf_c x.n x.k x.sv _).mono ?_
  rintro e w2 ⟨rfl, b2⟩
  have BX := Lib.hid (BX.out.trans (b2.mono BX.out.size))
  clear b2
  go_simp
  refine hK.out _ _ (KP.out _ BX.out) (fun hHeld => ?_)
  clear hK K
  try simp only [Act.put, List.setIfInBounds_toArray, List.set_cons_zero, List.set_cons_succ]
  refine takeH (i := 10) (d := 26) (oi := _) (v := .bool (decide (x.k = l))) rfl (by kernel_rfl) (by kernel_rfl) (by kernel_rfl) (by kernel_rfl) (fun _ _ _ h => h) (yieldsIf_eql (by kernel_rfl) 50 50 (.tmp 24) (.tmp 25) rfl (lv x.k) (lv l) rfl rfl guard_link _ (eq_link x.k l)) hHeld ?_
  try simp only [List.setIfInBounds_toArray, List.set_cons_zero, List.set_cons_succ]
  refine wpAnyH_done (by kernel_rfl) ?_ _
  refine NoPanic.normal ?_
  exact hQ _ _ _ _ _ _ _ _ _ _ _ BX.out
theorem ret_u64 {a b : Int} (h : a = b) : Ending.returned (.int .u64 a) = Ending.returned (.int .u64 b) := by rw [h]
/-- What a link weighs, of a list of votes. -/
def wtV (V : List Sg) (l : Lk) : Nat := ((V.filter (fun x => decide (x.k = l))).map (·.st)).sum
theorem wtV_more (V : List Sg) (x : Sg) (l : Lk) : wtV (V ++ [x]) l = wtV V l + if x.k = l then x.st else 0 := by
  unfold wtV
  rw [List.filter_append, List.map_append, List.sum_append]
  by_cases e : x.k = l
  · rw [if_pos e, List.filter_cons_of_pos (by simp [e])]
    simp
  · rw [if_neg e, List.filter_cons_of_neg (by simp [e])]
    simp
theorem wtV_le (V : List Sg) (l : Lk) (h : ∀ x ∈ V, x.st ≤ 4294967296) : wtV V l ≤ 4294967296 * V.length := by
  induction V with
  | nil => simp [wtV]
  | cons x r ih =>
    have h1 := h x (by simp)
    have h2 := ih (fun y hy => h y (by simp [hy]))
    unfold wtV at h2 ⊢
    rw [List.length_cons]
    by_cases e : x.k = l
    · rw [List.filter_cons_of_pos (by simp [e])]
      simp only [List.map_cons, List.sum_cons]
      omega
    · rw [List.filter_cons_of_neg (by simp [e])]
      omega
set_option maxHeartbeats 8000000 in
theorem refWeight_c {g : Nat} {G : Nat → Prop} {V : List Sg} {w : World} (h : RfM g G V w) (l : Lk) (hst : ∀ x ∈ V, x.st ≤ 4294967296) (hl : V.length ≤ 100000) : Calls Try.prog 29 #[.pointer (some ⟨g, 0, none⟩), .agg (lv l)] w fun e w' => e = .returned (.int .u64 (wtV V l : Int)) ∧ Below w.heap.size w w' := by
  obtain ⟨W, hW⟩ : ∃ W, W = w.alloc (.cells (lv l) 50) := ⟨_, rfl⟩
  have hB : Below w.heap.size w W := by rw [hW]; exact (Below.refl _ _).alloc (Nat.le_refl _) _
  have L1 : Hid (LkB w.heap.size l W) := by rw [hW]; exact LkB.new
  have R1 := Lib.hid (h.below hB)
  have HB := Lib.hid hB
  have HW := Lib.hid hW
  have HST := Lib.hid hst
  obtain ⟨n, hn⟩ : ∃ n, n = V.length := ⟨_, rfl⟩
  have HN := Lib.hid hn
  have hn9 : n ≤ 100000 := by omega
  clear hW hB h hst hn hl
  go_enter Try.func29, Try.ntmps29
  go_wp2_with fail
  rw [← HW.out]
  go_loopw [5, 6] (fun v5 v6 u => ∃ (i s : Nat), i ≤ n ∧ v6 = .int .i64 (i : Int) ∧ v5 = .int .u64 (s : Int) ∧ s = wtV (V.take i) l ∧ Below W.heap.size W u) (fun _ v6 _ => n - (intOf v6).toNat)
  case atStart => exact ⟨0, 0, Nat.zero_le _, rfl, rfl, rfl, Below.refl _ _⟩
  case round =>
    obtain ⟨i, s, hi, rfl, rfl, hs, hb⟩ := hrel
    have HS := Lib.hid hs
    have BX := Lib.hid hb
    clear hs hb
    obtain ⟨A, c, hc, hrow⟩ := (R1.out.below BX.out).cells
    rw [← HN.out] at hc
    have HR := Lib.hid hrow
    clear hrow
    by_cases hin : i < n
    · obtain ⟨x, hx⟩ : ∃ x, V[i]? = some x := ⟨_, List.getElem?_eq_getElem (by have := HN.out; omega)⟩
      obtain ⟨b, rfl, rx⟩ := HR.out i x hx
      have HX := Lib.hid hx
      have HT := Lib.hid (show wtV (V.take (i + 1)) l = s + if x.k = l then x.st else 0 by rw [List.take_add_one, hx, HS.out]; exact wtV_more _ x l)
      have hs9 : s ≤ 4294967296 * 100000 := by
        have h1 := wtV_le (V.take i) l (fun y hy => HST.out y (List.mem_of_mem_take hy))
        rw [List.length_take, ← HS.out] at h1
        have h3 := Nat.mul_le_mul_left 4294967296 (show min i V.length ≤ 100000 by omega)
        omega
      have hx9 : x.st ≤ 4294967296 := HST.out x (List.mem_of_getElem? hx)
      have RX := Lib.hid rx
      have q1 : (i : Int) < (n : Int) := by omega
      have HC := Lib.hid hc
      clear hx rx
      go_wp2_with fail
      refine rw_r5 _ _ _ _ _ _ _ _ _ _ _ _ _ _ _ _ _ _ _ _ _ _ _ _ _ _ _ _ _ _ _ _ _ _ _ _ g b w.heap.size n c i x l hin HC.out RX.out (L1.out.below BX.out L1.out.lt) _ ?_
      intro u0 u1 u2 u3 u4 u5 u6 u7 u8 u9 w5 b5
      have BX5 := Lib.hid (BX.out.trans (b5.mono BX.out.size))
      have hc5 : w5.cell? ⟨g, 0, none⟩ = some (.slice (some ⟨b, 0, none⟩) n c) := (b5.cell (p := ⟨g, 0, none⟩) (World.block_lt_of_cell? _ _ HC.out)).trans HC.out
      have st5 : w5.cell? ⟨b, i * 101 + 100, none⟩ = some (.int .u64 (x.st : Int)) := (b5.cell (p := ⟨b, i * 101 + 100, none⟩) (World.block_lt_of_cell? _ _ (sg_stake RX.out))).trans (sg_stake RX.out)
      clear b5 hc
      by_cases he : x.k = l
      · have d1 : decide (x.k = l) = true := decide_eq_true he
        have HT2 := Lib.hid (show s + x.st = wtV (V.take (i + 1)) l by rw [HT.out, if_pos he])
        obtain ⟨st, hst⟩ : ∃ st, st = x.st := ⟨_, rfl⟩
        rw [← hst] at st5 HT2 hx9
        rw [d1]
        clear he d1 hst
        have hsum : s + st ≤ 18446744073709551615 := by omega
        go_wp2_with fail
        exact ⟨⟨i + 1, s + st, by omega, by go_num, rfl, HT2.out, BX5.out⟩, by simp [intOf]; omega⟩
      · have d1 : decide (x.k = l) = false := decide_eq_false he
        have HT2 := Lib.hid (show s = wtV (V.take (i + 1)) l by rw [HT.out, if_neg he]; rfl)
        rw [d1]
        clear he d1
        go_wp2_with fail
        exact ⟨⟨i + 1, s, by omega, by go_num, rfl, HT2.out, BX5.out⟩, by simp [intOf]; omega⟩
    · obtain rfl : i = n := by omega
      have HE := Lib.hid (show (s : Int) = (wtV V l : Int) by rw [HS.out, HN.out, List.take_length])
      go_wp2_with fail
      go_ret
      exact ⟨ret_u64 HE.out, HB.out.trans (BX.out.mono HB.out.size)⟩
end Go.Proofs.Ytomfgopmgfoecaa
