/- The chapter's rows are answered. -/
import Derived.Test.YthlbpjkopkicbaaFgKn0
namespace Go.Proofs.Ythlbpjkopkicbaa
open Go.ChangeMaps Go.MapKept Go.Maps Go.WideElems Go.RowKit
set_option linter.unusedVariables false
set_option maxRecDepth 100000

theorem wp_build_as' {P : Program} {o : Oper} {a : Act} {w : World} {K : Act → World → Prop} {Q : Exit → Act → World → Prop} (t : TypeId) (parts : Array (Nat × Operand)) (ho : o.op = .build t parts)
    (L : List (Nat × Value)) (C : Array Value) (hC : P.built t L = some C) (hL : (parts.map fun (i, x) => (i, a.eval x)).toList = L)
    (h : K (a.put o.dst (.agg C)) w) : o.wp P a w K Q :=
  wp_build t parts ho (by rw [hL, hC]; rfl) (by rw [hL, hC]; exact h)
theorem yieldsIf_build {P : Program} {ops : Array Oper} {S : World → Prop} {op : Oper} {a : Act} (hw : Region.wanted op (yielded ops a.tmps) = true) (t : TypeId) (parts : Array (Nat × Operand)) (ho : op.op = .build t parts)
    (L : List (Nat × Value)) (R : Array Value) (hB : P.built t L = some R) (hL : (parts.map fun (i, x) => (i, a.eval x)).toList = L) : YieldsIf P ops S op (.agg R) a :=
  Or.inl ⟨hw, fun w _ => by
    unfold execOp
    simp only [ho, Sem.run_bind, run_build w t _ R (by rw [hL]; exact hB), Result.andThen_ok]
    rfl⟩
theorem GaB.lt {g s : Nat} {w : World} (h : GaB g s w) : g < w.heap.size := by
  rcases Nat.lt_or_ge g w.heap.size with h' | h'
  · exact h'
  · have h2 : w.heap[g]? = some _ := h
    rw [Array.getElem?_eq_none h'] at h2
    cases h2
theorem eq_h9 (l : List UInt8) (hl : l.length = 32) (w : World) : (Op.equalIn 9999 27 (.agg (hashV l)) (.agg (hashV l))).run Try.prog w = .ok true w := by
  have := eq_hashD 9997 l l hl hl w
  rw [beq_self_eq_true] at this
  exact this
set_option maxRecDepth 1000000 in
set_option maxHeartbeats 8000000 in
theorem known_c (w : World) : Calls Try.prog 11 #[] w fun e w' => e = .returned (.bool true) ∧ Below w.heap.size w w' := by
  have hzp := zero_pt
  obtain ⟨W0, hW0⟩ : ∃ W0, W0 = w.alloc (.cells (pv ptZ) 29) := ⟨_, rfl⟩
  obtain ⟨W1, hW1⟩ : ∃ W1, W1 = W0.alloc (.cells (pv ptZ) 29) := ⟨_, rfl⟩
  obtain ⟨W2, hW2⟩ : ∃ W2, W2 = W1.alloc (.cells (pv ptZ) 29) := ⟨_, rfl⟩
  have z0 : W0.heap.size = w.heap.size + 1 := by rw [hW0]; simp
  have z1 : W1.heap.size = W0.heap.size + 1 := by rw [hW1]; simp
  have z2 : W2.heap.size = W1.heap.size + 1 := by rw [hW2]; simp
  have b0 : Below w.heap.size w W0 := by rw [hW0]; exact (Below.refl _ _).alloc (Nat.le_refl _) _
  have b1 : Below W0.heap.size W0 W1 := by rw [hW1]; exact (Below.refl _ _).alloc (Nat.le_refl _) _
  have b2 : Below W1.heap.size W1 W2 := by rw [hW2]; exact (Below.refl _ _).alloc (Nat.le_refl _) _
  have e0 : W2.heap[w.heap.size]? = some (.cells (pv ptZ) 29 (0, 0)) := (b2.block _ (by omega)).trans ((b1.block _ (by omega)).trans (by rw [hW0]; exact heap_alloc_new w _))
  have e1 : W2.heap[w.heap.size + 1]? = some (.cells (pv ptZ) 29 (0, 0)) := (b2.block _ (by omega)).trans (by rw [← z0, hW1]; exact heap_alloc_new W0 _)
  have e2 : W2.heap[w.heap.size + 1 + 1]? = some (.cells (pv ptZ) 29 (0, 0)) := by rw [← z0, ← z1, hW2]; exact heap_alloc_new W1 _
  obtain ⟨W3, hW3⟩ : ∃ W3, W3 = W2.setRow w.heap.size (pv kA) := ⟨_, rfl⟩
  obtain ⟨W4, hW4⟩ : ∃ W4, W4 = W3.setRow (w.heap.size + 1) (pv kB) := ⟨_, rfl⟩
  obtain ⟨W5, hW5⟩ : ∃ W5, W5 = W4.setRow (w.heap.size + 1 + 1) (pv kC) := ⟨_, rfl⟩
  have e1' : W3.heap[w.heap.size + 1]? = some (.cells (pv ptZ) 29 (0, 0)) := by rw [hW3]; exact (setRow_other _ _ _ _ (by omega)).trans e1
  have e2' : W4.heap[w.heap.size + 1 + 1]? = some (.cells (pv ptZ) 29 (0, 0)) := by rw [hW4, setRow_other _ _ _ _ (by omega), hW3]; exact (setRow_other _ _ _ _ (by omega)).trans e2
  have B5 : Hid (Below w.heap.size w W5) := by
    rw [hW5]
    refine below_setRow ?_ (by omega) _
    rw [hW4]
    refine below_setRow ?_ (by omega) _
    rw [hW3]
    exact below_setRow ((b0.trans (b1.mono (by omega))).trans (b2.mono (by omega))) (by omega) _
  have PA : Hid (PkB w.heap.size kA W5) := by
    refine Fill.of_row ?_
    rw [hW5, setRow_other _ _ _ _ (by omega), hW4, setRow_other _ _ _ _ (by omega), hW3]
    exact setRow_heap _ _ _ _ _ _ e0
  have PB : Hid (PkB (w.heap.size + 1) kB W5) := by
    refine Fill.of_row ?_
    rw [hW5, setRow_other _ _ _ _ (by omega), hW4]
    exact setRow_heap _ _ _ _ _ _ e1'
  have PC : Hid (PkB (w.heap.size + 1 + 1) kC W5) := by
    refine Fill.of_row ?_
    rw [hW5]
    exact setRow_heap _ _ _ _ _ _ e2'
  have S5 := Lib.hid (show w.heap.size + 3 ≤ W5.heap.size by have := PC.out.lt; omega)
  have HW0 := Lib.hid hW0
  have HW1 := Lib.hid hW1
  have HW2 := Lib.hid hW2
  have HW3 := Lib.hid hW3
  have HW4 := Lib.hid hW4
  have HW5 := Lib.hid hW5
  have Z := Lib.hid (And.intro z0 (And.intro z1 z2))
  clear hW0 hW1 hW2 hW3 hW4 hW5 b0 b1 b2 z0 z1 z2
  go_enter Try.func11, Try.ntmps11
  go_wp2_with (first
    | (refine wpList_build_as' rfl 29 #[(0, .const (.int .u64 5))] rfl _ _ built_kA (by kernel_rfl) ?_)
    | (refine wpList_build_as' rfl 27 #[(0, .const (.int .u8 1))] rfl _ _ built_h1 (by kernel_rfl) ?_)
    | (refine wpList_build_as' rfl 29 #[(0, .const (.int .u64 7)), (1, .tmp 7)] rfl _ _ (built_pt 7 kB.l) (by kernel_rfl) ?_)
    | (refine wpList_build_as' rfl 27 #[(0, .const (.int .u8 2))] rfl _ _ built_h2 (by kernel_rfl) ?_)
    | (refine wpList_build_as' rfl 29 #[(0, .const (.int .u64 8)), (1, .tmp 9)] rfl _ _ (built_pt 8 kC.l) (by kernel_rfl) ?_)
    | (refine wpList_store_row rfl 29 (.tmp 1) (.tmp 6) rfl (w.heap.size) (pv kA) rfl rfl 29 (pv ptZ) (by rw [← HW0.out, ← HW1.out, ← HW2.out]; exact e0) (size_pv kA) (by rw [show (pv kA).size = 33 from rowV_size _ _]; exact rowV_size _ _) (rowV_one 33 _ (pf_one kA)) ?_; rw [← HW0.out, ← HW1.out, ← HW2.out, ← HW3.out])
    | (refine wpList_store_row rfl 29 (.tmp 2) (.tmp 8) rfl (w.heap.size + 1) (pv kB) rfl rfl 29 (pv ptZ) e1' (size_pv kB) (by rw [show (pv kB).size = 33 from rowV_size _ _]; exact rowV_size _ _) (rowV_one 33 _ (pf_one kB)) ?_; rw [← HW4.out])
    | (refine wpList_store_row rfl 29 (.tmp 3) (.tmp 10) rfl (w.heap.size + 1 + 1) (pv kC) rfl rfl 29 (pv ptZ) e2' (size_pv kC) (by rw [show (pv kC).size = 33 from rowV_size _ _]; exact rowV_size _ _) (rowV_one 33 _ (pf_one kC)) ?_; rw [← HW5.out])
    | (refine wpList_load_row rfl 29 (.tmp 1) rfl w.heap.size rfl 29 (pv kA) (0, 0) _ PA.out.row Try.underlying29 rfl (size_pv kA) ?_)
    | fail)
  refine (new_ok kA W5 (by decide)).mono ?_
  rintro e w6 ⟨g, s, bt, bs, bw, F, rfl, b6, hF, hg, hgF, ga, fb⟩
  have FK6 : Hid (FgK g F (S0 kA) 1 0 1 w6) := ⟨s, bt, bs, bw, _, _, ga, hgF, ga.lt, fb, (fun p L h => by cases h), fb.waits.size⟩
  have B6 := Lib.hid (B5.out.trans (b6.mono B5.out.size))
  have PA6 := Lib.hid (PA.out.below b6 PA.out.lt)
  have PB6 := Lib.hid (PB.out.below b6 PB.out.lt)
  have PC6 := Lib.hid (PC.out.below b6 PC.out.lt)
  have HF : Hid (∀ k, F k → w.heap.size + 3 ≤ k) := fun k e => by have := hF k e; have := S5.out; omega
  have HG := Lib.hid (show w.heap.size + 3 ≤ g by have := S5.out; omega)
  have HGF := Lib.hid hgF
  clear b6 hF hg hgF ga fb
  have CS := Lib.hid (strong_c g F (S0 kA) 1 0 1 kBC w6 FK6.out (by omega) (by omega) (by omega) (by show 0 ≤ 1000000; omega))
  go_wp2_with (first
    | (refine BigFrame.wpList_want rfl (fun K hK => ?_); refine wp_load_midC 29 (.tmp 2) rfl (w.heap.size + 1) 0 rfl (pC kB) (pv kB) rfl _ PB6.out.all Try.underlying29 rfl (size_pv kB) ?_; refine hK _ _ ?_; clear hK K)
    | (refine BigFrame.wpList_want rfl (fun K hK => ?_); refine wp_load_midC 29 (.tmp 3) rfl (w.heap.size + 1 + 1) 0 rfl (pC kC) (pv kC) rfl _ PC6.out.all Try.underlying29 rfl (size_pv kC) ?_; refine hK _ _ ?_; clear hK K)
    | (refine BigFrame.wpList_want rfl (fun K hK => ?_); refine wp_build_as' 36 #[(0, .tmp 20), (1, .tmp 21)] rfl _ _ (built_lk kBC) (by kernel_rfl) ?_; refine hK _ _ ?_; clear hK K)
    | fail)
  refine CS.out.mono ?_
  rintro e w7 ⟨er, F7, S7, rfl, hs, fk7, kp7, n7, m7⟩
  obtain ⟨rfl, rfl⟩ := told_bc hs
  have FK7 := Lib.hid fk7
  have B7 := Lib.hid (B6.out.trans (kp7.below (by have := B6.out.size; omega) (fun k e => by have := HF.out k e; omega)))
  have PA7 : Hid (PkB w.heap.size kA w7) := kp7.fill PA6.out (fun e => by have := HF.out _ e; omega)
  have PB7 : Hid (PkB (w.heap.size + 1) kB w7) := kp7.fill PB6.out (fun e => by have := HF.out _ e; omega)
  have PC7 : Hid (PkB (w.heap.size + 1 + 1) kC w7) := kp7.fill PC6.out (fun e => by have := HF.out _ e; omega)
  have HF7 : Hid (∀ k, F7 k → w.heap.size + 3 ≤ k) := fun k e => (n7 k e).elim (HF.out k) (fun h => by have := PC6.out.lt; omega)
  have T1 : Hid (stN (putW (S0 kA) kBC).stands kB = 0 ∧ stN (putW (S0 kA) kBC).stands kC = 0) := by
    constructor <;> decide +kernel
  clear fk7 kp7 n7 m7 hs CS
  have CJ := Lib.hid (justified_c g _ _ _ kB w7 FK7.out.toM)
  rw [T1.out.1] at CJ
  go_wp2_with (first
    | (refine BigFrame.wpList_want rfl (fun K hK => ?_); refine wp_load_midC 29 (.tmp 2) rfl (w.heap.size + 1) 0 rfl (pC kB) (pv kB) rfl _ PB7.out.all Try.underlying29 rfl (size_pv kB) ?_; refine hK _ _ ?_; clear hK K)
    | fail)
  refine CJ.out.mono ?_
  rintro e w8 ⟨rfl, b8⟩
  have FK8 := Lib.hid (FK7.out.below b8)
  have B8 := Lib.hid (B7.out.trans (b8.mono B7.out.size))
  have PA8 := Lib.hid (PA7.out.below b8 PA7.out.lt)
  have PB8 := Lib.hid (PB7.out.below b8 PB7.out.lt)
  have PC8 := Lib.hid (PC7.out.below b8 PC7.out.lt)
  clear b8 CJ
  have CJ := Lib.hid (justified_c g _ _ _ kC w8 FK8.out.toM)
  rw [T1.out.2] at CJ
  go_wp2_with (first
    | (refine BigFrame.wpList_want rfl (fun K hK => ?_); refine wp_load_midC 29 (.tmp 3) rfl (w.heap.size + 1 + 1) 0 rfl (pC kC) (pv kC) rfl _ PC8.out.all Try.underlying29 rfl (size_pv kC) ?_; refine hK _ _ ?_; clear hK K)
    | fail)
  refine CJ.out.mono ?_
  rintro e w9 ⟨rfl, b9⟩
  have FK9 : Hid (FgK g F7 (putW (S0 kA) kBC) _ _ _ w9.drew) := (FK8.out.below b9).below ((Below.refl _ _).drew)
  have B9 : Hid (Below w.heap.size w w9.drew) := (B8.out.trans (b9.mono B8.out.size)).drew
  have P9 : Hid (PkB w.heap.size kA w9.drew ∧ PkB (w.heap.size + 1) kB w9.drew ∧ PkB (w.heap.size + 1 + 1) kC w9.drew) := ⟨PA8.out.below b9.drew PA8.out.lt, PB8.out.below b9.drew PB8.out.lt, PC8.out.below b9.drew PC8.out.lt⟩
  clear b9 CJ FK7 FK8 PA7 PB7 PC7 PA8 PB8 PC8 PA6 PB6 PC6 B5 B6 B7 B8
  have CS2 := Lib.hid (strong_c g F7 (putW (S0 kA) kBC) _ _ _ kAB w9.drew FK9.out (by omega) (by omega) (by omega) (by show 1 ≤ 1000000; omega))
  go_wp2_with fail
  rename_i K1 hK1
  refine wp_region_noPanic ?_
  refine wp_region_held_drew (S := (fun u => PkB w.heap.size kA u ∧ PkB (w.heap.size + 1) kB u ∧ PkB (w.heap.size + 1 + 1) kC u)) (by kernel_rfl) (P9.out) (fun hHeld => ?_)
  refine takeH (i := 0) (d := 36) (oi := _) (v := .pointer (some ⟨g, 0, none⟩)) rfl (by kernel_rfl) (by kernel_rfl) (by kernel_rfl) (by kernel_rfl) (fun _ _ _ h => h) (Or.inl ⟨by kernel_rfl, by intro u hSw; clear hSw; go_simp⟩) hHeld ?_
  try simp only [List.setIfInBounds_toArray, List.set_cons_zero, List.set_cons_succ]
  refine takeH (i := 1) (d := 37) (oi := _) (v := .agg (pv kA)) rfl (by kernel_rfl) (by kernel_rfl) (by kernel_rfl) (by kernel_rfl) (fun _ _ _ h => h) (yieldsIf_load_midC (by kernel_rfl) _ _ rfl (w.heap.size) 0 rfl (pC kA) (pv kA) (pC_arr kA) _ (fun u hSw => hSw.1.all) Try.underlying29 rfl (size_pv kA)) hHeld ?_
  try simp only [List.setIfInBounds_toArray, List.set_cons_zero, List.set_cons_succ]
  refine takeH (i := 2) (d := 38) (oi := _) (v := .agg (pv kB)) rfl (by kernel_rfl) (by kernel_rfl) (by kernel_rfl) (by kernel_rfl) (fun _ _ _ h => h) (yieldsIf_load_midC (by kernel_rfl) _ _ rfl (w.heap.size + 1) 0 rfl (pC kB) (pv kB) (pC_arr kB) _ (fun u hSw => hSw.2.1.all) Try.underlying29 rfl (size_pv kB)) hHeld ?_
  try simp only [List.setIfInBounds_toArray, List.set_cons_zero, List.set_cons_succ]
  refine takeH (i := 3) (d := 39) (oi := _) (v := .agg (lv kAB)) rfl (by kernel_rfl) (by kernel_rfl) (by kernel_rfl) (by kernel_rfl) (fun _ _ _ h => h) (yieldsIf_build (by kernel_rfl) 36 #[(0, .tmp 37), (1, .tmp 38)] rfl _ _ (built_lk kAB) (by kernel_rfl)) hHeld ?_
  try simp only [List.setIfInBounds_toArray, List.set_cons_zero, List.set_cons_succ]
  refine wpAnyH_ready (rs := [4]) (by kernel_rfl) (by simp) ?_
  refine AllReadyH.cons (o := _) rfl (fun K hK => ?_) (AllReadyH.nil)
  go_simp
  go_at_call 13
  refine CS2.out.mono ?_
  rintro e w10 ⟨er, F8, S8, rfl, hs, fk8, kp8, n8, m8⟩
  obtain ⟨rfl, rfl⟩ := told_ab hs
  have FK := Lib.hid fk8
  have B10 := Lib.hid (B9.out.trans (kp8.below (by have := B9.out.size; omega) (fun k e => by have := HF7.out k e; omega)))
  have P10 : Hid (PkB w.heap.size kA w10 ∧ PkB (w.heap.size + 1) kB w10 ∧ PkB (w.heap.size + 1 + 1) kC w10) := ⟨kp8.fill P9.out.1 (fun e => by have := HF7.out _ e; omega), kp8.fill P9.out.2.1 (fun e => by have := HF7.out _ e; omega), kp8.fill P9.out.2.2 (fun e => by have := HF7.out _ e; omega)⟩
  have M := Lib.hid fk8.toM
  clear fk8 kp8 n8 m8 hs CS2
  go_simp
  refine hK.out _ _ (P10.out) (fun hHeld => ?_)
  clear hK K
  try simp only [Act.put, List.setIfInBounds_toArray, List.set_cons_zero, List.set_cons_succ]
  refine takeH (i := 5) (d := 41) (oi := _) (v := .bool true) rfl (by kernel_rfl) (by kernel_rfl) (by kernel_rfl) (by kernel_rfl) (fun _ _ _ h => h) (Or.inl ⟨by kernel_rfl, by intro u hSw; clear hSw; go_simp⟩) hHeld ?_
  try simp only [List.setIfInBounds_toArray, List.set_cons_zero, List.set_cons_succ]
  refine takeH (i := 6) (d := 42) (oi := _) (v := .bool true) rfl (by kernel_rfl) (by kernel_rfl) (by kernel_rfl) (by kernel_rfl) (fun _ _ _ h => h) (Or.inl ⟨by kernel_rfl, by intro u hSw; clear hSw; go_simp⟩) hHeld ?_
  try simp only [List.setIfInBounds_toArray, List.set_cons_zero, List.set_cons_succ]
  refine takeH (i := 7) (d := 43) (oi := _) (v := .pointer (some ⟨g, 0, none⟩)) rfl (by kernel_rfl) (by kernel_rfl) (by kernel_rfl) (by kernel_rfl) (fun _ _ _ h => h) (Or.inl ⟨by kernel_rfl, by intro u hSw; clear hSw; go_simp⟩) hHeld ?_
  try simp only [List.setIfInBounds_toArray, List.set_cons_zero, List.set_cons_succ]
  refine takeH (i := 8) (d := 44) (oi := _) (v := .agg (pv kB)) rfl (by kernel_rfl) (by kernel_rfl) (by kernel_rfl) (by kernel_rfl) (fun _ _ _ h => h) (yieldsIf_load_midC (by kernel_rfl) _ _ rfl (w.heap.size + 1) 0 rfl (pC kB) (pv kB) (pC_arr kB) _ (fun u hSw => hSw.2.1.all) Try.underlying29 rfl (size_pv kB)) hHeld ?_
  try simp only [List.setIfInBounds_toArray, List.set_cons_zero, List.set_cons_succ]
  refine wpAnyH_ready (rs := [9]) (by kernel_rfl) (by simp) ?_
  refine AllReadyH.cons (o := _) rfl (fun K hK => ?_) (AllReadyH.nil)
  go_simp
  go_at_call 22
  refine ((justified_c g _ _ _ kB w10 M.out).mono ?_)
  rintro e w11 ⟨rfl, b11⟩
  have B11 := Lib.hid (B10.out.trans (b11.mono B10.out.size))
  have P11 : Hid (PkB w.heap.size kA w11 ∧ PkB (w.heap.size + 1) kB w11 ∧ PkB (w.heap.size + 1 + 1) kC w11) := ⟨P10.out.1.below b11 P10.out.1.lt, P10.out.2.1.below b11 P10.out.2.1.lt, P10.out.2.2.below b11 P10.out.2.2.lt⟩
  have M := Lib.hid (M.out.below b11)
  clear b11
  rw [st_b]
  go_simp
  refine hK.out _ _ (P11.out) (fun hHeld => ?_)
  clear hK K
  try simp only [Act.put, List.setIfInBounds_toArray, List.set_cons_zero, List.set_cons_succ]
  refine takeH (i := 10) (d := 46) (oi := _) (v := .bool true) rfl (by kernel_rfl) (by kernel_rfl) (by kernel_rfl) (by kernel_rfl) (fun _ _ _ h => h) (Or.inl ⟨by kernel_rfl, by intro u hSw; clear hSw; go_simp⟩) hHeld ?_
  try simp only [List.setIfInBounds_toArray, List.set_cons_zero, List.set_cons_succ]
  refine takeH (i := 11) (d := 47) (oi := _) (v := .bool true) rfl (by kernel_rfl) (by kernel_rfl) (by kernel_rfl) (by kernel_rfl) (fun _ _ _ h => h) (Or.inl ⟨by kernel_rfl, by intro u hSw; clear hSw; go_simp⟩) hHeld ?_
  try simp only [List.setIfInBounds_toArray, List.set_cons_zero, List.set_cons_succ]
  refine takeH (i := 12) (d := 48) (oi := _) (v := .pointer (some ⟨g, 0, none⟩)) rfl (by kernel_rfl) (by kernel_rfl) (by kernel_rfl) (by kernel_rfl) (fun _ _ _ h => h) (Or.inl ⟨by kernel_rfl, by intro u hSw; clear hSw; go_simp⟩) hHeld ?_
  try simp only [List.setIfInBounds_toArray, List.set_cons_zero, List.set_cons_succ]
  refine takeH (i := 13) (d := 49) (oi := _) (v := .agg (pv kC)) rfl (by kernel_rfl) (by kernel_rfl) (by kernel_rfl) (by kernel_rfl) (fun _ _ _ h => h) (yieldsIf_load_midC (by kernel_rfl) _ _ rfl (w.heap.size + 1 + 1) 0 rfl (pC kC) (pv kC) (pC_arr kC) _ (fun u hSw => hSw.2.2.all) Try.underlying29 rfl (size_pv kC)) hHeld ?_
  try simp only [List.setIfInBounds_toArray, List.set_cons_zero, List.set_cons_succ]
  refine wpAnyH_ready (rs := [14]) (by kernel_rfl) (by simp) ?_
  refine AllReadyH.cons (o := _) rfl (fun K hK => ?_) (AllReadyH.nil)
  go_simp
  go_at_call 22
  refine ((justified_c g _ _ _ kC w11 M.out).mono ?_)
  rintro e w12 ⟨rfl, b12⟩
  have B12 := Lib.hid (B11.out.trans (b12.mono B11.out.size))
  have P12 : Hid (PkB w.heap.size kA w12 ∧ PkB (w.heap.size + 1) kB w12 ∧ PkB (w.heap.size + 1 + 1) kC w12) := ⟨P11.out.1.below b12 P11.out.1.lt, P11.out.2.1.below b12 P11.out.2.1.lt, P11.out.2.2.below b12 P11.out.2.2.lt⟩
  have M := Lib.hid (M.out.below b12)
  clear b12
  rw [st_c]
  go_simp
  refine hK.out _ _ (P12.out) (fun hHeld => ?_)
  clear hK K
  try simp only [Act.put, List.setIfInBounds_toArray, List.set_cons_zero, List.set_cons_succ]
  refine takeH (i := 15) (d := 51) (oi := _) (v := .bool true) rfl (by kernel_rfl) (by kernel_rfl) (by kernel_rfl) (by kernel_rfl) (fun _ _ _ h => h) (Or.inl ⟨by kernel_rfl, by intro u hSw; clear hSw; go_simp⟩) hHeld ?_
  try simp only [List.setIfInBounds_toArray, List.set_cons_zero, List.set_cons_succ]
  refine takeH (i := 16) (d := 52) (oi := _) (v := .bool true) rfl (by kernel_rfl) (by kernel_rfl) (by kernel_rfl) (by kernel_rfl) (fun _ _ _ h => h) (Or.inl ⟨by kernel_rfl, by intro u hSw; clear hSw; go_simp⟩) hHeld ?_
  try simp only [List.setIfInBounds_toArray, List.set_cons_zero, List.set_cons_succ]
  refine takeH (i := 17) (d := 53) (oi := _) (v := .pointer (some ⟨g, 0, none⟩)) rfl (by kernel_rfl) (by kernel_rfl) (by kernel_rfl) (by kernel_rfl) (fun _ _ _ h => h) (Or.inl ⟨by kernel_rfl, by intro u hSw; clear hSw; go_simp⟩) hHeld ?_
  try simp only [List.setIfInBounds_toArray, List.set_cons_zero, List.set_cons_succ]
  refine takeH (i := 18) (d := 54) (oi := _) (v := .agg (pv kA)) rfl (by kernel_rfl) (by kernel_rfl) (by kernel_rfl) (by kernel_rfl) (fun _ _ _ h => h) (yieldsIf_load_midC (by kernel_rfl) _ _ rfl (w.heap.size) 0 rfl (pC kA) (pv kA) (pC_arr kA) _ (fun u hSw => hSw.1.all) Try.underlying29 rfl (size_pv kA)) hHeld ?_
  try simp only [List.setIfInBounds_toArray, List.set_cons_zero, List.set_cons_succ]
  refine wpAnyH_ready (rs := [19]) (by kernel_rfl) (by simp) ?_
  refine AllReadyH.cons (o := _) rfl (fun K hK => ?_) (AllReadyH.nil)
  go_simp
  go_at_call 23
  refine ((final_c g _ _ _ kA w12 M.out).mono ?_)
  rintro e w13 ⟨rfl, b13⟩
  have B13 := Lib.hid (B12.out.trans (b13.mono B12.out.size))
  have P13 : Hid (PkB w.heap.size kA w13 ∧ PkB (w.heap.size + 1) kB w13 ∧ PkB (w.heap.size + 1 + 1) kC w13) := ⟨P12.out.1.below b13 P12.out.1.lt, P12.out.2.1.below b13 P12.out.2.1.lt, P12.out.2.2.below b13 P12.out.2.2.lt⟩
  have M := Lib.hid (M.out.below b13)
  clear b13
  rw [st_a]
  go_simp
  refine hK.out _ _ (P13.out) (fun hHeld => ?_)
  clear hK K
  try simp only [Act.put, List.setIfInBounds_toArray, List.set_cons_zero, List.set_cons_succ]
  refine takeH (i := 20) (d := 56) (oi := _) (v := .bool true) rfl (by kernel_rfl) (by kernel_rfl) (by kernel_rfl) (by kernel_rfl) (fun _ _ _ h => h) (Or.inl ⟨by kernel_rfl, by intro u hSw; clear hSw; go_simp⟩) hHeld ?_
  try simp only [List.setIfInBounds_toArray, List.set_cons_zero, List.set_cons_succ]
  refine takeH (i := 21) (d := 57) (oi := _) (v := .bool true) rfl (by kernel_rfl) (by kernel_rfl) (by kernel_rfl) (by kernel_rfl) (fun _ _ _ h => h) (Or.inl ⟨by kernel_rfl, by intro u hSw; clear hSw; go_simp⟩) hHeld ?_
  try simp only [List.setIfInBounds_toArray, List.set_cons_zero, List.set_cons_succ]
  refine takeH (i := 22) (d := 58) (oi := _) (v := .pointer (some ⟨g, 0, none⟩)) rfl (by kernel_rfl) (by kernel_rfl) (by kernel_rfl) (by kernel_rfl) (fun _ _ _ h => h) (Or.inl ⟨by kernel_rfl, by intro u hSw; clear hSw; go_simp⟩) hHeld ?_
  try simp only [List.setIfInBounds_toArray, List.set_cons_zero, List.set_cons_succ]
  refine takeH (i := 23) (d := 59) (oi := _) (v := .agg (pv kB)) rfl (by kernel_rfl) (by kernel_rfl) (by kernel_rfl) (by kernel_rfl) (fun _ _ _ h => h) (yieldsIf_load_midC (by kernel_rfl) _ _ rfl (w.heap.size + 1) 0 rfl (pC kB) (pv kB) (pC_arr kB) _ (fun u hSw => hSw.2.1.all) Try.underlying29 rfl (size_pv kB)) hHeld ?_
  try simp only [List.setIfInBounds_toArray, List.set_cons_zero, List.set_cons_succ]
  refine wpAnyH_ready (rs := [24]) (by kernel_rfl) (by simp) ?_
  refine AllReadyH.cons (o := _) rfl (fun K hK => ?_) (AllReadyH.nil)
  go_simp
  go_at_call 23
  refine ((final_c g _ _ _ kB w13 M.out).mono ?_)
  rintro e w14 ⟨rfl, b14⟩
  have B14 := Lib.hid (B13.out.trans (b14.mono B13.out.size))
  have P14 : Hid (PkB w.heap.size kA w14 ∧ PkB (w.heap.size + 1) kB w14 ∧ PkB (w.heap.size + 1 + 1) kC w14) := ⟨P13.out.1.below b14 P13.out.1.lt, P13.out.2.1.below b14 P13.out.2.1.lt, P13.out.2.2.below b14 P13.out.2.2.lt⟩
  have M := Lib.hid (M.out.below b14)
  clear b14
  rw [st_b]
  go_simp
  refine hK.out _ _ (P14.out) (fun hHeld => ?_)
  clear hK K
  try simp only [Act.put, List.setIfInBounds_toArray, List.set_cons_zero, List.set_cons_succ]
  refine takeH (i := 25) (d := 61) (oi := _) (v := .bool true) rfl (by kernel_rfl) (by kernel_rfl) (by kernel_rfl) (by kernel_rfl) (fun _ _ _ h => h) (Or.inl ⟨by kernel_rfl, by intro u hSw; clear hSw; go_simp⟩) hHeld ?_
  try simp only [List.setIfInBounds_toArray, List.set_cons_zero, List.set_cons_succ]
  refine takeH (i := 26) (d := 62) (oi := _) (v := .bool true) rfl (by kernel_rfl) (by kernel_rfl) (by kernel_rfl) (by kernel_rfl) (fun _ _ _ h => h) (Or.inl ⟨by kernel_rfl, by intro u hSw; clear hSw; go_simp⟩) hHeld ?_
  try simp only [List.setIfInBounds_toArray, List.set_cons_zero, List.set_cons_succ]
  refine takeH (i := 27) (d := 63) (oi := _) (v := .pointer (some ⟨g, 0, none⟩)) rfl (by kernel_rfl) (by kernel_rfl) (by kernel_rfl) (by kernel_rfl) (fun _ _ _ h => h) (Or.inl ⟨by kernel_rfl, by intro u hSw; clear hSw; go_simp⟩) hHeld ?_
  try simp only [List.setIfInBounds_toArray, List.set_cons_zero, List.set_cons_succ]
  refine takeH (i := 28) (d := 64) (oi := _) (v := .agg (pv kC)) rfl (by kernel_rfl) (by kernel_rfl) (by kernel_rfl) (by kernel_rfl) (fun _ _ _ h => h) (yieldsIf_load_midC (by kernel_rfl) _ _ rfl (w.heap.size + 1 + 1) 0 rfl (pC kC) (pv kC) (pC_arr kC) _ (fun u hSw => hSw.2.2.all) Try.underlying29 rfl (size_pv kC)) hHeld ?_
  try simp only [List.setIfInBounds_toArray, List.set_cons_zero, List.set_cons_succ]
  refine wpAnyH_ready (rs := [29]) (by kernel_rfl) (by simp) ?_
  refine AllReadyH.cons (o := _) rfl (fun K hK => ?_) (AllReadyH.nil)
  go_simp
  go_at_call 23
  refine ((final_c g _ _ _ kC w14 M.out).mono ?_)
  rintro e w15 ⟨rfl, b15⟩
  have B15 := Lib.hid (B14.out.trans (b15.mono B14.out.size))
  have P15 : Hid (PkB w.heap.size kA w15 ∧ PkB (w.heap.size + 1) kB w15 ∧ PkB (w.heap.size + 1 + 1) kC w15) := ⟨P14.out.1.below b15 P14.out.1.lt, P14.out.2.1.below b15 P14.out.2.1.lt, P14.out.2.2.below b15 P14.out.2.2.lt⟩
  have M := Lib.hid (M.out.below b15)
  clear b15
  rw [st_c]
  go_simp
  refine hK.out _ _ (P15.out) (fun hHeld => ?_)
  clear hK K
  try simp only [Act.put, List.setIfInBounds_toArray, List.set_cons_zero, List.set_cons_succ]
  refine takeH (i := 30) (d := 66) (oi := _) (v := .bool true) rfl (by kernel_rfl) (by kernel_rfl) (by kernel_rfl) (by kernel_rfl) (fun _ _ _ h => h) (Or.inl ⟨by kernel_rfl, by intro u hSw; clear hSw; go_simp⟩) hHeld ?_
  try simp only [List.setIfInBounds_toArray, List.set_cons_zero, List.set_cons_succ]
  refine takeH (i := 31) (d := 67) (oi := _) (v := .bool true) rfl (by kernel_rfl) (by kernel_rfl) (by kernel_rfl) (by kernel_rfl) (fun _ _ _ h => h) (Or.inl ⟨by kernel_rfl, by intro u hSw; clear hSw; go_simp⟩) hHeld ?_
  try simp only [List.setIfInBounds_toArray, List.set_cons_zero, List.set_cons_succ]
  refine takeH (i := 32) (d := 68) (oi := _) (v := .bool true) rfl (by kernel_rfl) (by kernel_rfl) (by kernel_rfl) (by kernel_rfl) (fun _ _ _ h => h) (Or.inl ⟨by kernel_rfl, by intro u hSw; clear hSw; go_simp⟩) hHeld ?_
  try simp only [List.setIfInBounds_toArray, List.set_cons_zero, List.set_cons_succ]
  refine takeH (i := 33) (d := 69) (oi := _) (v := .pointer (some ⟨g, 0, none⟩)) rfl (by kernel_rfl) (by kernel_rfl) (by kernel_rfl) (by kernel_rfl) (fun _ _ _ h => h) (Or.inl ⟨by kernel_rfl, by intro u hSw; clear hSw; go_simp⟩) hHeld ?_
  try simp only [List.setIfInBounds_toArray, List.set_cons_zero, List.set_cons_succ]
  refine takeH (i := 35) (d := 71) (oi := _) (v := .agg (pv kB)) rfl (by kernel_rfl) (by kernel_rfl) (by kernel_rfl) (by kernel_rfl) (fun _ _ _ h => h) (yieldsIf_load_midC (by kernel_rfl) _ _ rfl (w.heap.size + 1) 0 rfl (pC kB) (pv kB) (pC_arr kB) _ (fun u hSw => hSw.2.1.all) Try.underlying29 rfl (size_pv kB)) hHeld ?_
  try simp only [List.setIfInBounds_toArray, List.set_cons_zero, List.set_cons_succ]
  refine wpAnyH_ready (rs := [34]) (by kernel_rfl) (by simp) ?_
  refine AllReadyH.cons (o := _) rfl (fun K hK => ?_) (AllReadyH.nil)
  go_simp
  go_at_call 19
  refine ((best_c g _ _ _ w15 M.out (by omega) ⟨kB, by rw [st_b]; omega⟩).mono ?_)
  rintro e w16 ⟨p, rfl, hp, b16⟩
  obtain rfl := best_b hp
  have B16 := Lib.hid (B15.out.trans (b16.mono B15.out.size))
  have P16 : Hid (PkB w.heap.size kA w16 ∧ PkB (w.heap.size + 1) kB w16 ∧ PkB (w.heap.size + 1 + 1) kC w16) := ⟨P15.out.1.below b16 P15.out.1.lt, P15.out.2.1.below b16 P15.out.2.1.lt, P15.out.2.2.below b16 P15.out.2.2.lt⟩
  have M := Lib.hid (M.out.below b16)
  clear b16 hp
  go_simp
  refine hK.out _ _ (P16.out) (fun hHeld => ?_)
  clear hK K
  try simp only [Act.put, List.setIfInBounds_toArray, List.set_cons_zero, List.set_cons_succ]
  refine takeH (i := 36) (d := 72) (oi := _) (v := .bool true) rfl (by kernel_rfl) (by kernel_rfl) (by kernel_rfl) (by kernel_rfl) (fun _ _ _ h => h) (Or.inl ⟨by kernel_rfl, by intro u hSw; clear hSw; (have h9 := eq_h9 kB.l kB.hl u; have a0 : (pv kB)[0]? = some (.int .u64 7) := rfl; have a1 : (pv kB).extract 1 33 = hashV kB.l := (by kernel_rfl); go_simp)⟩) hHeld ?_
  try simp only [List.setIfInBounds_toArray, List.set_cons_zero, List.set_cons_succ]
  refine takeH (i := 37) (d := 73) (oi := _) (v := .bool true) rfl (by kernel_rfl) (by kernel_rfl) (by kernel_rfl) (by kernel_rfl) (fun _ _ _ h => h) (Or.inl ⟨by kernel_rfl, by intro u hSw; clear hSw; go_simp⟩) hHeld ?_
  try simp only [List.setIfInBounds_toArray, List.set_cons_zero, List.set_cons_succ]
  refine takeH (i := 38) (d := 74) (oi := _) (v := .bool true) rfl (by kernel_rfl) (by kernel_rfl) (by kernel_rfl) (by kernel_rfl) (fun _ _ _ h => h) (Or.inl ⟨by kernel_rfl, by intro u hSw; clear hSw; go_simp⟩) hHeld ?_
  try simp only [List.setIfInBounds_toArray, List.set_cons_zero, List.set_cons_succ]
  refine takeH (i := 39) (d := 75) (oi := _) (v := .pointer (some ⟨g, 0, none⟩)) rfl (by kernel_rfl) (by kernel_rfl) (by kernel_rfl) (by kernel_rfl) (fun _ _ _ h => h) (Or.inl ⟨by kernel_rfl, by intro u hSw; clear hSw; go_simp⟩) hHeld ?_
  try simp only [List.setIfInBounds_toArray, List.set_cons_zero, List.set_cons_succ]
  refine takeH (i := 41) (d := 77) (oi := _) (v := .agg (pv kC)) rfl (by kernel_rfl) (by kernel_rfl) (by kernel_rfl) (by kernel_rfl) (fun _ _ _ h => h) (yieldsIf_load_midC (by kernel_rfl) _ _ rfl (w.heap.size + 1 + 1) 0 rfl (pC kC) (pv kC) (pC_arr kC) _ (fun u hSw => hSw.2.2.all) Try.underlying29 rfl (size_pv kC)) hHeld ?_
  try simp only [List.setIfInBounds_toArray, List.set_cons_zero, List.set_cons_succ]
  refine wpAnyH_ready (rs := [40]) (by kernel_rfl) (by simp) ?_
  refine AllReadyH.cons (o := _) rfl (fun K hK => ?_) (AllReadyH.nil)
  go_simp
  go_at_call 20
  refine ((highest_c g _ _ _ w16 M.out (by omega) ⟨kC, by rw [st_c]; omega⟩).mono ?_)
  rintro e w17 ⟨p, rfl, hp, b17⟩
  obtain rfl := highest_c' hp
  have B17 := Lib.hid (B16.out.trans (b17.mono B16.out.size))
  have P17 : Hid (PkB w.heap.size kA w17 ∧ PkB (w.heap.size + 1) kB w17 ∧ PkB (w.heap.size + 1 + 1) kC w17) := ⟨P16.out.1.below b17 P16.out.1.lt, P16.out.2.1.below b17 P16.out.2.1.lt, P16.out.2.2.below b17 P16.out.2.2.lt⟩
  have M := Lib.hid (M.out.below b17)
  clear b17 hp
  go_simp
  refine hK.out _ _ (P17.out) (fun hHeld => ?_)
  clear hK K
  try simp only [Act.put, List.setIfInBounds_toArray, List.set_cons_zero, List.set_cons_succ]
  refine takeH (i := 42) (d := 78) (oi := _) (v := .bool true) rfl (by kernel_rfl) (by kernel_rfl) (by kernel_rfl) (by kernel_rfl) (fun _ _ _ h => h) (Or.inl ⟨by kernel_rfl, by intro u hSw; clear hSw; (have h9 := eq_h9 kC.l kC.hl u; have a0 : (pv kC)[0]? = some (.int .u64 8) := rfl; have a1 : (pv kC).extract 1 33 = hashV kC.l := (by kernel_rfl); go_simp)⟩) hHeld ?_
  try simp only [List.setIfInBounds_toArray, List.set_cons_zero, List.set_cons_succ]
  refine takeH (i := 43) (d := 79) (oi := _) (v := .bool true) rfl (by kernel_rfl) (by kernel_rfl) (by kernel_rfl) (by kernel_rfl) (fun _ _ _ h => h) (Or.inl ⟨by kernel_rfl, by intro u hSw; clear hSw; go_simp⟩) hHeld ?_
  try simp only [List.setIfInBounds_toArray, List.set_cons_zero, List.set_cons_succ]
  refine takeH (i := 44) (d := 0) (oi := _) (v := .bool true) rfl (by kernel_rfl) (by kernel_rfl) (by kernel_rfl) (by kernel_rfl) (fun _ _ _ h => h) (Or.inl ⟨by kernel_rfl, by intro u hSw; clear hSw; go_simp⟩) hHeld ?_
  try simp only [List.setIfInBounds_toArray, List.set_cons_zero]
  refine wpAnyH_done (by kernel_rfl) ?_ _
  refine NoPanic.normal ?_
  first
    | apply hK1
    | apply K1
  clear hK1 K1
  have FINB := Lib.hid (B17.out)
  go_wp2_with fail
  go_ret
  exact ⟨rfl, FINB.out⟩
end Go.Proofs.Ythlbpjkopkicbaa
