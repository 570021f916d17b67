/- The order of checkpoints: what it leaves, in full. -/
import Derived.Test.YthlbpjkopkicbaaFgCmp
import Derived.Sort.Grow
namespace Go.Proofs.Ythlbpjkopkicbaa
open Go.ChangeMaps Go.MapKept Go.Maps Go.WideElems Go.RowKit Go.ChangeShapes Go.WideShapes Go.ChangeAt Go.Sort
set_option linter.unusedVariables false
set_option maxRecDepth 100000

theorem cmp_world (w : World) (a b c : Obj) : (((w.alloc a).alloc b).alloc c).drew = grow (w.drewN 1) #[a, b, c] := by
  rw [alloc_eq_grow, alloc_eq_grow, alloc_eq_grow, grow_grow, grow_grow]
  rfl
set_option maxHeartbeats 4000000 in
theorem compare_x (p q : Pt) (w : World) : Calls Try.prog 44 #[.agg (pv p), .agg (pv q)] w fun e w' => e = .returned (.int .i64 (cmpP p q)) ∧ ∃ n os, w' = grow (w.drewN n) os := by
  obtain ⟨W, hW⟩ : ∃ W, W = (w.alloc (.cells (pv p) 29)).alloc (.cells (pv q) 29) := ⟨_, rfl⟩
  have hB : Below w.heap.size w W := by rw [hW]; exact ((Below.refl _ _).alloc (Nat.le_refl _) _).alloc (by simp) _
  have h0 : PkB w.heap.size p W := by rw [hW]; exact (PkB.new (w := w)).below ((Below.refl (w.alloc (.cells (pv p) 29)).heap.size _).alloc (Nat.le_refl _) _) (by simp)
  have h1 : PkB (w.heap.size + 1) q W := by
    rw [hW]
    have := PkB.new (w := w.alloc (.cells (pv p) 29)) (p := q)
    rwa [heap_sz] at this
  have KP : Hid (∀ u : World, Below W.heap.size W.drew u → PkB w.heap.size p u ∧ PkB (w.heap.size + 1) q u) := fun u hu => ⟨(show PkB _ _ W.drew from h0).below hu h0.lt, (show PkB _ _ W.drew from h1).below hu h1.lt⟩
  have BX : Hid (Below W.heap.size W.drew W.drew) := Below.refl _ _
  have HW := Lib.hid hW
  have HB := Lib.hid hB
  clear hW hB h0 h1
  go_enter Try.func44, Try.ntmps44
  go_wp2_with fail
  rw [← HW.out]
  rename_i K1 hK1
  refine wp_region_noPanic ?_
  refine wp_region_held_drew (S := (fun u => PkB w.heap.size p u ∧ PkB (w.heap.size + 1) q u)) (by kernel_rfl) (KP.out _ BX.out) (fun hHeld => ?_)
  refine takeH (i := 0) (d := 5) (oi := _) (v := .pointer (some ⟨w.heap.size, 0, none⟩)) rfl (by kernel_rfl) (by kernel_rfl) (by kernel_rfl) (by kernel_rfl) (fun _ _ _ h => h) (Or.inl ⟨by kernel_rfl, by intro u hSw; clear hSw; go_simp⟩) hHeld ?_
  try simp only [List.setIfInBounds_toArray, List.set_cons_zero, List.set_cons_succ]
  refine takeH (i := 1) (d := 6) (oi := _) (v := .int .u64 (p.e : Int)) rfl (by kernel_rfl) (by kernel_rfl) (by kernel_rfl) (by kernel_rfl) (fun _ _ _ h => h) (Or.inl ⟨by kernel_rfl, by intro u hSw; (have hc : u.cell? ⟨w.heap.size, 0, none⟩ = some (.int .u64 (p.e : Int)) := Fill.at_ hSw.1 0 (by omega); clear hSw; go_simp)⟩) hHeld ?_
  try simp only [List.setIfInBounds_toArray, List.set_cons_zero, List.set_cons_succ]
  refine takeH (i := 2) (d := 7) (oi := _) (v := .pointer (some ⟨w.heap.size + 1, 0, none⟩)) rfl (by kernel_rfl) (by kernel_rfl) (by kernel_rfl) (by kernel_rfl) (fun _ _ _ h => h) (Or.inl ⟨by kernel_rfl, by intro u hSw; clear hSw; go_simp⟩) hHeld ?_
  try simp only [List.setIfInBounds_toArray, List.set_cons_zero, List.set_cons_succ]
  refine takeH (i := 3) (d := 8) (oi := _) (v := .int .u64 (q.e : Int)) rfl (by kernel_rfl) (by kernel_rfl) (by kernel_rfl) (by kernel_rfl) (fun _ _ _ h => h) (Or.inl ⟨by kernel_rfl, by intro u hSw; (have hc : u.cell? ⟨w.heap.size + 1, 0, none⟩ = some (.int .u64 (q.e : Int)) := Fill.at_ hSw.2 0 (by omega); clear hSw; go_simp)⟩) hHeld ?_
  try simp only [List.setIfInBounds_toArray, List.set_cons_zero, List.set_cons_succ]
  refine takeH (i := 5) (d := 10) (oi := _) (v := .pointer (some ⟨w.heap.size, 1, none⟩)) rfl (by kernel_rfl) (by kernel_rfl) (by kernel_rfl) (by kernel_rfl) (fun _ _ _ h => h) (Or.inl ⟨by kernel_rfl, by intro u hSw; clear hSw; go_simp⟩) hHeld ?_
  try simp only [List.setIfInBounds_toArray, List.set_cons_zero, List.set_cons_succ]
  refine takeH (i := 6) (d := 11) (oi := _) (v := .slice (some ⟨w.heap.size, 1, none⟩) 32 32) rfl (by kernel_rfl) (by kernel_rfl) (by kernel_rfl) (by kernel_rfl) (fun _ _ _ h => h) (Or.inl ⟨by kernel_rfl, by intro u hSw; clear hSw; go_simp⟩) hHeld ?_
  try simp only [List.setIfInBounds_toArray, List.set_cons_zero, List.set_cons_succ]
  refine takeH (i := 7) (d := 12) (oi := _) (v := .pointer (some ⟨w.heap.size + 1, 1, none⟩)) rfl (by kernel_rfl) (by kernel_rfl) (by kernel_rfl) (by kernel_rfl) (fun _ _ _ h => h) (Or.inl ⟨by kernel_rfl, by intro u hSw; clear hSw; go_simp⟩) hHeld ?_
  try simp only [List.setIfInBounds_toArray, List.set_cons_zero, List.set_cons_succ]
  refine takeH (i := 8) (d := 13) (oi := _) (v := .slice (some ⟨w.heap.size + 1, 1, none⟩) 32 32) rfl (by kernel_rfl) (by kernel_rfl) (by kernel_rfl) (by kernel_rfl) (fun _ _ _ h => h) (Or.inl ⟨by kernel_rfl, by intro u hSw; clear hSw; go_simp⟩) hHeld ?_
  try simp only [List.setIfInBounds_toArray, List.set_cons_zero, List.set_cons_succ]
  refine wpAnyH_ready (rs := [4]) (by kernel_rfl) (by simp) ?_
  refine AllReadyH.cons (o := _) rfl (fun K hK => ?_) (AllReadyH.nil)
  go_simp
  go_at_call 59
  refine (compareN_c p.e q.e _).mono ?_
  rintro e w2 ⟨rfl, rfl⟩
  go_simp
  refine hK.out _ _ (KP.out _ BX.out) (fun hHeld => ?_)
  clear hK K
  try simp only [Act.put, List.setIfInBounds_toArray, List.set_cons_zero, List.set_cons_succ]
  refine wpAnyH_ready (rs := [9]) (by kernel_rfl) (by simp) ?_
  refine AllReadyH.cons (o := _) rfl (fun K hK => ?_) (AllReadyH.nil)
  go_simp
  go_at_call 60
  refine (compareL_c p.l q.l (some ⟨w.heap.size, 1, none⟩) (some ⟨w.heap.size + 1, 1, none⟩) 32 32 32 32 _ p.hl.symm q.hl.symm (KP.out _ BX.out).1.rd (KP.out _ BX.out).2.rd).mono ?_
  rintro e w2 ⟨rfl, rfl⟩
  go_simp
  refine hK.out _ _ (KP.out _ BX.out) (fun hHeld => ?_)
  clear hK K
  try simp only [Act.put, List.setIfInBounds_toArray, List.set_cons_zero, List.set_cons_succ]
  refine wpAnyH_ready (rs := [10]) (by kernel_rfl) (by simp) ?_
  refine AllReadyH.cons (o := _) rfl (fun K hK => ?_) (AllReadyH.nil)
  go_simp
  obtain ⟨w3, hw3⟩ : ∃ w3, w3 = (W.alloc (.cells #[.int .i64 (cmpN p.e q.e), .int .i64 (cmpL p.l q.l)] 3)).drew := ⟨_, rfl⟩
  have hh : w3.heap[W.heap.size]? = some (.cells #[.int .i64 (cmpN p.e q.e), .int .i64 (cmpL p.l q.l)] 3 (0, 0)) := by rw [hw3]; exact heap_alloc_new W _
  have e0 : w3.cell? ⟨W.heap.size, 0, none⟩ = some (.int .i64 (cmpN p.e q.e)) := cell_of_row w3 _ 0 _ _ (0, 0) hh
  have e1 : w3.cell? ⟨W.heap.size, 1, none⟩ = some (.int .i64 (cmpL p.l q.l)) := cell_of_row w3 _ 1 _ _ (0, 0) hh
  have BX := Lib.hid (show Below W.heap.size W.drew w3 by rw [hw3]; exact (show Below W.heap.size W.drew (W.drew.alloc _) from BX.out.alloc (Nat.le_refl _) _))
  rw [← hw3]
  have HW3 : Hid (∃ os, w3 = grow (w.drewN 1) os) := ⟨_, by rw [hw3, HW.out]; exact cmp_world w _ _ _⟩
  clear hw3 hh
  refine hK.out _ _ (KP.out _ BX.out) (fun hHeld => ?_)
  clear hK K
  try simp only [Act.put, List.setIfInBounds_toArray, List.set_cons_zero, List.set_cons_succ]
  refine wpAnyH_ready (rs := [11]) (by kernel_rfl) (by simp) ?_
  refine AllReadyH.cons (o := _) rfl (fun K hK => ?_) (AllReadyH.nil)
  go_simp
  go_at_call 58
  refine (or2_c (cmpN p.e q.e) (cmpL p.l q.l) W.heap.size 2 2 w3 rfl e0 e1).mono ?_
  rintro e w4 ⟨rfl, rfl⟩
  go_simp
  refine hK.out _ _ (KP.out _ BX.out) (fun hHeld => ?_)
  clear hK K
  try simp only [Act.put, List.setIfInBounds_toArray, List.set_cons_zero, List.set_cons_succ]
  refine takeH (i := 12) (d := 4) (oi := _) (v := .int .i64 (orI (cmpN p.e q.e) (cmpL p.l q.l))) rfl (by kernel_rfl) (by kernel_rfl) (by kernel_rfl) (by kernel_rfl) (fun _ _ _ h => h) (Or.inl ⟨by kernel_rfl, by intro u hSw; clear hSw; go_simp⟩) hHeld ?_
  try simp only [List.setIfInBounds_toArray, List.set_cons_zero, List.set_cons_succ]
  refine wpAnyH_done (by kernel_rfl) ?_ _
  refine NoPanic.normal ?_
  first
    | apply hK1
    | apply K1
  clear hK1 K1
  go_wp2_with fail
  go_ret
  obtain ⟨os, e3⟩ := HW3.out
  exact ⟨rfl, 1, os, e3⟩
end Go.Proofs.Ythlbpjkopkicbaa
