/- What a pool that is not there answers, on. -/
import Derived.Test.YtiobmgoapcbbfaaPoNone
import Derived.Shelf.Abstract
import Derived.BigFrame
namespace Go.Proofs.Ytiobmgoapcbbfaa
open Go.ChangeMaps Go.MapKept Go.Maps Go.RowKit Go.ChangeShapes Go.WideShapes Go.ChangeAt
set_option linter.unusedVariables false
set_option maxRecDepth 100000

set_option maxHeartbeats 4000000 in
theorem check_n (v : Value) (n : Int) (k : Lk) (A : Option Addr) (m c : Nat) (kh : Hh) (st : Nat) (w : World) (h : NoP v w) : Calls Try.prog 24 #[v, .agg (vtw n k (.slice A m c)), .agg (hhv kh), .int .u64 (st : Int)] w fun e w' => e = .returned (.int .i64 1) ∧ Below w.heap.size w w' := by
  obtain ⟨W, hW⟩ : ∃ W, W = (w.alloc (.cells (vtw n k (.slice A m c)) 40)).alloc (.cells (hhv kh) 24) := ⟨_, rfl⟩
  have HB : Hid (Below w.heap.size w W) := by rw [hW]; exact ((Below.refl _ _).alloc (Nat.le_refl _) _).alloc (by simp) _
  have HI := Lib.hid (isNone_n v W (h.below HB.out))
  have HW := Lib.hid hW
  clear hW h
  go_enter Try.func24, Try.ntmps24
  go_wp2_with fail
  rw [← HW.out]
  refine HI.out.mono ?_
  rintro e W ⟨rfl, rfl⟩
  go_wp2_with fail
  go_ret
  exact ⟨rfl, HB.out⟩
set_option maxHeartbeats 4000000 in
theorem add_n (v : Value) (n : Int) (k : Lk) (A : Option Addr) (m c : Nat) (kh : Hh) (st : Nat) (w : World) (h : NoP v w) : Calls Try.prog 17 #[v, .agg (vtw n k (.slice A m c)), .agg (hhv kh), .int .u64 (st : Int)] w fun e w' => e = .returned (.tuple #[.int .u64 0, .int .i64 1]) ∧ Below w.heap.size w w' := by
  obtain ⟨W0, hW0⟩ : ∃ W0, W0 = w.alloc (.cells (vtw n k (.slice A m c)) 40) := ⟨_, rfl⟩
  obtain ⟨W, hW⟩ : ∃ W, W = W0.alloc (.cells (hhv kh) 24) := ⟨_, rfl⟩
  have b0 : Below w.heap.size w W0 := by rw [hW0]; exact (Below.refl _ _).alloc (Nat.le_refl _) _
  have b1 : Below W0.heap.size W0 W := by rw [hW]; exact (Below.refl _ _).alloc (Nat.le_refl _) _
  have z0 : W0.heap.size = w.heap.size + 1 := by rw [hW0]; simp
  have v0 : VtK w.heap.size n k (.slice A m c) W0 := by rw [hW0]; exact VtK.new
  have k1 := (v0.below b1 v0.lt).row
  have k2 : W.heap[w.heap.size + 1]? = some (.cells (hhv kh) 24 (0, 0)) := by rw [← z0, hW]; exact heap_alloc_new W0 _
  have HB := Lib.hid (b0.trans (b1.mono b0.size))
  have HC := Lib.hid (check_n v n k A m c kh st W (h.below HB.out))
  have HW0 := Lib.hid hW0
  have HW := Lib.hid hW
  clear hW0 hW b0 b1 z0 v0 h
  go_enter Try.func17, Try.ntmps17
  go_upto_region 1 with fail
  rw [← HW0.out, ← HW.out]
  go_wp2_with (first
    | (refine wpList_load_row rfl 40 (.tmp 5) rfl w.heap.size rfl 40 (vtw n k (.slice A m c)) (0, 0) _ k1 Try.underlying40 rfl (size_vtw _ _ _) ?_)
    | (refine wpList_load_row rfl 24 (.tmp 6) rfl (w.heap.size + 1) rfl 24 (hhv kh) (0, 0) _ k2 Try.underlying24 rfl (size_hhv kh) ?_)
    | fail)
  refine HC.out.mono ?_
  rintro e w3 ⟨rfl, b3⟩
  have B3 := Lib.hid (HB.out.trans (b3.mono HB.out.size))
  clear b3 k1 k2
  go_wp2_with fail
  go_ret2
  exact ⟨rfl, B3.out⟩
set_option maxHeartbeats 4000000 in
theorem of_n (v : Value) (x : Hh) (w : World) (h : NoP v w) : Calls Try.prog 13 #[v, .agg (hhv x)] w fun e w' => e = .returned (.slice none 0 0) ∧ Below w.heap.size w w' := by
  obtain ⟨W0, hW0⟩ : ∃ W0, W0 = w.alloc (.cells (hhv x) 24) := ⟨_, rfl⟩
  obtain ⟨W1, hW1⟩ : ∃ W1, W1 = W0.alloc (.cells #[.slice none 0 0] 43) := ⟨_, rfl⟩
  obtain ⟨W, hW⟩ : ∃ W, W = W1.alloc (.cells noStore 79) := ⟨_, rfl⟩
  have b0 : Below w.heap.size w W0 := by rw [hW0]; exact (Below.refl _ _).alloc (Nat.le_refl _) _
  have b1 : Below W0.heap.size W0 W1 := by rw [hW1]; exact (Below.refl _ _).alloc (Nat.le_refl _) _
  have b2 : Below W1.heap.size W1 W := by rw [hW]; exact (Below.refl _ _).alloc (Nat.le_refl _) _
  have z0 : W0.heap.size = w.heap.size + 1 := by rw [hW0]; simp
  have z1 : W1.heap.size = w.heap.size + 1 + 1 := by rw [hW1]; simp [z0]
  have q0 : W.heap[w.heap.size]? = some (.cells (hhv x) 24 (0, 0)) := (b2.block _ (by omega)).trans ((b1.block _ (by omega)).trans (by rw [hW0]; exact heap_alloc_new w _))
  have q1 : W.heap[w.heap.size + 1]? = some (.cells #[.slice none 0 0] 43 (0, 0)) := (b2.block _ (by omega)).trans (by rw [← z0, hW1]; exact heap_alloc_new W0 _)
  have q2 : W.heap[w.heap.size + 1 + 1]? = some (.cells noStore 79 (0, 0)) := by rw [← z1, hW]; exact heap_alloc_new W1 _
  have kc : W.cell? ⟨w.heap.size + 1, 0, none⟩ = some (.slice none 0 0) := cell_of_row W _ 0 _ _ (0, 0) q1
  have HH : Hid (W.drew.rangeAt w.heap.size 0 (hhC x) ∧ W.drew.heap[w.heap.size + 1 + 1]? = some (.cells noStore 79 (0, 0))) := ⟨hhB_all (show HhB w.heap.size x W from Fill.of_row q0), q2⟩
  have bw1 := b0.trans (b1.mono b0.size)
  have HB := Lib.hid (bw1.trans (b2.mono bw1.size))
  have SN := Lib.hid (seen_n v W1 (h.below bw1))
  rw [← hW, z1] at SN
  have hz : (zeroValue 43).run Try.prog w = .ok (.slice none 0 0) w := by kernel_rfl
  have HW0 := Lib.hid hW0
  have HW1 := Lib.hid hW1
  clear hW0 hW1 hW b0 b1 b2 z0 z1 q0 q1 q2 bw1 h
  go_enter Try.func13, Try.ntmps13
  go_wp2_with fail
  rw [← HW0.out, ← HW1.out]
  refine SN.out.mono ?_
  rintro e w3 ⟨rfl, rfl⟩
  go_wp2_with fail
  rename_i K1 hK1
  refine wp_region_noPanic ?_
  refine wp_region_held_drew (S := (fun u => u.rangeAt w.heap.size 0 (hhC x) ∧ u.heap[w.heap.size + 1 + 1]? = some (.cells noStore 79 (0, 0)))) (by kernel_rfl) (HH.out) (fun hHeld => ?_)
  refine takeH (i := 0) (d := 9) (oi := _) (v := .pointer (some ⟨(w.heap.size + 1 + 1), 0, none⟩)) rfl (by kernel_rfl) (by kernel_rfl) (by kernel_rfl) (by kernel_rfl) (fun _ _ _ h => h) (Or.inl ⟨by kernel_rfl, by intro u hSw; clear hSw; go_simp⟩) hHeld ?_
  try simp only [List.setIfInBounds_toArray, List.set_cons_zero, List.set_cons_succ]
  refine takeH (i := 1) (d := 10) (oi := _) (v := .pointer (some ⟨(w.heap.size + 1 + 1), 0, none⟩)) rfl (by kernel_rfl) (by kernel_rfl) (by kernel_rfl) (by kernel_rfl) (fun _ _ _ h => h) (Or.inl ⟨by kernel_rfl, by intro u hSw; clear hSw; go_simp⟩) hHeld ?_
  try simp only [List.setIfInBounds_toArray, List.set_cons_zero, List.set_cons_succ]
  refine takeH (i := 2) (d := 11) (oi := _) (v := .pointer (some ⟨(w.heap.size + 1 + 1), 0, none⟩)) rfl (by kernel_rfl) (by kernel_rfl) (by kernel_rfl) (by kernel_rfl) (fun _ _ _ h => h) (Or.inl ⟨by kernel_rfl, by intro u hSw; clear hSw; go_simp⟩) hHeld ?_
  try simp only [List.setIfInBounds_toArray, List.set_cons_zero, List.set_cons_succ]
  refine takeH (i := 3) (d := 12) (oi := _) (v := .pointer (some ⟨(w.heap.size + 1 + 1), 3, none⟩)) rfl (by kernel_rfl) (by kernel_rfl) (by kernel_rfl) (by kernel_rfl) (fun _ _ _ h => h) (Or.inl ⟨by kernel_rfl, by intro u hSw; clear hSw; go_simp⟩) hHeld ?_
  try simp only [List.setIfInBounds_toArray, List.set_cons_zero, List.set_cons_succ]
  refine takeH (i := 4) (d := 13) (oi := _) (v := .map none) rfl (by kernel_rfl) (by kernel_rfl) (by kernel_rfl) (by kernel_rfl) (fun _ _ _ h => h) (Or.inl ⟨by kernel_rfl, by intro u hSw; (have hc : u.cell? ⟨w.heap.size + 1 + 1, 3, none⟩ = some (.map none) := cell_of_row u (w.heap.size + 1 + 1) 3 _ _ (0, 0) hSw.2; clear hSw; go_simp)⟩) hHeld ?_
  try simp only [List.setIfInBounds_toArray, List.set_cons_zero, List.set_cons_succ]
  refine takeH (i := 5) (d := 14) (oi := _) (v := .agg (hhv x)) rfl (by kernel_rfl) (by kernel_rfl) (by kernel_rfl) (by kernel_rfl) (fun _ _ _ h => h) (yieldsIf_load_midC (by kernel_rfl) _ _ rfl (w.heap.size) 0 rfl (hhC x) (hhv x) (hhC_arr x) _ (fun u hSw => hSw.1) Try.underlying24 rfl (size_hhv x)) hHeld ?_
  try simp only [List.setIfInBounds_toArray, List.set_cons_zero, List.set_cons_succ]
  refine takeH (i := 6) (d := 15) (oi := _) (v := .slice none 0 0) rfl (by kernel_rfl) (by kernel_rfl) (by kernel_rfl) (by kernel_rfl) (fun _ _ _ h => h) (Or.inl ⟨by kernel_rfl, by intro u hSw; clear hSw; have hln := lookup_nilK x u; go_simp⟩) hHeld ?_
  try simp only [List.setIfInBounds_toArray, List.set_cons_zero, List.set_cons_succ]
  refine takeH (i := 7) (d := 16) (oi := _) (v := .func (.func 34) #[] #[.pointer (some ⟨w.heap.size + 1, 0, none⟩)]) rfl (by kernel_rfl) (by kernel_rfl) (by kernel_rfl) (by kernel_rfl) (fun _ _ _ h => h) (Or.inl ⟨by kernel_rfl, by intro u hSw; clear hSw; (have hmf : ∀ (fn : Fn) (first cap : Array Value) (w : World), (Instr.makeFunc fn first cap).run Try.prog w = .ok (.func fn first cap) w := fun _ _ _ _ => rfl; go_simp)⟩) hHeld ?_
  try simp only [List.setIfInBounds_toArray, List.set_cons_zero, List.set_cons_succ]
  refine wpAnyH_ready (rs := [8]) (by kernel_rfl) (by simp) ?_
  refine AllReadyH.cons (o := _) rfl (fun K hK => ?_) (AllReadyH.nil)
  go_simp
  go_at_call 33
  refine (gather_n _ _ _).mono ?_
  rintro e w3 ⟨rfl, rfl⟩
  go_simp
  refine hK.out _ _ (HH.out) (fun hHeld => ?_)
  clear hK K
  try simp only [Act.put, List.setIfInBounds_toArray, List.set_cons_zero, List.set_cons_succ]
  refine wpAnyH_done (by kernel_rfl) ?_ _
  refine NoPanic.normal ?_
  first
    | apply hK1
    | apply K1
  clear hK1 K1
  go_wp2_with fail
  go_ret
  exact ⟨rfl, HB.out.drew⟩
set_option maxHeartbeats 4000000 in
theorem for_n (v : Value) (x : Lk) (w : World) (h : NoP v w) : Calls Try.prog 23 #[v, .agg (lv x)] w fun e w' => e = .returned (.slice none 0 0) ∧ Below w.heap.size w w' := by
  obtain ⟨W0, hW0⟩ : ∃ W0, W0 = w.alloc (.cells (lv x) 50) := ⟨_, rfl⟩
  obtain ⟨W1, hW1⟩ : ∃ W1, W1 = W0.alloc (.cells #[.slice none 0 0] 22) := ⟨_, rfl⟩
  obtain ⟨W, hW⟩ : ∃ W, W = W1.alloc (.cells noStore 79) := ⟨_, rfl⟩
  have b0 : Below w.heap.size w W0 := by rw [hW0]; exact (Below.refl _ _).alloc (Nat.le_refl _) _
  have b1 : Below W0.heap.size W0 W1 := by rw [hW1]; exact (Below.refl _ _).alloc (Nat.le_refl _) _
  have b2 : Below W1.heap.size W1 W := by rw [hW]; exact (Below.refl _ _).alloc (Nat.le_refl _) _
  have z0 : W0.heap.size = w.heap.size + 1 := by rw [hW0]; simp
  have z1 : W1.heap.size = w.heap.size + 1 + 1 := by rw [hW1]; simp [z0]
  have q0 : W.heap[w.heap.size]? = some (.cells (lv x) 50 (0, 0)) := (b2.block _ (by omega)).trans ((b1.block _ (by omega)).trans (by rw [hW0]; exact heap_alloc_new w _))
  have q1 : W.heap[w.heap.size + 1]? = some (.cells #[.slice none 0 0] 22 (0, 0)) := (b2.block _ (by omega)).trans (by rw [← z0, hW1]; exact heap_alloc_new W0 _)
  have q2 : W.heap[w.heap.size + 1 + 1]? = some (.cells noStore 79 (0, 0)) := by rw [← z1, hW]; exact heap_alloc_new W1 _
  have kc : W.cell? ⟨w.heap.size + 1, 0, none⟩ = some (.slice none 0 0) := cell_of_row W _ 0 _ _ (0, 0) q1
  have HH : Hid (W.drew.rangeAt w.heap.size 0 (lC x) ∧ W.drew.heap[w.heap.size + 1 + 1]? = some (.cells noStore 79 (0, 0))) := ⟨(show LkB w.heap.size x W from Fill.of_row q0).all, q2⟩
  have bw1 := b0.trans (b1.mono b0.size)
  have HB := Lib.hid (bw1.trans (b2.mono bw1.size))
  have SN := Lib.hid (seen_n v W1 (h.below bw1))
  rw [← hW, z1] at SN
  have hz : (zeroValue 22).run Try.prog w = .ok (.slice none 0 0) w := by kernel_rfl
  have HW0 := Lib.hid hW0
  have HW1 := Lib.hid hW1
  clear hW0 hW1 hW b0 b1 b2 z0 z1 q0 q1 q2 bw1 h
  go_enter Try.func23, Try.ntmps23
  go_wp2_with fail
  rw [← HW0.out, ← HW1.out]
  refine SN.out.mono ?_
  rintro e w3 ⟨rfl, rfl⟩
  go_wp2_with fail
  rename_i K1 hK1
  refine wp_region_noPanic ?_
  refine wp_region_held_drew (S := (fun u => u.rangeAt w.heap.size 0 (lC x) ∧ u.heap[w.heap.size + 1 + 1]? = some (.cells noStore 79 (0, 0)))) (by kernel_rfl) (HH.out) (fun hHeld => ?_)
  refine takeH (i := 0) (d := 9) (oi := _) (v := .pointer (some ⟨(w.heap.size + 1 + 1), 0, none⟩)) rfl (by kernel_rfl) (by kernel_rfl) (by kernel_rfl) (by kernel_rfl) (fun _ _ _ h => h) (Or.inl ⟨by kernel_rfl, by intro u hSw; clear hSw; go_simp⟩) hHeld ?_
  try simp only [List.setIfInBounds_toArray, List.set_cons_zero, List.set_cons_succ]
  refine takeH (i := 1) (d := 10) (oi := _) (v := .pointer (some ⟨(w.heap.size + 1 + 1), 0, none⟩)) rfl (by kernel_rfl) (by kernel_rfl) (by kernel_rfl) (by kernel_rfl) (fun _ _ _ h => h) (Or.inl ⟨by kernel_rfl, by intro u hSw; clear hSw; go_simp⟩) hHeld ?_
  try simp only [List.setIfInBounds_toArray, List.set_cons_zero, List.set_cons_succ]
  refine takeH (i := 2) (d := 11) (oi := _) (v := .pointer (some ⟨(w.heap.size + 1 + 1), 0, none⟩)) rfl (by kernel_rfl) (by kernel_rfl) (by kernel_rfl) (by kernel_rfl) (fun _ _ _ h => h) (Or.inl ⟨by kernel_rfl, by intro u hSw; clear hSw; go_simp⟩) hHeld ?_
  try simp only [List.setIfInBounds_toArray, List.set_cons_zero, List.set_cons_succ]
  refine takeH (i := 3) (d := 12) (oi := _) (v := .pointer (some ⟨(w.heap.size + 1 + 1), 2, none⟩)) rfl (by kernel_rfl) (by kernel_rfl) (by kernel_rfl) (by kernel_rfl) (fun _ _ _ h => h) (Or.inl ⟨by kernel_rfl, by intro u hSw; clear hSw; go_simp⟩) hHeld ?_
  try simp only [List.setIfInBounds_toArray, List.set_cons_zero, List.set_cons_succ]
  refine takeH (i := 4) (d := 13) (oi := _) (v := .map none) rfl (by kernel_rfl) (by kernel_rfl) (by kernel_rfl) (by kernel_rfl) (fun _ _ _ h => h) (Or.inl ⟨by kernel_rfl, by intro u hSw; (have hc : u.cell? ⟨w.heap.size + 1 + 1, 2, none⟩ = some (.map none) := cell_of_row u (w.heap.size + 1 + 1) 2 _ _ (0, 0) hSw.2; clear hSw; go_simp)⟩) hHeld ?_
  try simp only [List.setIfInBounds_toArray, List.set_cons_zero, List.set_cons_succ]
  refine takeH (i := 5) (d := 14) (oi := _) (v := .agg (lv x)) rfl (by kernel_rfl) (by kernel_rfl) (by kernel_rfl) (by kernel_rfl) (fun _ _ _ h => h) (yieldsIf_load_midC (by kernel_rfl) _ _ rfl (w.heap.size) 0 rfl (lC x) (lv x) (lC_arr x) _ (fun u hSw => hSw.1) Try.underlying50 rfl (size_lv x)) hHeld ?_
  try simp only [List.setIfInBounds_toArray, List.set_cons_zero, List.set_cons_succ]
  refine takeH (i := 6) (d := 15) (oi := _) (v := .agg #[.int .u64 0, .slice none 0 0]) rfl (by kernel_rfl) (by kernel_rfl) (by kernel_rfl) (by kernel_rfl) (fun _ _ _ h => h) (Or.inl ⟨by kernel_rfl, by intro u hSw; clear hSw; have hln := lookup_nilT x u; go_simp⟩) hHeld ?_
  try simp only [List.setIfInBounds_toArray, List.set_cons_zero, List.set_cons_succ]
  refine takeH (i := 7) (d := 16) (oi := _) (v := .slice none 0 0) rfl (by kernel_rfl) (by kernel_rfl) (by kernel_rfl) (by kernel_rfl) (fun _ _ _ h => h) (Or.inl ⟨by kernel_rfl, by intro u hSw; clear hSw; have hf := fun u => fld1 0 none 0 0 u; go_simp⟩) hHeld ?_
  try simp only [List.setIfInBounds_toArray, List.set_cons_zero, List.set_cons_succ]
  refine takeH (i := 8) (d := 17) (oi := _) (v := .func (.func 41) #[] #[.pointer (some ⟨w.heap.size + 1, 0, none⟩)]) rfl (by kernel_rfl) (by kernel_rfl) (by kernel_rfl) (by kernel_rfl) (fun _ _ _ h => h) (Or.inl ⟨by kernel_rfl, by intro u hSw; clear hSw; (have hmf : ∀ (fn : Fn) (first cap : Array Value) (w : World), (Instr.makeFunc fn first cap).run Try.prog w = .ok (.func fn first cap) w := fun _ _ _ _ => rfl; go_simp)⟩) hHeld ?_
  try simp only [List.setIfInBounds_toArray, List.set_cons_zero, List.set_cons_succ]
  refine wpAnyH_ready (rs := [9]) (by kernel_rfl) (by simp) ?_
  refine AllReadyH.cons (o := _) rfl (fun K hK => ?_) (AllReadyH.nil)
  go_simp
  go_at_call 33
  refine (gather_n _ _ _).mono ?_
  rintro e w3 ⟨rfl, rfl⟩
  go_simp
  refine hK.out _ _ (HH.out) (fun hHeld => ?_)
  clear hK K
  try simp only [Act.put, List.setIfInBounds_toArray, List.set_cons_zero, List.set_cons_succ]
  refine wpAnyH_done (by kernel_rfl) ?_ _
  refine NoPanic.normal ?_
  first
    | apply hK1
    | apply K1
  clear hK1 K1
  go_wp2_with fail
  go_ret
  exact ⟨rfl, HB.out.drew⟩
theorem all_n (v : Value) (w : World) (h : NoP v w) : Calls Try.prog 22 #[v] w fun e w' => e = .returned (.func (.func 40) #[] #[.pointer (some ⟨w.heap.size + 1, 0, none⟩)]) ∧ Below w.heap.size w w' ∧ w'.heap.size = w.heap.size + 2 ∧ w'.heap[w.heap.size + 1]? = some (.cells #[.slice none 0 0] 22 (0, 0)) := by
  obtain ⟨W, hW⟩ : ∃ W, W = w.alloc (.cells noStore 79) := ⟨_, rfl⟩
  have hb : Below w.heap.size w W := by rw [hW]; exact (Below.refl _ _).alloc (Nat.le_refl _) _
  have HI := Lib.hid (seen_n v w h)
  rw [← hW] at HI
  have r1 : W.heap[w.heap.size]? = some (.cells noStore 79) := by rw [hW]; exact heap_alloc_new w _
  have hc : W.cell? ⟨w.heap.size, 0, none⟩ = some (.slice none 0 0) := cell_of_row W w.heap.size 0 _ _ (0, 0) r1
  have z0 : W.heap.size = w.heap.size + 1 := by rw [hW]; simp
  have hz : (zeroValue 22).run Try.prog w = .ok (.slice none 0 0) w := by kernel_rfl
  have FIN : Hid (Below w.heap.size w (W.alloc (.cells #[.slice none 0 0] 22)) ∧ (W.alloc (.cells #[.slice none 0 0] 22)).heap.size = w.heap.size + 2 ∧ (W.alloc (.cells #[.slice none 0 0] 22)).heap[w.heap.size + 1]? = some (.cells #[.slice none 0 0] 22 (0, 0))) :=
    ⟨hb.alloc hb.size _, by simp [z0], by rw [← z0]; exact heap_alloc_new W _⟩
  have Z := Lib.hid z0
  clear hW h r1 hb z0
  go_enter Try.func22, Try.ntmps22
  go_wp2_with fail
  refine HI.out.mono ?_
  rintro e w1 ⟨rfl, rfl⟩
  go_wp2_with fail
  go_ret
  refine ⟨?_, FIN.out⟩
  rw [← Z.out]
  rfl
theorem all1_n (y : Value) (a : Nat) (w : World) (h : w.cell? ⟨a, 0, none⟩ = some (.slice none 0 0)) : Calls Try.prog 40 #[y, .pointer (some ⟨a, 0, none⟩)] w fun e w' => e = .returned (.tuple #[]) ∧ w' = w := by
  go_enter Try.func40, Try.ntmps40
  go_wp2_with fail
  refine wp_loop_rounds 1 ?_
  rw [rounds_succ]
  go_wp2_with fail
  exact bodyPost_end (results_none rfl _ _ _) rfl ⟨rfl, rfl⟩
end Go.Proofs.Ytiobmgoapcbbfaa
