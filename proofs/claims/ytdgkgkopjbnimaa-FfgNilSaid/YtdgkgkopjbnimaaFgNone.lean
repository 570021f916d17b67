/- What one that is not there answers. -/
import Derived.Test.YtdgkgkopjbnimaaFgKnown
namespace Go.Proofs.Ytdgkgkopjbnimaa
open Go.ChangeMaps Go.MapKept Go.Maps Go.WideElems Go.RowKit
set_option linter.unusedVariables false
set_option maxRecDepth 100000

/-- A nil gadget, or a zero one. -/
def NoG (v : Value) (w : World) : Prop := v = .pointer none ∨ ∃ g, v = .pointer (some ⟨g, 0, none⟩) ∧ w.heap[g]? = some (.cells #[.pointer none] 51 (0, 0))
theorem NoG.below {v : Value} {w w' : World} (h : NoG v w) (hb : Below w.heap.size w w') : NoG v w' := by
  rcases h with h | ⟨g, h1, h2⟩
  · exact .inl h
  · refine .inr ⟨g, h1, (hb.block g ?_).trans h2⟩
    rcases Nat.lt_or_ge g w.heap.size with h' | h'
    · exact h'
    · rw [Array.getElem?_eq_none h'] at h2; cases h2
def noStore : Array Value := #[.slice none 0 0, .map none, .map none, .map none]
theorem lookup_nil (p : Pt) (w : World) : (Instr.lookup 70 (.map none) (.agg (pv p)) false).run Try.prog w = .ok (.int .i64 0) w := by
  have hk := keyP.at_ p
  have hc := keyP.law.check w true hk
  have hf : (Instr.findKey 29 (.agg (pv p)) []).run Try.prog w = .ok none w := by
    rcases keyP.law.find w hk [] (fun e he => by cases he) with ⟨h, _⟩ | ⟨j, e, _, h, _⟩
    · exact h
    · rw [List.getElem?_nil] at h; cases h
  have hz := zero_standing w
  simp [Instr.lookup, run_underlying Try.underlying70, hc, hf, hz]
theorem isNone_n (v : Value) (w : World) (h : NoG v w) : Calls Try.prog 29 #[v] w fun e w' => e = .returned (.bool true) ∧ w' = w := by
  rcases h with rfl | ⟨g, rfl, h⟩
  · go_enter Try.func29, Try.ntmps29
    go_wp2_with fail
    go_ret
    exact ⟨rfl, rfl⟩
  · have hc : w.cell? ⟨g, 0, none⟩ = some (.pointer none) := cell_of_row w g 0 _ _ (0, 0) h
    go_enter Try.func29, Try.ntmps29
    go_wp2_with fail
    go_ret
    exact ⟨rfl, rfl⟩
theorem seen_n (v : Value) (w : World) (h : NoG v w) : Calls Try.prog 35 #[v] w fun e w' => e = .returned (.pointer (some ⟨w.heap.size, 0, none⟩)) ∧ w' = w.alloc (.cells noStore 73) := by
  have hI := Lib.hid (isNone_n v w h)
  have hz : Try.prog.built 73 [] = some noStore := by kernel_rfl
  go_enter Try.func35, Try.ntmps35
  go_wp2_with fail
  refine hI.out.mono ?_
  rintro e w1 ⟨rfl, rfl⟩
  go_wp2_with (first
    | (refine wpList_build_as' rfl 73 #[] rfl _ _ hz (by kernel_rfl) ?_)
    | fail)
  go_ret
  exact ⟨rfl, rfl⟩
set_option maxHeartbeats 4000000 in
theorem justified_n (v : Value) (p : Pt) (w : World) (h : NoG v w) : Calls Try.prog 22 #[v, .agg (pv p)] w fun e w' => e = .returned (.bool false) ∧ Below w.heap.size w w' := by
  obtain ⟨W, hW⟩ : ∃ W, W = w.alloc (.cells (pv p) 29) := ⟨_, rfl⟩
  have hB : Below w.heap.size w W := by rw [hW]; exact (Below.refl _ _).alloc (Nat.le_refl _) _
  have h0 : PkB w.heap.size p W.drew := by rw [hW]; exact PkB.new
  have hN : NoG v W.drew := (h.below hB).below ((Below.refl _ _).drew)
  obtain ⟨u1, hu1⟩ : ∃ u1, u1 = W.drew.alloc (.cells noStore 73) := ⟨_, rfl⟩
  have b1 : Below W.heap.size W u1 := by rw [hu1]; exact ((Below.refl _ _).drew).alloc (Nat.le_refl _) _
  have P1 := Lib.hid (h0.below (show Below W.heap.size W.drew u1 by rw [hu1]; exact (Below.refl W.drew.heap.size W.drew).alloc (Nat.le_refl _) _) (show w.heap.size < W.heap.size by rw [hW]; simp))
  have r1 : u1.heap[W.heap.size]? = some (.cells noStore 73 (0, 0)) := by rw [hu1]; exact heap_alloc_new W.drew _
  have hc : u1.cell? ⟨W.heap.size, 2, none⟩ = some (.map none) := cell_of_row u1 W.heap.size 2 _ _ (0, 0) r1
  have HB1 := Lib.hid (hB.trans (b1.mono hB.size))
  have SN := Lib.hid (seen_n v W.drew hN)
  rw [show W.drew.heap = W.heap from rfl, ← hu1] at SN
  have H0 := Lib.hid h0
  have HW := Lib.hid hW
  have hz := zero_standing
  have hln := lookup_nil p
  clear hW hB h0 hN hu1 b1 r1 h
  go_enter Try.func22, Try.ntmps22
  go_wp2_with fail
  rw [← HW.out]
  rename_i K1 hK1
  refine wp_region_noPanic ?_
  refine wp_region_held_drew (S := (fun u => PkB w.heap.size p u)) (by kernel_rfl) (H0.out) (fun hHeld => ?_)
  refine takeH (i := 0) (d := 5) (oi := _) (v := v) rfl (by kernel_rfl) (by kernel_rfl) (by kernel_rfl) (by kernel_rfl) (fun _ _ _ h => h) (Or.inl ⟨by kernel_rfl, by intro u hSw; clear hSw; go_simp⟩) hHeld ?_
  try simp only [List.setIfInBounds_toArray, List.set_cons_zero, List.set_cons_succ]
  refine takeH (i := 5) (d := 10) (oi := _) (v := .agg (pv p)) rfl (by kernel_rfl) (by kernel_rfl) (by kernel_rfl) (by kernel_rfl) (fun _ _ _ h => h) (yieldsIf_load_midC (by kernel_rfl) _ _ rfl (w.heap.size) 0 rfl (pC p) (pv p) (pC_arr p) _ (fun u hSw => hSw.all) Try.underlying29 rfl (size_pv p)) hHeld ?_
  try simp only [List.setIfInBounds_toArray, List.set_cons_zero, List.set_cons_succ]
  refine wpAnyH_ready (rs := [1]) (by kernel_rfl) (by simp) ?_
  refine AllReadyH.cons (o := _) rfl (fun K hK => ?_) (AllReadyH.nil)
  go_simp
  go_at_call 35
  refine SN.out.mono ?_
  rintro e w1 ⟨rfl, rfl⟩
  go_simp
  refine hK.out _ _ (P1.out) (fun hHeld => ?_)
  clear hK K
  try simp only [Act.put, List.setIfInBounds_toArray, List.set_cons_zero, List.set_cons_succ]
  refine wpAnyH_ready (rs := [2]) (by kernel_rfl) (by simp) ?_
  refine AllReadyH.cons (o := _) rfl (fun K hK => ?_) (AllReadyH.nil)
  go_simp
  refine hK.out _ _ (P1.out) (fun hHeld => ?_)
  clear hK K
  try simp only [Act.put, List.setIfInBounds_toArray, List.set_cons_zero, List.set_cons_succ]
  refine wpAnyH_ready (rs := [3]) (by kernel_rfl) (by simp) ?_
  refine AllReadyH.cons (o := _) rfl (fun K hK => ?_) (AllReadyH.nil)
  go_simp
  refine hK.out _ _ (P1.out) (fun hHeld => ?_)
  clear hK K
  try simp only [Act.put, List.setIfInBounds_toArray, List.set_cons_zero, List.set_cons_succ]
  refine wpAnyH_ready (rs := [4]) (by kernel_rfl) (by simp) ?_
  refine AllReadyH.cons (o := _) rfl (fun K hK => ?_) (AllReadyH.nil)
  go_simp
  refine hK.out _ _ (P1.out) (fun hHeld => ?_)
  clear hK K
  try simp only [Act.put, List.setIfInBounds_toArray, List.set_cons_zero, List.set_cons_succ]
  refine wpAnyH_ready (rs := [6]) (by kernel_rfl) (by simp) ?_
  refine AllReadyH.cons (o := _) rfl (fun K hK => ?_) (AllReadyH.nil)
  go_simp
  refine hK.out _ _ (P1.out) (fun hHeld => ?_)
  clear hK K
  try simp only [Act.put, List.setIfInBounds_toArray, List.set_cons_zero, List.set_cons_succ]
  refine wpAnyH_ready (rs := [7]) (by kernel_rfl) (by simp) ?_
  refine AllReadyH.cons (o := _) rfl (fun K hK => ?_) (AllReadyH.nil)
  go_simp
  refine hK.out _ _ (P1.out) (fun hHeld => ?_)
  clear hK K
  try simp only [Act.put, List.setIfInBounds_toArray, List.set_cons_zero, List.set_cons_succ]
  refine wpAnyH_ready (rs := [8]) (by kernel_rfl) (by simp) ?_
  refine AllReadyH.cons (o := _) rfl (fun K hK => ?_) (AllReadyH.nil)
  go_simp
  refine hK.out _ _ (P1.out) (fun hHeld => ?_)
  clear hK K
  try simp only [Act.put, List.setIfInBounds_toArray, List.set_cons_zero, List.set_cons_succ]
  refine wpAnyH_done (by kernel_rfl) ?_ _
  refine NoPanic.normal ?_
  first
    | apply hK1
    | apply K1
  clear hK1 K1
  go_wp2_with fail
  go_ret
  exact ⟨rfl, HB1.out⟩
set_option maxHeartbeats 4000000 in
theorem final_n (v : Value) (p : Pt) (w : World) (h : NoG v w) : Calls Try.prog 23 #[v, .agg (pv p)] w fun e w' => e = .returned (.bool false) ∧ Below w.heap.size w w' := by
  obtain ⟨W, hW⟩ : ∃ W, W = w.alloc (.cells (pv p) 29) := ⟨_, rfl⟩
  have hB : Below w.heap.size w W := by rw [hW]; exact (Below.refl _ _).alloc (Nat.le_refl _) _
  have h0 : PkB w.heap.size p W.drew := by rw [hW]; exact PkB.new
  have hN : NoG v W.drew := (h.below hB).below ((Below.refl _ _).drew)
  obtain ⟨u1, hu1⟩ : ∃ u1, u1 = W.drew.alloc (.cells noStore 73) := ⟨_, rfl⟩
  have b1 : Below W.heap.size W u1 := by rw [hu1]; exact ((Below.refl _ _).drew).alloc (Nat.le_refl _) _
  have P1 := Lib.hid (h0.below (show Below W.heap.size W.drew u1 by rw [hu1]; exact (Below.refl W.drew.heap.size W.drew).alloc (Nat.le_refl _) _) (show w.heap.size < W.heap.size by rw [hW]; simp))
  have r1 : u1.heap[W.heap.size]? = some (.cells noStore 73 (0, 0)) := by rw [hu1]; exact heap_alloc_new W.drew _
  have hc : u1.cell? ⟨W.heap.size, 2, none⟩ = some (.map none) := cell_of_row u1 W.heap.size 2 _ _ (0, 0) r1
  have HB1 := Lib.hid (hB.trans (b1.mono hB.size))
  have SN := Lib.hid (seen_n v W.drew hN)
  rw [show W.drew.heap = W.heap from rfl, ← hu1] at SN
  have H0 := Lib.hid h0
  have HW := Lib.hid hW
  have hz := zero_standing
  have hln := lookup_nil p
  clear hW hB h0 hN hu1 b1 r1 h
  go_enter Try.func23, Try.ntmps23
  go_wp2_with fail
  rw [← HW.out]
  rename_i K1 hK1
  refine wp_region_noPanic ?_
  refine wp_region_held_drew (S := (fun u => PkB w.heap.size p u)) (by kernel_rfl) (H0.out) (fun hHeld => ?_)
  refine takeH (i := 0) (d := 5) (oi := _) (v := v) rfl (by kernel_rfl) (by kernel_rfl) (by kernel_rfl) (by kernel_rfl) (fun _ _ _ h => h) (Or.inl ⟨by kernel_rfl, by intro u hSw; clear hSw; go_simp⟩) hHeld ?_
  try simp only [List.setIfInBounds_toArray, List.set_cons_zero, List.set_cons_succ]
  refine takeH (i := 5) (d := 10) (oi := _) (v := .agg (pv p)) rfl (by kernel_rfl) (by kernel_rfl) (by kernel_rfl) (by kernel_rfl) (fun _ _ _ h => h) (yieldsIf_load_midC (by kernel_rfl) _ _ rfl (w.heap.size) 0 rfl (pC p) (pv p) (pC_arr p) _ (fun u hSw => hSw.all) Try.underlying29 rfl (size_pv p)) hHeld ?_
  try simp only [List.setIfInBounds_toArray, List.set_cons_zero, List.set_cons_succ]
  refine wpAnyH_ready (rs := [1]) (by kernel_rfl) (by simp) ?_
  refine AllReadyH.cons (o := _) rfl (fun K hK => ?_) (AllReadyH.nil)
  go_simp
  go_at_call 35
  refine SN.out.mono ?_
  rintro e w1 ⟨rfl, rfl⟩
  go_simp
  refine hK.out _ _ (P1.out) (fun hHeld => ?_)
  clear hK K
  try simp only [Act.put, List.setIfInBounds_toArray, List.set_cons_zero, List.set_cons_succ]
  refine wpAnyH_ready (rs := [2]) (by kernel_rfl) (by simp) ?_
  refine AllReadyH.cons (o := _) rfl (fun K hK => ?_) (AllReadyH.nil)
  go_simp
  refine hK.out _ _ (P1.out) (fun hHeld => ?_)
  clear hK K
  try simp only [Act.put, List.setIfInBounds_toArray, List.set_cons_zero, List.set_cons_succ]
  refine wpAnyH_ready (rs := [3]) (by kernel_rfl) (by simp) ?_
  refine AllReadyH.cons (o := _) rfl (fun K hK => ?_) (AllReadyH.nil)
  go_simp
  refine hK.out _ _ (P1.out) (fun hHeld => ?_)
  clear hK K
  try simp only [Act.put, List.setIfInBounds_toArray, List.set_cons_zero, List.set_cons_succ]
  refine wpAnyH_ready (rs := [4]) (by kernel_rfl) (by simp) ?_
  refine AllReadyH.cons (o := _) rfl (fun K hK => ?_) (AllReadyH.nil)
  go_simp
  refine hK.out _ _ (P1.out) (fun hHeld => ?_)
  clear hK K
  try simp only [Act.put, List.setIfInBounds_toArray, List.set_cons_zero, List.set_cons_succ]
  refine wpAnyH_ready (rs := [6]) (by kernel_rfl) (by simp) ?_
  refine AllReadyH.cons (o := _) rfl (fun K hK => ?_) (AllReadyH.nil)
  go_simp
  refine hK.out _ _ (P1.out) (fun hHeld => ?_)
  clear hK K
  try simp only [Act.put, List.setIfInBounds_toArray, List.set_cons_zero, List.set_cons_succ]
  refine wpAnyH_ready (rs := [7]) (by kernel_rfl) (by simp) ?_
  refine AllReadyH.cons (o := _) rfl (fun K hK => ?_) (AllReadyH.nil)
  go_simp
  refine hK.out _ _ (P1.out) (fun hHeld => ?_)
  clear hK K
  try simp only [Act.put, List.setIfInBounds_toArray, List.set_cons_zero, List.set_cons_succ]
  refine wpAnyH_ready (rs := [8]) (by kernel_rfl) (by simp) ?_
  refine AllReadyH.cons (o := _) rfl (fun K hK => ?_) (AllReadyH.nil)
  go_simp
  refine hK.out _ _ (P1.out) (fun hHeld => ?_)
  clear hK K
  try simp only [Act.put, List.setIfInBounds_toArray, List.set_cons_zero, List.set_cons_succ]
  refine wpAnyH_done (by kernel_rfl) ?_ _
  refine NoPanic.normal ?_
  first
    | apply hK1
    | apply K1
  clear hK1 K1
  go_wp2_with fail
  go_ret
  exact ⟨rfl, HB1.out⟩
end Go.Proofs.Ytdgkgkopjbnimaa
