/- What a pool that is not there answers. -/
import Derived.Test.YtiobmgoapcbbfaaPoKnown
import Derived.Laws.IdiomRangeMap
import Derived.BigFrame
namespace Go.Proofs.Ytiobmgoapcbbfaa
open Go.ChangeMaps Go.MapKept Go.Maps Go.RowKit Go.ChangeShapes Go.WideShapes Go.ChangeAt
set_option linter.unusedVariables false
set_option maxRecDepth 100000

/-- A nil pool, or a zero one. -/
def NoP (v : Value) (w : World) : Prop := v = .pointer none ∨ ∃ g, v = .pointer (some ⟨g, 0, none⟩) ∧ w.heap[g]? = some (.cells #[.pointer none] 67 (0, 0))
theorem NoP.below {v : Value} {w w' : World} (h : NoP v w) (hb : Below w.heap.size w w') : NoP v w' := by
  rcases h with h | ⟨g, h1, h2⟩
  · exact .inl h
  · exact .inr ⟨g, h1, (hb.block g (blk_lt h2)).trans h2⟩
def noStore : Array Value := #[.slice none 0 0, .slice none 0 0, .map none, .map none, .map none]
theorem find_nil {α : Type} {k : TypeId} {enc : α → Value} {kl : α → Lit} (F : KeyF k enc kl) (a : α) (w : World) : (Instr.findKey k (enc a) []).run Try.prog w = .ok none w := by
  rcases F.law.find w (F.at_ a) [] (fun e he => by cases he) with ⟨h, _⟩ | ⟨j, e, _, h, _⟩
  · exact h
  · rw [List.getElem?_nil] at h; cases h
theorem lookup_nilT (l : Lk) (w : World) : (Instr.lookup 75 (.map none) (.agg (lv l)) false).run Try.prog w = .ok (.agg #[.int .u64 0, .slice none 0 0]) w := by
  have hc := keyL.law.check w true (keyL.at_ l)
  have hf := find_nil keyL l w
  have hz := zero_tally w
  simp [Instr.lookup, run_underlying Try.underlying75, hc, hf, hz]
theorem lookup_nilK (h : Hh) (w : World) : (Instr.lookup 76 (.map none) (.agg (hhv h)) false).run Try.prog w = .ok (.slice none 0 0) w := by
  have hc := keyH.law.check w true (keyH.at_ h)
  have hf := find_nil keyH h w
  have hz : (zeroValue 47).run Try.prog w = .ok (.slice none 0 0) w := by kernel_rfl
  simp [Instr.lookup, run_underlying Try.underlying76, hc, hf, hz]
theorem isNone_n (v : Value) (w : World) (h : NoP v w) : Calls Try.prog 38 #[v] w fun e w' => e = .returned (.bool true) ∧ w' = w := by
  rcases h with rfl | ⟨g, rfl, h⟩
  · go_enter Try.func38, Try.ntmps38
    go_wp2_with fail
    go_ret
    exact ⟨rfl, rfl⟩
  · have hc : w.cell? ⟨g, 0, none⟩ = some (.pointer none) := cell_of_row w g 0 _ _ (0, 0) h
    go_enter Try.func38, Try.ntmps38
    go_wp2_with fail
    go_ret
    exact ⟨rfl, rfl⟩
theorem seen_n (v : Value) (w : World) (h : NoP v w) : Calls Try.prog 32 #[v] w fun e w' => e = .returned (.pointer (some ⟨w.heap.size, 0, none⟩)) ∧ w' = w.alloc (.cells noStore 79) := by
  have hI := Lib.hid (isNone_n v w h)
  have hz : Try.prog.built 79 [] = some noStore := by kernel_rfl
  go_enter Try.func32, Try.ntmps32
  go_wp2_with fail
  refine hI.out.mono ?_
  rintro e w1 ⟨rfl, rfl⟩
  go_wp2_with (first
    | (refine wpList_build_as' rfl 79 #[] rfl _ _ hz (by kernel_rfl) ?_)
    | fail)
  go_ret
  exact ⟨rfl, rfl⟩
theorem copy_n (v : Value) (w : World) (h : NoP v w) : Calls Try.prog 21 #[v] w fun e w' => e = .returned (.pointer none) ∧ w' = w := by
  have HI := Lib.hid (isNone_n v w h)
  go_enter Try.func21, Try.ntmps21
  go_wp2_with fail
  refine HI.out.mono ?_
  rintro e w1 ⟨rfl, rfl⟩
  go_wp2_with fail
  go_ret
  exact ⟨rfl, rfl⟩
theorem clone_n (w : World) : Calls Try.prog 37 #[.slice none 0 0] w fun e w' => e = .returned (.slice none 0 0) ∧ w' = w := by
  have hq : (Sem.run Try.prog (binOp .eql 57 (.slice none 0 0) (.slice none 0 0)) w) = .ok (.bool true) w := by kernel_rfl
  go_enter Try.func37, Try.ntmps37
  go_wp2_with fail
  go_ret
  exact ⟨rfl, rfl⟩
theorem gather_n (pv fv : Value) (w : World) : Calls Try.prog 33 #[pv, .slice none 0 0, fv] w fun e w' => e = .returned (.tuple #[]) ∧ w' = w := by
  go_enter Try.func33, Try.ntmps33
  go_wp2_with fail
  refine wp_loop_rounds 1 ?_
  rw [rounds_succ]
  go_wp2_with fail
  exact bodyPost_end (results_none rfl _ _ _) rfl ⟨rfl, rfl⟩
theorem links_n (v : Value) (w : World) (h : NoP v w) : Calls Try.prog 20 #[v] w fun e w' => e = .returned (.slice none 0 0) ∧ Below w.heap.size w w' := by
  obtain ⟨W, hW⟩ : ∃ W, W = w.alloc (.cells noStore 79) := ⟨_, rfl⟩
  have HB : Hid (Below w.heap.size w W) := by rw [hW]; exact (Below.refl _ _).alloc (Nat.le_refl _) _
  have HI := Lib.hid (seen_n v w h)
  rw [← hW] at HI
  have r1 : W.heap[w.heap.size]? = some (.cells noStore 79) := by rw [hW]; exact heap_alloc_new w _
  have hc : W.cell? ⟨w.heap.size, 1, none⟩ = some (.slice none 0 0) := cell_of_row W w.heap.size 1 _ _ (0, 0) r1
  clear hW h r1
  go_enter Try.func20, Try.ntmps20
  go_wp2_with fail
  refine HI.out.mono ?_
  rintro e w1 ⟨rfl, rfl⟩
  go_wp2_with fail
  refine (clone_n w1).mono ?_
  rintro e w2 ⟨rfl, rfl⟩
  go_wp2_with fail
  go_ret
  exact ⟨rfl, HB.out⟩
theorem len_n (v : Value) (w : World) (h : NoP v w) : Calls Try.prog 19 #[v] w fun e w' => e = .returned (.int .i64 0) ∧ Below w.heap.size w w' := by
  obtain ⟨W, hW⟩ : ∃ W, W = w.alloc (.cells noStore 79) := ⟨_, rfl⟩
  have HB : Hid (Below w.heap.size w W) := by rw [hW]; exact (Below.refl _ _).alloc (Nat.le_refl _) _
  have HI := Lib.hid (seen_n v w h)
  rw [← hW] at HI
  have r1 : W.heap[w.heap.size]? = some (.cells noStore 79) := by rw [hW]; exact heap_alloc_new w _
  have hc : W.cell? ⟨w.heap.size, 0, none⟩ = some (.slice none 0 0) := cell_of_row W w.heap.size 0 _ _ (0, 0) r1
  clear hW h r1
  go_enter Try.func19, Try.ntmps19
  go_wp2_with fail
  refine HI.out.mono ?_
  rintro e w1 ⟨rfl, rfl⟩
  go_wp2_with fail
  go_ret
  exact ⟨rfl, HB.out⟩
set_option maxHeartbeats 4000000 in
theorem weight_n (v : Value) (l : Lk) (w : World) (h : NoP v w) : Calls Try.prog 15 #[v, .agg (lv l)] w fun e w' => e = .returned (.int .u64 0) ∧ Below w.heap.size w w' := by
  obtain ⟨W, hW⟩ : ∃ W, W = w.alloc (.cells (lv l) 50) := ⟨_, rfl⟩
  have hB : Below w.heap.size w W := by rw [hW]; exact (Below.refl _ _).alloc (Nat.le_refl _) _
  have h0 : LkB w.heap.size l W.drew := by rw [hW]; exact LkB.new
  have hN : NoP v W.drew := (h.below hB).below ((Below.refl _ _).drew)
  obtain ⟨u1, hu1⟩ : ∃ u1, u1 = W.drew.alloc (.cells noStore 79) := ⟨_, rfl⟩
  have b1 : Below W.heap.size W u1 := by rw [hu1]; exact ((Below.refl _ _).drew).alloc (Nat.le_refl _) _
  have P1 := Lib.hid (h0.below (show Below W.heap.size W.drew u1 by rw [hu1]; exact (Below.refl W.drew.heap.size W.drew).alloc (Nat.le_refl _) _) (show w.heap.size < W.heap.size by rw [hW]; simp))
  have r1 : u1.heap[W.heap.size]? = some (.cells noStore 79 (0, 0)) := by rw [hu1]; exact heap_alloc_new W.drew _
  have hc : u1.cell? ⟨W.heap.size, 2, none⟩ = some (.map none) := cell_of_row u1 W.heap.size 2 _ _ (0, 0) r1
  have HB1 := Lib.hid (hB.trans (b1.mono hB.size))
  have SN := Lib.hid (seen_n v W.drew hN)
  rw [show W.drew.heap = W.heap from rfl, ← hu1] at SN
  have H0 := Lib.hid h0
  have HW := Lib.hid hW
  clear hW hB h0 hN hu1 b1 r1 h
  go_enter Try.func15, Try.ntmps15
  go_wp2_with fail
  rw [← HW.out]
  rename_i K1 hK1
  refine wp_region_noPanic ?_
  refine wp_region_held_drew (S := (fun u => LkB w.heap.size l u)) (by kernel_rfl) (H0.out) (fun hHeld => ?_)
  refine takeH (i := 0) (d := 5) (oi := _) (v := v) rfl (by kernel_rfl) (by kernel_rfl) (by kernel_rfl) (by kernel_rfl) (fun _ _ _ h => h) (Or.inl ⟨by kernel_rfl, by intro u hSw; clear hSw; go_simp⟩) hHeld ?_
  try simp only [List.setIfInBounds_toArray, List.set_cons_zero, List.set_cons_succ]
  refine takeH (i := 5) (d := 10) (oi := _) (v := .agg (lv l)) rfl (by kernel_rfl) (by kernel_rfl) (by kernel_rfl) (by kernel_rfl) (fun _ _ _ h => h) (yieldsIf_load_midC (by kernel_rfl) _ _ rfl (w.heap.size) 0 rfl (lC l) (lv l) (lC_arr l) _ (fun u hSw => hSw.all) Try.underlying50 rfl (size_lv l)) hHeld ?_
  try simp only [List.setIfInBounds_toArray, List.set_cons_zero, List.set_cons_succ]
  refine wpAnyH_ready (rs := [1]) (by kernel_rfl) (by simp) ?_
  refine AllReadyH.cons (o := _) rfl (fun K hK => ?_) (AllReadyH.nil)
  go_simp
  go_at_call 32
  refine SN.out.mono ?_
  rintro e w3 ⟨rfl, rfl⟩
  go_simp
  refine hK.out _ _ (P1.out) (fun hHeld => ?_)
  clear hK K
  try simp only [Act.put, List.setIfInBounds_toArray, List.set_cons_zero, List.set_cons_succ]
  refine wpAnyH_ready (rs := [2]) (by kernel_rfl) (by simp) ?_
  refine AllReadyH.cons (o := _) rfl (fun K hK => ?_) (AllReadyH.nil)
  go_simp
  try go_simp
  refine hK.out _ _ (P1.out) (fun hHeld => ?_)
  clear hK K
  try simp only [Act.put, List.setIfInBounds_toArray, List.set_cons_zero, List.set_cons_succ]
  refine wpAnyH_ready (rs := [3]) (by kernel_rfl) (by simp) ?_
  refine AllReadyH.cons (o := _) rfl (fun K hK => ?_) (AllReadyH.nil)
  go_simp
  try go_simp
  refine hK.out _ _ (P1.out) (fun hHeld => ?_)
  clear hK K
  try simp only [Act.put, List.setIfInBounds_toArray, List.set_cons_zero, List.set_cons_succ]
  refine wpAnyH_ready (rs := [4]) (by kernel_rfl) (by simp) ?_
  refine AllReadyH.cons (o := _) rfl (fun K hK => ?_) (AllReadyH.nil)
  go_simp
  try go_simp
  refine hK.out _ _ (P1.out) (fun hHeld => ?_)
  clear hK K
  try simp only [Act.put, List.setIfInBounds_toArray, List.set_cons_zero, List.set_cons_succ]
  refine wpAnyH_ready (rs := [6]) (by kernel_rfl) (by simp) ?_
  refine AllReadyH.cons (o := _) rfl (fun K hK => ?_) (AllReadyH.nil)
  have hln := lookup_nilT l
  go_simp
  try go_simp
  refine hK.out _ _ (P1.out) (fun hHeld => ?_)
  clear hK K
  try simp only [Act.put, List.setIfInBounds_toArray, List.set_cons_zero, List.set_cons_succ]
  refine wpAnyH_ready (rs := [7]) (by kernel_rfl) (by simp) ?_
  refine AllReadyH.cons (o := _) rfl (fun K hK => ?_) (AllReadyH.nil)
  have hf := fun u => fld0 0 none 0 0 u
  go_simp
  try go_simp
  refine hK.out _ _ (P1.out) (fun hHeld => ?_)
  clear hK K
  try simp only [Act.put, List.setIfInBounds_toArray, List.set_cons_zero, List.set_cons_succ]
  refine takeH (i := 8) (d := 4) (oi := _) (v := .int .u64 0) rfl (by kernel_rfl) (by kernel_rfl) (by kernel_rfl) (by kernel_rfl) (fun _ _ _ h => h) (Or.inl ⟨by kernel_rfl, by intro u hSw; clear hSw; go_simp⟩) hHeld ?_
  try simp only [List.setIfInBounds_toArray, List.set_cons_zero, List.set_cons_succ]
  refine wpAnyH_done (by kernel_rfl) ?_ _
  refine NoPanic.normal ?_
  first
    | apply hK1
    | apply K1
  clear hK1 K1
  go_wp2_with fail
  go_ret
  exact ⟨rfl, HB1.out⟩
set_option maxHeartbeats 4000000 in
theorem voters_n (v : Value) (l : Lk) (w : World) (h : NoP v w) : Calls Try.prog 18 #[v, .agg (lv l)] w fun e w' => e = .returned (.int .i64 0) ∧ Below w.heap.size w w' := by
  obtain ⟨W, hW⟩ : ∃ W, W = w.alloc (.cells (lv l) 50) := ⟨_, rfl⟩
  have hB : Below w.heap.size w W := by rw [hW]; exact (Below.refl _ _).alloc (Nat.le_refl _) _
  have h0 : LkB w.heap.size l W.drew := by rw [hW]; exact LkB.new
  have hN : NoP v W.drew := (h.below hB).below ((Below.refl _ _).drew)
  obtain ⟨u1, hu1⟩ : ∃ u1, u1 = W.drew.alloc (.cells noStore 79) := ⟨_, rfl⟩
  have b1 : Below W.heap.size W u1 := by rw [hu1]; exact ((Below.refl _ _).drew).alloc (Nat.le_refl _) _
  have P1 := Lib.hid (h0.below (show Below W.heap.size W.drew u1 by rw [hu1]; exact (Below.refl W.drew.heap.size W.drew).alloc (Nat.le_refl _) _) (show w.heap.size < W.heap.size by rw [hW]; simp))
  have r1 : u1.heap[W.heap.size]? = some (.cells noStore 79 (0, 0)) := by rw [hu1]; exact heap_alloc_new W.drew _
  have hc : u1.cell? ⟨W.heap.size, 2, none⟩ = some (.map none) := cell_of_row u1 W.heap.size 2 _ _ (0, 0) r1
  have HB1 := Lib.hid (hB.trans (b1.mono hB.size))
  have SN := Lib.hid (seen_n v W.drew hN)
  rw [show W.drew.heap = W.heap from rfl, ← hu1] at SN
  have H0 := Lib.hid h0
  have HW := Lib.hid hW
  clear hW hB h0 hN hu1 b1 r1 h
  go_enter Try.func18, Try.ntmps18
  go_wp2_with fail
  rw [← HW.out]
  rename_i K1 hK1
  refine wp_region_noPanic ?_
  refine wp_region_held_drew (S := (fun u => LkB w.heap.size l u)) (by kernel_rfl) (H0.out) (fun hHeld => ?_)
  refine takeH (i := 0) (d := 5) (oi := _) (v := v) rfl (by kernel_rfl) (by kernel_rfl) (by kernel_rfl) (by kernel_rfl) (fun _ _ _ h => h) (Or.inl ⟨by kernel_rfl, by intro u hSw; clear hSw; go_simp⟩) hHeld ?_
  try simp only [List.setIfInBounds_toArray, List.set_cons_zero, List.set_cons_succ]
  refine takeH (i := 5) (d := 10) (oi := _) (v := .agg (lv l)) rfl (by kernel_rfl) (by kernel_rfl) (by kernel_rfl) (by kernel_rfl) (fun _ _ _ h => h) (yieldsIf_load_midC (by kernel_rfl) _ _ rfl (w.heap.size) 0 rfl (lC l) (lv l) (lC_arr l) _ (fun u hSw => hSw.all) Try.underlying50 rfl (size_lv l)) hHeld ?_
  try simp only [List.setIfInBounds_toArray, List.set_cons_zero, List.set_cons_succ]
  refine wpAnyH_ready (rs := [1]) (by kernel_rfl) (by simp) ?_
  refine AllReadyH.cons (o := _) rfl (fun K hK => ?_) (AllReadyH.nil)
  go_simp
  go_at_call 32
  refine SN.out.mono ?_
  rintro e w3 ⟨rfl, rfl⟩
  go_simp
  refine hK.out _ _ (P1.out) (fun hHeld => ?_)
  clear hK K
  try simp only [Act.put, List.setIfInBounds_toArray, List.set_cons_zero, List.set_cons_succ]
  refine wpAnyH_ready (rs := [2]) (by kernel_rfl) (by simp) ?_
  refine AllReadyH.cons (o := _) rfl (fun K hK => ?_) (AllReadyH.nil)
  go_simp
  try go_simp
  refine hK.out _ _ (P1.out) (fun hHeld => ?_)
  clear hK K
  try simp only [Act.put, List.setIfInBounds_toArray, List.set_cons_zero, List.set_cons_succ]
  refine wpAnyH_ready (rs := [3]) (by kernel_rfl) (by simp) ?_
  refine AllReadyH.cons (o := _) rfl (fun K hK => ?_) (AllReadyH.nil)
  go_simp
  try go_simp
  refine hK.out _ _ (P1.out) (fun hHeld => ?_)
  clear hK K
  try simp only [Act.put, List.setIfInBounds_toArray, List.set_cons_zero, List.set_cons_succ]
  refine wpAnyH_ready (rs := [4]) (by kernel_rfl) (by simp) ?_
  refine AllReadyH.cons (o := _) rfl (fun K hK => ?_) (AllReadyH.nil)
  go_simp
  try go_simp
  refine hK.out _ _ (P1.out) (fun hHeld => ?_)
  clear hK K
  try simp only [Act.put, List.setIfInBounds_toArray, List.set_cons_zero, List.set_cons_succ]
  refine wpAnyH_ready (rs := [6]) (by kernel_rfl) (by simp) ?_
  refine AllReadyH.cons (o := _) rfl (fun K hK => ?_) (AllReadyH.nil)
  have hln := lookup_nilT l
  go_simp
  try go_simp
  refine hK.out _ _ (P1.out) (fun hHeld => ?_)
  clear hK K
  try simp only [Act.put, List.setIfInBounds_toArray, List.set_cons_zero, List.set_cons_succ]
  refine wpAnyH_ready (rs := [7]) (by kernel_rfl) (by simp) ?_
  refine AllReadyH.cons (o := _) rfl (fun K hK => ?_) (AllReadyH.nil)
  have hf := fun u => fld1 0 none 0 0 u
  go_simp
  try go_simp
  refine hK.out _ _ (P1.out) (fun hHeld => ?_)
  clear hK K
  try simp only [Act.put, List.setIfInBounds_toArray, List.set_cons_zero, List.set_cons_succ]
  refine wpAnyH_ready (rs := [8]) (by kernel_rfl) (by simp) ?_
  refine AllReadyH.cons (o := _) rfl (fun K hK => ?_) (AllReadyH.nil)
  go_simp
  try go_simp
  refine hK.out _ _ (P1.out) (fun hHeld => ?_)
  clear hK K
  try simp only [Act.put, List.setIfInBounds_toArray, List.set_cons_zero, List.set_cons_succ]
  refine takeH (i := 9) (d := 4) (oi := _) (v := .int .i64 0) rfl (by kernel_rfl) (by kernel_rfl) (by kernel_rfl) (by kernel_rfl) (fun _ _ _ h => h) (Or.inl ⟨by kernel_rfl, by intro u hSw; clear hSw; go_simp⟩) hHeld ?_
  try simp only [List.setIfInBounds_toArray, List.set_cons_zero, List.set_cons_succ]
  refine wpAnyH_done (by kernel_rfl) ?_ _
  refine NoPanic.normal ?_
  first
    | apply hK1
    | apply K1
  clear hK1 K1
  go_wp2_with fail
  go_ret
  exact ⟨rfl, HB1.out⟩
end Go.Proofs.Ytiobmgoapcbbfaa
