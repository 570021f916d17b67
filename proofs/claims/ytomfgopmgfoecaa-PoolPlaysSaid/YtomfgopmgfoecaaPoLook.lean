/- A pool's looks. -/
import Derived.Test.YtomfgopmgfoecaaPoPut
import Derived.BigFrame
namespace Go.Proofs.Ytomfgopmgfoecaa
open Go.ChangeMaps Go.MapKept Go.Maps Go.RowKit Go.ChangeShapes Go.WideShapes Go.ChangeAt
set_option linter.unusedVariables false
set_option maxRecDepth 100000

theorem zero_empty (u : World) : (zeroValue 89).run Try.prog u = .ok (.agg #[]) u := by kernel_rfl
theorem fld0 (a : Int) (A : Option Addr) (n c : Nat) (u : World) : (Instr.field 82 (.agg #[.int .u64 a, .slice A n c]) 0).run Try.prog u = .ok (.int .u64 a) u := by kernel_rfl
theorem fld1 (a : Int) (A : Option Addr) (n c : Nat) (u : World) : (Instr.field 82 (.agg #[.int .u64 a, .slice A n c]) 1).run Try.prog u = .ok (.slice A n c) u := by kernel_rfl
section
variable {s bt bk bb : Nat} {vv vl : Value} {hd : Lk ⊕ Hh → Option Value} {F : Nat → Prop} {S : PoS} {n : Nat} {w w' : World}
def HhB (g : Nat) (k : Hh) (w : World) : Prop := Fill g 24 32 32 (hF k.l) w
theorem hhB_all {g : Nat} {k : Hh} {w : World} (h : HhB g k w) : w.rangeAt g 0 (hhC k) := fun j v hv => by
  have hj : j < 32 := by rw [← hhC_len k]; exact (List.getElem?_eq_some_iff.1 hv).1
  unfold hhC at hv
  rw [List.getElem?_map, List.getElem?_range hj] at hv
  rw [Nat.zero_add, Fill.at_ h j hj, ← hv]
  rfl
set_option maxHeartbeats 4000000 in
theorem has_c (h : PoB s bt bk bb vv vl hd F S n w) (k : Hh) (l : Lk) : Calls Try.prog 43 #[.pointer (some ⟨s, 0, none⟩), .agg (hhv k), .agg (lv l)] w fun e w' => e = .returned (.bool (decide ((⟨k, l⟩ : Bt) ∈ S.bal))) ∧ Below w.heap.size w w' := by
  have hz := zero_empty
  obtain ⟨W0, hW0⟩ : ∃ W0, W0 = w.alloc (.cells (hhv k) 24) := ⟨_, rfl⟩
  obtain ⟨W, hW⟩ : ∃ W, W = W0.alloc (.cells (lv l) 50) := ⟨_, rfl⟩
  have b0 : Below w.heap.size w W0 := by rw [hW0]; exact (Below.refl _ _).alloc (Nat.le_refl _) _
  have b1 : Below W0.heap.size W0 W := by rw [hW]; exact (Below.refl _ _).alloc (Nat.le_refl _) _
  have z0 : W0.heap.size = w.heap.size + 1 := by rw [hW0]; simp
  have h0 : HhB w.heap.size k W0 := by rw [hW0]; exact Fill.of_row (heap_alloc_new w _)
  have h1 : HhB w.heap.size k W := Fill.below h0 b1 (Fill.lt h0)
  have l1 : LkB (w.heap.size + 1) l W := by rw [← z0, hW]; exact LkB.new
  have bb1 := b0.trans (b1.mono b0.size)
  have hF := h.below bb1
  have KP : Hid (∀ u : World, Below W.heap.size W u → PoB s bt bk bb vv vl hd F S n u ∧ HhB w.heap.size k u ∧ LkB (w.heap.size + 1) l u) := fun u hu => ⟨hF.below hu, Fill.below h1 hu (Fill.lt h1), l1.below hu l1.lt⟩
  have HW0 := Lib.hid hW0
  have HW := Lib.hid hW
  have HB := Lib.hid bb1
  have HT : Hid ((balF S.bal ⟨k, l⟩).isSome = decide ((⟨k, l⟩ : Bt) ∈ S.bal)) := by
    unfold balF
    split
    · next hx => rw [decide_eq_true hx]; rfl
    · next hx => rw [decide_eq_false hx]; rfl
  have HG : Hid ((balF S.bal ⟨k, l⟩).getD (.agg #[]) = .agg #[]) := by
    unfold balF
    split <;> rfl
  clear hW0 hW b0 b1 z0 h0 h1 l1 bb1 hF h
  go_enter Try.func43, Try.ntmps43
  go_wp2_with fail
  rw [← HW0.out, ← HW.out]
  obtain ⟨w2, hw2⟩ : ∃ w2, w2 = W.drew := ⟨_, rfl⟩
  have BX : Hid (Below W.heap.size W w2) := by rw [hw2]; exact (Below.refl _ _).drew
  rename_i K1 hK1
  refine wp_region_noPanic ?_
  refine wp_region_held_drew (S := (fun u => PoB s bt bk bb vv vl hd F S n u ∧ HhB w.heap.size k u ∧ LkB (w.heap.size + 1) l u)) (by kernel_rfl) (by rw [← hw2]; exact KP.out _ BX.out) (fun hHeld => ?_)
  rw [← hw2]
  rw [← hw2] at hHeld
  clear hw2
  refine takeH (i := 0) (d := 10) (oi := _) (v := .pointer (some ⟨s, 0, none⟩)) rfl (by kernel_rfl) (by kernel_rfl) (by kernel_rfl) (by kernel_rfl) (fun _ _ _ h => h) (Or.inl ⟨by kernel_rfl, by intro u hSw; clear hSw; go_simp⟩) hHeld ?_
  try simp only [List.setIfInBounds_toArray, List.set_cons_zero, List.set_cons_succ]
  refine takeH (i := 1) (d := 11) (oi := _) (v := .pointer (some ⟨s, 0, none⟩)) rfl (by kernel_rfl) (by kernel_rfl) (by kernel_rfl) (by kernel_rfl) (fun _ _ _ h => h) (Or.inl ⟨by kernel_rfl, by intro u hSw; clear hSw; go_simp⟩) hHeld ?_
  try simp only [List.setIfInBounds_toArray, List.set_cons_zero, List.set_cons_succ]
  refine takeH (i := 2) (d := 12) (oi := _) (v := .pointer (some ⟨s, 4, none⟩)) rfl (by kernel_rfl) (by kernel_rfl) (by kernel_rfl) (by kernel_rfl) (fun _ _ _ h => h) (Or.inl ⟨by kernel_rfl, by intro u hSw; clear hSw; go_simp⟩) hHeld ?_
  try simp only [List.setIfInBounds_toArray, List.set_cons_zero, List.set_cons_succ]
  refine takeH (i := 3) (d := 13) (oi := _) (v := .map (some bb)) rfl (by kernel_rfl) (by kernel_rfl) (by kernel_rfl) (by kernel_rfl) (fun _ _ _ h => h) (Or.inl ⟨by kernel_rfl, by intro u hSw; (have hc : u.cell? ⟨s, 4, none⟩ = some (.map (some bb)) := cell_of_row u s 4 _ _ (0, 0) hSw.1.cells; clear hSw; go_simp)⟩) hHeld ?_
  try simp only [List.setIfInBounds_toArray, List.set_cons_zero, List.set_cons_succ]
  refine takeH (i := 4) (d := 14) (oi := _) (v := .agg (hhv k)) rfl (by kernel_rfl) (by kernel_rfl) (by kernel_rfl) (by kernel_rfl) (fun _ _ _ h => h) (yieldsIf_load_midC (by kernel_rfl) _ _ rfl (w.heap.size) 0 rfl (hhC k) (hhv k) (hhC_arr k) _ (fun u hSw => hhB_all hSw.2.1) Try.underlying24 rfl (size_hhv k)) hHeld ?_
  try simp only [List.setIfInBounds_toArray, List.set_cons_zero, List.set_cons_succ]
  refine takeH (i := 5) (d := 15) (oi := _) (v := .agg (lv l)) rfl (by kernel_rfl) (by kernel_rfl) (by kernel_rfl) (by kernel_rfl) (fun _ _ _ h => h) (yieldsIf_load_midC (by kernel_rfl) _ _ rfl ((w.heap.size + 1)) 0 rfl (lC l) (lv l) (lC_arr l) _ (fun u hSw => hSw.2.2.all) Try.underlying50 rfl (size_lv l)) hHeld ?_
  try simp only [List.setIfInBounds_toArray, List.set_cons_zero, List.set_cons_succ]
  refine takeH (i := 6) (d := 16) (oi := _) (v := .agg (btv ⟨k, l⟩)) rfl (by kernel_rfl) (by kernel_rfl) (by kernel_rfl) (by kernel_rfl) (fun _ _ _ h => h) (yieldsIf_build (by kernel_rfl) 91 #[(0, .tmp 14), (1, .tmp 15)] rfl _ _ (built_bt k l) (by kernel_rfl)) hHeld ?_
  try simp only [List.setIfInBounds_toArray, List.set_cons_zero, List.set_cons_succ]
  refine takeH (i := 7) (d := 17) (oi := _) (v := .tuple #[.agg #[], .bool (decide ((⟨k, l⟩ : Bt) ∈ S.bal))]) rfl (by kernel_rfl) (by kernel_rfl) (by kernel_rfl) (by kernel_rfl) (fun _ _ _ h => h) (Or.inl ⟨by kernel_rfl, by intro u hSw; (have hl := hSw.1.bals.lookOk keyB Try.underlying77 (z := .agg #[]) (zero_empty u) ⟨k, l⟩; rw [HG.out, HT.out] at hl; clear hSw; go_simp)⟩) hHeld ?_
  try simp only [List.setIfInBounds_toArray, List.set_cons_zero, List.set_cons_succ]
  refine takeH (i := 8) (d := 9) (oi := _) (v := .tuple #[.agg #[], .bool (decide ((⟨k, l⟩ : Bt) ∈ S.bal))]) rfl (by kernel_rfl) (by kernel_rfl) (by kernel_rfl) (by kernel_rfl) (fun _ _ _ h => h) (Or.inl ⟨by kernel_rfl, by intro u hSw; clear hSw; go_simp⟩) hHeld ?_
  try simp only [List.setIfInBounds_toArray, List.set_cons_zero, List.set_cons_succ]
  refine takeH (i := 9) (d := 18) (oi := _) (v := .agg #[]) rfl (by kernel_rfl) (by kernel_rfl) (by kernel_rfl) (by kernel_rfl) (fun _ _ _ h => h) (Or.inl ⟨by kernel_rfl, by intro u hSw; clear hSw; go_simp⟩) hHeld ?_
  try simp only [List.setIfInBounds_toArray, List.set_cons_zero, List.set_cons_succ]
  refine takeH (i := 10) (d := 19) (oi := _) (v := .bool (decide ((⟨k, l⟩ : Bt) ∈ S.bal))) rfl (by kernel_rfl) (by kernel_rfl) (by kernel_rfl) (by kernel_rfl) (fun _ _ _ h => h) (Or.inl ⟨by kernel_rfl, by intro u hSw; clear hSw; go_simp⟩) hHeld ?_
  try simp only [List.setIfInBounds_toArray, List.set_cons_zero, List.set_cons_succ]
  refine wpAnyH_ready (rs := [11]) (by kernel_rfl) (by simp) ?_
  refine AllReadyH.cons (o := _) rfl (fun K hK => ?_) (AllReadyH.nil)
  go_simp
  have b2 : Below w2.heap.size w2 (w2.alloc (.cells #[] 89)) := (Below.refl _ _).alloc (Nat.le_refl _) _
  obtain ⟨ge, hge⟩ : ∃ g0, g0 = w2.heap.size := ⟨_, rfl⟩
  rw [← hge]
  obtain ⟨w2, hw2⟩ : ∃ w3, w3 = w2.alloc (.cells #[] 89) := ⟨_, rfl⟩
  rw [← hw2] at b2 ⊢
  have BX := Lib.hid (BX.out.trans (b2.mono BX.out.size))
  clear b2 hw2 hge
  try go_simp
  refine hK.out _ _ (KP.out _ BX.out) (fun hHeld => ?_)
  clear hK K
  try simp only [Act.put, List.setIfInBounds_toArray, List.set_cons_zero, List.set_cons_succ]
  refine wpAnyH_ready (rs := [12]) (by kernel_rfl) (by simp) ?_
  refine AllReadyH.cons (o := _) rfl (fun K hK => ?_) (AllReadyH.nil)
  go_simp
  try go_simp
  refine hK.out _ _ (KP.out _ BX.out) (fun hHeld => ?_)
  clear hK K
  try simp only [Act.put, List.setIfInBounds_toArray, List.set_cons_zero, List.set_cons_succ]
  refine takeH (i := 13) (d := 8) (oi := _) (v := .bool (decide ((⟨k, l⟩ : Bt) ∈ S.bal))) rfl (by kernel_rfl) (by kernel_rfl) (by kernel_rfl) (by kernel_rfl) (fun _ _ _ h => h) (Or.inl ⟨by kernel_rfl, by intro u hSw; clear hSw; go_simp⟩) hHeld ?_
  try simp only [List.setIfInBounds_toArray, List.set_cons_zero, List.set_cons_succ]
  refine wpAnyH_done (by kernel_rfl) ?_ _
  refine NoPanic.normal ?_
  first
    | apply hK1
    | apply K1
  clear hK1 K1
  go_wp2_with fail
  go_ret
  exact ⟨rfl, HB.out.trans (BX.out.mono HB.out.size)⟩
set_option maxHeartbeats 4000000 in
theorem weight_c {g : Nat} (hg : PlB g s w) (h : PoB s bt bk bb vv vl hd F S n w) (l : Lk) (hw0 : S.pl (.inl l) = none → S.wt l = 0) : Calls Try.prog 15 #[.pointer (some ⟨g, 0, none⟩), .agg (lv l)] w fun e w' => e = .returned (.int .u64 (S.wt l : Int)) ∧ Below w.heap.size w w' := by
  obtain ⟨W, hW⟩ : ∃ W, W = w.alloc (.cells (lv l) 50) := ⟨_, rfl⟩
  have bb1 : Below w.heap.size w W := by rw [hW]; exact (Below.refl _ _).alloc (Nat.le_refl _) _
  have l1 : LkB w.heap.size l W := by rw [hW]; exact LkB.new
  have hF := h.below bb1
  have hg1 : PlB g s W := (bb1.block g (blk_lt hg)).trans hg
  obtain ⟨Ay, cy, hy, _⟩ := ownForm (h.row (.inl l)).1
  obtain ⟨ny, hny⟩ : ∃ ny, ny = ((S.pl (.inl l)).getD []).length := ⟨_, rfl⟩
  rw [← hny] at hy
  have TG := Lib.hid (tal_getD (S := S) h l hw0)
  rw [hy] at TG
  have KP : Hid (∀ u : World, Below W.heap.size W u → PlB g s u ∧ PoB s bt bk bb vv vl hd F S n u ∧ LkB w.heap.size l u) := fun u hu => ⟨(hu.block g (blk_lt hg1)).trans hg1, hF.below hu, l1.below hu l1.lt⟩
  have HW := Lib.hid hW
  have HB := Lib.hid bb1
  have HNY := Lib.hid hny
  clear hW bb1 l1 hF hg1 hy hny h hg hw0
  go_enter Try.func15, Try.ntmps15
  go_wp2_with fail
  rw [← HW.out]
  obtain ⟨w2, hw2⟩ : ∃ w2, w2 = W.drew := ⟨_, rfl⟩
  have BX : Hid (Below W.heap.size W w2) := by rw [hw2]; exact (Below.refl _ _).drew
  rename_i K1 hK1
  refine wp_region_noPanic ?_
  refine wp_region_held_drew (S := (fun u => PlB g s u ∧ PoB s bt bk bb vv vl hd F S n u ∧ LkB w.heap.size l u)) (by kernel_rfl) (by rw [← hw2]; exact KP.out _ BX.out) (fun hHeld => ?_)
  rw [← hw2]
  rw [← hw2] at hHeld
  clear hw2
  refine takeH (i := 0) (d := 5) (oi := _) (v := .pointer (some ⟨g, 0, none⟩)) rfl (by kernel_rfl) (by kernel_rfl) (by kernel_rfl) (by kernel_rfl) (fun _ _ _ h => h) (Or.inl ⟨by kernel_rfl, by intro u hSw; clear hSw; go_simp⟩) hHeld ?_
  try simp only [List.setIfInBounds_toArray, List.set_cons_zero, List.set_cons_succ]
  refine takeH (i := 5) (d := 10) (oi := _) (v := .agg (lv l)) rfl (by kernel_rfl) (by kernel_rfl) (by kernel_rfl) (by kernel_rfl) (fun _ _ _ h => h) (yieldsIf_load_midC (by kernel_rfl) _ _ rfl (w.heap.size) 0 rfl (lC l) (lv l) (lC_arr l) _ (fun u hSw => hSw.2.2.all) Try.underlying50 rfl (size_lv l)) hHeld ?_
  try simp only [List.setIfInBounds_toArray, List.set_cons_zero, List.set_cons_succ]
  refine wpAnyH_ready (rs := [1]) (by kernel_rfl) (by simp) ?_
  refine AllReadyH.cons (o := _) rfl (fun K hK => ?_) (AllReadyH.nil)
  go_simp
  go_at_call 32
  refine (seen_c g s _ (KP.out _ BX.out).1).mono ?_
  rintro e w3 ⟨rfl, rfl⟩
  go_simp
  refine hK.out _ _ (KP.out _ BX.out) (fun hHeld => ?_)
  clear hK K
  try simp only [Act.put, List.setIfInBounds_toArray, List.set_cons_zero, List.set_cons_succ]
  refine takeH (i := 2) (d := 7) (oi := _) (v := .pointer (some ⟨s, 0, none⟩)) rfl (by kernel_rfl) (by kernel_rfl) (by kernel_rfl) (by kernel_rfl) (fun _ _ _ h => h) (Or.inl ⟨by kernel_rfl, by intro u hSw; clear hSw; go_simp⟩) hHeld ?_
  try simp only [List.setIfInBounds_toArray, List.set_cons_zero, List.set_cons_succ]
  refine takeH (i := 3) (d := 8) (oi := _) (v := .pointer (some ⟨s, 2, none⟩)) rfl (by kernel_rfl) (by kernel_rfl) (by kernel_rfl) (by kernel_rfl) (fun _ _ _ h => h) (Or.inl ⟨by kernel_rfl, by intro u hSw; clear hSw; go_simp⟩) hHeld ?_
  try simp only [List.setIfInBounds_toArray, List.set_cons_zero, List.set_cons_succ]
  refine takeH (i := 4) (d := 9) (oi := _) (v := .map (some bt)) rfl (by kernel_rfl) (by kernel_rfl) (by kernel_rfl) (by kernel_rfl) (fun _ _ _ h => h) (Or.inl ⟨by kernel_rfl, by intro u hSw; (have hc : u.cell? ⟨s, 2, none⟩ = some (.map (some bt)) := cell_of_row u s 2 _ _ (0, 0) hSw.2.1.cells; clear hSw; go_simp)⟩) hHeld ?_
  try simp only [List.setIfInBounds_toArray, List.set_cons_zero, List.set_cons_succ]
  refine takeH (i := 6) (d := 11) (oi := _) (v := .agg #[.int .u64 (S.wt l : Int), .slice Ay ny cy]) rfl (by kernel_rfl) (by kernel_rfl) (by kernel_rfl) (by kernel_rfl) (fun _ _ _ h => h) (Or.inl ⟨by kernel_rfl, by intro u hSw; (have hl := hSw.2.1.tal.look keyL Try.underlying75 (z := .agg #[.int .u64 0, .slice none 0 0]) (zero_tally u) l; rw [TG.out] at hl; clear hSw; go_simp)⟩) hHeld ?_
  try simp only [List.setIfInBounds_toArray, List.set_cons_zero, List.set_cons_succ]
  refine takeH (i := 7) (d := 12) (oi := _) (v := .int .u64 (S.wt l : Int)) rfl (by kernel_rfl) (by kernel_rfl) (by kernel_rfl) (by kernel_rfl) (fun _ _ _ h => h) (Or.inl ⟨by kernel_rfl, by intro u hSw; clear hSw; have hf := fld0 (S.wt l : Int) Ay ny cy u; go_simp⟩) hHeld ?_
  try simp only [List.setIfInBounds_toArray, List.set_cons_zero, List.set_cons_succ]
  refine takeH (i := 8) (d := 4) (oi := _) (v := .int .u64 (S.wt l : Int)) rfl (by kernel_rfl) (by kernel_rfl) (by kernel_rfl) (by kernel_rfl) (fun _ _ _ h => h) (Or.inl ⟨by kernel_rfl, by intro u hSw; clear hSw; go_simp⟩) hHeld ?_
  try simp only [List.setIfInBounds_toArray, List.set_cons_zero, List.set_cons_succ]
  refine wpAnyH_done (by kernel_rfl) ?_ _
  refine NoPanic.normal ?_
  first
    | apply hK1
    | apply K1
  clear hK1 K1
  go_wp2_with fail
  go_ret
  exact ⟨rfl, HB.out.trans (BX.out.mono HB.out.size)⟩
set_option maxHeartbeats 4000000 in
theorem voters_c {g : Nat} (hg : PlB g s w) (h : PoB s bt bk bb vv vl hd F S n w) (l : Lk) (hw0 : S.pl (.inl l) = none → S.wt l = 0) : Calls Try.prog 18 #[.pointer (some ⟨g, 0, none⟩), .agg (lv l)] w fun e w' => e = .returned (.int .i64 (((S.pl (.inl l)).getD []).length : Nat)) ∧ Below w.heap.size w w' := by
  obtain ⟨W, hW⟩ : ∃ W, W = w.alloc (.cells (lv l) 50) := ⟨_, rfl⟩
  have bb1 : Below w.heap.size w W := by rw [hW]; exact (Below.refl _ _).alloc (Nat.le_refl _) _
  have l1 : LkB w.heap.size l W := by rw [hW]; exact LkB.new
  have hF := h.below bb1
  have hg1 : PlB g s W := (bb1.block g (blk_lt hg)).trans hg
  obtain ⟨Ay, cy, hy, _⟩ := ownForm (h.row (.inl l)).1
  obtain ⟨ny, hny⟩ : ∃ ny, ny = ((S.pl (.inl l)).getD []).length := ⟨_, rfl⟩
  rw [← hny] at hy
  have TG := Lib.hid (tal_getD (S := S) h l hw0)
  rw [hy] at TG
  have KP : Hid (∀ u : World, Below W.heap.size W u → PlB g s u ∧ PoB s bt bk bb vv vl hd F S n u ∧ LkB w.heap.size l u) := fun u hu => ⟨(hu.block g (blk_lt hg1)).trans hg1, hF.below hu, l1.below hu l1.lt⟩
  have HW := Lib.hid hW
  have HB := Lib.hid bb1
  have HNY := Lib.hid hny
  clear hW bb1 l1 hF hg1 hy hny h hg hw0
  go_enter Try.func18, Try.ntmps18
  go_wp2_with fail
  rw [← HW.out]
  obtain ⟨w2, hw2⟩ : ∃ w2, w2 = W.drew := ⟨_, rfl⟩
  have BX : Hid (Below W.heap.size W w2) := by rw [hw2]; exact (Below.refl _ _).drew
  rename_i K1 hK1
  refine wp_region_noPanic ?_
  refine wp_region_held_drew (S := (fun u => PlB g s u ∧ PoB s bt bk bb vv vl hd F S n u ∧ LkB w.heap.size l u)) (by kernel_rfl) (by rw [← hw2]; exact KP.out _ BX.out) (fun hHeld => ?_)
  rw [← hw2]
  rw [← hw2] at hHeld
  clear hw2
  refine takeH (i := 0) (d := 5) (oi := _) (v := .pointer (some ⟨g, 0, none⟩)) rfl (by kernel_rfl) (by kernel_rfl) (by kernel_rfl) (by kernel_rfl) (fun _ _ _ h => h) (Or.inl ⟨by kernel_rfl, by intro u hSw; clear hSw; go_simp⟩) hHeld ?_
  try simp only [List.setIfInBounds_toArray, List.set_cons_zero, List.set_cons_succ]
  refine takeH (i := 5) (d := 10) (oi := _) (v := .agg (lv l)) rfl (by kernel_rfl) (by kernel_rfl) (by kernel_rfl) (by kernel_rfl) (fun _ _ _ h => h) (yieldsIf_load_midC (by kernel_rfl) _ _ rfl (w.heap.size) 0 rfl (lC l) (lv l) (lC_arr l) _ (fun u hSw => hSw.2.2.all) Try.underlying50 rfl (size_lv l)) hHeld ?_
  try simp only [List.setIfInBounds_toArray, List.set_cons_zero, List.set_cons_succ]
  refine wpAnyH_ready (rs := [1]) (by kernel_rfl) (by simp) ?_
  refine AllReadyH.cons (o := _) rfl (fun K hK => ?_) (AllReadyH.nil)
  go_simp
  go_at_call 32
  refine (seen_c g s _ (KP.out _ BX.out).1).mono ?_
  rintro e w3 ⟨rfl, rfl⟩
  go_simp
  refine hK.out _ _ (KP.out _ BX.out) (fun hHeld => ?_)
  clear hK K
  try simp only [Act.put, List.setIfInBounds_toArray, List.set_cons_zero, List.set_cons_succ]
  refine takeH (i := 2) (d := 7) (oi := _) (v := .pointer (some ⟨s, 0, none⟩)) rfl (by kernel_rfl) (by kernel_rfl) (by kernel_rfl) (by kernel_rfl) (fun _ _ _ h => h) (Or.inl ⟨by kernel_rfl, by intro u hSw; clear hSw; go_simp⟩) hHeld ?_
  try simp only [List.setIfInBounds_toArray, List.set_cons_zero, List.set_cons_succ]
  refine takeH (i := 3) (d := 8) (oi := _) (v := .pointer (some ⟨s, 2, none⟩)) rfl (by kernel_rfl) (by kernel_rfl) (by kernel_rfl) (by kernel_rfl) (fun _ _ _ h => h) (Or.inl ⟨by kernel_rfl, by intro u hSw; clear hSw; go_simp⟩) hHeld ?_
  try simp only [List.setIfInBounds_toArray, List.set_cons_zero, List.set_cons_succ]
  refine takeH (i := 4) (d := 9) (oi := _) (v := .map (some bt)) rfl (by kernel_rfl) (by kernel_rfl) (by kernel_rfl) (by kernel_rfl) (fun _ _ _ h => h) (Or.inl ⟨by kernel_rfl, by intro u hSw; (have hc : u.cell? ⟨s, 2, none⟩ = some (.map (some bt)) := cell_of_row u s 2 _ _ (0, 0) hSw.2.1.cells; clear hSw; go_simp)⟩) hHeld ?_
  try simp only [List.setIfInBounds_toArray, List.set_cons_zero, List.set_cons_succ]
  refine takeH (i := 6) (d := 11) (oi := _) (v := .agg #[.int .u64 (S.wt l : Int), .slice Ay ny cy]) rfl (by kernel_rfl) (by kernel_rfl) (by kernel_rfl) (by kernel_rfl) (fun _ _ _ h => h) (Or.inl ⟨by kernel_rfl, by intro u hSw; (have hl := hSw.2.1.tal.look keyL Try.underlying75 (z := .agg #[.int .u64 0, .slice none 0 0]) (zero_tally u) l; rw [TG.out] at hl; clear hSw; go_simp)⟩) hHeld ?_
  try simp only [List.setIfInBounds_toArray, List.set_cons_zero, List.set_cons_succ]
  refine takeH (i := 7) (d := 12) (oi := _) (v := .slice Ay ny cy) rfl (by kernel_rfl) (by kernel_rfl) (by kernel_rfl) (by kernel_rfl) (fun _ _ _ h => h) (Or.inl ⟨by kernel_rfl, by intro u hSw; clear hSw; have hf := fld1 (S.wt l : Int) Ay ny cy u; go_simp⟩) hHeld ?_
  try simp only [List.setIfInBounds_toArray, List.set_cons_zero, List.set_cons_succ]
  refine takeH (i := 8) (d := 13) (oi := _) (v := .int .i64 (ny : Nat)) rfl (by kernel_rfl) (by kernel_rfl) (by kernel_rfl) (by kernel_rfl) (fun _ _ _ h => h) (Or.inl ⟨by kernel_rfl, by intro u hSw; clear hSw; go_simp⟩) hHeld ?_
  try simp only [List.setIfInBounds_toArray, List.set_cons_zero, List.set_cons_succ]
  refine takeH (i := 9) (d := 4) (oi := _) (v := .int .i64 (ny : Nat)) rfl (by kernel_rfl) (by kernel_rfl) (by kernel_rfl) (by kernel_rfl) (fun _ _ _ h => h) (Or.inl ⟨by kernel_rfl, by intro u hSw; clear hSw; go_simp⟩) hHeld ?_
  try simp only [List.setIfInBounds_toArray, List.set_cons_zero, List.set_cons_succ]
  refine wpAnyH_done (by kernel_rfl) ?_ _
  refine NoPanic.normal ?_
  first
    | apply hK1
    | apply K1
  clear hK1 K1
  go_wp2_with fail
  go_ret
  exact ⟨by rw [← HNY.out]; rfl, HB.out.trans (BX.out.mono HB.out.size)⟩
end
end Go.Proofs.Ytomfgopmgfoecaa
