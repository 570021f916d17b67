/- Readings that only rise: the contracts. -/
import Derived.Test.YtkjlcfffalmgoaaMem
import Derived.Test.YtkjlcfffalmgoaaWoFill
import Derived.Deep.Cut
import Derived.Lib.SmallJoins
namespace Go.Proofs.Ytkjlcfffalmgoaa
open Go.ChangeShapes Go.WideShapes Go.ChangeAt Go.RowKit
set_option linter.unusedVariables false
set_option maxRecDepth 100000

/-- A clock in memory: where it stands, how many made it stand later. -/
def CkB (g a n : Nat) (w : World) : Prop := w.heap[g]? = some (.cells #[.int .u64 (a : Int), .int .i64 (n : Int), .bool true] 47 (0, 0))
section
variable {g a n : Nat} {w w' : World}
theorem CkB.lt (h : CkB g a n w) : g < w.heap.size := by
  rcases Nat.lt_or_ge g w.heap.size with h2 | h2
  · exact h2
  · unfold CkB at h; rw [Array.getElem?_eq_none h2] at h; cases h
theorem CkB.keep (h : CkB g a n w) (e : w'.heap[g]? = w.heap[g]?) : CkB g a n w' := e.trans h
theorem CkB.below {B : Nat} (h : CkB g a n w) (hb : Below B w w') (hg : g < B) : CkB g a n w' := h.keep (hb.block g hg)
theorem CkB.grown {r : Option Nat} (h : CkB g a n w) (hg : w.grownBy w' r) (hr : some g ≠ r) : CkB g a n w' := h.keep (hg.block g h.lt hr)
theorem CkB.at_ (h : CkB g a n w) : w.cell? ⟨g, 0, none⟩ = some (.int .u64 (a : Int)) := cell_of_row w g 0 _ _ (0, 0) h
theorem CkB.taken (h : CkB g a n w) : w.cell? ⟨g, 1, none⟩ = some (.int .i64 (n : Int)) := cell_of_row w g 1 _ _ (0, 0) h
theorem CkB.frozen (h : CkB g a n w) (i : Nat) : w.frozen? ⟨g, i, none⟩ = false := by unfold CkB at h; simp [World.frozen?, h]
theorem CkB.made (h : CkB g a n w) : w.cell? ⟨g, 2, none⟩ = some (.bool true) := cell_of_row w g 2 _ _ (0, 0) h
end
theorem grown_setCell (w : World) (g i : Nat) (u : Value) : w.grownBy (w.setCell ⟨g, i, none⟩ u) (some g) :=
  ⟨rfl, rfl, rfl, by simp [World.setCell], fun k _ hk => Below.heap_setCell w _ u k (fun e => hk (by rw [e]))⟩
theorem block_setCell2 {w : World} {g i : Nat} {cs : Array Value} {t : TypeId} {fr : Nat × Nat} (h : w.heap[g]? = some (.cells cs t fr)) (v : Value) : (w.setCell ⟨g, i, none⟩ v).heap[g]? = some (.cells (cs.setIfInBounds i v) t fr) := by
  simp [World.setCell, Array.getElem?_modify, h]
theorem isNone_c (g a n : Nat) (w : World) (h : CkB g a n w) : Calls Try.prog 21 #[.pointer (some ⟨g, 0, none⟩)] w fun e w' => e = .returned (.bool false) ∧ w' = w := by
  have h2 := h.made
  go_enter Try.func21, Try.ntmps21
  go_wp2_with fail
  go_ret
  exact ⟨rfl, rfl⟩
theorem isNone_nil (w : World) : Calls Try.prog 21 #[.pointer none] w fun e w' => e = .returned (.bool true) ∧ w' = w := by
  go_enter Try.func21, Try.ntmps21
  go_wp2_with fail
  go_ret
  exact ⟨rfl, rfl⟩
theorem isNone_zero (g : Nat) (w : World) (h2 : w.cell? ⟨g, 2, none⟩ = some (.bool false)) : Calls Try.prog 21 #[.pointer (some ⟨g, 0, none⟩)] w fun e w' => e = .returned (.bool true) ∧ w' = w := by
  go_enter Try.func21, Try.ntmps21
  go_wp2_with fail
  go_ret
  exact ⟨rfl, rfl⟩
theorem new_c (a : Nat) (w : World) : Calls Try.prog 9 #[.int .u64 (a : Int)] w fun e w' => e = .returned (.pointer (some ⟨w.heap.size, 0, none⟩)) ∧ CkB w.heap.size a 0 w' ∧ Below w.heap.size w w' ∧ w'.heap.size = w.heap.size + 1 := by
  go_enter Try.func9, Try.ntmps9
  go_wp2_with fail
  go_ret
  exact ⟨rfl, heap_alloc_new w _, (Below.refl _ _).alloc (Nat.le_refl _) _, by simp⟩
theorem at_c (g a n : Nat) (w : World) (h : CkB g a n w) : Calls Try.prog 10 #[.pointer (some ⟨g, 0, none⟩)] w fun e w' => e = .returned (.int .u64 (a : Int)) ∧ w' = w := by
  have h0 := h.at_
  have HI := Lib.hid (isNone_c g a n w h)
  clear h
  go_enter Try.func10, Try.ntmps10
  go_wp2_with fail
  refine HI.out.mono ?_
  rintro e w1 ⟨rfl, rfl⟩
  go_wp2_with fail
  go_ret
  exact ⟨rfl, rfl⟩
theorem taken_c (g a n : Nat) (w : World) (h : CkB g a n w) : Calls Try.prog 11 #[.pointer (some ⟨g, 0, none⟩)] w fun e w' => e = .returned (.int .i64 (n : Int)) ∧ w' = w := by
  have h0 := h.taken
  have HI := Lib.hid (isNone_c g a n w h)
  clear h
  go_enter Try.func11, Try.ntmps11
  go_wp2_with fail
  refine HI.out.mono ?_
  rintro e w1 ⟨rfl, rfl⟩
  go_wp2_with fail
  go_ret
  exact ⟨rfl, rfl⟩
theorem copy_c (g a n : Nat) (w : World) (h : CkB g a n w) : Calls Try.prog 12 #[.pointer (some ⟨g, 0, none⟩)] w fun e w' => e = .returned (.pointer (some ⟨w.heap.size, 0, none⟩)) ∧ CkB w.heap.size a n w' ∧ Below w.heap.size w w' ∧ w'.heap.size = w.heap.size + 1 := by
  have h0 := h.at_
  have h1 := h.taken
  have h2 := h.made
  have HI := Lib.hid (isNone_c g a n w h)
  clear h
  go_enter Try.func12, Try.ntmps12
  go_wp2_with fail
  refine HI.out.mono ?_
  rintro e w1 ⟨rfl, rfl⟩
  go_wp2_with fail
  go_ret
  exact ⟨rfl, heap_alloc_new w1 _, (Below.refl _ _).alloc (Nat.le_refl _) _, by simp⟩
theorem asks_c (g a n r : Nat) (w : World) (h : CkB g a n w) : Calls Try.prog 14 #[.pointer (some ⟨g, 0, none⟩), .int .u64 (r : Int)] w fun e w' => e = .returned (.bool (decide (a < r))) ∧ w' = w := by
  have h0 := h.at_
  have HI := Lib.hid (isNone_c g a n w h)
  clear h
  by_cases hs : a < r
  · have d1 : decide ((r : Int) > (a : Int)) = true := by simp; omega
    have d1' : decide ((a : Int) < (r : Int)) = true := by simp; omega
    go_enter Try.func14, Try.ntmps14
    go_wp2_with fail
    refine HI.out.mono ?_
    rintro e w1 ⟨rfl, rfl⟩
    go_wp2_with fail
    go_ret
    refine ⟨?_, rfl⟩
    rw [decide_eq_true hs]
    rfl
  · have d1 : decide ((r : Int) > (a : Int)) = false := by simp; omega
    have d1' : decide ((a : Int) < (r : Int)) = false := by simp; omega
    go_enter Try.func14, Try.ntmps14
    go_wp2_with fail
    refine HI.out.mono ?_
    rintro e w1 ⟨rfl, rfl⟩
    go_wp2_with fail
    go_ret
    refine ⟨?_, rfl⟩
    rw [decide_eq_false hs]
    rfl
set_option maxHeartbeats 4000000 in
theorem take_c (g a n r : Nat) (hn : n < 2000000000) (w : World) (h : CkB g a n w) : Calls Try.prog 15 #[.pointer (some ⟨g, 0, none⟩), .int .u64 (r : Int)] w fun e w' => e = .returned (.tuple #[.bool (decide (a < r)), .int .i64 0]) ∧ CkB g (max a r) (n + if a < r then 1 else 0) w' ∧ w.grownBy w' (some g) ∧ w'.heap.size = w.heap.size := by
  have h0 := h.at_
  have h1 := h.taken
  have HI := Lib.hid (isNone_c g a n w h)
  have HA := Lib.hid (asks_c g a n r w h)
  have f0 := h.frozen 0
  have f1 := h.frozen 1
  have H := Lib.hid h
  clear h
  by_cases hs : a < r
  · obtain ⟨W1, hW1⟩ : ∃ W1, W1 = w.setCell ⟨g, 0, none⟩ (.int .u64 (r : Int)) := ⟨_, rfl⟩
    obtain ⟨W2, hW2⟩ : ∃ W2, W2 = W1.setCell ⟨g, 1, none⟩ (.int .i64 ((n : Int) + 1)) := ⟨_, rfl⟩
    have b1 : W1.heap[g]? = some (.cells #[.int .u64 (r : Int), .int .i64 (n : Int), .bool true] 47 (0, 0)) := by rw [hW1]; exact block_setCell2 H.out _
    have c1 : W1.cell? ⟨g, 1, none⟩ = some (.int .i64 (n : Int)) := cell_of_row W1 g 1 _ _ (0, 0) b1
    have b2 : Hid (W2.heap[g]? = some (.cells #[.int .u64 (r : Int), .int .i64 ((n : Int) + 1), .bool true] 47 (0, 0))) := Lib.hid (by rw [hW2]; exact block_setCell2 b1 _)
    have g2 : Hid (w.grownBy W2 (some g)) := Lib.hid (by
      rw [hW2, hW1]
      have x1 := grown_setCell w g 0 (.int .u64 (r : Int))
      have x2 := grown_setCell (w.setCell ⟨g, 0, none⟩ (.int .u64 (r : Int))) g 1 (.int .i64 ((n : Int) + 1))
      exact ⟨x2.os.trans x1.os, x2.tape.trans x1.tape, x2.output.trans x1.output, Nat.le_trans x1.size x2.size, fun k hk hne => (x2.block k (Nat.lt_of_lt_of_le hk x1.size) hne).trans (x1.block k hk hne)⟩)
    have z2 : Hid (W2.heap.size = w.heap.size) := Lib.hid (by rw [hW2, hW1]; simp [World.setCell])
    have HW1 := Lib.hid hW1
    have HW2 := Lib.hid hW2
    rw [decide_eq_true hs] at HA
    clear hW1 hW2 b1
    go_enter Try.func15, Try.ntmps15
    go_wp2_with fail
    refine HI.out.mono ?_
    rintro e w1 ⟨rfl, rfl⟩
    go_wp2_with fail
    refine HA.out.mono ?_
    rintro e w1 ⟨rfl, rfl⟩
    go_wp2_with fail
    rw [← HW1.out, ← HW2.out]
    go_ret2
    have e1 : max a r = r := by omega
    refine ⟨?_, ?_, g2.out, z2.out⟩
    · (try rw [decide_eq_true hs])
      rfl
    · (try rw [if_pos hs])
      rw [e1]
      exact b2.out
  · rw [decide_eq_false hs] at HA
    go_enter Try.func15, Try.ntmps15
    go_wp2_with fail
    refine HI.out.mono ?_
    rintro e w1 ⟨rfl, rfl⟩
    go_wp2_with fail
    refine HA.out.mono ?_
    rintro e w1 ⟨rfl, rfl⟩
    go_wp2_with fail
    go_ret2
    have e1 : max a r = a := by omega
    refine ⟨?_, ?_, World.grownBy.refl _ _, rfl⟩
    · (try rw [decide_eq_false hs])
      rfl
    · (try rw [if_neg hs])
      rw [e1]
      exact H.out
end Go.Proofs.Ytkjlcfffalmgoaa
