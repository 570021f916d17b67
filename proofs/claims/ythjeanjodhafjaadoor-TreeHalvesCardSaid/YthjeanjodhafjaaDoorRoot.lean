/- Contracts: the reference's digits, times, above. -/
import Derived.Test.YthjeanjodhafjaaDoorRootPlain
import Derived.Test.YthjeanjodhafjaaDoorCode
namespace Go.Proofs.YthjeanjodhafjaaDoor
open Go.ChangeShapes Go.WideShapes Go.ChangeAt Go.RowKit
set_option linter.unusedVariables false

theorem ret_bool {a b : Bool} (h : a = b) : Ending.returned (.bool a) = .returned (.bool b) := by rw [h]
/-- A row of digits. -/
def wv (f : Nat → Nat) : Nat → Value := fun j => .int .u64 (f j : Int)
def zw : Nat → Value := fun _ => .int .u64 0
theorem zero_wide (u : World) : (zeroValue 73).run Tryd.prog u = .ok (.agg (rowV 12 zw)) u := by kernel_rfl
theorem size_wide : (Tryd.prog.info? 73).map (·.size) = some 12 := by kernel_rfl
theorem wide_size (f : Nat → Value) : (Tryd.prog.info? 73).map (·.size) = some (rowV 12 f).size := by rw [rowV_size]; exact size_wide

def dF (n i : Nat) : Nat → Value := fun j => if j < i then wv (dgs n) j else .int .u64 0
theorem dF_put (n i : Nat) (v : Value) (hv : v = wv (dgs n) i) : ∀ j, j < 12 → dF n (i + 1) j = if j = i then v else dF n i j := by
  intro j _
  unfold dF
  by_cases e : j = i
  · subst e; rw [if_pos (by omega), if_pos rfl, hv]
  · rw [if_neg e]
    by_cases h : j < i
    · rw [if_pos (by omega), if_pos h]
    · rw [if_neg (by omega), if_neg h]
theorem dF_done (n : Nat) (hn : n < 18446744073709551616) : ∀ j, j < 12 → wv (dgs n) j = dF n 4 j := by
  intro j _
  unfold dF
  by_cases h : j < 4
  · rw [if_pos h]
  · rw [if_neg h]
    unfold wv dgs
    have h2 : (65536 : Nat) ^ 4 ≤ 65536 ^ j := Nat.pow_le_pow_right (by omega) (by omega)
    have h3 : (65536 : Nat) ^ 4 = 18446744073709551616 := by decide
    rw [Nat.div_eq_of_lt (by omega)]
    rfl
theorem dg_shift_t (n k : Nat) : ((n : Int) / 2 ^ (16 * k)).tmod 65536 = ((dgs n k : Nat) : Int) := by
  have e : (65536 : Nat) ^ k = 2 ^ (16 * k) := by rw [Nat.pow_mul]
  have e2 : ((2 ^ (16 * k) : Nat) : Int) = (2 : Int) ^ (16 * k) := by simp
  unfold dgs
  rw [e, ← e2]
  generalize 2 ^ (16 * k) = p
  rfl

set_option maxRecDepth 100000 in
set_option maxHeartbeats 1000000 in
theorem digits_any (n : Nat) (w : World) (hn : n < 18446744073709551616) :
    Calls Tryd.prog 39 #[.int .u64 (n : Int)] w fun e w' => e = .returned (.agg (rowV 12 (wv (dgs n)))) ∧ Below w.heap.size w w' := by
  have hz := zero_wide
  go_enter Tryd.func39, Tryd.ntmps39
  go_wp2_with fail
  go_loopw [4] (fun v wr => ∃ i : Nat, i ≤ 4 ∧ v = .int .i64 i ∧ Fill (w.heap.size + 1) 73 12 12 (dF n i) wr ∧ Fill w.heap.size 73 12 12 zw wr ∧ Below w.heap.size w wr) (fun v _ => 4 - (intOf v).toNat)
  case atStart => exact ⟨0, by omega, rfl, (Fill.of_row (f := zw) (heap_alloc2_new w _ _)).same (fun j _ => by unfold dF zw; rw [if_neg (by omega)]), Fill.of_row (heap_alloc2_old w _ _), ((Below.refl _ _).alloc (Nat.le_refl _) _).alloc (by simp) _⟩
  case round =>
    obtain ⟨i, hi, rfl, hF1, hr1, hb⟩ := hrel
    by_cases hlt : i < 4
    · obtain ⟨u0, hu0, hf0⟩ := hF1.cell i (by omega)
      go_wp2_with fail
      refine ⟨⟨i + 1, by omega, by go_num, hF1.put (by omega) (dF_put n i _ ?_), hr1.keep (heap_setCell_other _ _ _ _ (by simp)), hb.setCell (by simp) _⟩, by simp [intOf]; omega⟩
      rw [dg_shift_t]
      rfl
    · obtain rfl : i = 4 := by omega
      have h1 := (hF1.same (dF_done n hn)).done
      have h2 := hr1.done
      go_wp2_with (first | (refine wpList_load_row rfl 73 (.tmp 3) rfl (w.heap.size + 1) rfl 73 (rowV 12 (wv (dgs n))) (0, 0) _ h1 Tryd.underlying73 rfl (wide_size _) ?_) | (refine wpList_store_row rfl 73 (.tmp 2) (.tmp 17) rfl w.heap.size (rowV 12 (wv (dgs n))) rfl rfl 73 (rowV 12 zw) h2 (wide_size _) (by rw [rowV_size, rowV_size]) (rowV_one 12 _ (fun i => rfl)) ?_))
      exact bodyPost_ret (v := .agg (rowV 12 (wv (dgs n)))) (results_cell_row rfl _ _ w.heap.size 73 (rowV 12 (wv (dgs n))) (0, 0) _ rfl (setRow_heap _ _ _ _ _ _ h2) Tryd.underlying73 rfl (wide_size _)) rfl ⟨rfl, below_setRow hb (Nat.le_refl _) _⟩

set_option maxRecDepth 100000 in
set_option maxHeartbeats 1000000 in
theorem above_any (f g : Nat → Nat) (w : World) (hf : ∀ j, f j < 65536) (hg : ∀ j, g j < 65536) :
    Calls Tryd.prog 41 #[.agg (rowV 12 (wv f)), .agg (rowV 12 (wv g))] w fun e w' => e = .returned (.bool (decide (val g 12 < val f 12))) ∧ Below w.heap.size w w' := by
  go_enter Tryd.func41, Tryd.ntmps41
  go_wp2_with fail
  have g0 : Fill w.heap.size 73 12 12 (wv f) ((w.alloc (.cells (rowV 12 (wv f)) 73)).alloc (.cells (rowV 12 (wv g)) 73)) := Fill.of_row (heap_alloc2_old w _ _)
  have g1 : Fill (w.heap.size + 1) 73 12 12 (wv g) ((w.alloc (.cells (rowV 12 (wv f)) 73)).alloc (.cells (rowV 12 (wv g)) 73)) := Fill.of_row (heap_alloc2_new w _ _)
  have b0 : Below w.heap.size w ((w.alloc (.cells (rowV 12 (wv f)) 73)).alloc (.cells (rowV 12 (wv g)) 73)) := ((Below.refl _ _).alloc (Nat.le_refl _) _).alloc (by simp) _
  generalize (w.alloc (.cells (rowV 12 (wv f)) 73)).alloc (.cells (rowV 12 (wv g)) 73) = W at *
  go_loopw [5] (fun v wr => ∃ k : Nat, k ≤ 12 ∧ v = .int .i64 ((k : Int) - 1) ∧ Hid (∀ j, k ≤ j → j < 12 → f j = g j) ∧ Below W.heap.size W wr) (fun v _ => (intOf v + 1).toNat)
  case atStart => exact ⟨12, by omega, rfl, fun j h1 h2 => absurd h2 (by omega), Below.refl _ _⟩
  case round =>
    obtain ⟨k, hk, rfl, HE, hbw⟩ := hrel
    rcases k with _ | k
    · have HD := Lib.hid (show decide (val g 12 < val f 12) = false by rw [val_same f g 12 (fun j hj => HE.out j (by omega) hj)]; simp)
      go_wp2
      go_ret
      exact ⟨by rw [HD.out]; rfl, b0.trans (hbw.mono b0.size)⟩
    · rw [show ((k + 1 : Nat) : Int) - 1 = (k : Int) by omega]
      have c0 := (g0.below hbw g0.lt).at_ k (by omega)
      have c1 := (g1.below hbw g1.lt).at_ k (by omega)
      unfold wv at c0 c1
      have k12 : (k : Int) < 12 := by omega
      by_cases he : f k = g k
      · have d1 : (((f k : Nat) : Int) != ((g k : Nat) : Int)) = false := by rw [he]; simp
        have HE2 : Hid (∀ j, k ≤ j → j < 12 → f j = g j) := fun j h1 h2 => by
          by_cases e : j = k
          · rw [e]; exact he
          · exact HE.out j (by omega) h2
        clear he HE
        generalize f k = x at *
        generalize g k = y at *
        go_wp2_with fail
        go_quiet (fail)
        go_wp2_with fail
        exact ⟨⟨k, by omega, rfl, HE2, below_drewN hbw nq⟩, by simp [intOf]⟩
      · have d1 : (((f k : Nat) : Int) != ((g k : Nat) : Int)) = true := by simp; omega
        have HD := Lib.hid (val_above f g 12 k hf hg (by omega) (fun j h1 h2 => HE.out j (by omega) h2) he)
        clear he HE
        generalize f k = x at *
        generalize g k = y at *
        go_wp2_with fail
        go_quiet (fail)
        have hbw1 := below_drewN hbw nq
        have q0 : (wr.drewN nq).cell? ⟨w.heap.size, k, none⟩ = some (.int .u64 (x : Int)) := c0
        have q1 : (wr.drewN nq).cell? ⟨w.heap.size + 1, k, none⟩ = some (.int .u64 (y : Int)) := c1
        clear c0 c1 hbw
        generalize wr.drewN nq = wq at *
        go_wp2_with fail
        go_quiet (fail)
        go_wp2_with fail
        go_ret
        exact ⟨ret_bool (by rw [Bool.eq_iff_iff, decide_eq_true_eq, decide_eq_true_eq, HD.out]), b0.trans ((below_drewN hbw1 nq).mono b0.size)⟩
end Go.Proofs.YthjeanjodhafjaaDoor
