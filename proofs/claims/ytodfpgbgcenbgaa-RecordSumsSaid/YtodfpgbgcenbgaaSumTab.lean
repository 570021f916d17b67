/- Contract: the table of steps. -/
import Derived.Test.YtodfpgbgcenbgaaSumRef3
import Derived.Laws.CopyOwn
namespace Go.Proofs.Ytodfpgbgcenbgaa
open Go.ChangeShapes Go.WideShapes Go.ChangeAt Go.RowKit
set_option linter.unusedVariables false

def zero32 : Array Value := Array.replicate 256 (.int .u32 0)
def zero8 : Array Value := Array.replicate 256 (.int .u8 0)
theorem zero_tab (u : World) : (zeroValue 37).run Try.prog u = .ok (.agg zero32) u := by kernel_rfl
theorem zero_places (u : World) : (zeroValue 42).run Try.prog u = .ok (.agg zero8) u := by kernel_rfl
theorem zero32_size : zero32.size = 256 := by simp [zero32]
theorem zero8_size : zero8.size = 256 := by simp [zero8]
theorem size_tab : (Try.prog.info? 37).map (·.size) = some 256 := by kernel_rfl
theorem size_places : (Try.prog.info? 42).map (·.size) = some 256 := by kernel_rfl

/-- The block g holds n cells, of which the first k are f's. -/
def Fill (g t n k : Nat) (f : Nat → Value) (wr : World) : Prop :=
  ∃ cur, wr.heap[g]? = some (.cells cur t (0, 0)) ∧ cur.size = n ∧ ∀ j, j < k → cur[j]? = some (f j)
theorem Fill.cell {g t n k : Nat} {f : Nat → Value} {wr : World} (h : Fill g t n k f wr) (j : Nat) (hj : j < n) : ∃ u, wr.cell? ⟨g, j, none⟩ = some u ∧ wr.frozen? ⟨g, j, none⟩ = false := by
  obtain ⟨cur, h1, h2, _⟩ := h
  refine ⟨cur[j]'(by omega), ?_, by simp [World.frozen?, h1]⟩
  rw [cell_of_row wr g j cur _ (0, 0) h1]
  exact Array.getElem?_eq_getElem (by omega)
theorem Fill.step {g t n k : Nat} {f : Nat → Value} {wr : World} (h : Fill g t n k f wr) (hk : k < n) {v : Value} (hv : v = f k) : Fill g t n (k + 1) f (wr.setCell ⟨g, k, none⟩ v) := by
  obtain ⟨cur, h1, h2, h3⟩ := h
  refine ⟨cur.setIfInBounds k v, by simp [World.setCell, Array.getElem?_modify, h1], by simpa using h2, fun j hj => ?_⟩
  rw [Array.getElem?_setIfInBounds]
  by_cases e : k = j
  · subst e
    rw [if_pos rfl, if_pos (by omega), hv]
  · rw [if_neg e]
    exact h3 j (by omega)
theorem Fill.done {g t n : Nat} {f : Nat → Value} {wr : World} (h : Fill g t n n f wr) : wr.heap[g]? = some (.cells ((List.range n).map f).toArray t (0, 0)) := by
  obtain ⟨cur, h1, h2, h3⟩ := h
  rw [h1]
  congr 2
  apply Array.ext_getElem?
  intro j
  have e : (List.map f (List.range n)).toArray[j]? = (List.map f (List.range n))[j]? := by simp
  rw [e, List.getElem?_map]
  by_cases hj : j < n
  · rw [h3 j hj, List.getElem?_range hj]; rfl
  · rw [Array.getElem?_eq_none (by omega), List.getElem?_eq_none (by simp; omega)]; rfl

/-- The table as it lies. -/
def tabV : Array Value := ((List.range 256).map fun i => rv (stpN 8 i)).toArray
theorem tabV_size : tabV.size = 256 := by simp [tabV]
theorem tabV_one : tabV.all (·.oneCell') = true := by
  rw [Array.all_eq_true_iff_forall_mem]
  intro x hx
  simp only [tabV, List.mem_toArray, List.mem_map] at hx
  obtain ⟨i, _, rfl⟩ := hx
  rfl
theorem tabV_at (i : Nat) (h : i < 256) : tabV[i]? = some (rv (stpN 8 i)) := by
  simp only [tabV, List.getElem?_toArray, List.getElem?_map, List.getElem?_range h, Option.map_some]

theorem and1 (r : Nat) (h : r < 4294967296) : bits .and .u32 (r : Int) 1 = ((r % 2 : Nat) : Int) := by
  have e := u32_and_nat r 1 h (by omega)
  rw [nat_mask1] at e
  exact e

theorem and_p0 : bits .and .u32 2197175160 0 = 0 := by decide
theorem and_p1 : bits .and .u32 2197175160 4294967295 = 2197175160 := by decide

set_option maxRecDepth 100000 in
set_option maxHeartbeats 1000000 in
theorem steps_any (w : World) :
    Calls Try.prog 16 #[] w fun e w' => e = .returned (.agg tabV) ∧ Below w.heap.size w w' := by
  have hz := zero_tab
  go_enter Try.func16, Try.ntmps16
  go_wp2
  go_loopw [5] (fun i wr => ∃ k : Nat, k ≤ 256 ∧ i = .int .i64 k ∧ Fill (w.heap.size + 1) 37 256 k (fun i => rv (stpN 8 i)) wr ∧ wr.heap[w.heap.size]? = some (.cells zero32 37 (0, 0)) ∧ Below w.heap.size w wr) (fun i _ => 256 - (intOf i).toNat)
  case atStart => exact ⟨0, by omega, rfl, ⟨zero32, heap_alloc2_new w _ _, zero32_size, fun j hj => absurd hj (by omega)⟩, heap_alloc2_old w _ _, ((Below.refl _ _).alloc (Nat.le_refl _) _).alloc (by simp) _⟩
  case round =>
    obtain ⟨k, hk, rfl, hF, h0, hb⟩ := hrel
    by_cases hlt : k < 256
    · obtain ⟨u, hu, hf⟩ := hF.cell k hlt
      go_wp2
      obtain ⟨wo, rfl⟩ : ∃ wo : World, wo = wr := ⟨_, rfl⟩
      go_loop [3, 10] (fun t i => ∃ j : Nat, j ≤ 8 ∧ i = .int .i64 j ∧ t = rv (stpN j k)) (fun _ i => 8 - (intOf i).toNat)
      case atStart => exact ⟨0, by omega, rfl, rfl⟩
      case round =>
        obtain ⟨j, hj, rfl, rfl⟩ := hrel
        have hl := stpN_lt j (r := k) (by omega)
        unfold rv
        by_cases hlt8 : j < 8
        · have HS := Lib.hid (stpN_snoc j k)
          generalize stpN j k = q at *
          have ha := and1 q hl
          have hx := xorP (q / 2) (by omega)
          have HD := Lib.hid (show stp q = if q % 2 = 1 then q / 2 ^^^ 2197175160 else q / 2 from rfl)
          rw [show (((q / 2 : Nat)) : Int) = (q : Int) / 2 by omega] at hx
          rcases Nat.mod_two_eq_zero_or_one q with h2 | h2
          · rw [h2] at ha HD
            clear h2
            go_wp2
            refine ⟨⟨j + 1, by omega, by go_num, congrArg (Value.int .u32) ?_⟩, by simp [intOf]; omega⟩
            rw [HS.out, HD.out, if_neg (by omega), and_p0]
            have := u32_xor_nat (q / 2) 0 (by omega) (by omega)
            rw [Nat.xor_zero] at this
            rw [← this]
            rfl
          · rw [h2] at ha HD
            clear h2
            go_wp2
            refine ⟨⟨j + 1, by omega, by go_num, congrArg (Value.int .u32) ?_⟩, by simp [intOf]; omega⟩
            rw [HS.out, HD.out, if_pos rfl, and_p1]
            exact hx
        · obtain rfl : j = 8 := by omega
          go_wp2
          refine ⟨⟨k + 1, by omega, by go_num, hF.step hlt rfl, ?_, hb.setCell (by simp) _⟩, by simp [intOf]; omega⟩
          rw [heap_setCell_other _ _ _ _ (by simp)]
          exact h0
    · obtain rfl : k = 256 := by omega
      have h1 := hF.done
      go_wp2_with (first | (refine wpList_load_row rfl 37 (.tmp 1) rfl (w.heap.size + 1) rfl 37 tabV (0, 0) _ h1 Try.underlying37 rfl (by rw [tabV_size]; exact size_tab) ?_) | (refine wpList_store_row rfl 37 (.tmp 0) (.tmp 26) rfl w.heap.size tabV rfl rfl 37 zero32 h0 (by rw [tabV_size]; exact size_tab) (by rw [tabV_size, zero32_size]) tabV_one ?_))
      refine bodyPost_ret (v := .agg tabV) (results_cell_row rfl _ _ w.heap.size 37 tabV (0, 0) _ rfl (setRow_heap _ _ _ _ _ _ h0) Try.underlying37 rfl (by rw [tabV_size]; exact size_tab)) rfl ⟨rfl, below_setRow hb (Nat.le_refl _) _⟩
end Go.Proofs.Ytodfpgbgcenbgaa
