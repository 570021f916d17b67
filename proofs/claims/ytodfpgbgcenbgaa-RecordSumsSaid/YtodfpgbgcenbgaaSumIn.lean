/- Contracts: goIn and origins. -/
import Derived.Test.YtodfpgbgcenbgaaSumTab
import Derived.Deep.QuietTactic
import Derived.BigQuiet
import Derived.WalkSmall
namespace Go.Proofs.Ytodfpgbgcenbgaa
open Go.ChangeShapes Go.WideShapes Go.ChangeAt Go.RowKit
set_option linter.unusedVariables false

/-- The table lies at block p. -/
def TabAt (w : World) (p : Nat) : Prop := w.heap[p]? = some (.cells tabV 37 (0, 0))
theorem TabAt.cell {w : World} {p : Nat} (h : TabAt w p) {i : Nat} (hi : i < 256) : w.cell? ⟨p, i, none⟩ = some (rv (stpN 8 i)) := by
  rw [cell_of_row w p i _ _ _ h, tabV_at i hi]

theorem xor8 (q x : Nat) (hx : x < 256) : bits .xor .u8 ((q : Int) % 256) (x : Int) = ((q % 256 ^^^ x : Nat) : Int) := by
  have := u8_xor_nat (q % 256) x (by omega) hx
  rwa [show ((q % 256 : Nat) : Int) = (q : Int) % 256 by omega] at this
theorem xor24 (q z : Nat) (hq : q < 4294967296) (hz : z < 4294967296) : bits .xor .u32 ((q : Int) / 256) (z : Int) = ((q / 256 ^^^ z : Nat) : Int) := by
  have := u32_xor_nat (q / 256) z (by omega) hz
  rwa [show ((q / 256 : Nat) : Int) = (q : Int) / 256 by omega] at this

set_option maxHeartbeats 1000000 in
theorem goIn_any (r : Nat) (A : Option Addr) (c : Nat) (l : List UInt8) (p : Nat) (w : World) (hi : Nat) (hr : r < 4294967296) (h : Rd w 0 hi A l) (hl : l.length ≤ 9223372036854775807) (ht : TabAt w p) :
    Calls Try.prog 17 #[.int .u32 (r : Int), .slice A l.length c, .pointer (some ⟨p, 0, none⟩)] w fun e w' => e = .returned (rv (inL r l)) ∧ w = w' := by
  go_enter Try.func17, Try.ntmps17
  go_wp2
  go_loop [0, 12] (fun t i => ∃ k : Nat, k ≤ l.length ∧ i = .int .i64 k ∧ t = rv (inL r (l.take k))) (fun _ i => l.length - (intOf i).toNat)
  case atStart => exact ⟨0, Nat.zero_le _, rfl, rfl⟩
  case round =>
    obtain ⟨k, hk, rfl, rfl⟩ := hrel
    have hq := inL_lt (l.take k) hr
    unfold rv
    by_cases hlt : k < l.length
    · obtain ⟨b, off, rfl, _, _, hc⟩ := h.at_ hlt
      unfold bv at hc
      have hx : l[k].toNat < 256 := l[k].toNat_lt
      have HT := Lib.hid ((inL_take r l k hlt).trans (inB_table _ _ hx).symm)
      generalize l[k].toNat = x at *
      generalize inL r (l.take k) = q at *
      have hy : q % 256 ^^^ x < 256 := xor_lt8 (by omega) hx
      have e1 := xor8 q x hx
      generalize q % 256 ^^^ x = y at *
      have hc2 := ht.cell hy
      have hz := stpN_lt 8 (r := y) (by omega)
      have e2 := xor24 q (stpN 8 y) hq hz
      unfold rv at hc2
      rw [← HT.out] at e2
      generalize stpN 8 y = z at *
      go_wp2
      refine ⟨⟨k + 1, by omega, by go_num, rfl⟩, by simp [intOf]; omega⟩
    · obtain rfl : k = l.length := by omega
      rw [List.take_length]
      go_wp2
      go_ret
      exact ⟨rfl, rfl⟩

/-- Which step left a highest byte, of the first k. -/
def orgTo : Nat → Nat → Nat
  | 0, _ => 0
  | k + 1, t => if t = stpN 8 k / 16777216 then k else orgTo k t
def orgOk : Bool := (List.range 256).all fun t => decide (orgTo 256 t < 256) && decide (stpN 8 (orgTo 256 t) / 16777216 = t)
theorem orgOk_yes : orgOk = true := by decide +kernel
theorem org_ok (t : Nat) (h : t < 256) : orgTo 256 t < 256 ∧ stpN 8 (orgTo 256 t) / 16777216 = t := by
  have := orgOk_yes
  unfold orgOk at this
  rw [List.all_eq_true] at this
  have := this t (List.mem_range.2 h)
  simpa using this
theorem Fill.put {g t n i : Nat} {f f' : Nat → Value} {wr : World} (h : Fill g t n n f wr) (hi : i < n) {v : Value} (hf : ∀ j, j < n → f' j = if j = i then v else f j) : Fill g t n n f' (wr.setCell ⟨g, i, none⟩ v) := by
  obtain ⟨cur, h1, h2, h3⟩ := h
  refine ⟨cur.setIfInBounds i v, by simp [World.setCell, Array.getElem?_modify, h1], by simpa using h2, fun j hj => ?_⟩
  rw [Array.getElem?_setIfInBounds, hf j hj]
  by_cases e : i = j
  · subst e
    rw [if_pos rfl, if_pos (by omega), if_pos rfl]
  · rw [if_neg e, if_neg (by omega)]
    exact h3 j hj
theorem Fill.drewN {g t n k : Nat} {f : Nat → Value} {wr : World} (h : Fill g t n k f wr) (m : Nat) : Fill g t n k f (wr.drewN m) := h
/-- The places as they lie. -/
def plcF (k j : Nat) : Value := .int .u8 (orgTo k j : Int)
def plcV : Array Value := ((List.range 256).map (plcF 256)).toArray
theorem plcV_size : plcV.size = 256 := by simp [plcV]
theorem plcV_one : plcV.all (·.oneCell') = true := by
  rw [Array.all_eq_true_iff_forall_mem]
  intro x hx
  simp only [plcV, List.mem_toArray, List.mem_map] at hx
  obtain ⟨i, _, rfl⟩ := hx
  rfl
theorem plcV_at (i : Nat) (h : i < 256) : plcV[i]? = some (plcF 256 i) := by
  simp only [plcV, List.getElem?_toArray, List.getElem?_map, List.getElem?_range h, Option.map_some]

set_option maxRecDepth 100000 in
set_option maxHeartbeats 1000000 in
theorem origins_any (p : Nat) (w : World) (ht : TabAt w p) :
    Calls Try.prog 21 #[.pointer (some ⟨p, 0, none⟩)] w fun e w' => e = .returned (.agg plcV) ∧ Below w.heap.size w w' := by
  have hz := zero_places
  have hp : p < w.heap.size := by
    rcases Nat.lt_or_ge p w.heap.size with h | h
    · exact h
    · unfold TabAt at ht; rw [Array.getElem?_eq_none h] at ht; cases ht
  go_enter Try.func21, Try.ntmps21
  go_wp2
  go_loopw [7] (fun i wr => ∃ k : Nat, k ≤ 256 ∧ i = .int .i64 k ∧ Fill (w.heap.size + 1) 42 256 256 (plcF k) wr ∧ wr.heap[w.heap.size]? = some (.cells zero8 42 (0, 0)) ∧ Below w.heap.size w wr) (fun i _ => 256 - (intOf i).toNat)
  case atStart => exact ⟨0, by omega, rfl, ⟨zero8, heap_alloc2_new w _ _, zero8_size, fun j hj => by simp [zero8, hj, plcF, orgTo]⟩, heap_alloc2_old w _ _, ((Below.refl _ _).alloc (Nat.le_refl _) _).alloc (by simp) _⟩
  case round =>
    obtain ⟨k, hk, rfl, hF, h0, hb⟩ := hrel
    by_cases hlt : k < 256
    · have ht' : TabAt wr p := (hb.block p hp).trans ht
      have hc := ht'.cell hlt
      have hs := stpN_lt 8 (r := k) (by omega)
      have HO : Hid (∀ j, j < 256 → plcF (k + 1) j = if j = stpN 8 k / 16777216 then .int .u8 (k : Int) else plcF k j) := fun j _ => by unfold plcF; rw [orgTo]; split <;> rfl
      unfold rv at hc
      generalize stpN 8 k = z at *
      obtain ⟨u, hu, hf⟩ := hF.cell (z / 16777216) (by omega)
      have HT := Lib.hid ht'
      have HT2 := Lib.hid ht
      clear ht' ht hz
      go_wp2
      go_quiet (fail)
      go_wp2
      refine ⟨⟨k + 1, by omega, by go_num, Fill.put (Fill.drewN hF nq) (by omega) HO.out, ?_, (below_drewN hb nq).setCell (by simp) _⟩, by simp [intOf]; omega⟩
      rw [heap_setCell_other _ _ _ _ (by simp)]
      exact h0
    · obtain rfl : k = 256 := by omega
      have h1 := hF.done
      go_wp2_with (first | (refine wpList_load_row rfl 42 (.tmp 3) rfl (w.heap.size + 1) rfl 42 plcV (0, 0) _ h1 Try.underlying42 rfl (by rw [plcV_size]; exact size_places) ?_) | (refine wpList_store_row rfl 42 (.tmp 2) (.tmp 19) rfl w.heap.size plcV rfl rfl 42 zero8 h0 (by rw [plcV_size]; exact size_places) (by rw [plcV_size, zero8_size]) plcV_one ?_))
      refine bodyPost_ret (v := .agg plcV) (results_cell_row rfl _ _ w.heap.size 42 plcV (0, 0) _ rfl (setRow_heap _ _ _ _ _ _ h0) Try.underlying42 rfl (by rw [plcV_size]; exact size_places)) rfl ⟨rfl, below_setRow hb (Nat.le_refl _) _⟩
end Go.Proofs.Ytodfpgbgcenbgaa
