/- Contracts: a sign, a sign's value, and the reference's text of bytes. -/
import Derived.Test.YthbnnhnnldakeaaHex
namespace Go.Proofs.Ythbnnhnnldakeaa
open Go.ChangeShapes Go.WideShapes Go.ChangeAt Go.RowKit
set_option linter.unusedVariables false

theorem sg_lo (k : Nat) (h : k < 10) : Value.int .u8 (48 + (k : Int)) = bv (sg k) := by
  unfold bv sg
  rw [if_pos h, UInt8.toNat_ofNat']
  congr 1
  show _ = (((48 + k) % 256 : Nat) : Int)
  omega
theorem sg_hi (k : Nat) (h : ¬ k < 10) (h16 : k < 16) : Value.int .u8 (97 + (k : Int) - 10) = bv (sg k) := by
  unfold bv sg
  rw [if_neg h, UInt8.toNat_ofNat']
  congr 1
  show _ = (((87 + k) % 256 : Nat) : Int)
  omega

theorem sign_any (k : Nat) (w : World) (h : k < 16) :
    Calls Try.prog 35 #[.int .u8 k] w fun e w' => e = .returned (bv (sg k)) ∧ w = w' := by
  by_cases hk : k < 10
  · have HS := Lib.hid (sg_lo k hk)
    go_enter Try.func35, Try.ntmps35
    go_wp2
    go_ret
    exact ⟨congrArg Ending.returned HS.out, rfl⟩
  · have HS := Lib.hid (sg_hi k hk h)
    go_enter Try.func35, Try.ntmps35
    go_wp2
    go_ret
    exact ⟨congrArg Ending.returned HS.out, rfl⟩

/-- A sign's value; none: it is no sign. -/
def sv (c : UInt8) : Option Nat := if 48 ≤ c.toNat ∧ c.toNat ≤ 57 then some (c.toNat - 48) else if 97 ≤ c.toNat ∧ c.toNat ≤ 102 then some (c.toNat - 87) else none
theorem sv_lt {c : UInt8} {v : Nat} (h : sv c = some v) : v < 16 := by
  unfold sv at h
  split at h
  · injection h; omega
  · split at h
    · injection h; omega
    · cases h
theorem sg_sv {c : UInt8} {v : Nat} (h : sv c = some v) : sg v = c := by
  apply UInt8.toNat_inj.1
  unfold sg
  rw [UInt8.toNat_ofNat']
  have hc := c.toNat_lt
  show (if v < 10 then 48 + v else 87 + v) % 256 = _
  unfold sv at h
  split at h
  · injection h; split <;> omega
  · split at h
    · injection h; split <;> omega
    · cases h

theorem signValue_yes (c : UInt8) (v : Nat) (w : World) (h : sv c = some v) :
    Calls Try.prog 34 #[.int .u8 (c.toNat : Int)] w fun e w' => e = .returned (.tuple #[.int .u8 v, .bool true]) ∧ w = w' := by
  have hc := c.toNat_lt
  unfold sv at h
  generalize c.toNat = x at *
  by_cases h1 : 48 ≤ x ∧ x ≤ 57
  · rw [if_pos h1] at h
    injection h with h
    have HV := Lib.hid (show (x : Int) - 48 = (v : Int) by omega)
    obtain ⟨h1, h2⟩ := h1
    have d1 : decide ((48 : Int) ≤ x) = true := by simp; omega
    have d2 : decide ((x : Int) ≤ 57) = true := by simp; omega
    clear h
    go_enter Try.func34, Try.ntmps34
    go_wp2
    go_ret2
    exact ⟨congrArg (fun n => Ending.returned (.tuple #[.int .u8 n, .bool true])) HV.out, rfl⟩
  · rw [if_neg h1] at h
    by_cases h2 : 97 ≤ x ∧ x ≤ 102
    · rw [if_pos h2] at h
      injection h with h
      have HV := Lib.hid (show (x : Int) - 97 + 10 = (v : Int) by omega)
      obtain ⟨h2, h3⟩ := h2
      have d1 : decide ((48 : Int) ≤ x) = true := by simp; omega
      have d2 : decide ((x : Int) ≤ 57) = false := by simp; omega
      have d3 : decide ((97 : Int) ≤ x) = true := by simp; omega
      have d4 : decide ((x : Int) ≤ 102) = true := by simp; omega
      clear h h1
      go_enter Try.func34, Try.ntmps34
      go_wp2
      go_ret2
      exact ⟨congrArg (fun n => Ending.returned (.tuple #[.int .u8 n, .bool true])) HV.out, rfl⟩
    · rw [if_neg h2] at h; cases h

theorem signValue_no (c : UInt8) (w : World) (h : sv c = none) :
    Calls Try.prog 34 #[.int .u8 (c.toNat : Int)] w fun e w' => e = .returned (.tuple #[.int .u8 0, .bool false]) ∧ w = w' := by
  have hc := c.toNat_lt
  unfold sv at h
  generalize c.toNat = x at *
  by_cases h1 : 48 ≤ x ∧ x ≤ 57
  · rw [if_pos h1] at h; cases h
  · rw [if_neg h1] at h
    by_cases h2 : 97 ≤ x ∧ x ≤ 102
    · rw [if_pos h2] at h; cases h
    · clear h
      go_enter Try.func34, Try.ntmps34
      go_wp2
      all_goals first | (exfalso; omega) | (go_ret2; exact ⟨rfl, rfl⟩)

/-- Behind k rounds the first k bytes of L stand in the new block. -/
def FillB (w : World) (L : List UInt8) (k : Nat) (wr : World) : Prop :=
  ∃ cur, wr.heap[w.heap.size]? = some (.cells cur 5 (0, 0)) ∧ cur.size = L.length ∧ (∀ j, j < k → cur[j]? = (L.map bv)[j]?) ∧ Below w.heap.size w wr
theorem FillB.start (w : World) (L : List UInt8) (n : Nat) (hn : n = L.length) : FillB w L 0 (w.alloc (.cells (madeCells #[.int .u8 0] n) 5)) :=
  ⟨_, heap_alloc_new w _, by simp [madeCells, hn], fun j h1 => by omega, (Below.refl _ _).alloc (Nat.le_refl _) _⟩
theorem FillB.cell {w : World} {L : List UInt8} {k : Nat} {wr : World} (h : FillB w L k wr) (j : Nat) (hj : j < L.length) : ∃ u, wr.cell? ⟨w.heap.size, j, none⟩ = some u ∧ wr.frozen? ⟨w.heap.size, j, none⟩ = false := by
  obtain ⟨cur, h1, h2, _⟩ := h
  refine ⟨cur[j]'(by omega), ?_, by simp [World.frozen?, h1]⟩
  rw [cell_of_row wr w.heap.size j cur _ (0, 0) h1]
  exact Array.getElem?_eq_getElem (by omega)
theorem FillB.any {w : World} {L : List UInt8} {k : Nat} {wr : World} (h : FillB w L k wr) (v : Value) : FillB w L k (wr.setCell ⟨w.heap.size, k, none⟩ v) := by
  obtain ⟨cur, h1, h2, h3, h4⟩ := h
  refine ⟨cur.setIfInBounds k v, by simp [World.setCell, Array.getElem?_modify, h1], by simpa using h2, fun j hj => ?_, h4.setCell (Nat.le_refl _) _⟩
  rw [Array.getElem?_setIfInBounds, if_neg (by omega)]
  exact h3 j hj
theorem FillB.step {w : World} {L : List UInt8} {k : Nat} {wr : World} (h : FillB w L k wr) (hk : k < L.length) {v : Value} (hv : v = bv L[k]) : FillB w L (k + 1) (wr.setCell ⟨w.heap.size, k, none⟩ v) := by
  obtain ⟨cur, h1, h2, h3, h4⟩ := h
  refine ⟨cur.setIfInBounds k v, by simp [World.setCell, Array.getElem?_modify, h1], by simpa using h2, fun j hj => ?_, h4.setCell (Nat.le_refl _) _⟩
  rw [Array.getElem?_setIfInBounds]
  by_cases e : k = j
  · subst e
    rw [if_pos rfl, if_pos (by omega), hv, List.getElem?_map, List.getElem?_eq_getElem hk]
    rfl
  · rw [if_neg e]
    exact h3 j (by omega)
theorem FillB.done {w : World} {L : List UInt8} {wr : World} (h : FillB w L L.length wr) : Ow wr w.heap.size (some ⟨w.heap.size, 0, none⟩) L ∧ Below w.heap.size w wr := by
  obtain ⟨cur, h1, h2, h3, h4⟩ := h
  refine ⟨fun _ => ⟨w.heap.size, cur, rfl, Nat.le_refl _, ?_, h1, ?_⟩, h4⟩
  · rcases Nat.lt_or_ge w.heap.size wr.heap.size with hlt | hge
    · exact hlt
    · rw [Array.getElem?_eq_none hge] at h1; cases h1
  · apply List.ext_getElem?
    intro j
    by_cases hj : j < L.length
    · rw [List.getElem?_take, if_pos hj, Array.getElem?_toList, h3 j hj]
    · rw [List.getElem?_eq_none (by simp; omega), List.getElem?_eq_none (by simp; omega)]

theorem hexL_at (l : List UInt8) (m : Nat) (h : m < l.length) : (hexL l)[2 * m]? = some (sg (l[m].toNat / 16)) ∧ (hexL l)[2 * m + 1]? = some (sg (l[m].toNat % 16)) := by
  have e : hexL l = hexL (l.take m) ++ ([sg (l[m].toNat / 16), sg (l[m].toNat % 16)] ++ hexL (l.drop (m + 1))) := by
    rw [← List.append_assoc, ← hexL_take l m h, ← hexL_append, List.take_append_drop]
  have hl : (hexL (l.take m)).length = 2 * m := by rw [hexL_length, List.length_take]; omega
  rw [e]
  constructor
  · rw [List.getElem?_append_right (by omega), hl]; simp
  · rw [List.getElem?_append_right (by omega), hl, show 2 * m + 1 - 2 * m = 1 by omega]; simp
end Go.Proofs.Ythbnnhnnldakeaa
