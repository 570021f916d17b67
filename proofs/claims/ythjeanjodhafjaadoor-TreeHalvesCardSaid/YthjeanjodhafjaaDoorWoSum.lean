/- Sums of two and of three pieces; rows that are read, stored and answered whole. -/
import Derived.Test.YthjeanjodhafjaaDoorShaKnown
import Derived.Test.YthjeanjodhafjaaDoorWoChain
namespace Go.Proofs.YthjeanjodhafjaaDoor
open Go.ChangeShapes Go.WideShapes Go.ChangeAt Go.RowKit
set_option linter.unusedVariables false

/-- Three pieces, as a call lays them. -/
theorem RdL.three (A1 A2 A3 : Option Addr) (c1 c2 c3 : Nat) (l1 l2 l3 : List UInt8) (w : World) (t : TypeId) (r1 : Rd w 0 w.heap.size A1 l1) (r2 : Rd w 0 w.heap.size A2 l2) (r3 : Rd w 0 w.heap.size A3 l3) :
    RdL (w.alloc (.cells #[.slice A1 l1.length c1, .slice A2 l2.length c2, .slice A3 l3.length c3] t)) (w.alloc (.cells #[.slice A1 l1.length c1, .slice A2 l2.length c2, .slice A3 l3.length c3] t)).heap.size (some ⟨w.heap.size, 0, none⟩) [(A1, c1, l1), (A2, c2, l2), (A3, c3, l3)] := by
  have hb : Below w.heap.size w (w.alloc (.cells #[.slice A1 l1.length c1, .slice A2 l2.length c2, .slice A3 l3.length c3] t)) := (Below.refl _ _).alloc (Nat.le_refl _) _
  have hh : (w.alloc (.cells #[.slice A1 l1.length c1, .slice A2 l2.length c2, .slice A3 l3.length c3] t)).heap[w.heap.size]? = some (.cells #[.slice A1 l1.length c1, .slice A2 l2.length c2, .slice A3 l3.length c3] t (0, 0)) := heap_alloc_new w _
  have hsz : (w.alloc (.cells #[.slice A1 l1.length c1, .slice A2 l2.length c2, .slice A3 l3.length c3] t)).heap.size = w.heap.size + 1 := by simp
  refine ⟨fun _ => ⟨w.heap.size, 0, rfl, by omega, fun j x hx => ?_⟩, fun x hx => ?_⟩
  · rw [Nat.zero_add, cell_of_row _ w.heap.size j _ _ (0, 0) hh]
    match j, hx with
    | 0, hx => injection hx with hx; subst hx; rfl
    | 1, hx => injection hx with hx; subst hx; rfl
    | 2, hx => injection hx with hx; subst hx; rfl
  · simp at hx
    rcases hx with rfl | rfl | rfl
    · exact (r1.below hb (Nat.le_refl _)).wide (Nat.le_refl _) (by omega)
    · exact (r2.below hb (Nat.le_refl _)).wide (Nat.le_refl _) (by omega)
    · exact (r3.below hb (Nat.le_refl _)).wide (Nat.le_refl _) (by omega)
theorem sum3 (A1 A2 A3 : Option Addr) (c1 c2 c3 n1 n2 n3 : Nat) (l1 l2 l3 : List UInt8) (w : World) (e1 : n1 = l1.length) (e2 : n2 = l2.length) (e3 : n3 = l3.length) (r1 : Rd w 0 w.heap.size A1 l1) (r2 : Rd w 0 w.heap.size A2 l2) (r3 : Rd w 0 w.heap.size A3 l3) (h1 : n1 ≤ c1) (h2 : n2 ≤ c2) (h3 : n3 ≤ c3) (hl : l1.length + l2.length + l3.length < 1000000000) (ht : Tabs w) :
    Calls Tryd.prog 28 #[.slice (some ⟨w.heap.size, 0, none⟩) 3 3] (w.alloc (.cells #[.slice A1 n1 c1, .slice A2 n2 c2, .slice A3 n3 c3] 56)) fun e w' => e = .returned (.agg (hashV (shaL (l1 ++ l2 ++ l3)))) ∧ Below w.heap.size w w' := by
  subst e1
  subst e2
  subst e3
  have hb : Below w.heap.size w (w.alloc (.cells #[.slice A1 l1.length c1, .slice A2 l2.length c2, .slice A3 l3.length c3] 56)) := (Below.refl _ _).alloc (Nat.le_refl _) _
  have hf : flat [(A1, c1, l1), (A2, c2, l2), (A3, c3, l3)] = l1 ++ l2 ++ l3 := by simp [flat]
  refine (sum_any _ 3 [(A1, c1, l1), (A2, c2, l2), (A3, c3, l3)] _ (RdL.three A1 A2 A3 c1 c2 c3 l1 l2 l3 w 56 r1 r2 r3) (by simp) (fun x hx => ?_) (by rw [hf, List.length_append, List.length_append]; exact hl) (ht.below hb ht.2.2.1 ht.2.2.2)).mono ?_
  · simp at hx
    rcases hx with rfl | rfl | rfl
    · exact h1
    · exact h2
    · exact h3
  · rw [hf]
    rintro e w' ⟨he, hbw⟩
    exact ⟨he, hb.trans (hbw.mono hb.size)⟩
theorem sum2 (A1 A2 : Option Addr) (c1 c2 n1 n2 : Nat) (l1 l2 : List UInt8) (w : World) (e1 : n1 = l1.length) (e2 : n2 = l2.length) (r1 : Rd w 0 w.heap.size A1 l1) (r2 : Rd w 0 w.heap.size A2 l2) (h1 : n1 ≤ c1) (h2 : n2 ≤ c2) (hl : l1.length + l2.length < 1000000000) (ht : Tabs w) :
    Calls Tryd.prog 28 #[.slice (some ⟨w.heap.size, 0, none⟩) 2 2] (w.alloc (.cells #[.slice A1 n1 c1, .slice A2 n2 c2] 56)) fun e w' => e = .returned (.agg (hashV (shaL (l1 ++ l2)))) ∧ Below w.heap.size w w' := by
  subst e1
  subst e2
  have hb : Below w.heap.size w (w.alloc (.cells #[.slice A1 l1.length c1, .slice A2 l2.length c2] 56)) := (Below.refl _ _).alloc (Nat.le_refl _) _
  have hf : flat [(A1, c1, l1), (A2, c2, l2)] = l1 ++ l2 := by simp [flat]
  refine (sum_any _ 2 [(A1, c1, l1), (A2, c2, l2)] _ (RdL.two A1 A2 c1 c2 l1 l2 w 56 r1 r2) (by simp) (fun x hx => ?_) (by rw [hf, List.length_append]; exact hl) (ht.below hb ht.2.2.1 ht.2.2.2)).mono ?_
  · simp at hx
    rcases hx with rfl | rfl
    · exact h1
    · exact h2
  · rw [hf]
    rintro e w' ⟨he, hbw⟩
    exact ⟨he, hb.trans (hbw.mono hb.size)⟩
/-- A row of bytes reads as them. -/
theorem rd_row {w : World} {g n : Nat} {t : TypeId} {x : List UInt8} (h : Fill g t n n (hF x) w) (hx : x.length = n) : Rd w 0 w.heap.size (some ⟨g, 0, none⟩) x := fun _ => ⟨g, 0, rfl, Nat.zero_le _, h.lt, fun j y hy => by
  have hj : j < n := by
    rcases Nat.lt_or_ge j n with h | h
    · exact h
    · rw [List.getElem?_eq_none (by omega)] at hy; cases hy
  rw [Nat.zero_add, h.at_ j hj]
  unfold hF
  rw [List.getD_eq_getElem?_getD, hy]
  rfl⟩
def z0 : Nat → Value := fun _ => .int .u8 0
theorem size_hashW : (Tryd.prog.info? 25).map (·.size) = some 32 := by kernel_rfl
theorem size_hashVW (f : Nat → Value) : (Tryd.prog.info? 25).map (·.size) = some (rowV 32 f).size := by rw [rowV_size]; exact size_hashW
/-- A piece copied into a row. -/
theorem spliced_row (n : Nat) (f f' : Nat → Value) (o : Nat) (cs : List Value) (ho : o + cs.length ≤ n) (hf : ∀ j, j < n → f' j = if o ≤ j ∧ j < o + cs.length then cs.getD (j - o) undef else f j) : (splice (rowV n f).toList o cs).toArray = rowV n f' := by
  have hl : (rowV n f).toList.length = n := by rw [Array.length_toList, rowV_size]
  apply Array.ext_getElem?
  intro j
  unfold splice
  rw [List.getElem?_toArray]
  by_cases hj : j < n
  · rw [rowV_at n f' j hj, hf j hj, rowV_list]
    by_cases h1 : j < o
    · rw [List.getElem?_append_left (by simp; omega), List.getElem?_take, if_pos h1, List.getElem?_map, List.getElem?_range hj, if_neg (by omega)]
      rfl
    · rw [List.getElem?_append_right (by simp; omega), List.length_take, List.length_map, List.length_range, Nat.min_eq_left (by omega)]
      by_cases h2 : j < o + cs.length
      · rw [List.getElem?_append_left (by omega), if_pos ⟨by omega, h2⟩, List.getD_eq_getElem?_getD, List.getElem?_eq_getElem (by omega)]
        rfl
      · rw [List.getElem?_append_right (by omega), List.getElem?_drop, if_neg (by omega), show o + cs.length + (j - o - cs.length) = j by omega, List.getElem?_map, List.getElem?_range hj]
        rfl
  · rw [List.getElem?_eq_none (by rw [List.length_append, List.length_append, List.length_take, List.length_drop, hl]; omega), Array.getElem?_eq_none (by rw [rowV_size]; omega)]
end Go.Proofs.YthjeanjodhafjaaDoor
