/- A slice of slices of bytes, as it reads. -/
import Derived.Test.YthjeanjodhafjaaDoorMem
namespace Go.Proofs.YthjeanjodhafjaaDoor
open Go.RowKit
set_option linter.unusedVariables false

/-- A slice among slices: where it lies, its room, what it reads as. -/
abbrev Pc := Option Addr × Nat × List UInt8
/-- All pieces, one behind the other. -/
def flat (L : List Pc) : List UInt8 := (L.map (·.2.2)).flatten
theorem flat_take (L : List Pc) (k : Nat) (h : k < L.length) : flat (L.take (k + 1)) = flat (L.take k) ++ L[k].2.2 := by
  rw [List.take_succ_eq_append_getElem h]
  unfold flat
  rw [List.map_append, List.flatten_append]
  simp

/-- A slice of slices. -/
def RdL (w : World) (hi : Nat) (A : Option Addr) (L : List Pc) : Prop :=
  (0 < L.length → ∃ b off, A = some ⟨b, off, none⟩ ∧ b < hi ∧ ∀ j x, L[j]? = some x → w.cell? ⟨b, off + j, none⟩ = some (.slice x.1 x.2.2.length x.2.1)) ∧ ∀ x ∈ L, Rd w 0 hi x.1 x.2.2
theorem RdL.keep {w w' : World} {hi : Nat} {A : Option Addr} {L : List Pc} (h : RdL w hi A L) (hk : ∀ p : Addr, p.block < hi → w'.cell? p = w.cell? p) : RdL w' hi A L :=
  ⟨fun hn => by
    obtain ⟨b, off, e, h2, hc⟩ := h.1 hn
    exact ⟨b, off, e, h2, fun j x hx => (hk _ h2).trans (hc j x hx)⟩, fun x hx => (h.2 x hx).keep fun p _ hp => hk p hp⟩
theorem RdL.below {w w' : World} {hi B : Nat} {A : Option Addr} {L : List Pc} (h : RdL w hi A L) (hb : Below B w w') (hB : hi ≤ B) : RdL w' hi A L := h.keep fun _ hp => hb.cell (by omega)
theorem RdL.at_ {w : World} {hi : Nat} {A : Option Addr} {L : List Pc} (h : RdL w hi A L) {k : Nat} (hk : k < L.length) :
    ∃ b off, A = some ⟨b, off, none⟩ ∧ b < hi ∧ w.cell? ⟨b, off + k, none⟩ = some (.slice L[k].1 L[k].2.2.length L[k].2.1) ∧ Rd w 0 hi L[k].1 L[k].2.2 := by
  obtain ⟨b, off, e, h2, hc⟩ := h.1 (by omega)
  exact ⟨b, off, e, h2, hc k _ (List.getElem?_eq_getElem hk), h.2 _ (List.getElem_mem hk)⟩
theorem RdL.nothing (w : World) (hi : Nat) (A : Option Addr) : RdL w hi A [] := ⟨fun h => absurd h (by simp), fun x hx => by cases hx⟩

/-- One piece, two pieces, as a call lays them. -/
theorem RdL.one (A1 : Option Addr) (c1 : Nat) (l1 : List UInt8) (w : World) (t : TypeId) (r1 : Rd w 0 w.heap.size A1 l1) :
    RdL (w.alloc (.cells #[.slice A1 l1.length c1] t)) (w.alloc (.cells #[.slice A1 l1.length c1] t)).heap.size (some ⟨w.heap.size, 0, none⟩) [(A1, c1, l1)] := by
  have hb : Below w.heap.size w (w.alloc (.cells #[.slice A1 l1.length c1] t)) := (Below.refl _ _).alloc (Nat.le_refl _) _
  have hh : (w.alloc (.cells #[.slice A1 l1.length c1] t)).heap[w.heap.size]? = some (.cells #[.slice A1 l1.length c1] t (0, 0)) := heap_alloc_new w _
  have hsz : (w.alloc (.cells #[.slice A1 l1.length c1] t)).heap.size = w.heap.size + 1 := by simp
  refine ⟨fun _ => ⟨w.heap.size, 0, rfl, by omega, fun j x hx => ?_⟩, fun x hx => ?_⟩
  · rw [Nat.zero_add, cell_of_row _ w.heap.size j _ _ (0, 0) hh]
    match j, hx with
    | 0, hx => injection hx with hx; subst hx; rfl
  · simp at hx
    subst hx
    exact (r1.below hb (Nat.le_refl _)).wide (Nat.le_refl _) (by omega)
theorem RdL.two (A1 A2 : Option Addr) (c1 c2 : Nat) (l1 l2 : List UInt8) (w : World) (t : TypeId) (r1 : Rd w 0 w.heap.size A1 l1) (r2 : Rd w 0 w.heap.size A2 l2) :
    RdL (w.alloc (.cells #[.slice A1 l1.length c1, .slice A2 l2.length c2] t)) (w.alloc (.cells #[.slice A1 l1.length c1, .slice A2 l2.length c2] t)).heap.size (some ⟨w.heap.size, 0, none⟩) [(A1, c1, l1), (A2, c2, l2)] := by
  have hb : Below w.heap.size w (w.alloc (.cells #[.slice A1 l1.length c1, .slice A2 l2.length c2] t)) := (Below.refl _ _).alloc (Nat.le_refl _) _
  have hh : (w.alloc (.cells #[.slice A1 l1.length c1, .slice A2 l2.length c2] t)).heap[w.heap.size]? = some (.cells #[.slice A1 l1.length c1, .slice A2 l2.length c2] t (0, 0)) := heap_alloc_new w _
  have hsz : (w.alloc (.cells #[.slice A1 l1.length c1, .slice A2 l2.length c2] t)).heap.size = w.heap.size + 1 := by simp
  refine ⟨fun _ => ⟨w.heap.size, 0, rfl, by omega, fun j x hx => ?_⟩, fun x hx => ?_⟩
  · rw [Nat.zero_add, cell_of_row _ w.heap.size j _ _ (0, 0) hh]
    match j, hx with
    | 0, hx => injection hx with hx; subst hx; rfl
    | 1, hx => injection hx with hx; subst hx; rfl
  · simp at hx
    rcases hx with rfl | rfl
    · exact (r1.below hb (Nat.le_refl _)).wide (Nat.le_refl _) (by omega)
    · exact (r2.below hb (Nat.le_refl _)).wide (Nat.le_refl _) (by omega)
end Go.Proofs.YthjeanjodhafjaaDoor
