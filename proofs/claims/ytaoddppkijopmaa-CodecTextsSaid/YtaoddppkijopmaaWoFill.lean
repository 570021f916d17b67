/- Rows in memory, where a seat has no hashes. -/
import Derived.Test.YtaoddppkijopmaaMem
import Derived.Laws.CopyOwn
import Derived.Deep.QuietTactic
import Derived.BigQuiet
import Derived.WalkSmall
import Derived.Deep.RegionHeld3
import Derived.StillTailTactics
import Derived.BigRegion
import Derived.ChangeOld
import Derived.Below
import Derived.WalkKit
import Derived.ProofKit
import Derived.OpenShut
import Derived.Lib.Hide
import Derived.Outline
import Derived.WalkSpells
import Derived.WalkLawsBesides
import Derived.Laws.BitsAllLaws
namespace Go.Proofs.Ytaoddppkijopmaa
open Go.RowKit
set_option linter.unusedVariables false

/-- The block g holds n cells, of which the first k are f's. -/
def Fill (g t n k : Nat) (f : Nat → Value) (wr : World) : Prop :=
  ∃ cur, wr.heap[g]? = some (.cells cur t (0, 0)) ∧ cur.size = n ∧ ∀ j, j < k → cur[j]? = some (f j)
/-- A row by its cells. -/
def rowV (n : Nat) (f : Nat → Value) : Array Value := ((List.range n).map f).toArray
theorem rowV_size (n : Nat) (f : Nat → Value) : (rowV n f).size = n := by simp [rowV]
theorem rowV_at (n : Nat) (f : Nat → Value) (i : Nat) (h : i < n) : (rowV n f)[i]? = some (f i) := by
  simp only [rowV, List.getElem?_toArray, List.getElem?_map, List.getElem?_range h, Option.map_some]
theorem rowV_one (n : Nat) (f : Nat → Value) (h : ∀ i, (f i).oneCell' = true) : (rowV n f).all (·.oneCell') = true := by
  rw [Array.all_eq_true_iff_forall_mem]
  intro x hx
  simp only [rowV, List.mem_toArray, List.mem_map] at hx
  obtain ⟨i, _, rfl⟩ := hx
  exact h i
theorem rowV_list (n : Nat) (f : Nat → Value) : (rowV n f).toList = (List.range n).map f := by simp [rowV]
section
variable {g t n k : Nat} {f : Nat → Value} {wr : World}
theorem Fill.lt (h : Fill g t n k f wr) : g < wr.heap.size := by
  obtain ⟨cur, h1, _⟩ := h
  rcases Nat.lt_or_ge g wr.heap.size with h | h
  · exact h
  · rw [Array.getElem?_eq_none h] at h1; cases h1
theorem Fill.cell (h : Fill g t n k f wr) (j : Nat) (hj : j < n) : ∃ u, wr.cell? ⟨g, j, none⟩ = some u ∧ wr.frozen? ⟨g, j, none⟩ = false := by
  obtain ⟨cur, h1, h2, _⟩ := h
  refine ⟨cur[j]'(by omega), ?_, by simp [World.frozen?, h1]⟩
  rw [cell_of_row wr g j cur _ (0, 0) h1]
  exact Array.getElem?_eq_getElem (by omega)
theorem Fill.at_ (h : Fill g t n k f wr) (j : Nat) (hj : j < k) : wr.cell? ⟨g, j, none⟩ = some (f j) := by
  obtain ⟨cur, h1, h2, h3⟩ := h
  rw [cell_of_row wr g j cur _ (0, 0) h1]
  exact h3 j hj
theorem Fill.frozen (h : Fill g t n k f wr) (j : Nat) : wr.frozen? ⟨g, j, none⟩ = false := by
  obtain ⟨cur, h1, h2, _⟩ := h
  simp [World.frozen?, h1]
theorem Fill.step (h : Fill g t n k f wr) (hk : k < n) {v : Value} (hv : v = f k) : Fill g t n (k + 1) f (wr.setCell ⟨g, k, none⟩ v) := by
  obtain ⟨cur, h1, h2, h3⟩ := h
  refine ⟨cur.setIfInBounds k v, by simp [World.setCell, Array.getElem?_modify, h1], by simpa using h2, fun j hj => ?_⟩
  rw [Array.getElem?_setIfInBounds]
  by_cases e : k = j
  · subst e
    rw [if_pos rfl, if_pos (by omega), hv]
  · rw [if_neg e]
    exact h3 j (by omega)
/-- A store beyond what is known. -/
theorem Fill.past (h : Fill g t n k f wr) (i : Nat) (hk : k ≤ i) (v : Value) : Fill g t n k f (wr.setCell ⟨g, i, none⟩ v) := by
  obtain ⟨cur, h1, h2, h3⟩ := h
  refine ⟨cur.setIfInBounds i v, by simp [World.setCell, Array.getElem?_modify, h1], by simpa using h2, fun j hj => ?_⟩
  rw [Array.getElem?_setIfInBounds, if_neg (by omega)]
  exact h3 j hj
theorem Fill.put {i : Nat} {f' : Nat → Value} (h : Fill g t n n f wr) (hi : i < n) {v : Value} (hf : ∀ j, j < n → f' j = if j = i then v else f j) : Fill g t n n f' (wr.setCell ⟨g, i, none⟩ v) := by
  obtain ⟨cur, h1, h2, h3⟩ := h
  refine ⟨cur.setIfInBounds i v, by simp [World.setCell, Array.getElem?_modify, h1], by simpa using h2, fun j hj => ?_⟩
  rw [Array.getElem?_setIfInBounds, hf j hj]
  by_cases e : i = j
  · subst e
    rw [if_pos rfl, if_pos (by omega), if_pos rfl]
  · rw [if_neg e, if_neg (by omega)]
    exact h3 j hj
theorem Fill.done (h : Fill g t n n f wr) : wr.heap[g]? = some (.cells (rowV n f) t (0, 0)) := by
  obtain ⟨cur, h1, h2, h3⟩ := h
  rw [h1]
  congr 2
  apply Array.ext_getElem?
  intro j
  by_cases hj : j < n
  · rw [h3 j hj, rowV_at n f j hj]
  · rw [Array.getElem?_eq_none (by omega), Array.getElem?_eq_none (by rw [rowV_size]; omega)]
theorem Fill.keep {wr' : World} (h : Fill g t n k f wr) (e : wr'.heap[g]? = wr.heap[g]?) : Fill g t n k f wr' := by
  obtain ⟨cur, h1, h2⟩ := h
  exact ⟨cur, e.trans h1, h2⟩
theorem Fill.below {B : Nat} {wr' : World} (h : Fill g t n k f wr) (hb : Below B wr wr') (hg : g < B) : Fill g t n k f wr' := h.keep (hb.block g hg)
theorem Fill.drewN (h : Fill g t n k f wr) (m : Nat) : Fill g t n k f (wr.drewN m) := h
theorem Fill.less {m : Nat} (h : Fill g t n k f wr) (hm : m ≤ k) : Fill g t n m f wr := by
  obtain ⟨cur, h1, h2, h3⟩ := h
  exact ⟨cur, h1, h2, fun j hj => h3 j (by omega)⟩
theorem Fill.same {f' : Nat → Value} (h : Fill g t n k f wr) (e : ∀ j, j < k → f' j = f j) : Fill g t n k f' wr := by
  obtain ⟨cur, h1, h2, h3⟩ := h
  exact ⟨cur, h1, h2, fun j hj => by rw [e j hj]; exact h3 j hj⟩
theorem Fill.of_row (h : wr.heap[g]? = some (.cells (rowV n f) t (0, 0))) : Fill g t n n f wr := ⟨_, h, rowV_size n f, fun j hj => rowV_at n f j hj⟩
end

theorem Fill.put_at {g t n k : Nat} {f : Nat → Value} {wr : World} (h : Fill g t n k f wr) (i : Nat) (hi : i < n) (v : Value) : (wr.setCell ⟨g, i, none⟩ v).cell? ⟨g, i, none⟩ = some v := by
  obtain ⟨cur, h1, h2, h3⟩ := h
  have h' : (wr.setCell ⟨g, i, none⟩ v).heap[g]? = some (.cells (cur.setIfInBounds i v) t (0, 0)) := by simp [World.setCell, Array.getElem?_modify, h1]
  rw [cell_of_row _ g i _ _ (0, 0) h', Array.getElem?_setIfInBounds, if_pos rfl, if_pos (by omega)]
/-- A hash as a value. -/
def hF (l : List UInt8) : Nat → Value := fun j => bv (l.getD j 0)
def hashV (l : List UInt8) : Array Value := rowV 32 (hF l)
theorem heap_at (w : World) (o : Obj) : (w.alloc o).heap[w.heap.size]? = some o := heap_alloc_new w o
theorem heap_lt (w : World) (o : Obj) {k : Nat} (h : k < w.heap.size) : (w.alloc o).heap[k]? = w.heap[k]? := ((Below.refl w.heap.size w).alloc (Nat.le_refl _) o).block k h
theorem heap_sz (w : World) (o : Obj) : (w.alloc o).heap.size = w.heap.size + 1 := by simp
end Go.Proofs.Ytaoddppkijopmaa
