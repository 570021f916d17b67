/- Rows in memory, and the words that are made of a block's. -/
import Derived.Test.YthjeanjodhafjaaDoorRot
import Derived.Laws.CopyOwn
import Derived.Deep.QuietTactic
import Derived.BigQuiet
import Derived.WalkSmall
import Derived.Deep.RegionHeld3
import Derived.StillTailTactics
import Derived.BigRegion
namespace Go.Proofs.YthjeanjodhafjaaDoor
open Go.ChangeShapes Go.WideShapes Go.ChangeAt Go.RowKit
set_option linter.unusedVariables false

/-- The block g holds n cells, of which the first k are f's. -/
def Fill (g t n k : Nat) (f : Nat → Value) (wr : World) : Prop :=
  ∃ cur, wr.heap[g]? = some (.cells cur t (0, 0)) ∧ cur.size = n ∧ ∀ j, j < k → cur[j]? = some (f j)
/-- A row by its cells. -/
def rowV (n : Nat) (f : Nat → Value) : Array Value := ((List.range n).map f).toArray
theorem rowV_size (n : Nat) (f : Nat → Value) : (rowV n f).size = n := by simp [rowV]
theorem rowV_at (n : Nat) (f : Nat → Value) (i : Nat) (h : i < n) : (rowV n f)[i]? = some (f i) := by
  simp only [rowV, List.getElem?_toArray, List.getElem?_map, List.getElem?_range h, Option.map_some]
theorem rowV_one (n : Nat) (f : Nat → Value) (h : ∀ i, (f i).oneCell' = true) : (rowV n f).all (·.oneCell') = true := by
  rw [Array.all_eq_true_iff_forall_mem]
  intro x hx
  simp only [rowV, List.mem_toArray, List.mem_map] at hx
  obtain ⟨i, _, rfl⟩ := hx
  exact h i
theorem rowV_list (n : Nat) (f : Nat → Value) : (rowV n f).toList = (List.range n).map f := by simp [rowV]
section
variable {g t n k : Nat} {f : Nat → Value} {wr : World}
theorem Fill.lt (h : Fill g t n k f wr) : g < wr.heap.size := by
  obtain ⟨cur, h1, _⟩ := h
  rcases Nat.lt_or_ge g wr.heap.size with h | h
  · exact h
  · rw [Array.getElem?_eq_none h] at h1; cases h1
theorem Fill.cell (h : Fill g t n k f wr) (j : Nat) (hj : j < n) : ∃ u, wr.cell? ⟨g, j, none⟩ = some u ∧ wr.frozen? ⟨g, j, none⟩ = false := by
  obtain ⟨cur, h1, h2, _⟩ := h
  refine ⟨cur[j]'(by omega), ?_, by simp [World.frozen?, h1]⟩
  rw [cell_of_row wr g j cur _ (0, 0) h1]
  exact Array.getElem?_eq_getElem (by omega)
theorem Fill.at_ (h : Fill g t n k f wr) (j : Nat) (hj : j < k) : wr.cell? ⟨g, j, none⟩ = some (f j) := by
  obtain ⟨cur, h1, h2, h3⟩ := h
  rw [cell_of_row wr g j cur _ (0, 0) h1]
  exact h3 j hj
theorem Fill.frozen (h : Fill g t n k f wr) (j : Nat) : wr.frozen? ⟨g, j, none⟩ = false := by
  obtain ⟨cur, h1, h2, _⟩ := h
  simp [World.frozen?, h1]
theorem Fill.step (h : Fill g t n k f wr) (hk : k < n) {v : Value} (hv : v = f k) : Fill g t n (k + 1) f (wr.setCell ⟨g, k, none⟩ v) := by
  obtain ⟨cur, h1, h2, h3⟩ := h
  refine ⟨cur.setIfInBounds k v, by simp [World.setCell, Array.getElem?_modify, h1], by simpa using h2, fun j hj => ?_⟩
  rw [Array.getElem?_setIfInBounds]
  by_cases e : k = j
  · subst e
    rw [if_pos rfl, if_pos (by omega), hv]
  · rw [if_neg e]
    exact h3 j (by omega)
/-- A store beyond what is known. -/
theorem Fill.past (h : Fill g t n k f wr) (i : Nat) (hk : k ≤ i) (v : Value) : Fill g t n k f (wr.setCell ⟨g, i, none⟩ v) := by
  obtain ⟨cur, h1, h2, h3⟩ := h
  refine ⟨cur.setIfInBounds i v, by simp [World.setCell, Array.getElem?_modify, h1], by simpa using h2, fun j hj => ?_⟩
  rw [Array.getElem?_setIfInBounds, if_neg (by omega)]
  exact h3 j hj
theorem Fill.put {i : Nat} {f' : Nat → Value} (h : Fill g t n n f wr) (hi : i < n) {v : Value} (hf : ∀ j, j < n → f' j = if j = i then v else f j) : Fill g t n n f' (wr.setCell ⟨g, i, none⟩ v) := by
  obtain ⟨cur, h1, h2, h3⟩ := h
  refine ⟨cur.setIfInBounds i v, by simp [World.setCell, Array.getElem?_modify, h1], by simpa using h2, fun j hj => ?_⟩
  rw [Array.getElem?_setIfInBounds, hf j hj]
  by_cases e : i = j
  · subst e
    rw [if_pos rfl, if_pos (by omega), if_pos rfl]
  · rw [if_neg e, if_neg (by omega)]
    exact h3 j hj
theorem Fill.done (h : Fill g t n n f wr) : wr.heap[g]? = some (.cells (rowV n f) t (0, 0)) := by
  obtain ⟨cur, h1, h2, h3⟩ := h
  rw [h1]
  congr 2
  apply Array.ext_getElem?
  intro j
  by_cases hj : j < n
  · rw [h3 j hj, rowV_at n f j hj]
  · rw [Array.getElem?_eq_none (by omega), Array.getElem?_eq_none (by rw [rowV_size]; omega)]
theorem Fill.keep {wr' : World} (h : Fill g t n k f wr) (e : wr'.heap[g]? = wr.heap[g]?) : Fill g t n k f wr' := by
  obtain ⟨cur, h1, h2⟩ := h
  exact ⟨cur, e.trans h1, h2⟩
theorem Fill.below {B : Nat} {wr' : World} (h : Fill g t n k f wr) (hb : Below B wr wr') (hg : g < B) : Fill g t n k f wr' := h.keep (hb.block g hg)
theorem Fill.drewN (h : Fill g t n k f wr) (m : Nat) : Fill g t n k f (wr.drewN m) := h
theorem Fill.less {m : Nat} (h : Fill g t n k f wr) (hm : m ≤ k) : Fill g t n m f wr := by
  obtain ⟨cur, h1, h2, h3⟩ := h
  exact ⟨cur, h1, h2, fun j hj => h3 j (by omega)⟩
theorem Fill.same {f' : Nat → Value} (h : Fill g t n k f wr) (e : ∀ j, j < k → f' j = f j) : Fill g t n k f' wr := by
  obtain ⟨cur, h1, h2, h3⟩ := h
  exact ⟨cur, h1, h2, fun j hj => by rw [e j hj]; exact h3 j hj⟩
theorem Fill.of_row (h : wr.heap[g]? = some (.cells (rowV n f) t (0, 0))) : Fill g t n n f wr := ⟨_, h, rowV_size n f, fun j hj => rowV_at n f j hj⟩
end

theorem Fill.put_at {g t n k : Nat} {f : Nat → Value} {wr : World} (h : Fill g t n k f wr) (i : Nat) (hi : i < n) (v : Value) : (wr.setCell ⟨g, i, none⟩ v).cell? ⟨g, i, none⟩ = some v := by
  obtain ⟨cur, h1, h2, h3⟩ := h
  have h' : (wr.setCell ⟨g, i, none⟩ v).heap[g]? = some (.cells (cur.setIfInBounds i v) t (0, 0)) := by simp [World.setCell, Array.getElem?_modify, h1]
  rw [cell_of_row _ g i _ _ (0, 0) h', Array.getElem?_setIfInBounds, if_pos rfl, if_pos (by omega)]
theorem turnsAt_new (w : World) (l : List Nat) (C : Array Value) (t : TypeId) (hC : C = (l.map fun (x : Nat) => Value.int .i64 (x : Int)).toArray) : TurnsAt (w.alloc (.cells C t)) w.heap.size l := by
  subst hC
  intro j x hx
  rw [cell_of_row _ w.heap.size j _ _ (0, 0) (heap_alloc_new w _)]
  simp [hx]
theorem turned2 (x m n : Nat) (w : World) (hx : x < 4294967296) (hm : 1 ≤ m ∧ m ≤ 31) (hn : 1 ≤ n ∧ n ≤ 31) :
    Calls Tryd.prog 45 #[.int .u32 (x : Int), .slice (some ⟨w.heap.size, 0, none⟩) 2 2] (w.alloc (.cells #[.int .i64 (m : Int), .int .i64 (n : Int)] 3)) fun e w' => e = .returned (.int .u32 (turns x [m, n] : Nat)) ∧ w.alloc (.cells #[.int .i64 (m : Int), .int .i64 (n : Int)] 3) = w' :=
  turned_any x w.heap.size 2 [m, n] _ hx (turnsAt_new w [m, n] _ _ rfl) (by simp) (by simp; exact ⟨hm, hn⟩)
theorem turned3 (x m n k : Nat) (w : World) (hx : x < 4294967296) (hm : 1 ≤ m ∧ m ≤ 31) (hn : 1 ≤ n ∧ n ≤ 31) (hk : 1 ≤ k ∧ k ≤ 31) :
    Calls Tryd.prog 45 #[.int .u32 (x : Int), .slice (some ⟨w.heap.size, 0, none⟩) 3 3] (w.alloc (.cells #[.int .i64 (m : Int), .int .i64 (n : Int), .int .i64 (k : Int)] 3)) fun e w' => e = .returned (.int .u32 (turns x [m, n, k] : Nat)) ∧ w.alloc (.cells #[.int .i64 (m : Int), .int .i64 (n : Int), .int .i64 (k : Int)] 3) = w' :=
  turned_any x w.heap.size 3 [m, n, k] _ hx (turnsAt_new w [m, n, k] _ _ rfl) (by simp) (by simp; exact ⟨hm, hn, hk⟩)
theorem xo_sh (a x k : Nat) : bits .xor .u32 (a : Int) ((x : Int) / (k : Int)) = ((xo a (x / k) : Nat) : Int) := by
  rw [← xo_rule]
  rfl
theorem ad_wrap (a b : Nat) : IntKind.u32.wrap ((a : Int) + (b : Int)) = ((ad a b : Nat) : Int) := by
  rw [IntKind.wrap_u32', ad_rule]
theorem addr_add (g j : Nat) : Addr.add ⟨g, 0, none⟩ j = ⟨g, j, none⟩ := by
  unfold Addr.add
  split
  · next h0 => subst h0; rfl
  · simp
theorem heap_at (w : World) (o : Obj) : (w.alloc o).heap[w.heap.size]? = some o := heap_alloc_new w o
theorem heap_lt (w : World) (o : Obj) {k : Nat} (h : k < w.heap.size) : (w.alloc o).heap[k]? = w.heap[k]? := ((Below.refl w.heap.size w).alloc (Nat.le_refl _) o).block k h
theorem heap_sz (w : World) (o : Obj) : (w.alloc o).heap.size = w.heap.size + 1 := by simp
theorem heap4 (w : World) (o1 o2 o3 o4 : Obj) :
    ((((w.alloc o1).alloc o2).alloc o3).alloc o4).heap[w.heap.size]? = some o1 ∧ ((((w.alloc o1).alloc o2).alloc o3).alloc o4).heap[w.heap.size + 1]? = some o2 ∧
    ((((w.alloc o1).alloc o2).alloc o3).alloc o4).heap[w.heap.size + 1 + 1]? = some o3 ∧ ((((w.alloc o1).alloc o2).alloc o3).alloc o4).heap[w.heap.size + 1 + 1 + 1]? = some o4 := by
  have s1 := heap_sz w o1
  have s2 := heap_sz (w.alloc o1) o2
  have s3 := heap_sz ((w.alloc o1).alloc o2) o3
  have a1 := heap_at w o1
  have a2 := heap_at (w.alloc o1) o2
  have a3 := heap_at ((w.alloc o1).alloc o2) o3
  have a4 := heap_at (((w.alloc o1).alloc o2).alloc o3) o4
  rw [s1] at a2 s2
  rw [s2] at a3 s3
  rw [s3] at a4
  refine ⟨?_, ?_, ?_, a4⟩
  · rw [heap_lt _ _ (by omega), heap_lt _ _ (by omega), heap_lt _ _ (by omega)]; exact a1
  · rw [heap_lt _ _ (by omega), heap_lt _ _ (by omega)]; exact a2
  · rw [heap_lt _ _ (by omega)]; exact a3

def z32 : Nat → Value := fun _ => .int .u32 0
theorem zero_8 (u : World) : (zeroValue 50).run Tryd.prog u = .ok (.agg (rowV 8 z32)) u := by kernel_rfl
theorem zero_64 (u : World) : (zeroValue 51).run Tryd.prog u = .ok (.agg (rowV 64 z32)) u := by kernel_rfl
theorem size_8 : (Tryd.prog.info? 50).map (·.size) = some 8 := by kernel_rfl
theorem size_64 : (Tryd.prog.info? 51).map (·.size) = some 64 := by kernel_rfl
theorem size_u32 : (Tryd.prog.info? 49).map (·.size) = some 1 := by kernel_rfl

/-- The eight, and a block's words, as they lie. -/
def eF (s : St) : Nat → Value := fun i => rv (s.at i)
def bF (b : List Nat) : Nat → Value := fun i => rv (b.getD i 0)
/-- The tables. -/
def Tabs (w : World) : Prop := (∀ i, i < 8 → w.cell? ⟨0, i, none⟩ = some (rv (hN i))) ∧ (∀ i, i < 64 → w.cell? ⟨1, i, none⟩ = some (rv (kN i))) ∧ 0 < w.heap.size ∧ 1 < w.heap.size
theorem Tabs.below {w w' : World} {B : Nat} (h : Tabs w) (hb : Below B w w') (h0 : 0 < B) (h1 : 1 < B) : Tabs w' :=
  ⟨fun i hi => (hb.cell (p := ⟨0, i, none⟩) h0).trans (h.1 i hi), fun i hi => (hb.cell (p := ⟨1, i, none⟩) h1).trans (h.2.1 i hi), Nat.lt_of_lt_of_le h.2.2.1 hb.size, Nat.lt_of_lt_of_le h.2.2.2 hb.size⟩


/-- An array by value, indexed. -/
theorem run_index_row (t e n : Nat) (cs : Array Value) (i : Nat) (k : IntKind) (v : Int) (u : World) (h : Tryd.prog.underlying t = some (.array n e)) (he : (Tryd.prog.info? e).map (fun i => i.size) = some 1) (hk : Tryd.prog.underlying e = some (.int k)) (hi : i < n) (hv : cs[i]? = some (.int k v)) :
    (Instr.index t (.agg cs) (.int .i64 (i : Int))).run Tryd.prog u = .ok (.int k v) u := by
  obtain ⟨ti, hti, hsz⟩ := Option.map_eq_some_iff.1 he
  simp [Instr.index, asIntOf, run_underlying h, hi, sizeOf, typeInfo, hti, hsz, part, isAgg, run_underlying hk, go_sem, hv]
theorem eight_at (r : St) (i : Nat) (h : i < 8) : (#[.int .u32 (r.a : Int), .int .u32 (r.b : Int), .int .u32 (r.c : Int), .int .u32 (r.d : Int), .int .u32 (r.e : Int), .int .u32 (r.f : Int), .int .u32 (r.g : Int), .int .u32 (r.h : Int)] : Array Value)[i]? = some (.int .u32 (r.at i : Nat)) := by
  match i, h with
  | 0, _ => rfl
  | 1, _ => rfl
  | 2, _ => rfl
  | 3, _ => rfl
  | 4, _ => rfl
  | 5, _ => rfl
  | 6, _ => rfl
  | 7, _ => rfl
theorem plus_at (s r : St) (i : Nat) : (s.plus r).at i = ad (s.at i) (r.at i) := by
  match i with
  | 0 => rfl
  | 1 => rfl
  | 2 => rfl
  | 3 => rfl
  | 4 => rfl
  | 5 => rfl
  | 6 => rfl
  | _ + 7 => rfl
/-- The first i of the eight have their letters. -/
def pF (s r : St) (i : Nat) : Nat → Value := fun j => if j < i then rv (ad (s.at j) (r.at j)) else rv (s.at j)
theorem pF_step (s r : St) (i : Nat) (v : Value) (hv : v = rv (ad (s.at i) (r.at i))) : ∀ j, j < 8 → pF s r (i + 1) j = if j = i then v else pF s r i j := by
  intro j _
  unfold pF
  by_cases e : j = i
  · subst e
    rw [if_pos (by omega), if_pos rfl, hv]
  · by_cases h : j < i
    · rw [if_pos (by omega), if_neg e, if_pos h]
    · rw [if_neg (by omega), if_neg e, if_neg h]
theorem pF_done (s r : St) : ∀ j, j < 8 → eF (s.plus r) j = pF s r 8 j := by
  intro j hj
  unfold pF eF
  rw [if_pos hj, plus_at]
theorem rv_one (r : Nat) : (rv r).oneCell' = true := rfl
end Go.Proofs.YthjeanjodhafjaaDoor
