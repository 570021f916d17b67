/- Appending to bytes that bear a mark behind them (what a string, or a constant, was turned into). -/
import Derived.Test.YtaoddppkijopmaaMem
import Derived.Laws.AppendOwn
namespace Go.Proofs.Ytaoddppkijopmaa
open Go.RowKit
set_option linter.unusedVariables false
set_option maxRecDepth 100000

/-- A slice of bytes of the call's own, whose block may bear a mark behind its last cell. -/
def OwM (w : World) (base : Nat) (A : Option Addr) (n c : Nat) (l : List UInt8) : Prop :=
  n = l.length ∧ ∃ g cur fz, A = some ⟨g, 0, none⟩ ∧ base ≤ g ∧ w.heap[g]? = some (.cells cur 5 fz) ∧ (fz = (0, 0) ∨ cur.size ≤ fz.1) ∧ n ≤ c ∧ c ≤ maxLen ∧ cur.size = c ∧ cur.toList.take n = l.map bv
section
variable {w w' : World} {base base' n c : Nat} {A : Option Addr} {l : List UInt8}
theorem OwM.rd (h : OwM w base A n c l) : Rd w base w.heap.size A l := fun hn => by
  obtain ⟨h0, g, cur, fz, rfl, h1, h2, h3, h4, h5, h6, h7⟩ := h
  refine ⟨g, 0, rfl, h1, blk_ltM h2, fun j x hx => ?_⟩
  rw [Nat.zero_add, cell_of_row w g j cur _ fz h2]
  have hj : j < l.length := (List.getElem?_eq_some_iff.1 hx).1
  have : (cur.toList.take n)[j]? = some (bv x) := by rw [h7, List.getElem?_map, hx]; rfl
  rw [List.getElem?_take, if_pos (by omega)] at this
  simpa using this
where
  blk_ltM {w : World} {g : Nat} {o : Obj} (h : w.heap[g]? = some o) : g < w.heap.size := by
    rcases Nat.lt_or_ge g w.heap.size with h1 | h1
    · exact h1
    · rw [Array.getElem?_eq_none h1] at h; cases h
theorem OwM.keep (h : OwM w base A n c l) (hk : ∀ g, A = some ⟨g, 0, none⟩ → w'.heap[g]? = w.heap[g]?) : OwM w' base A n c l := by
  obtain ⟨h0, g, cur, fz, rfl, h1, h2, h3⟩ := h
  exact ⟨h0, g, cur, fz, rfl, h1, (hk g rfl).trans h2, h3⟩
theorem OwM.lt (h : OwM w base A n c l) : ∃ g, A = some ⟨g, 0, none⟩ ∧ base ≤ g ∧ g < w.heap.size := by
  obtain ⟨h0, g, cur, fz, rfl, h1, h2, h3⟩ := h
  exact ⟨g, rfl, h1, OwM.rd.blk_ltM h2⟩
theorem OwM.below {B : Nat} (h : OwM w base A n c l) (hb : Below B w w') (hB : w.heap.size ≤ B) : OwM w' base A n c l := by
  obtain ⟨g, rfl, _, hg⟩ := h.lt
  exact h.keep (fun k e => by injection e with e; injection e with e1 _ _; subst e1; exact hb.block g (by omega))
theorem OwM.wide (h : OwM w base A n c l) (hb : base' ≤ base) : OwM w base' A n c l := by
  obtain ⟨h0, g, cur, fz, rfl, h1, h2⟩ := h
  exact ⟨h0, g, cur, fz, rfl, Nat.le_trans hb h1, h2⟩
theorem OwM.of_own {n : Nat} (h : w.ownsRow base 5 1 (.slice A n c) n (l.map bv)) (hn : 0 < n) : OwM w base A n c l := by
  have hl : (l.map bv).length = n * 1 := h.1
  rcases h.2 with ⟨_, h0⟩ | ⟨g, cap, cur, e, h1, h2, h3, h4, h5, h6⟩
  · omega
  · injection e with e1 _ e2
    subst e1
    subst e2
    exact ⟨by simpa using hl.symm, g, cur, (0, 0), rfl, h1, h2, .inl rfl, h3, h4, by simpa using h5, by simpa using h6⟩
end
theorem store_mk (P : Program) (w : World) (g k t : Nat) (cur : Array Value) (fz : Nat × Nat) (v : Value) (h : w.heap[g]? = some (.cells cur t fz)) (hf : fz = (0, 0) ∨ cur.size ≤ fz.1) (hk : k < cur.size) (h1 : v.oneCell' = true) :
    (store ⟨g, k, none⟩ v).run P w = .ok () (w.setRow g (cur.setIfInBounds k v)) := by
  have hc : w.cell? ⟨g, k, none⟩ = some cur[k] := by rw [cell_of_row w g k cur t fz h]; simp [hk]
  have hz : w.frozen? ⟨g, k, none⟩ = false := by
    obtain ⟨lo, hi⟩ := fz
    simp only [World.frozen?, h, Bool.and_eq_false_iff, decide_eq_false_iff_not]
    rcases hf with e | e
    · injection e with e1 e2
      right
      omega
    · left
      simp only at e
      omega
  rw [run_store P w _ v _ h1, hc]
  simp only [hz, Bool.false_eq_true, if_false]
  rw [setCell_eq_setRow w g k cur t fz v h]
theorem storeCells_mk (P : Program) (g o t : Nat) (fz : Nat × Nat) (vs : List Value) : ∀ (i : Nat) (cur : Array Value) (w : World), w.heap[g]? = some (.cells cur t fz) → (fz = (0, 0) ∨ cur.size ≤ fz.1) → o + i + vs.length ≤ cur.size → (∀ v ∈ vs, v.oneCell' = true) →
    (storeCells ⟨g, o, none⟩ vs i).run P w = .ok () (w.setRow g (cur.toList.take (o + i) ++ vs ++ cur.toList.drop (o + i + vs.length)).toArray) := by
  induction vs with
  | nil =>
    intro i cur w h _ _ _
    simp only [storeCells, List.append_nil, List.length_nil, Nat.add_zero, List.take_append_drop, Array.toArray_toList]
    rw [setRow_self w g cur t fz h]
    rfl
  | cons v vs ih =>
    intro i cur w h hf hl h1
    rw [List.length_cons] at hl
    have s1 := store_mk P w g (o + i) t cur fz v h hf (by omega) (h1 v (List.mem_cons_self ..))
    have s2 := ih (i + 1) (cur.setIfInBounds (o + i) v) (w.setRow g (cur.setIfInBounds (o + i) v)) (setRow_heap w g cur _ t _ h) (by rw [Array.size_setIfInBounds]; exact hf) (by rw [Array.size_setIfInBounds]; omega) (fun x hx => h1 x (List.mem_cons_of_mem _ hx))
    have ea : (⟨g, o, none⟩ : Addr).add i = ⟨g, o + i, none⟩ := by
      unfold Addr.add
      split
      · next h0 => subst h0; rfl
      · rfl
    rw [← ea] at s1
    simp only [storeCells, Sem.run_bind, s1, Result.andThen_ok, s2, setRow_setRow]
    congr 3
    have e := list_seg_step cur.toList (o + i) v vs (by simp; omega)
    simpa [Array.toList_setIfInBounds, Nat.add_assoc, Nat.add_comm, Nat.add_left_comm] using e
section
variable {P : Program} (w : World)
theorem run_append_mk (base t ty : Nat) (i : TypeInfo) (z : Value) (ht : P.underlying t = some (.slice 5)) (hi : P.info? 5 = some i) (hz : i.zero = some z) (hsize : i.size = 1) (hby : i.bytes = 1) (hzs : z.cells.size = 1)
    (B : Option Addr) (n c : Nat) (l : List UInt8) (ho : OwM w base B n c l)
    (lo hi' : Nat) (A : Option Addr) (ca : Nat) (l2 : List UInt8) (hr : Rd w lo hi' A l2) (h63 : n + l2.length ≤ 140737488355328) (hbase : base ≤ w.heap.size) :
    ∃ B' c' w', (Builtin.append_ #[t, t] ty #[.slice B n c, .slice A l2.length ca]).run P w = .ok (.slice B' (n + l2.length) c') w' ∧ OwM w' base B' (n + l2.length) c' (l ++ l2) ∧ (∀ g, B = some ⟨g, 0, none⟩ → w.grownBy w' (some g)) := by
  have ho' := ho
  obtain ⟨h0, g, cur, fz, rfl, h1, h2, h3, h4, h5, h6, h7⟩ := ho
  rcases A with _ | ad
  · have hl : l2 = [] := by
      rcases l2 with _ | ⟨x, l2⟩
      · rfl
      · obtain ⟨b, off, e, _⟩ := hr (by simp)
        cases e
    subst hl
    refine ⟨some ⟨g, 0, none⟩, c, w, ?_, by simpa using ho', fun _ _ => World.grownBy.refl w _⟩
    simp [Builtin.append_, run_underlying ht, sizeOf, typeInfo, hi, Builtin.lenOf, Builtin.firstCells, h4, storeCells]
  · have hc : ∀ j u, (l2.map bv)[j]? = some u → w.cell? (ad.add j) = some u := by
      intro j u hu
      have hj : j < l2.length := by
        rcases Nat.lt_or_ge j l2.length with h | h
        · exact h
        · rw [List.getElem?_eq_none (by simpa using h)] at hu; cases hu
      obtain ⟨b, off, e, _, _, hcell⟩ := hr (by omega)
      injection e with e
      subst e
      rw [List.getElem?_map, List.getElem?_eq_getElem hj] at hu
      have := hcell j _ (List.getElem?_eq_getElem hj)
      have hadd : (⟨b, off, none⟩ : Addr).add j = ⟨b, off + j, none⟩ := by
        unfold Addr.add
        split
        · next h0 => subst h0; rfl
        · rfl
      rw [hadd, this]
      exact hu
    have lxs : (l.map bv).length = n := by rw [List.length_map, h0]
    by_cases hroom : n + l2.length ≤ c
    · have hf := run_firstCells_some (P := P) w i.size l2.length ad l2.length ca (l2.map bv) (by rw [hsize]; simp) hc
      have hst := storeCells_mk P g n 5 fz (l2.map bv) 0 cur w h2 h3 (by rw [List.length_map]; omega) (bv_one l2)
      simp only [Nat.add_zero, List.length_map] at hst
      refine ⟨some ⟨g, 0, none⟩, c, w.setRow g (cur.toList.take n ++ l2.map bv ++ cur.toList.drop (n + l2.length)).toArray, ?_, ⟨by rw [List.length_append, h0], g, _, fz, rfl, h1, setRow_heap w g cur _ _ _ h2, ?_, hroom, h5, ?_, ?_⟩, fun k e => ?_⟩
      · rw [hsize] at hf
        simp [Builtin.append_, run_underlying ht, sizeOf, typeInfo, hi, hsize, Builtin.lenOf, hroom, hf, Addr.add_lit, hst]
      · have : (cur.toList.take n ++ l2.map bv ++ cur.toList.drop (n + l2.length)).toArray.size = cur.size := by
          simp only [List.size_toArray, List.length_append, List.length_take, List.length_drop, Array.length_toList, List.length_map]
          omega
        rw [this]
        exact h3
      · simp only [List.size_toArray, List.length_append, List.length_take, List.length_drop, Array.length_toList, List.length_map]
        omega
      · rw [h7, List.map_append, show n + l2.length = (l.map bv ++ l2.map bv).length by rw [List.length_append, lxs, List.length_map]]
        exact List.take_left
      · injection e with e
        injection e with e1 _ _
        subst e1
        exact ⟨rfl, rfl, rfl, by simp, fun k _ hk => setRow_other w g k _ (fun e => hk (by rw [e]))⟩
    · have holds : ∀ j u, (l.map bv)[j]? = some u → w.cell? ((⟨g, 0, none⟩ : Addr).add j) = some u := by
        intro j u hu
        have hadd : (⟨g, 0, none⟩ : Addr).add j = ⟨g, j, none⟩ := by unfold Addr.add; split <;> simp_all
        rw [hadd, cell_of_row w g j cur _ fz h2]
        rw [← h7, List.getElem?_take] at hu
        split at hu
        · simpa using hu
        · cases hu
      have hge := grownCap_ge w (n + l2.length) c 5
      have hcm : grownCap w (n + l2.length) c 5 ≤ maxLen := grownCap_le_maxLen w (n + l2.length) c 5 (by simp only [maxLen]; omega)
      have hrun := run_append_grow (P := P) w t ty 5 i z ht hi hz ⟨g, 0, none⟩ n c (l.map bv) (by rw [hsize, lxs, Nat.mul_one]) holds ad l2.length ca (l2.map bv) (by rw [hsize]; simp) hc (by omega) (by omega) (by rw [hby]; exact growslice_fits (by omega) (by omega))
      refine ⟨_, _, _, hrun, ⟨by rw [List.length_append, h0], w.heap.size, _, (0, 0), rfl, hbase, heap_alloc_new w.drew _, .inl rfl, hge, hcm, ?_, ?_⟩, fun k e => ⟨rfl, rfl, rfl, by simp, fun k hk _ => heap_alloc_old w.drew _ k hk⟩⟩
      · simp only [Array.size_append, List.size_toArray, size_zeroCells, hzs, lxs, List.length_map]
        omega
      · simp only [Array.toList_append, List.map_append]
        rw [show n + l2.length = ((l.map bv).toArray.toList ++ (l2.map bv).toArray.toList).length by simp [h0]]
        exact List.take_left
theorem wpList_append_mk {ops : Array Oper} {rest : List Oper} {o : Oper} {a : Act} {Q : Exit → Act → World → Prop} (hgd : o.guard = none) (s x : Operand) (t : TypeId)
    (ho : o.op = .call { callee := .builtin .append, args := #[s, x], argTypes := #[t, t] })
    (base : Nat) (i : TypeInfo) (z : Value) (ht : P.underlying t = some (.slice 5)) (hi : P.info? 5 = some i) (hz : i.zero = some z) (hsize : i.size = 1) (hby : i.bytes = 1) (hzs : z.cells.size = 1)
    (B : Option Addr) (n c : Nat) (l : List UInt8) (hs : a.eval s = .slice B n c) (hown : OwM w base B n c l)
    (lo hi' : Nat) (A : Option Addr) (ca : Nat) (l2 : List UInt8) (hx : a.eval x = .slice A l2.length ca) (hr : Rd w lo hi' A l2) (h63 : n + l2.length ≤ 140737488355328) (hbase : base ≤ w.heap.size)
    (h : ∀ B' c' w', OwM w' base B' (n + l2.length) c' (l ++ l2) → (∀ g, B = some ⟨g, 0, none⟩ → w.grownBy w' (some g)) → wpList P ops Q rest (a.put o.dst (.slice B' (n + l2.length) c')) w') : wpList P ops Q (o :: rest) a w := by
  refine wpList_plain hgd fun K hK => ?_
  obtain ⟨B', c', w', hrun, h2, h3⟩ := run_append_mk (P := P) w base t o.type i z ht hi hz hsize hby hzs B n c l hown lo hi' A ca l2 hr h63 hbase
  unfold Oper.wp execOp
  simp only [ho, resolve, invoke, builtin, Sem.run_bind, Sem.run_pure, Result.andThen_ok, List.map_toArray, List.map_cons, List.map_nil, hs, hx, hrun]
  exact hK _ _ (h B' c' w' h2 h3)
end
end Go.Proofs.Ytaoddppkijopmaa
