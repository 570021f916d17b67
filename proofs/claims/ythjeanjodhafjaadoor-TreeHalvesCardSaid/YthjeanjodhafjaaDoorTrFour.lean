/- Four blocks of hashes; the chapter's leaves. -/
import Derived.Test.YthjeanjodhafjaaDoorTrRoot
import Derived.Great.BuildSlice
namespace Go.Proofs.YthjeanjodhafjaaDoor
open Go.ChangeShapes Go.WideShapes Go.ChangeAt Go.RowKit
set_option linter.unusedVariables false

section
variable {P : Program} {w w' : World}
theorem wpList_build_as {ops : Array Oper} {rest : List Oper} {o : Oper} {a : Act} {Q : Exit → Act → World → Prop} (hg : o.guard = none) (t : TypeId) (parts : Array (Nat × Operand)) (ho : o.op = .build t parts) (cells : Array Value)
    (hf : P.built t (parts.map fun (i, x) => (i, a.eval x)).toList = some cells) (h : wpList P ops Q rest (a.put o.dst (.agg cells)) w) : wpList P ops Q (o :: rest) a w :=
  wpList_build hg t parts ho (by rw [hf]; rfl) (by rw [hf]; exact h)
theorem wpList_buildSlice_as {ops : Array Oper} {rest : List Oper} {o : Oper} {a : Act} {Q : Exit → Act → World → Prop} (hg : o.guard = none) (t : TypeId) (len : Nat) (parts : Array (Nat × Operand)) (ho : o.op = .buildSlice t len parts) (v : Value)
    (hrun : (Instr.buildSlice t len (parts.map fun (i, x) => (i, a.eval x))).run P w = .ok v w') (h : wpList P ops Q rest (a.put o.dst v) w') : wpList P ops Q (o :: rest) a w :=
  wpList_plain hg fun _ hK => by
    unfold Oper.wp execOp
    simp only [ho, Sem.run_bind, hrun, Result.andThen_ok]
    exact hK _ _ h
end
def k7 (b : UInt8) : List UInt8 := b :: List.replicate 31 0
theorem k7_root : rootH 2 [k7 1, k7 2, k7 3, k7 4] = nd (nd (k7 1) (k7 2)) (nd (k7 3) (k7 4)) := rfl
theorem k7_ne : (nd (nd (k7 1) (k7 2)) (nd (k7 3) (k7 4)) == List.replicate 32 0) = false := by decide +kernel
theorem k7_slice (u : World) : (Instr.buildSlice 22 4 #[(0, .agg (hashV (k7 1))), (1, .agg (hashV (k7 2))), (2, .agg (hashV (k7 3))), (3, .agg (hashV (k7 4)))]).run Tryd.prog u = .ok (.slice (some ⟨u.heap.size, 0, none⟩) 4 4) (u.alloc (.cells (hcs [k7 1, k7 2, k7 3, k7 4]).toArray 25)) := by
  have hie : Tryd.prog.info? 25 = some ((Tryd.prog.info? 25).get (by kernel_rfl)) := (Option.some_get _).symm
  refine run_buildSlice u _ 25 4 _ (hcs [k7 1, k7 2, k7 3, k7 4]).toArray _ _ Tryd.underlying22 hie (Option.some_get (by kernel_rfl)).symm (by decide +kernel) (by decide +kernel) ?_
  kernel_rfl
theorem z8_hash : rowV 32 z8 = hashV (List.replicate 32 0) := by kernel_rfl
/-- Four blocks of hashes, one behind the other. -/
theorem four_hashes (w : World) (a b c d : List UInt8) : ∃ W X, W = (((w.alloc (.cells (rowV 32 z8) 25)).alloc (.cells (rowV 32 z8) 25)).alloc (.cells (rowV 32 z8) 25)).alloc (.cells (rowV 32 z8) 25)
    ∧ X = (((W.setRow w.heap.size (hashV a)).setRow (w.heap.size + 1) (hashV b)).setRow (w.heap.size + 2) (hashV c)).setRow (w.heap.size + 3) (hashV d)
    ∧ W.heap[w.heap.size]? = some (.cells (rowV 32 z8) 25 (0, 0)) ∧ (W.setRow w.heap.size (hashV a)).heap[w.heap.size + 1]? = some (.cells (rowV 32 z8) 25 (0, 0))
    ∧ ((W.setRow w.heap.size (hashV a)).setRow (w.heap.size + 1) (hashV b)).heap[w.heap.size + 2]? = some (.cells (rowV 32 z8) 25 (0, 0))
    ∧ (((W.setRow w.heap.size (hashV a)).setRow (w.heap.size + 1) (hashV b)).setRow (w.heap.size + 2) (hashV c)).heap[w.heap.size + 3]? = some (.cells (rowV 32 z8) 25 (0, 0))
    ∧ Below w.heap.size w X ∧ X.heap.size = w.heap.size + 4 ∧ Fill w.heap.size 25 32 32 (hF a) X ∧ Fill (w.heap.size + 1) 25 32 32 (hF b) X ∧ Fill (w.heap.size + 2) 25 32 32 (hF c) X ∧ Fill (w.heap.size + 3) 25 32 32 (hF d) X := by
  obtain ⟨W, hW⟩ : ∃ W, W = (((w.alloc (.cells (rowV 32 z8) 25)).alloc (.cells (rowV 32 z8) 25)).alloc (.cells (rowV 32 z8) 25)).alloc (.cells (rowV 32 z8) 25) := ⟨_, rfl⟩
  have e0 : W.heap[w.heap.size]? = some (.cells (rowV 32 z8) 25 (0, 0)) := by
    rw [hW, heap_lt _ _ (by simp; omega), heap_lt _ _ (by simp; omega), heap_lt _ _ (by simp)]
    exact heap_alloc_new w _
  have e1 : W.heap[w.heap.size + 1]? = some (.cells (rowV 32 z8) 25 (0, 0)) := by
    rw [hW, heap_lt _ _ (by simp), heap_lt _ _ (by simp)]
    exact heap_alloc2_new w _ _
  have e2 : W.heap[w.heap.size + 2]? = some (.cells (rowV 32 z8) 25 (0, 0)) := by
    rw [hW, heap_lt _ _ (by simp)]
    have := heap_alloc2_new (w.alloc (.cells (rowV 32 z8) 25)) (.cells (rowV 32 z8) 25) (.cells (rowV 32 z8) 25)
    simpa using this
  have e3 : W.heap[w.heap.size + 3]? = some (.cells (rowV 32 z8) 25 (0, 0)) := by
    rw [hW]
    have := heap_alloc2_new ((w.alloc (.cells (rowV 32 z8) 25)).alloc (.cells (rowV 32 z8) 25)) (.cells (rowV 32 z8) 25) (.cells (rowV 32 z8) 25)
    simpa using this
  have hb : Below w.heap.size w W := by
    rw [hW]
    exact ((((Below.refl _ _).alloc (Nat.le_refl _) _).alloc (by simp) _).alloc (by simp; omega) _).alloc (by simp; omega) _
  have hs : W.heap.size = w.heap.size + 4 := by rw [hW]; simp
  have s1 : (W.setRow w.heap.size (hashV a)).heap[w.heap.size + 1]? = _ := (setRow_other _ _ _ _ (by omega)).trans e1
  have s2 : ((W.setRow w.heap.size (hashV a)).setRow (w.heap.size + 1) (hashV b)).heap[w.heap.size + 2]? = _ := (setRow_other _ _ _ _ (by omega)).trans ((setRow_other _ _ _ _ (by omega)).trans e2)
  have s3 : (((W.setRow w.heap.size (hashV a)).setRow (w.heap.size + 1) (hashV b)).setRow (w.heap.size + 2) (hashV c)).heap[w.heap.size + 3]? = _ := (setRow_other _ _ _ _ (by omega)).trans ((setRow_other _ _ _ _ (by omega)).trans ((setRow_other _ _ _ _ (by omega)).trans e3))
  refine ⟨W, _, hW, rfl, e0, s1, s2, s3, below_setRow (below_setRow (below_setRow (below_setRow hb (Nat.le_refl _) _) (by omega) _) (by omega) _) (by omega) _, by simp [hs], ?_, ?_, ?_, Fill.of_row (setRow_heap _ _ _ _ _ _ s3)⟩
  · exact Fill.of_row ((setRow_other _ _ _ _ (by omega)).trans ((setRow_other _ _ _ _ (by omega)).trans ((setRow_other _ _ _ _ (by omega)).trans (setRow_heap _ _ _ _ _ _ e0))))
  · exact Fill.of_row ((setRow_other _ _ _ _ (by omega)).trans ((setRow_other _ _ _ _ (by omega)).trans (setRow_heap _ _ _ _ _ _ s1)))
  · exact Fill.of_row ((setRow_other _ _ _ _ (by omega)).trans (setRow_heap _ _ _ _ _ _ s2))
theorem eqz (u : World) : (Op.equalIn 10000 25 (.agg (rowV 32 z8)) (.agg (rowV 32 z8))).run Tryd.prog u = .ok true u := by
  have e := eq_row 32 25 Tryd.underlying25 (List.replicate 32 0) (List.replicate 32 0) rfl rfl u
  rw [beq_self_eq_true] at e
  rw [z8_hash]
  exact e
end Go.Proofs.YthjeanjodhafjaaDoor
