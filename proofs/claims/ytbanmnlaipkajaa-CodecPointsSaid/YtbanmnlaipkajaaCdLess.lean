/- Contracts: cmp.Or of two, and the order of checkpoints. -/
import Derived.Test.YtbanmnlaipkajaaCdCmp
import Derived.Deep.RegionHeld3
import Derived.Deep.RegionWith
namespace Go.Proofs.Ytbanmnlaipkajaa
open Go.ChangeShapes Go.WideShapes Go.ChangeAt Go.RowKit
set_option linter.unusedVariables false
set_option maxRecDepth 100000

/-- The first that is not nought. -/
def orI (x y : Int) : Int := if x = 0 then y else x
theorem or2_c (x y : Int) (g n m : Nat) (w : World) (en : n = 2) (h0 : w.cell? ⟨g, 0, none⟩ = some (.int .i64 x)) (h1 : w.cell? ⟨g, 1, none⟩ = some (.int .i64 y)) :
    Calls Try.prog 57 #[.slice (some ⟨g, 0, none⟩) n m] w fun e w' => e = .returned (.int .i64 (orI x y)) ∧ w = w' := by
  subst en
  by_cases hx : x = 0
  · have HC := Lib.hid (show orI x y = y by unfold orI; rw [if_pos hx])
    have d0 : (x != 0) = false := by simpa using hx
    clear hx
    by_cases hy : y = 0
    · have HY := Lib.hid hy
      have d1 : (y != 0) = false := by simpa using hy
      clear hy
      go_enter Try.func57, Try.ntmps57
      go_wp2
      refine wp_loop_rounds 3 ?_
      rw [rounds_succ]
      go_wp2
      rw [rounds_succ]
      go_wp2
      rw [rounds_succ]
      go_wp2
      go_ret
      exact ⟨by rw [HC.out, HY.out]; rfl, rfl⟩
    · have d1 : (y != 0) = true := by simpa using hy
      clear hy
      go_enter Try.func57, Try.ntmps57
      go_wp2
      refine wp_loop_rounds 3 ?_
      rw [rounds_succ]
      go_wp2
      rw [rounds_succ]
      go_wp2
      try rw [Exit.noGoto_ret]
      go_ret
      exact ⟨by rw [HC.out]; rfl, rfl⟩
  · have HC := Lib.hid (show orI x y = x by unfold orI; rw [if_neg hx])
    have d0 : (x != 0) = true := by simpa using hx
    clear hx
    go_enter Try.func57, Try.ntmps57
    go_wp2
    refine wp_loop_rounds 3 ?_
    rw [rounds_succ]
    go_wp2
    try rw [Exit.noGoto_ret]
    go_ret
    exact ⟨by rw [HC.out]; rfl, rfl⟩

/-- Stands a checkpoint ahead of another one? -/
def lessP (e : Nat) (l : List UInt8) (e' : Nat) (l' : List UInt8) : Bool := decide (orI (cmpN e e') (Lib.compareBytes l l') < 0)

set_option maxHeartbeats 4000000 in
theorem pointLess_c (e e' : Nat) (l l' : List UInt8) (w : World) (hl : l.length = 32) (hl' : l'.length = 32) :
    Calls Try.prog 19 #[.agg (ptV e l), .agg (ptV e' l')] w fun x w' => x = .returned (.bool (lessP e l e' l')) ∧ Below w.heap.size w w' := by
  have b0 : Below w.heap.size w ((w.alloc (.cells (ptV e l) 26)).alloc (.cells (ptV e' l') 26)) := ((Below.refl _ _).alloc (Nat.le_refl _) _).alloc (by simp) _
  have p0 : PtB w.heap.size e l ((w.alloc (.cells (ptV e l) 26)).alloc (.cells (ptV e' l') 26)) := PtB.new.alloc _
  have p1 : PtB (w.heap.size + 1) e' l' ((w.alloc (.cells (ptV e l) 26)).alloc (.cells (ptV e' l') 26)) := by
    have := PtB.new (w := w.alloc (.cells (ptV e l) 26)) (e := e') (l := l')
    rwa [heap_sz] at this
  have HL := Lib.hid hl
  have HL' := Lib.hid hl'
  go_enter Try.func19, Try.ntmps19
  go_wp2_with fail
  have hsz : ((w.alloc (.cells (ptV e l) 26)).alloc (.cells (ptV e' l') 26)).heap.size = w.heap.size + 2 := by simp
  generalize (w.alloc (.cells (ptV e l) 26)).alloc (.cells (ptV e' l') 26) = W at *
  have k0 : W.cell? ⟨w.heap.size, 0, none⟩ = some (.int .u64 (e : Int)) := p0.epoch
  have k1 : W.cell? ⟨w.heap.size + 1, 0, none⟩ = some (.int .u64 (e' : Int)) := p1.epoch
  have HR0 : Hid (Rd W.drew 0 (w.heap.size + 2) (some ⟨w.heap.size, 1, none⟩) l) := p0.rd hl (Nat.zero_le _) (by omega)
  have HR1 : Hid (Rd W.drew 0 (w.heap.size + 2) (some ⟨w.heap.size + 1, 1, none⟩) l') := p1.rd hl' (Nat.zero_le _) (by omega)
  have HD := Lib.hid (show lessP e l e' l' = decide (orI (cmpN e e') (Lib.compareBytes l l') < 0) from rfl)
  have HC0 : Hid (∀ x y : Int, ((W.alloc (.cells #[.int .i64 x, .int .i64 y] 3)).drew).cell? ⟨w.heap.size + 2, 0, none⟩ = some (.int .i64 x)) := fun x y => by
    rw [← hsz]
    exact cell_of_row _ _ 0 _ _ (0, 0) (heap_alloc_new W _)
  have HC1 : Hid (∀ x y : Int, ((W.alloc (.cells #[.int .i64 x, .int .i64 y] 3)).drew).cell? ⟨w.heap.size + 2, 1, none⟩ = some (.int .i64 y)) := fun x y => by
    rw [← hsz]
    exact cell_of_row _ _ 1 _ _ (0, 0) (heap_alloc_new W _)
  clear p0 p1 hl hl'
  go_region_with (first
    | (go_at_call 58; refine (compareN_c e e' _).mono ?_; rintro x w1 ⟨rfl, rfl⟩)
    | (go_at_call 59; refine (compareB_c HR0.out HR1.out _ _ _ _ HL.out.symm HL'.out.symm).mono ?_; rintro x w1 ⟨rfl, rfl⟩)
    | (go_at_call 57; refine (or2_c (cmpN e e') (Lib.compareBytes l l') _ _ _ _ rfl (HC0.out _ _) (HC1.out _ _)).mono ?_; rintro x w1 ⟨rfl, rfl⟩))
  all_goals
    go_wp2_with fail
    go_ret
    exact ⟨by rw [HD.out]; rfl, (b0.drew).alloc b0.size _⟩
end Go.Proofs.Ytbanmnlaipkajaa
