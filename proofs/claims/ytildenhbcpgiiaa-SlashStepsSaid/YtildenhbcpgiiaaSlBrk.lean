/- Do two votes break the rules: the code's and the document's. -/
import Derived.Test.YtildenhbcpgiiaaSlEq
import Derived.Deep.Cut
import Derived.Deep.WholeRow
namespace Go.Proofs.Ytildenhbcpgiiaa
open Go.ChangeShapes Go.WideShapes Go.ChangeAt Go.RowKit
set_option linter.unusedVariables false
set_option maxRecDepth 100000

theorem zero_lk (u : World) : (zeroValue 52).run Try.prog u = .ok (.agg (lv lkZ)) u := by kernel_rfl
set_option maxHeartbeats 4000000 in
theorem linkOf_c (n : Int) (x : Lk) (sv : Value) (w : World) : Calls Try.prog 17 #[.agg (vtw n x sv)] w fun e w' => e = .returned (.agg (lv x)) ∧ Below w.heap.size w w' := by
  have hz := zero_lk
  obtain ⟨W0, hW0⟩ : ∃ W0, W0 = w.alloc (.cells (vtw n x sv) 29) := ⟨_, rfl⟩
  obtain ⟨W1, hW1⟩ : ∃ W1, W1 = W0.alloc (.cells (lv lkZ) 52) := ⟨_, rfl⟩
  obtain ⟨W2, hW2⟩ : ∃ W2, W2 = W0.alloc (.cells (lv x) 52) := ⟨_, rfl⟩
  have b0 : Below w.heap.size w W0 := by rw [hW0]; exact (Below.refl _ _).alloc (Nat.le_refl _) _
  have b2 : Below W0.heap.size W0 W2 := by rw [hW2]; exact (Below.refl _ _).alloc (Nat.le_refl _) _
  have b1 : Below W0.heap.size W0 W1 := by rw [hW1]; exact (Below.refl _ _).alloc (Nat.le_refl _) _
  have v0 : VtK w.heap.size n x sv W0 := by rw [hW0]; exact VtK.new
  have v1 := v0.below b1 v0.lt
  have s1 := v1.src
  have s2 := v1.tgt
  have k2 : W2.heap[W0.heap.size]? = some (.cells (lv x) 52 (0, 0)) := by rw [hW2]; exact heap_alloc_new W0 _
  have HW0 := Lib.hid hW0
  have HW1 := Lib.hid hW1
  have HW2 := Lib.hid hW2
  have HB := Lib.hid (b0.trans (b2.mono b0.size))
  have z0 : W0.heap.size = w.heap.size + 1 := by rw [hW0]; simp
  have k1 : W1.heap[w.heap.size + 1]? = some (.cells (lv lkZ) 52 (0, 0)) := by rw [← z0, hW1]; exact heap_alloc_new W0 _
  have e2 : W1.setRow (w.heap.size + 1) (lv x) = W2 := by rw [← z0, hW1, hW2, World.setRow_alloc_new]
  rw [z0] at k2
  have K2 := Lib.hid k2
  have K1 := Lib.hid k1
  have E2 := Lib.hid e2
  clear hW0 hW1 hW2 b0 b1 b2 v0 v1 k2 z0 k1 e2
  go_enter Try.func17, Try.ntmps17
  go_wp2_with (first
    | (rw [← HW0.out, ← HW1.out]; refine wpList_load_mid rfl 26 (.tmp 3) rfl w.heap.size 1 (by go_simp) (pC x.s) _ s1 Try.underlying26 rfl (by rw [size_pv x.s]; rfl) ?_; rw [pC_arr])
    | (refine wpList_load_mid rfl 26 (.tmp 5) rfl w.heap.size 34 (by go_simp) (pC x.t) _ s2 Try.underlying26 rfl (by rw [size_pv x.t]; rfl) ?_; rw [pC_arr])
    | (refine wpList_build_as' rfl 52 #[(0, .tmp 4), (1, .tmp 6)] rfl _ _ (built_lk x) (by kernel_rfl) ?_)
    | (refine wpList_store_row rfl 52 (.tmp 2) (.tmp 7) rfl (w.heap.size + 1) (lv x) rfl rfl 52 (lv lkZ) K1.out (size_lv x) (by rw [show (lv x).size = 66 from rowV_size _ _]; exact rowV_size _ _) (rowV_one 66 _ (lkf_one x)) ?_; rw [E2.out])
    | fail)
  exact bodyPost_ret (v := .agg (lv x)) (results_cell_row rfl _ _ (w.heap.size + 1) 52 (lv x) (0, 0) _ rfl K2.out Try.underlying52 rfl (size_lv x)) rfl ⟨rfl, HB.out⟩
/-- Does one go round another one? -/
def rnd (x y : Lk) : Bool := decide (x.s.e < y.s.e) && decide (y.t.e < x.t.e)
theorem lt_n (a b : Nat) : decide ((a : Int) < (b : Int)) = decide (a < b) := decide_eq_decide.2 (by omega)
set_option maxHeartbeats 4000000 in
theorem goesRound_c (n m : Int) (x y : Lk) (sv su : Value) (w : World) : Calls Try.prog 16 #[.agg (vtw n x sv), .agg (vtw m y su)] w fun e w' => e = .returned (.bool (rnd x y)) ∧ Below w.heap.size w w' := by
  obtain ⟨W0, hW0⟩ : ∃ W0, W0 = w.alloc (.cells (vtw n x sv) 29) := ⟨_, rfl⟩
  obtain ⟨W1, hW1⟩ : ∃ W1, W1 = W0.alloc (.cells (vtw m y su) 29) := ⟨_, rfl⟩
  have b0 : Below w.heap.size w W0 := by rw [hW0]; exact (Below.refl _ _).alloc (Nat.le_refl _) _
  have b1 : Below W0.heap.size W0 W1 := by rw [hW1]; exact (Below.refl _ _).alloc (Nat.le_refl _) _
  have v0 : VtK w.heap.size n x sv W0 := by rw [hW0]; exact VtK.new
  have v1 := v0.below b1 v0.lt
  have u1 : VtK W0.heap.size m y su W1 := by rw [hW1]; exact VtK.new
  have s1 := v1.epoch
  have s2 := v1.epochT
  have z0 : W0.heap.size = w.heap.size + 1 := by rw [hW0]; simp
  have s3 := u1.epoch
  have s4 := u1.epochT
  rw [z0] at s3 s4
  have HW0 := Lib.hid hW0
  have HW1 := Lib.hid hW1
  have HB := Lib.hid (b0.trans (b1.mono b0.size))
  clear hW0 hW1 b0 b1 v0 v1 u1 z0
  by_cases c1 : x.s.e < y.s.e
  · have d1 : decide ((x.s.e : Int) < (y.s.e : Int)) = true := by rw [lt_n]; exact decide_eq_true c1
    go_enter Try.func16, Try.ntmps16
    go_upto_region 1 with fail
    rw [← HW0.out, ← HW1.out]
    go_wp2_with fail
    go_ret
    exact ⟨by rw [rnd, decide_eq_true c1, Bool.true_and]; simp, HB.out⟩
  · have d1 : decide ((x.s.e : Int) < (y.s.e : Int)) = false := by rw [lt_n]; exact decide_eq_false c1
    go_enter Try.func16, Try.ntmps16
    go_upto_region 1 with fail
    rw [← HW0.out, ← HW1.out]
    go_wp2_with fail
    go_ret
    exact ⟨by rw [rnd, decide_eq_false c1, Bool.false_and]; simp, HB.out⟩
end Go.Proofs.Ytildenhbcpgiiaa
