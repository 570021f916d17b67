/- A vote of epochs; the chapter's rows; the document's answer. -/
import Derived.Test.YtildenhbcpgiiaaSlBrkC
namespace Go.Proofs.Ytildenhbcpgiiaa
open Go.ChangeShapes Go.WideShapes Go.ChangeAt Go.RowKit
set_option linter.unusedVariables false
set_option maxRecDepth 100000

/-- A checkpoint of an epoch, without a name. -/
def ptE (e : Nat) (he : e < 18446744073709551616) : Pt := ⟨e, List.replicate 32 0, he, by simp⟩
def lkE (a b : Nat) (ha : a < 18446744073709551616) (hb : b < 18446744073709551616) : Lk := ⟨ptE a ha, ptE b hb⟩
def noSig : Value := .slice none 0 0
theorem zero_vt (u : World) : (zeroValue 29).run Try.prog u = .ok (.agg (vtw 0 lkZ noSig)) u := by kernel_rfl
theorem built_ptE (e : Nat) (he : e < 18446744073709551616) : Try.prog.built 26 [(0, .int .u64 (e : Int))] = some (pv (ptE e he)) := by kernel_rfl
theorem built_vtE (x : Lk) : Try.prog.built 29 [(0, .int .i64 1), (1, .agg (pv x.s)), (2, .agg (pv x.t))] = some (vtw 1 x noSig) := by kernel_rfl
set_option maxHeartbeats 4000000 in
theorem vote_c (a b : Nat) (ha : a < 18446744073709551616) (hb : b < 18446744073709551616) (w : World) : Calls Try.prog 14 #[.int .u64 (a : Int), .int .u64 (b : Int)] w fun e w' => e = .returned (.agg (vtw 1 (lkE a b ha hb) noSig)) ∧ Below w.heap.size w w' := by
  have hz := zero_vt
  obtain ⟨W1, hW1⟩ : ∃ W1, W1 = w.alloc (.cells (vtw 0 lkZ noSig) 29) := ⟨_, rfl⟩
  obtain ⟨x, hx⟩ : ∃ x, x = lkE a b ha hb := ⟨_, rfl⟩
  obtain ⟨W2, hW2⟩ : ∃ W2, W2 = w.alloc (.cells (vtw 1 x noSig) 29) := ⟨_, rfl⟩
  have b2 : Below w.heap.size w W2 := by rw [hW2]; exact (Below.refl _ _).alloc (Nat.le_refl _) _
  have k1 : W1.heap[w.heap.size]? = some (.cells (vtw 0 lkZ noSig) 29 (0, 0)) := by rw [hW1]; exact heap_alloc_new w _
  have k2 : W2.heap[w.heap.size]? = some (.cells (vtw 1 x noSig) 29 (0, 0)) := by rw [hW2]; exact heap_alloc_new w _
  have e2 : W1.setRow w.heap.size (vtw 1 x noSig) = W2 := by rw [hW1, hW2, World.setRow_alloc_new]
  have BS := built_ptE a ha
  have BT := built_ptE b hb
  have es : x.s = ptE a ha := by rw [hx]; rfl
  have et : x.t = ptE b hb := by rw [hx]; rfl
  rw [← es] at BS
  rw [← et] at BT
  rw [← hx]
  have BSh := Lib.hid BS
  have BTh := Lib.hid BT
  have HW1 := Lib.hid hW1
  have E2 := Lib.hid e2
  have K1 := Lib.hid k1
  have K2 := Lib.hid k2
  have HB := Lib.hid b2
  clear hW1 hW2 b2 k1 k2 e2 hx es et BS BT
  go_enter Try.func14, Try.ntmps14
  go_wp2_with (first
    | (refine wpList_build_as' rfl 26 #[(0, .tmp 5)] rfl _ _ BSh.out (by kernel_rfl) ?_)
    | (refine wpList_build_as' rfl 26 #[(0, .tmp 7)] rfl _ _ BTh.out (by kernel_rfl) ?_)
    | (refine wpList_build_as' rfl 29 #[(0, .const (.int .i64 1)), (1, .tmp 6), (2, .tmp 8)] rfl _ _ (built_vtE x) (by kernel_rfl) ?_; rw [← HW1.out])
    | (refine wpList_store_row rfl 29 (.tmp 4) (.tmp 9) rfl w.heap.size (vtw 1 x noSig) rfl rfl 29 (vtw 0 lkZ noSig) K1.out (size_vtw 1 x noSig) (by rw [show (vtw 1 x noSig).size = 68 from rowV_size _ _]; exact rowV_size _ _) (rowV_one 68 _ (vtf_one 1 x noSig rfl)) ?_; rw [E2.out])
    | fail)
  exact bodyPost_ret (v := .agg (vtw 1 x noSig)) (results_cell_row rfl _ _ w.heap.size 29 (vtw 1 x noSig) (0, 0) _ rfl K2.out Try.underlying29 rfl (size_vtw 1 x noSig)) rfl ⟨rfl, HB.out⟩
end Go.Proofs.Ytildenhbcpgiiaa
