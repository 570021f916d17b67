/- What pools that are not there answer. -/
import Derived.Test.YtiobmgoapcbbfaaPoNone2
import Derived.RangeFuncWrites
import Derived.RangeFuncFrom
import Derived.RangeFuncNested
import Derived.RangeFuncCalls
import Derived.Shelf.Abstract
import Derived.Great.BuildSlice
namespace Go.Proofs.Ytiobmgoapcbbfaa
open Go.ChangeMaps Go.MapKept Go.Maps Go.WideElems Go.RowKit Go.Shelf
attribute [local go_sem] Oper.semAt_some
set_option linter.unusedVariables false
set_option maxRecDepth 100000

theorem built_v1 : Try.prog.built 40 [(0, .int .i64 1)] = some (vtw 1 lkZ (.slice none 0 0)) := by kernel_rfl
theorem built_h0 : Try.prog.built 24 [] = some (hhv hhZ) := by kernel_rfl
theorem built_l0 : Try.prog.built 50 [] = some (lv lkZ) := by kernel_rfl
theorem fn_nilP (k a : Nat) (u : World) : (binOp .eql 61 (.func (.func k) #[] #[.pointer (some ⟨a, 0, none⟩)]) .nilFunc).run Try.prog u = .ok (.bool false) u := by kernel_rfl
theorem two_pools (z : Nat) (u : World) : (Instr.buildSlice 68 2 #[(0, .pointer none), (1, .pointer (some ⟨z, 0, none⟩))]).run Try.prog u = .ok (.slice (some ⟨u.heap.size, 0, none⟩) 2 2) (u.alloc (.cells #[.pointer none, .pointer (some ⟨z, 0, none⟩)] 27)) := by
  have hie : Try.prog.info? 27 = some ((Try.prog.info? 27).get (by kernel_rfl)) := (Option.some_get _).symm
  refine run_buildSlice u _ 27 2 _ #[.pointer none, .pointer (some ⟨z, 0, none⟩)] _ _ Try.underlying68 hie (Option.some_get (by kernel_rfl)).symm (by decide +kernel) (by decide +kernel) ?_
  kernel_rfl
theorem seq_n (w : World) (a : Nat) (ha : a < w.heap.size) (h : w.cell? ⟨a, 0, none⟩ = some (.slice none 0 0)) : SeqStopsK Fence.wide 8 Try.prog 40 #[.pointer (some ⟨a, 0, none⟩)] (fun x : Empty => x.elim) (fun _ _ => True) (fun xs => xs = []) (fun _ => False) 0 w :=
  fun l J Jx W hW _ _ _ h0 => (callsIn_wide (n := 8)).2 ((all1_n _ a W ((hW.cell (p := ⟨a, 0, none⟩) ha).trans h)).mono fun e w' hh => ⟨⟨_, hh.1⟩, .inl ⟨[], rfl, by rw [hh.2]; exact h0⟩⟩)
theorem below_putObj {w W : World} {D : Nat} {o' : Obj} (hb : Below w.heap.size w W) (hD : w.heap.size ≤ D) : Below w.heap.size w (W.putObj D o') := by
  refine ⟨hb.os, hb.tape, hb.output, ?_, fun k hk => (World.putObj_heap_other (by omega)).trans (hb.block k hk)⟩
  have := hb.size
  simp [World.putObj]
  omega
theorem belowI (w : World) : OwnFrom w.heap.size (fun (_ : List Empty) W => Below w.heap.size w W) := fun s A W row hs hg hr => hs.grown hg hs.size (fun k e => (hr k e).1)
theorem nil_ret {w W : World} {tmps : Array Value} {rb D0 D1 : Nat} (h0 : tmps[0]? = some (.pointer (some ⟨rb, 0, none⟩))) (hc : W.cell? ⟨rb, 0, none⟩ = some (.bool true)) (hK1 : W.heap[D1]? = some (.deferred (some []))) (hK0 : W.heap[D0]? = some (.deferred (some []))) (hn0 : rb ≠ D0) (hn1 : rb ≠ D1) (hne : D0 ≠ D1) (hD0 : w.heap.size ≤ D0) (hD1 : w.heap.size ≤ D1) (hb : Below w.heap.size w W) :
    bodyPostM Fence.wide 9 Try.prog Try.f6 (fun e w' => e = .returned (.bool true) ∧ Below w.heap.size w w') .ret ⟨tmps, [{ target := .collected D1, args := #[] }, { target := .collected D0, args := #[] }]⟩ W := by
  have hK0' : (W.putObj D1 (.deferred none)).heap[D0]? = some (.deferred (some [])) := (World.putObj_heap_other hne).trans hK0
  refine ⟨by simp, .inl ⟨_, _, rfl, run_takeDeferred hK1, ⟨by simp, .inl ⟨_, _, rfl, run_takeDeferred hK0', ?_⟩⟩⟩⟩
  have hc2 : ((W.putObj D1 (.deferred none)).putObj D0 (.deferred none)).cell? ⟨rb, 0, none⟩ = some (.bool true) := (World.cell?_of_block ((World.putObj_heap_other hn0).trans (World.putObj_heap_other hn1))).trans hc
  refine ⟨.bool true, ?_, rfl, below_putObj (below_putObj hb hD1) hD0⟩
  simp [results, Try.results6, asAddr, go_sem, hc2, h0]
/-- What the walk keeps: the answer's cell, the two pools, the slice of them. -/
def NilI (w u : World) : Prop := Below w.heap.size w u ∧ u.heap[w.heap.size]? = some (.cells #[.bool false] 4 (0, 0)) ∧ u.heap[w.heap.size + 1]? = some (.cells #[.pointer none] 67 (0, 0)) ∧ u.heap[w.heap.size + 1 + 1]? = some (.cells #[.pointer none, .pointer (some ⟨w.heap.size + 1, 0, none⟩)] 27 (0, 0))
theorem NilI.below {w u u' : World} (h : NilI w u) (hb : Below u.heap.size u u') : NilI w u' :=
  ⟨h.1.trans (hb.mono h.1.size), (hb.block _ (blk_lt h.2.1)).trans h.2.1, (hb.block _ (blk_lt h.2.2.1)).trans h.2.2.1, (hb.block _ (blk_lt h.2.2.2)).trans h.2.2.2⟩
set_option maxRecDepth 1000000 in
set_option maxHeartbeats 8000000 in
theorem poolNil_any (w : World) : Calls Try.prog 6 #[] w fun e w' => e = .returned (.bool true) ∧ Below w.heap.size w w' := by
  refine (callsIn_wide (n := 9)).1 (callsIn_of_wp_marks Try.func6 rfl trivial ?_)
  refine wpIn_wide.2 ?_
  simp only [Try.ntmps6, List.size_toArray, List.length_nil, Nat.reduceSub, Array.replicate_succ, Array.replicate_zero, List.push_toArray, List.append_toArray, List.nil_append, List.cons_append]
  obtain ⟨W0, hW0⟩ : ∃ W0, W0 = w.alloc (.cells #[.bool false] 4) := ⟨_, rfl⟩
  obtain ⟨W1, hW1⟩ : ∃ W1, W1 = W0.alloc (.cells #[.pointer none] 67) := ⟨_, rfl⟩
  obtain ⟨W, hW⟩ : ∃ W, W = W1.alloc (.cells #[.pointer none, .pointer (some ⟨w.heap.size + 1, 0, none⟩)] 27) := ⟨_, rfl⟩
  have b0 : Below w.heap.size w W0 := by rw [hW0]; exact (Below.refl _ _).alloc (Nat.le_refl _) _
  have b1 : Below W0.heap.size W0 W1 := by rw [hW1]; exact (Below.refl _ _).alloc (Nat.le_refl _) _
  have b2 : Below W1.heap.size W1 W := by rw [hW]; exact (Below.refl _ _).alloc (Nat.le_refl _) _
  have z0 : W0.heap.size = w.heap.size + 1 := by rw [hW0]; simp
  have z1 : W1.heap.size = w.heap.size + 1 + 1 := by rw [hW1]; simp [z0]
  have NI : Hid (NilI w W) := ⟨(b0.trans (b1.mono b0.size)).trans (b2.mono (by omega)), (b2.block _ (by omega)).trans ((b1.block _ (by omega)).trans (by rw [hW0]; exact heap_alloc_new w _)), (b2.block _ (by omega)).trans (by rw [← z0, hW1]; exact heap_alloc_new W0 _), by rw [← z1, hW]; exact heap_alloc_new W1 _⟩
  have hbs := two_pools (w.heap.size + 1)
  have hfn := fn_nilP
  have HW0 := Lib.hid hW0
  have HW1 := Lib.hid hW1
  have HW := Lib.hid hW
  have Z1 := Lib.hid z1
  have ZW := Lib.hid (show W.heap.size = w.heap.size + 3 by rw [hW]; simp [z1])
  clear hW0 hW1 hW b0 b1 b2 z0 z1
  go_upto_region 3 with fail
  rw [← HW0.out, ← HW1.out, ← HW.out]
  go_wp2_with fail
  refine wp_loop_rounds 3 ?_
  rw [rounds_succ]
  have lc := cell_of_row W (w.heap.size + 1 + 1) 0 _ _ (0, 0) NI.out.2.2.2
  have lc' : W.cell? ⟨w.heap.size + 1 + 1, 0, none⟩ = some (.pointer none) := lc
  clear lc
  go_wp2_with (first
    | (refine wpList_build_as' rfl 40 #[(0, .const (.int .i64 1))] rfl _ _ built_v1 (by kernel_rfl) ?_)
    | (refine wpList_build_as' rfl 24 #[] rfl _ _ built_h0 (by kernel_rfl) ?_)
    | fail)
  refine (add_n (.pointer none) 1 lkZ none 0 0 hhZ 1 _ (.inl rfl)).mono ?_
  rintro e w3 ⟨rfl, b3⟩
  have NI := Lib.hid (NI.out.below b3)
  clear b3 lc'
  go_wp2_with fail
  refine (all_n (.pointer none) _ (.inl rfl)).mono ?_
  rintro e w4 ⟨rfl, b3, z4, r4⟩
  have NI := Lib.hid (NI.out.below b3)
  obtain ⟨a, ha⟩ : ∃ a, a = w3.heap.size + 1 := ⟨_, rfl⟩
  rw [← ha] at r4 ⊢
  have AR := Lib.hid r4
  clear b3 z4 r4 ha
  go_wp2_with (first
    | (refine BigFrame.wpList_want rfl (fun K hK => ?_); refine wp_build_as' 40 #[(0, .const (.int .i64 1))] rfl _ _ built_v1 (by kernel_rfl) ?_; refine hK _ _ ?_; clear hK K)
    | (refine BigFrame.wpList_want rfl (fun K hK => ?_); refine wp_build_as' 24 #[] rfl _ _ built_h0 (by kernel_rfl) ?_; refine hK _ _ ?_; clear hK K)
    | (refine BigFrame.wpList_want rfl (fun K hK => ?_); refine wp_build_as' 50 #[] rfl _ _ built_l0 (by kernel_rfl) ?_; refine hK _ _ ?_; clear hK K)
    | fail)
  refine (check_n (.pointer none) 1 lkZ none 0 0 hhZ 1 _ (.inl rfl)).mono ?_
  rintro e w3 ⟨rfl, b3⟩
  have NI := Lib.hid (NI.out.below b3)
  have AR := Lib.hid ((b3.block a (blk_lt AR.out)).trans AR.out)
  clear b3
  go_wp2_with (first
    | (refine BigFrame.wpList_want rfl (fun K hK => ?_); refine wp_build_as' 40 #[(0, .const (.int .i64 1))] rfl _ _ built_v1 (by kernel_rfl) ?_; refine hK _ _ ?_; clear hK K)
    | (refine BigFrame.wpList_want rfl (fun K hK => ?_); refine wp_build_as' 24 #[] rfl _ _ built_h0 (by kernel_rfl) ?_; refine hK _ _ ?_; clear hK K)
    | (refine BigFrame.wpList_want rfl (fun K hK => ?_); refine wp_build_as' 50 #[] rfl _ _ built_l0 (by kernel_rfl) ?_; refine hK _ _ ?_; clear hK K)
    | fail)
  refine (weight_n (.pointer none) lkZ _ (.inl rfl)).mono ?_
  rintro e w3 ⟨rfl, b3⟩
  have NI := Lib.hid (NI.out.below b3)
  have AR := Lib.hid ((b3.block a (blk_lt AR.out)).trans AR.out)
  clear b3
  go_wp2_with (first
    | (refine BigFrame.wpList_want rfl (fun K hK => ?_); refine wp_build_as' 40 #[(0, .const (.int .i64 1))] rfl _ _ built_v1 (by kernel_rfl) ?_; refine hK _ _ ?_; clear hK K)
    | (refine BigFrame.wpList_want rfl (fun K hK => ?_); refine wp_build_as' 24 #[] rfl _ _ built_h0 (by kernel_rfl) ?_; refine hK _ _ ?_; clear hK K)
    | (refine BigFrame.wpList_want rfl (fun K hK => ?_); refine wp_build_as' 50 #[] rfl _ _ built_l0 (by kernel_rfl) ?_; refine hK _ _ ?_; clear hK K)
    | fail)
  refine (voters_n (.pointer none) lkZ _ (.inl rfl)).mono ?_
  rintro e w3 ⟨rfl, b3⟩
  have NI := Lib.hid (NI.out.below b3)
  have AR := Lib.hid ((b3.block a (blk_lt AR.out)).trans AR.out)
  clear b3
  go_wp2_with (first
    | (refine BigFrame.wpList_want rfl (fun K hK => ?_); refine wp_build_as' 40 #[(0, .const (.int .i64 1))] rfl _ _ built_v1 (by kernel_rfl) ?_; refine hK _ _ ?_; clear hK K)
    | (refine BigFrame.wpList_want rfl (fun K hK => ?_); refine wp_build_as' 24 #[] rfl _ _ built_h0 (by kernel_rfl) ?_; refine hK _ _ ?_; clear hK K)
    | (refine BigFrame.wpList_want rfl (fun K hK => ?_); refine wp_build_as' 50 #[] rfl _ _ built_l0 (by kernel_rfl) ?_; refine hK _ _ ?_; clear hK K)
    | fail)
  refine (links_n (.pointer none) _ (.inl rfl)).mono ?_
  rintro e w3 ⟨rfl, b3⟩
  have NI := Lib.hid (NI.out.below b3)
  have AR := Lib.hid ((b3.block a (blk_lt AR.out)).trans AR.out)
  clear b3
  go_wp2_with (first
    | (refine BigFrame.wpList_want rfl (fun K hK => ?_); refine wp_build_as' 40 #[(0, .const (.int .i64 1))] rfl _ _ built_v1 (by kernel_rfl) ?_; refine hK _ _ ?_; clear hK K)
    | (refine BigFrame.wpList_want rfl (fun K hK => ?_); refine wp_build_as' 24 #[] rfl _ _ built_h0 (by kernel_rfl) ?_; refine hK _ _ ?_; clear hK K)
    | (refine BigFrame.wpList_want rfl (fun K hK => ?_); refine wp_build_as' 50 #[] rfl _ _ built_l0 (by kernel_rfl) ?_; refine hK _ _ ?_; clear hK K)
    | fail)
  refine (of_n (.pointer none) hhZ _ (.inl rfl)).mono ?_
  rintro e w3 ⟨rfl, b3⟩
  have NI := Lib.hid (NI.out.below b3)
  have AR := Lib.hid ((b3.block a (blk_lt AR.out)).trans AR.out)
  clear b3
  go_wp2_with (first
    | (refine BigFrame.wpList_want rfl (fun K hK => ?_); refine wp_build_as' 40 #[(0, .const (.int .i64 1))] rfl _ _ built_v1 (by kernel_rfl) ?_; refine hK _ _ ?_; clear hK K)
    | (refine BigFrame.wpList_want rfl (fun K hK => ?_); refine wp_build_as' 24 #[] rfl _ _ built_h0 (by kernel_rfl) ?_; refine hK _ _ ?_; clear hK K)
    | (refine BigFrame.wpList_want rfl (fun K hK => ?_); refine wp_build_as' 50 #[] rfl _ _ built_l0 (by kernel_rfl) ?_; refine hK _ _ ?_; clear hK K)
    | fail)
  refine (for_n (.pointer none) lkZ _ (.inl rfl)).mono ?_
  rintro e w3 ⟨rfl, b3⟩
  have NI := Lib.hid (NI.out.below b3)
  have AR := Lib.hid ((b3.block a (blk_lt AR.out)).trans AR.out)
  clear b3
  go_wp2_with (first
    | (refine BigFrame.wpList_want rfl (fun K hK => ?_); refine wp_build_as' 40 #[(0, .const (.int .i64 1))] rfl _ _ built_v1 (by kernel_rfl) ?_; refine hK _ _ ?_; clear hK K)
    | (refine BigFrame.wpList_want rfl (fun K hK => ?_); refine wp_build_as' 24 #[] rfl _ _ built_h0 (by kernel_rfl) ?_; refine hK _ _ ?_; clear hK K)
    | (refine BigFrame.wpList_want rfl (fun K hK => ?_); refine wp_build_as' 50 #[] rfl _ _ built_l0 (by kernel_rfl) ?_; refine hK _ _ ?_; clear hK K)
    | fail)
  refine (len_n (.pointer none) _ (.inl rfl)).mono ?_
  rintro e w3 ⟨rfl, b3⟩
  have NI := Lib.hid (NI.out.below b3)
  have AR := Lib.hid ((b3.block a (blk_lt AR.out)).trans AR.out)
  clear b3
  go_wp2_with (first
    | (refine BigFrame.wpList_want rfl (fun K hK => ?_); refine wp_build_as' 40 #[(0, .const (.int .i64 1))] rfl _ _ built_v1 (by kernel_rfl) ?_; refine hK _ _ ?_; clear hK K)
    | (refine BigFrame.wpList_want rfl (fun K hK => ?_); refine wp_build_as' 24 #[] rfl _ _ built_h0 (by kernel_rfl) ?_; refine hK _ _ ?_; clear hK K)
    | (refine BigFrame.wpList_want rfl (fun K hK => ?_); refine wp_build_as' 50 #[] rfl _ _ built_l0 (by kernel_rfl) ?_; refine hK _ _ ?_; clear hK K)
    | fail)
  refine (copy_n (.pointer none) _ (.inl rfl)).mono ?_
  rintro e w3 ⟨rfl, rfl⟩
  go_wp2_with fail
  refine (wpIn_wide (n := 9)).1 ?_
  refine wpIn_rangeFunc_ownG (w0 := w3) rfl (by omega) (gf := 40) (lb := #[.pointer (some ⟨a, 0, none⟩)]) rfl trivial (enters_of Try.func40 (by kernel_rfl) rfl) (seq_n w3 a (blk_lt AR.out) (cell_of_row w3 a 0 _ _ (0, 0) AR.out)) (fun _ _ => trivial) (fun _ _ _ _ _ _ _ _ => trivial) (Below.refl _ _) (fun x => x.elim) (fun _ W => Below w3.heap.size w3 W) (fun _ _ _ => False) (belowI w3) (fun _ _ _ _ _ hs _ _ => hs) (Below.refl _ _) (fun x => x.elim) (fun l x => x.elim) (fun l pre x => x.elim) ?done0 (fun D c pre W _ h _ _ => h.elim)
  case done0 =>
  rintro D0 xs w5 hD0 rfl hi hK0
  have HD0 := Lib.hid (show w.heap.size + 3 ≤ D0 by have := NI.out.1; have := blk_lt NI.out.2.2.2; omega)
  have NI := Lib.hid (NI.out.below hi)
  have DK := Lib.hid hK0
  clear hi hK0 hD0 AR
  dsimp only
  go_wp2_with fail
  rw [rounds_succ]
  have lc := cell_of_row w5 (w.heap.size + 1 + 1) 1 _ _ (0, 0) NI.out.2.2.2
  have lc' : w5.cell? ⟨w.heap.size + 1 + 1, 1, none⟩ = some (.pointer (some ⟨w.heap.size + 1, 0, none⟩)) := lc
  clear lc
  go_wp2_with (first
    | (refine wpList_build_as' rfl 40 #[(0, .const (.int .i64 1))] rfl _ _ built_v1 (by kernel_rfl) ?_)
    | (refine wpList_build_as' rfl 24 #[] rfl _ _ built_h0 (by kernel_rfl) ?_)
    | fail)
  refine (add_n (.pointer (some ⟨w.heap.size + 1, 0, none⟩)) 1 lkZ none 0 0 hhZ 1 _ (.inr ⟨_, rfl, NI.out.2.2.1⟩)).mono ?_
  rintro e w3 ⟨rfl, b3⟩
  have NI := Lib.hid (NI.out.below b3)
  have DK := Lib.hid ((b3.block D0 (blk_lt DK.out)).trans DK.out)
  clear b3 lc'
  go_wp2_with fail
  refine (all_n (.pointer (some ⟨w.heap.size + 1, 0, none⟩)) _ (.inr ⟨_, rfl, NI.out.2.2.1⟩)).mono ?_
  rintro e w4 ⟨rfl, b3, z4, r4⟩
  have NI := Lib.hid (NI.out.below b3)
  have DK := Lib.hid ((b3.block D0 (blk_lt DK.out)).trans DK.out)
  obtain ⟨a, ha⟩ : ∃ a, a = w3.heap.size + 1 := ⟨_, rfl⟩
  rw [← ha] at r4 ⊢
  have AR := Lib.hid r4
  clear b3 z4 r4 ha
  go_wp2_with (first
    | (refine BigFrame.wpList_want rfl (fun K hK => ?_); refine wp_build_as' 40 #[(0, .const (.int .i64 1))] rfl _ _ built_v1 (by kernel_rfl) ?_; refine hK _ _ ?_; clear hK K)
    | (refine BigFrame.wpList_want rfl (fun K hK => ?_); refine wp_build_as' 24 #[] rfl _ _ built_h0 (by kernel_rfl) ?_; refine hK _ _ ?_; clear hK K)
    | (refine BigFrame.wpList_want rfl (fun K hK => ?_); refine wp_build_as' 50 #[] rfl _ _ built_l0 (by kernel_rfl) ?_; refine hK _ _ ?_; clear hK K)
    | fail)
  refine (check_n (.pointer (some ⟨w.heap.size + 1, 0, none⟩)) 1 lkZ none 0 0 hhZ 1 _ (.inr ⟨_, rfl, NI.out.2.2.1⟩)).mono ?_
  rintro e w3 ⟨rfl, b3⟩
  have NI := Lib.hid (NI.out.below b3)
  have DK := Lib.hid ((b3.block D0 (blk_lt DK.out)).trans DK.out)
  have AR := Lib.hid ((b3.block a (blk_lt AR.out)).trans AR.out)
  clear b3
  go_wp2_with (first
    | (refine BigFrame.wpList_want rfl (fun K hK => ?_); refine wp_build_as' 40 #[(0, .const (.int .i64 1))] rfl _ _ built_v1 (by kernel_rfl) ?_; refine hK _ _ ?_; clear hK K)
    | (refine BigFrame.wpList_want rfl (fun K hK => ?_); refine wp_build_as' 24 #[] rfl _ _ built_h0 (by kernel_rfl) ?_; refine hK _ _ ?_; clear hK K)
    | (refine BigFrame.wpList_want rfl (fun K hK => ?_); refine wp_build_as' 50 #[] rfl _ _ built_l0 (by kernel_rfl) ?_; refine hK _ _ ?_; clear hK K)
    | fail)
  refine (weight_n (.pointer (some ⟨w.heap.size + 1, 0, none⟩)) lkZ _ (.inr ⟨_, rfl, NI.out.2.2.1⟩)).mono ?_
  rintro e w3 ⟨rfl, b3⟩
  have NI := Lib.hid (NI.out.below b3)
  have DK := Lib.hid ((b3.block D0 (blk_lt DK.out)).trans DK.out)
  have AR := Lib.hid ((b3.block a (blk_lt AR.out)).trans AR.out)
  clear b3
  go_wp2_with (first
    | (refine BigFrame.wpList_want rfl (fun K hK => ?_); refine wp_build_as' 40 #[(0, .const (.int .i64 1))] rfl _ _ built_v1 (by kernel_rfl) ?_; refine hK _ _ ?_; clear hK K)
    | (refine BigFrame.wpList_want rfl (fun K hK => ?_); refine wp_build_as' 24 #[] rfl _ _ built_h0 (by kernel_rfl) ?_; refine hK _ _ ?_; clear hK K)
    | (refine BigFrame.wpList_want rfl (fun K hK => ?_); refine wp_build_as' 50 #[] rfl _ _ built_l0 (by kernel_rfl) ?_; refine hK _ _ ?_; clear hK K)
    | fail)
  refine (voters_n (.pointer (some ⟨w.heap.size + 1, 0, none⟩)) lkZ _ (.inr ⟨_, rfl, NI.out.2.2.1⟩)).mono ?_
  rintro e w3 ⟨rfl, b3⟩
  have NI := Lib.hid (NI.out.below b3)
  have DK := Lib.hid ((b3.block D0 (blk_lt DK.out)).trans DK.out)
  have AR := Lib.hid ((b3.block a (blk_lt AR.out)).trans AR.out)
  clear b3
  go_wp2_with (first
    | (refine BigFrame.wpList_want rfl (fun K hK => ?_); refine wp_build_as' 40 #[(0, .const (.int .i64 1))] rfl _ _ built_v1 (by kernel_rfl) ?_; refine hK _ _ ?_; clear hK K)
    | (refine BigFrame.wpList_want rfl (fun K hK => ?_); refine wp_build_as' 24 #[] rfl _ _ built_h0 (by kernel_rfl) ?_; refine hK _ _ ?_; clear hK K)
    | (refine BigFrame.wpList_want rfl (fun K hK => ?_); refine wp_build_as' 50 #[] rfl _ _ built_l0 (by kernel_rfl) ?_; refine hK _ _ ?_; clear hK K)
    | fail)
  refine (links_n (.pointer (some ⟨w.heap.size + 1, 0, none⟩)) _ (.inr ⟨_, rfl, NI.out.2.2.1⟩)).mono ?_
  rintro e w3 ⟨rfl, b3⟩
  have NI := Lib.hid (NI.out.below b3)
  have DK := Lib.hid ((b3.block D0 (blk_lt DK.out)).trans DK.out)
  have AR := Lib.hid ((b3.block a (blk_lt AR.out)).trans AR.out)
  clear b3
  go_wp2_with (first
    | (refine BigFrame.wpList_want rfl (fun K hK => ?_); refine wp_build_as' 40 #[(0, .const (.int .i64 1))] rfl _ _ built_v1 (by kernel_rfl) ?_; refine hK _ _ ?_; clear hK K)
    | (refine BigFrame.wpList_want rfl (fun K hK => ?_); refine wp_build_as' 24 #[] rfl _ _ built_h0 (by kernel_rfl) ?_; refine hK _ _ ?_; clear hK K)
    | (refine BigFrame.wpList_want rfl (fun K hK => ?_); refine wp_build_as' 50 #[] rfl _ _ built_l0 (by kernel_rfl) ?_; refine hK _ _ ?_; clear hK K)
    | fail)
  refine (of_n (.pointer (some ⟨w.heap.size + 1, 0, none⟩)) hhZ _ (.inr ⟨_, rfl, NI.out.2.2.1⟩)).mono ?_
  rintro e w3 ⟨rfl, b3⟩
  have NI := Lib.hid (NI.out.below b3)
  have DK := Lib.hid ((b3.block D0 (blk_lt DK.out)).trans DK.out)
  have AR := Lib.hid ((b3.block a (blk_lt AR.out)).trans AR.out)
  clear b3
  go_wp2_with (first
    | (refine BigFrame.wpList_want rfl (fun K hK => ?_); refine wp_build_as' 40 #[(0, .const (.int .i64 1))] rfl _ _ built_v1 (by kernel_rfl) ?_; refine hK _ _ ?_; clear hK K)
    | (refine BigFrame.wpList_want rfl (fun K hK => ?_); refine wp_build_as' 24 #[] rfl _ _ built_h0 (by kernel_rfl) ?_; refine hK _ _ ?_; clear hK K)
    | (refine BigFrame.wpList_want rfl (fun K hK => ?_); refine wp_build_as' 50 #[] rfl _ _ built_l0 (by kernel_rfl) ?_; refine hK _ _ ?_; clear hK K)
    | fail)
  refine (for_n (.pointer (some ⟨w.heap.size + 1, 0, none⟩)) lkZ _ (.inr ⟨_, rfl, NI.out.2.2.1⟩)).mono ?_
  rintro e w3 ⟨rfl, b3⟩
  have NI := Lib.hid (NI.out.below b3)
  have DK := Lib.hid ((b3.block D0 (blk_lt DK.out)).trans DK.out)
  have AR := Lib.hid ((b3.block a (blk_lt AR.out)).trans AR.out)
  clear b3
  go_wp2_with (first
    | (refine BigFrame.wpList_want rfl (fun K hK => ?_); refine wp_build_as' 40 #[(0, .const (.int .i64 1))] rfl _ _ built_v1 (by kernel_rfl) ?_; refine hK _ _ ?_; clear hK K)
    | (refine BigFrame.wpList_want rfl (fun K hK => ?_); refine wp_build_as' 24 #[] rfl _ _ built_h0 (by kernel_rfl) ?_; refine hK _ _ ?_; clear hK K)
    | (refine BigFrame.wpList_want rfl (fun K hK => ?_); refine wp_build_as' 50 #[] rfl _ _ built_l0 (by kernel_rfl) ?_; refine hK _ _ ?_; clear hK K)
    | fail)
  refine (len_n (.pointer (some ⟨w.heap.size + 1, 0, none⟩)) _ (.inr ⟨_, rfl, NI.out.2.2.1⟩)).mono ?_
  rintro e w3 ⟨rfl, b3⟩
  have NI := Lib.hid (NI.out.below b3)
  have DK := Lib.hid ((b3.block D0 (blk_lt DK.out)).trans DK.out)
  have AR := Lib.hid ((b3.block a (blk_lt AR.out)).trans AR.out)
  clear b3
  go_wp2_with (first
    | (refine BigFrame.wpList_want rfl (fun K hK => ?_); refine wp_build_as' 40 #[(0, .const (.int .i64 1))] rfl _ _ built_v1 (by kernel_rfl) ?_; refine hK _ _ ?_; clear hK K)
    | (refine BigFrame.wpList_want rfl (fun K hK => ?_); refine wp_build_as' 24 #[] rfl _ _ built_h0 (by kernel_rfl) ?_; refine hK _ _ ?_; clear hK K)
    | (refine BigFrame.wpList_want rfl (fun K hK => ?_); refine wp_build_as' 50 #[] rfl _ _ built_l0 (by kernel_rfl) ?_; refine hK _ _ ?_; clear hK K)
    | fail)
  refine (copy_n (.pointer (some ⟨w.heap.size + 1, 0, none⟩)) _ (.inr ⟨_, rfl, NI.out.2.2.1⟩)).mono ?_
  rintro e w3 ⟨rfl, rfl⟩
  go_wp2_with fail
  refine (wpIn_wide (n := 9)).1 ?_
  refine wpIn_rangeFunc_ownG (w0 := w3) rfl (by omega) (gf := 40) (lb := #[.pointer (some ⟨a, 0, none⟩)]) rfl trivial (enters_of Try.func40 (by kernel_rfl) rfl) (seq_n w3 a (blk_lt AR.out) (cell_of_row w3 a 0 _ _ (0, 0) AR.out)) (fun _ _ => trivial) (fun _ _ _ _ _ _ _ _ => trivial) (Below.refl _ _) (fun x => x.elim) (fun _ W => Below w3.heap.size w3 W) (fun _ _ _ => False) (belowI w3) (fun _ _ _ _ _ hs _ _ => hs) (Below.refl _ _) (fun x => x.elim) (fun l x => x.elim) (fun l pre x => x.elim) ?done1 (fun D c pre W _ h _ _ => h.elim)
  case done1 =>
  rintro D1 xs w5 hD1 rfl hi hK1
  have HD1 := Lib.hid (show w.heap.size + 3 ≤ D1 by have := NI.out.1; have := blk_lt NI.out.2.2.2; omega)
  have NI := Lib.hid (NI.out.below hi)
  have HDD := Lib.hid (show D0 ≠ D1 from fun e => by have := blk_lt DK.out; omega)
  have DK := Lib.hid ((hi.block D0 (blk_lt DK.out)).trans DK.out)
  have DK1 := Lib.hid hK1
  clear hi hK1 hD1 AR
  dsimp only
  go_wp2_with fail
  rw [rounds_succ]
  go_wp2_with fail
  refine (known_c w5).mono ?_
  rintro e w6 ⟨rfl, b6⟩
  have NI := Lib.hid (NI.out.below b6)
  have DK := Lib.hid ((b6.block D0 (blk_lt DK.out)).trans DK.out)
  have DK1 := Lib.hid ((b6.block D1 (blk_lt DK1.out)).trans DK1.out)
  have rc : w6.cell? ⟨w.heap.size, 0, none⟩ = some (.bool false) := cell_of_row w6 _ 0 _ _ (0, 0) NI.out.2.1
  have rf : w6.frozen? ⟨w.heap.size, 0, none⟩ = false := by simp [World.frozen?, NI.out.2.1]
  clear b6
  go_wp2_with fail
  refine nil_ret (rb := w.heap.size) rfl (World.cell?_setCell_same' _ _ _ (by show (w6.cell? _).isSome = true; rw [rc]; rfl)) ((setCell_off 0 (by have := HD1.out; omega)).trans DK1.out) ((setCell_off 0 (by have := HD0.out; omega)).trans DK.out) (by have := HD0.out; omega) (by have := HD1.out; omega) HDD.out (by have := HD0.out; omega) (by have := HD1.out; omega) (NI.out.1.setCell (p := ⟨w.heap.size, 0, none⟩) (Nat.le_refl _) _)
end Go.Proofs.Ytiobmgoapcbbfaa
