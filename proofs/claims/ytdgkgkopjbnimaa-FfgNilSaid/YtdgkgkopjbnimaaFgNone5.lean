/- Nothing, sorted by way of an iterator. -/
import Derived.Test.YtdgkgkopjbnimaaFgNone4
import Derived.RangeFuncWrites
import Derived.RangeFuncFrom
import Derived.RangeFuncNested
import Derived.RangeFuncCalls
import Derived.Shelf.Abstract
namespace Go.Proofs.Ytdgkgkopjbnimaa
open Go.ChangeMaps Go.MapKept Go.Maps Go.WideElems Go.RowKit Go.Shelf
attribute [local go_sem] Oper.semAt_some
set_option linter.unusedVariables false
set_option maxRecDepth 100000

theorem values_n (w : World) : Calls Try.prog 56 #[.slice none 0 0] w fun e w' => e = .returned (.func (.func 67) #[] #[.pointer (some ⟨w.heap.size, 0, none⟩)]) ∧ w' = w.alloc (.cells #[.slice none 0 0] 38) := by
  go_enter Try.func56, Try.ntmps56
  go_wp2_with fail
  go_ret
  exact ⟨rfl, rfl⟩
theorem values1_n (y : Value) (a : Nat) (w : World) (h : w.cell? ⟨a, 0, none⟩ = some (.slice none 0 0)) : Calls Try.prog 67 #[y, .pointer (some ⟨a, 0, none⟩)] w fun e w' => e = .returned (.tuple #[]) ∧ w' = w := by
  go_enter Try.func67, Try.ntmps67
  go_wp2_with fail
  refine wp_loop_rounds 1 ?_
  rw [rounds_succ]
  go_wp2_with fail
  exact bodyPost_end (results_none rfl _ _ _) rfl ⟨rfl, rfl⟩
theorem seq_n (w : World) (a : Nat) (ha : a < w.heap.size) (h : w.cell? ⟨a, 0, none⟩ = some (.slice none 0 0)) : SeqStopsK Fence.wide 8 Try.prog 67 #[.pointer (some ⟨a, 0, none⟩)] (fun x : Empty => x.elim) (fun _ _ => True) (fun xs => xs = []) (fun _ => False) 0 w :=
  fun l J Jx W hW _ _ _ h0 => (callsIn_wide (n := 8)).2 ((values1_n _ a W ((hW.cell (p := ⟨a, 0, none⟩) ha).trans h)).mono fun e w' hh => ⟨⟨_, hh.1⟩, .inl ⟨[], rfl, by rw [hh.2]; exact h0⟩⟩)
theorem below_putObj {w W : World} {D : Nat} {o o' : Obj} (hb : Below w.heap.size w W) (hD : w.heap.size ≤ D) (hK : W.heap[D]? = some o) : Below w.heap.size w (W.putObj D o') := by
  refine ⟨hb.os, hb.tape, hb.output, ?_, fun k hk => (World.putObj_heap_other (by omega)).trans (hb.block k hk)⟩
  have := hb.size
  simp [World.putObj]
  omega
/-- What the box holds. -/
def BoxI (w : World) (b : Nat) (pre : List Empty) (W : World) : Prop := Below w.heap.size w W ∧ W.heap[b]? = some (.cells #[.slice none 0 0] 38 (0, 0))
theorem boxI_from {w : World} {b B : Nat} (hw : w.heap.size ≤ B) (hb : b < B) : OwnFrom B (BoxI w b) := fun s A W row hs hg hr => by
  refine ⟨hs.1.grown hg hs.1.size (fun k e => Nat.le_trans hw (hr k e).1), ?_⟩
  refine (hg.block b ?_ (fun e => by have := (hr b e.symm).1; omega)).trans hs.2
  have h2 := hs.2
  rcases Nat.lt_or_ge b A.heap.size with h | h
  · exact h
  · rw [Array.getElem?_eq_none h] at h2; cases h2
theorem ret_n {w W : World} {tmps : Array Value} {D : Nat} (h4 : tmps[4]? = some (.slice none 0 0)) (hK : W.heap[D]? = some (.deferred (some []))) (hD : w.heap.size ≤ D) (hb : Below w.heap.size w W) :
    bodyPostM Fence.wide 9 Try.prog Try.f82 (fun e w' => e = .returned (.slice none 0 0) ∧ Below w.heap.size w w') .ret ⟨tmps, [{ target := .collected D, args := #[] }]⟩ W := by
  refine ⟨by simp, .inl ⟨_, _, rfl, run_takeDeferred hK, ?_⟩⟩
  refine ⟨.slice none 0 0, ?_, rfl, below_putObj hb hD hK⟩
  simp [results, Try.results82, go_sem, h4]
set_option maxRecDepth 1000000 in
set_option maxHeartbeats 4000000 in
theorem appendSeq_n (a : Nat) (w : World) (ha : a < w.heap.size) (h : w.cell? ⟨a, 0, none⟩ = some (.slice none 0 0)) : Calls Try.prog 82 #[.slice none 0 0, .func (.func 67) #[] #[.pointer (some ⟨a, 0, none⟩)]] w fun e w' => e = .returned (.slice none 0 0) ∧ Below w.heap.size w w' := by
  refine (callsIn_wide (n := 9)).1 (callsIn_of_wp_marks Try.func82 rfl trivial ?_)
  refine wpIn_wide.2 ?_
  simp only [Try.ntmps82, List.size_toArray, List.length_cons, List.length_nil, Nat.reduceAdd, Nat.reduceSub, Array.replicate_succ, Array.replicate_zero, List.push_toArray, List.append_toArray, List.nil_append, List.cons_append]
  obtain ⟨W, hW⟩ : ∃ W, W = w.alloc (.cells #[.slice none 0 0] 38) := ⟨_, rfl⟩
  have hB : Below w.heap.size w W := by rw [hW]; exact (Below.refl _ _).alloc (Nat.le_refl _) _
  have hz : W.heap.size = w.heap.size + 1 := by rw [hW]; simp
  have hb : W.heap[w.heap.size]? = some (.cells #[.slice none 0 0] 38 (0, 0)) := by rw [hW]; exact heap_alloc_new w _
  have SQ := Lib.hid (seq_n W a (Nat.lt_of_lt_of_le ha hB.size) ((hB.cell (p := ⟨a, 0, none⟩) ha).trans h))
  have HF := Lib.hid (And.intro hB (And.intro hz hb))
  have HW := Lib.hid hW
  clear hW hB hz hb h
  go_wp2_with fail
  rw [← HW.out]
  refine (wpIn_wide (n := 9)).1 ?_
  refine wpIn_rangeFunc_ownG (w0 := W) rfl (by omega) (gf := 67) (lb := #[.pointer (some ⟨a, 0, none⟩)]) rfl trivial (enters_of Try.func67 (by kernel_rfl) rfl) SQ.out (fun _ _ => trivial) (fun _ _ _ _ _ _ _ _ => trivial) (Below.refl _ _) (fun x => x.elim) (BoxI w w.heap.size) (fun _ _ _ => False) (boxI_from (by have := HF.out.2.1; omega) (by have := HF.out.2.1; omega)) (fun _ _ _ _ _ hs _ _ => hs) ⟨HF.out.1, HF.out.2.2⟩ (fun x => x.elim) (fun l x => x.elim) (fun l pre x => x.elim) ?done (fun D c pre W _ h _ _ => h.elim)
  case done =>
    rintro D xs W2 hD rfl hi hK
    have kc : W2.cell? ⟨w.heap.size, 0, none⟩ = some (.slice none 0 0) := cell_of_row W2 w.heap.size 0 _ _ (0, 0) hi.2
    have HI := Lib.hid hi.1
    have HK := Lib.hid hK
    have HD := Lib.hid (show w.heap.size ≤ D by have := HF.out.2.1; omega)
    clear hi hK hD
    dsimp only
    go_wp2_with fail
    exact ret_n rfl HK.out HD.out HI.out
theorem collect_n (a : Nat) (w : World) (ha : a < w.heap.size) (h : w.cell? ⟨a, 0, none⟩ = some (.slice none 0 0)) : Calls Try.prog 66 #[.func (.func 67) #[] #[.pointer (some ⟨a, 0, none⟩)]] w fun e w' => e = .returned (.slice none 0 0) ∧ Below w.heap.size w w' := by
  have HA := Lib.hid (appendSeq_n a w ha h)
  clear ha h
  go_enter Try.func66, Try.ntmps66
  go_wp2_with fail
  refine HA.out.mono ?_
  rintro e w1 ⟨rfl, b1⟩
  go_wp2_with fail
  go_ret
  exact ⟨rfl, b1⟩
theorem sortedFunc_n (fv : Value) (a : Nat) (w : World) (ha : a < w.heap.size) (h : w.cell? ⟨a, 0, none⟩ = some (.slice none 0 0)) : Calls Try.prog 55 #[.func (.func 67) #[] #[.pointer (some ⟨a, 0, none⟩)], fv] w fun e w' => e = .returned (.slice none 0 0) ∧ Below w.heap.size w w' := by
  have HA := Lib.hid (collect_n a w ha h)
  clear ha h
  go_enter Try.func55, Try.ntmps55
  go_wp2_with fail
  refine HA.out.mono ?_
  rintro e w1 ⟨rfl, b1⟩
  have B1 := Lib.hid b1
  clear b1
  go_wp2_with fail
  refine (sortFunc_n fv w1).mono ?_
  rintro e w2 ⟨rfl, rfl⟩
  go_wp2_with fail
  go_ret
  exact ⟨rfl, B1.out⟩
theorem sharedOf_n (w : World) : Calls Try.prog 41 #[.pointer none, .slice none 0 0] w fun e w' => e = .returned (.slice none 0 0) ∧ Below w.heap.size w w' := by
  obtain ⟨W, hW⟩ : ∃ W, W = w.alloc (.cells #[.slice none 0 0] 38) := ⟨_, rfl⟩
  have HV := Lib.hid (values_n w)
  rw [← hW] at HV
  have HB : Hid (Below w.heap.size w W) := by rw [hW]; exact (Below.refl _ _).alloc (Nat.le_refl _) _
  have HS := Lib.hid (sortedFunc_n (.func (.func 44) #[] #[]) w.heap.size W (by rw [hW]; simp) (by rw [hW]; exact cell_of_row _ w.heap.size 0 _ _ (0, 0) (heap_alloc_new w _)))
  clear hW
  go_enter Try.func41, Try.ntmps41
  go_wp2_with fail
  refine HV.out.mono ?_
  rintro e w1 ⟨rfl, rfl⟩
  go_wp2_with fail
  refine HS.out.mono ?_
  rintro e w2 ⟨rfl, b2⟩
  have B2 := Lib.hid (HB.out.trans (b2.mono HB.out.size))
  clear b2
  go_wp2_with fail
  refine wp_loop_rounds 1 ?_
  rw [rounds_succ]
  go_wp2_with fail
  go_ret
  exact ⟨rfl, B2.out⟩
end Go.Proofs.Ytdgkgkopjbnimaa
