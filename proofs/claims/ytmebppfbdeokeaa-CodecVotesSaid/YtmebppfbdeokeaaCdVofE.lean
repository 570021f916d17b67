/- Contract: VoteOf, of any bytes: the end. -/
import Derived.Test.YtmebppfbdeokeaaCdVof
namespace Go.Proofs.Ytmebppfbdeokeaa
open Go.ChangeShapes Go.WideShapes Go.ChangeAt Go.RowKit
set_option linter.unusedVariables false
set_option maxRecDepth 100000

set_option maxHeartbeats 4000000 in
theorem voteOf_may (A : Option Addr) (c : Nat) (l : List UInt8) (w : World) (h : Rd w 0 w.heap.size A l) (hl : l.length ≤ 140737488355328) (hm : mayVt (((numS (some l) 1).1 : Nat) : Int) (ptR (vtS1 (some l))).1 (ptR (vtS2 (some l))).1 (blobS (vtS3 (some l))).1.length = true) :
    Calls Try.prog 15 #[.slice A l.length c] w (VofP w l) := by
  have hz := zero_vote0
  obtain ⟨W, hW⟩ : ∃ W, W = w.alloc (.cells vote0 29) := ⟨_, rfl⟩
  have b0 : Below w.heap.size w W := by rw [hW]; exact (Below.refl _ _).alloc (Nat.le_refl _) _
  have hsz : W.heap.size = w.heap.size + 1 := by rw [hW]; simp
  have f0 : W.heap[w.heap.size]? = some (.cells vote0 29 (0, 0)) := by rw [hW]; exact heap_alloc_new w _
  have HC := Lib.hid (readAll_vote_may A c l W ((h.below b0 (Nat.le_refl _)).wide (Nat.le_refl _) (by omega)) hl hm)
  have HW := Lib.hid hW
  have HB := Lib.hid b0
  have F0 := Lib.hid f0
  have HS := Lib.hid hsz
  clear h hl hm hW b0 f0 hsz
  go_enter Try.func15, Try.ntmps15
  go_wp2_with fail
  rw [← HW.out]
  refine HC.out.mono ?_
  rintro e w1 (⟨ho, A2, rfl, o1, b1⟩ | ⟨ho, rfl, b1⟩)
  · have h6 : w1.heap[w.heap.size]? = some (.cells vote0 29 (0, 0)) := (b1.block w.heap.size (by have := HS.out; omega)).trans F0.out
    have HSZ := Lib.hid (size_vofV l A2)
    have HON := Lib.hid (one_vofV l A2)
    have HSI := Lib.hid (sz_vofV l A2)
    have HO := Lib.hid ho
    have O1 := Lib.hid o1
    have B1 := Lib.hid b1
    obtain ⟨C, hC⟩ : ∃ C, C = vofV l A2 := ⟨_, rfl⟩
    rw [← hC] at HSZ HON HSI
    rw [← hC]
    have HCE := Lib.hid hC
    clear hC ho o1 b1
    go_wp2_with (refine wpList_store_row rfl 29 (.tmp 2) (.tmp 6) rfl w.heap.size C rfl rfl 29 vote0 h6 HSZ.out HSI.out HON.out ?_)
    have K6 : (w1.setRow w.heap.size C).heap[w.heap.size]? = some (.cells C 29 (0, 0)) := setRow_heap _ _ _ _ _ _ h6
    exact bodyPost_ret (v := .tuple #[.agg C, .int .i64 0]) (results_cell_row_tmp rfl _ _ w.heap.size 29 C (0, 0) _ rfl K6 Try.underlying29 rfl HSZ.out _ rfl) rfl (.inl ⟨HO.out, A2, by rw [HCE.out], owRow (O1.out.wide (by have := HS.out; omega)) (by omega) C, below_setRow (HB.out.trans (B1.out.mono HB.out.size)) (Nat.le_refl _) _⟩)
  · have h6 : w1.heap[w.heap.size]? = some (.cells vote0 29 (0, 0)) := (b1.block w.heap.size (by have := HS.out; omega)).trans F0.out
    have HO := Lib.hid ho
    have B1 := Lib.hid b1
    clear ho b1
    go_wp2_with (refine wpList_store_row rfl 29 (.tmp 2) (.tmp 6) rfl w.heap.size vote0 rfl rfl 29 vote0 h6 size_vote0 rfl one_vote0 ?_)
    have K6 : (w1.setRow w.heap.size vote0).heap[w.heap.size]? = some (.cells vote0 29 (0, 0)) := setRow_heap _ _ _ _ _ _ h6
    exact bodyPost_ret (v := .tuple #[.agg vote0, .int .i64 4]) (results_cell_row_tmp rfl _ _ w.heap.size 29 vote0 (0, 0) _ rfl K6 Try.underlying29 rfl size_vote0 _ rfl) rfl (.inr ⟨HO.out, rfl, below_setRow (HB.out.trans (B1.out.mono HB.out.size)) (Nat.le_refl _) _⟩)
theorem voteOf_c (A : Option Addr) (c : Nat) (l : List UInt8) (w : World) (h : Rd w 0 w.heap.size A l) (hl : l.length ≤ 140737488355328) :
    Calls Try.prog 15 #[.slice A l.length c] w (VofP w l) := by
  by_cases hm : mayVt (((numS (some l) 1).1 : Nat) : Int) (ptR (vtS1 (some l))).1 (ptR (vtS2 (some l))).1 (blobS (vtS3 (some l))).1.length = true
  · exact voteOf_may A c l w h hl hm
  · rw [Bool.not_eq_true] at hm
    exact (voteOf_no A c l w h hl hm).mono fun e w' hp => .inr ⟨by unfold vofOk; rw [hm]; rfl, hp.1, hp.2⟩
end Go.Proofs.Ytmebppfbdeokeaa
