/- Contracts: what is signed of a vote. -/
import Derived.Test.YtaoddppkijopmaaCdVby
import Derived.Test.YtaoddppkijopmaaCdRow
import Derived.Lib.SlBytesConst
namespace Go.Proofs.Ytaoddppkijopmaa
open Go.ChangeShapes Go.WideShapes Go.ChangeAt Go.RowKit
set_option linter.unusedVariables false
set_option maxRecDepth 100000

/-- What is signed of a vote. -/
def voteSignL : List UInt8 := [118, 111, 116, 101]
def txL (n e1 : Nat) (l1 : List UInt8) (e2 : Nat) (l2 : List UInt8) : List UInt8 := voteSignL ++ lkL n e1 l1 e2 l2
set_option maxHeartbeats 4000000 in
theorem textRow_c (n e1 : Nat) (l1 : List UInt8) (e2 : Nat) (l2 : List UInt8) (sv : Value) (w : World) (hn : n < 256) (he1 : e1 < 18446744073709551616) (he2 : e2 < 18446744073709551616) (hl1 : l1.length = 32) (hl2 : l2.length = 32) :
    Calls Try.prog 34 #[.agg (vtV (n : Int) e1 l1 e2 l2 sv)] w (NewP w (txL n e1 l1 e2 l2)) := by
  obtain ⟨W, hW⟩ : ∃ W, W = (w.alloc (.cells (vtV (n : Int) e1 l1 e2 l2 sv) 32)).alloc (.cells #[.int .u8 118, .int .u8 111, .int .u8 116, .int .u8 101] 5 (4, 5)) := ⟨_, rfl⟩
  have hb : Below w.heap.size w W := by rw [hW]; exact ((Below.refl _ _).alloc (Nat.le_refl _) _).alloc (by simp) _
  have g0 : ((w.alloc (.cells (vtV (n : Int) e1 l1 e2 l2 sv) 32)).alloc (.cells #[.int .u8 118, .int .u8 111, .int .u8 116, .int .u8 101] 5 (4, 5))).heap[w.heap.size]? = some (.cells (vtV (n : Int) e1 l1 e2 l2 sv) 32 (0, 0)) := heap_alloc2_old w _ _
  have hr : Rd W 0 W.heap.size (some ⟨w.heap.size + 1, 0, none⟩) voteSignL := fun _ => ⟨w.heap.size + 1, 0, rfl, Nat.zero_le _, by rw [hW]; simp, fun j x hx => by
    have hh : W.heap[w.heap.size + 1]? = some (.cells #[.int .u8 118, .int .u8 111, .int .u8 116, .int .u8 101] 5 (4, 5)) := by rw [hW]; exact heap_alloc2_new w _ _
    rw [Nat.zero_add, cell_of_row _ _ _ _ _ (4, 5) hh]
    unfold voteSignL at hx
    match j, hx with
    | 0, hx => injection hx with hx; subst hx; rfl
    | 1, hx => injection hx with hx; subst hx; rfl
    | 2, hx => injection hx with hx; subst hx; rfl
    | 3, hx => injection hx with hx; subst hx; rfl⟩
  have HK := Lib.hid (linkRow_c n e1 l1 e2 l2 sv W hn he1 he2 hl1 hl2)
  have HLL := Lib.hid (lkL_length n e1 l1 e2 l2 hl1 hl2)
  have HR := Lib.hid hr
  have HW := Lib.hid hW
  have HB := Lib.hid hb
  clear hW hb hr hn he1 he2 hl1 hl2
  have hcv : (convert 30 30 (.slice (some ⟨w.heap.size + 1, 0, none⟩) 4 4)).run Try.prog ((w.alloc (.cells (vtV (n : Int) e1 l1 e2 l2 sv) 32)).alloc (.cells #[.int .u8 118, .int .u8 111, .int .u8 116, .int .u8 101] 5)) = .ok (.slice (some ⟨w.heap.size + 1, 0, none⟩) 4 4) ((w.alloc (.cells (vtV (n : Int) e1 l1 e2 l2 sv) 32)).alloc (.cells #[.int .u8 118, .int .u8 111, .int .u8 116, .int .u8 101] 5 (4, 5))) := by
    have := Lib.run_convert_bytes_const (P := Try.prog) (w.alloc (.cells (vtV (n : Int) e1 l1 e2 l2 sv) 32)) 30 5 #[.int .u8 118, .int .u8 111, .int .u8 116, .int .u8 101] 4 4 Try.underlying30 Try.underlying5
    rw [heap_sz] at this
    exact this
  go_enter Try.func34, Try.ntmps34
  go_wp2_with (refine wpList_load_row rfl 32 (.tmp 1) rfl w.heap.size rfl 32 (vtV (n : Int) e1 l1 e2 l2 sv) (0, 0) _ g0 Try.underlying32 rfl (size_vtV _ _ _ _ _ _) ?_)
  rw [← HW.out]
  refine HK.out.mono ?_
  rintro y w2 ⟨A2, c2, rfl, hc2, o2, b2⟩
  have HJ := Lib.hid (join2 (some ⟨w.heap.size + 1, 0, none⟩) A2 4 c2 4 (lkL n e1 l1 e2 l2).length voteSignL (lkL n e1 l1 e2 l2) w2 rfl rfl ((HR.out.below b2 (Nat.le_refl _)).wide (Nat.le_refl _) b2.size) (o2.rd.wide (Nat.zero_le _) (Nat.le_refl _)) (by have := HLL.out; have : voteSignL.length = 4 := rfl; omega))
  have HB2 := Lib.hid (HB.out.trans (b2.mono HB.out.size))
  clear b2 o2 g0 hc2
  go_wp2_with fail
  refine HJ.out.mono ?_
  rintro y w3 ⟨A3, c3, rfl, hc3, o3, b3⟩
  go_wp2_with fail
  go_ret
  exact ⟨A3, c3, congrArg (fun m => Ending.returned (.slice A3 m c3)) (by rw [txL, List.length_append]), hc3, o3.wide HB2.out.size, HB2.out.trans (b3.mono HB2.out.size)⟩
theorem text_ok (n e1 : Nat) (l1 : List UInt8) (e2 : Nat) (l2 : List UInt8) (A : Option Addr) (k c : Nat) (w : World) (hm : mayVt (n : Int) e1 e2 k = true) (hl1 : l1.length = 32) (hl2 : l2.length = 32) :
    Calls Try.prog 16 #[.agg (vtV (n : Int) e1 l1 e2 l2 (.slice A k c))] w (RowP w (txL n e1 l1 e2 l2)) := by
  have hq : n < 256 ∧ e1 < 18446744073709551616 ∧ e2 < 18446744073709551616 := by
    unfold mayVt mayVal mayEp at hm
    simp only [Bool.and_eq_true, decide_eq_true_eq] at hm
    omega
  have b0 : Below w.heap.size w (w.alloc (.cells (vtV (n : Int) e1 l1 e2 l2 (.slice A k c)) 32)) := (Below.refl _ _).alloc (Nat.le_refl _) _
  have HC := Lib.hid (rowOf_vote_ok (vtV (n : Int) e1 l1 e2 l2 (.slice A k c)) (size_vtV _ _ _ _ _ _) 30 34 (enters_of Try.func30 (by kernel_rfl) rfl) (enters_of Try.func34 (by kernel_rfl) rfl) (txL n e1 l1 e2 l2) (w.alloc (.cells (vtV (n : Int) e1 l1 e2 l2 (.slice A k c)) 32))
    (fun u _ => by have h := mayVote_c (n : Int) e1 l1 e2 l2 A k c u; rwa [hm] at h) (fun u hu => textRow_c n e1 l1 e2 l2 _ u hq.1 hq.2.1 hq.2.2 hl1 hl2))
  clear hm hq hl1 hl2
  go_enter Try.func16, Try.ntmps16
  go_wp2_with (first | (refine wpList_load_row rfl 32 (.tmp 1) rfl w.heap.size rfl 32 (vtV (n : Int) e1 l1 e2 l2 (.slice A k c)) (0, 0) _ (heap_alloc_new w _) Try.underlying32 rfl (size_vtV _ _ _ _ _ _) ?_) | (go_at_call 29; refine HC.out.mono ?_; rintro x w1 ⟨A1, c1, rfl, hc, ho, b1⟩))
  go_ret2
  exact ⟨A1, c1, rfl, hc, ho.wide b0.size, b0.trans (b1.mono b0.size)⟩
theorem text_no (n : Int) (e1 : Nat) (l1 : List UInt8) (e2 : Nat) (l2 : List UInt8) (A : Option Addr) (k c : Nat) (w : World) (hm : mayVt n e1 e2 k = false) :
    Calls Try.prog 16 #[.agg (vtV n e1 l1 e2 l2 (.slice A k c))] w (NoP w) := by
  have b0 : Below w.heap.size w (w.alloc (.cells (vtV n e1 l1 e2 l2 (.slice A k c)) 32)) := (Below.refl _ _).alloc (Nat.le_refl _) _
  have HC := Lib.hid (rowOf_vote_no (vtV n e1 l1 e2 l2 (.slice A k c)) (size_vtV _ _ _ _ _ _) 30 34 (enters_of Try.func30 (by kernel_rfl) rfl) (w.alloc (.cells (vtV n e1 l1 e2 l2 (.slice A k c)) 32))
    (fun u _ => by have h := mayVote_c n e1 l1 e2 l2 A k c u; rwa [hm] at h))
  clear hm
  go_enter Try.func16, Try.ntmps16
  go_wp2_with (first | (refine wpList_load_row rfl 32 (.tmp 1) rfl w.heap.size rfl 32 (vtV n e1 l1 e2 l2 (.slice A k c)) (0, 0) _ (heap_alloc_new w _) Try.underlying32 rfl (size_vtV _ _ _ _ _ _) ?_) | (go_at_call 29; refine HC.out.mono ?_; rintro x w1 ⟨rfl, b1⟩))
  go_ret2
  exact ⟨rfl, b0.trans (b1.mono b0.size)⟩
end Go.Proofs.Ytaoddppkijopmaa
