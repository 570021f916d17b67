/- Contracts: whether two votes are the same, of the reference. -/
import Derived.Test.YtmebppfbdeokeaaCdSameP
import Derived.Test.YtmebppfbdeokeaaCdPofA
import Derived.Test.YtmebppfbdeokeaaCdEq
import Derived.BigFrame
namespace Go.Proofs.Ytmebppfbdeokeaa
open Go.ChangeShapes Go.WideShapes Go.ChangeAt Go.RowKit
set_option linter.unusedVariables false
set_option maxRecDepth 100000

set_option maxHeartbeats 4000000 in
theorem refSameVote_c (n n' : Int) (e1 e2 e1' e2' : Nat) (l1 l2 s l1' l2' s' : List UInt8) (A A' : Option Addr) (c c' : Nat) (w : World) (hl1 : l1.length = 32) (hl2 : l2.length = 32) (hl1' : l1'.length = 32) (hl2' : l2'.length = 32) (h : Rd w 0 w.heap.size A s) (h' : Rd w 0 w.heap.size A' s') :
    Calls Try.prog 14 #[.agg (vtV n e1 l1 e2 l2 (.slice A s.length c)), .agg (vtV n' e1' l1' e2' l2' (.slice A' s'.length c'))] w fun x w' => x = .returned (.bool (sameVt n e1 l1 e2 l2 s n' e1' l1' e2' l2' s')) ∧ Below w.heap.size w w' := by
  have hb : Below w.heap.size w ((w.alloc (.cells (vtV n e1 l1 e2 l2 (.slice A s.length c)) 29)).alloc (.cells (vtV n' e1' l1' e2' l2' (.slice A' s'.length c')) 29)) := ((Below.refl _ _).alloc (Nat.le_refl _) _).alloc (by simp) _
  have v0 : VtB w.heap.size n e1 l1 e2 l2 (.slice A s.length c) ((w.alloc (.cells (vtV n e1 l1 e2 l2 (.slice A s.length c)) 29)).alloc (.cells (vtV n' e1' l1' e2' l2' (.slice A' s'.length c')) 29)) := VtB.new.below ((Below.refl _ _).alloc (Nat.le_refl _) _) (by simp)
  have v1 : VtB (w.heap.size + 1) n' e1' l1' e2' l2' (.slice A' s'.length c') ((w.alloc (.cells (vtV n e1 l1 e2 l2 (.slice A s.length c)) 29)).alloc (.cells (vtV n' e1' l1' e2' l2' (.slice A' s'.length c')) 29)) := by
    have := VtB.new (w := w.alloc (.cells (vtV n e1 l1 e2 l2 (.slice A s.length c)) 29)) (n := n') (e1 := e1') (l1 := l1') (e2 := e2') (l2 := l2') (sv := .slice A' s'.length c')
    rwa [heap_sz] at this
  have k0 := v0.num
  have k1 := v1.num
  have k2 := v0.sig
  have k3 := v1.sig
  have r0 := (h.below hb (Nat.le_refl _))
  have r1 := (h'.below hb (Nat.le_refl _))
  have HQ := Lib.hid (bytesEqual_c r0 r1 c c' s.length s'.length rfl rfl)
  have st0 := run_str r0 s.length c rfl
  have st1 := run_str r1 s'.length c' rfl
  obtain ⟨sx, hsx⟩ : ∃ sx : ByteArray, sx = ⟨s.toArray⟩ := ⟨_, rfl⟩
  obtain ⟨sy, hsy⟩ : ∃ sy : ByteArray, sy = ⟨s'.toArray⟩ := ⟨_, rfl⟩
  have hxy : (sx.toList == sy.toList) = (s == s') := by rw [hsx, hsy, str_toListD, str_toListD]
  unfold strOf at st0 st1
  rw [← hsx] at st0
  rw [← hsy] at st1
  have V0 := Lib.hid v0
  have V1 := Lib.hid v1
  have HB := Lib.hid hb
  have he1 := eq_point e1 e1' l1 l1' hl1 hl1'
  have he2 := eq_point e2 e2' l2 l2' hl2 hl2'
  have HE := Lib.hid (show sameVt n e1 l1 e2 l2 s n' e1' l1' e2' l2' s' = ((n == n') && (e1 == e1' && l1 == l1') && (e2 == e2' && l2 == l2') && (s == s')) from rfl)
  obtain ⟨q0, hq0⟩ : ∃ q0, q0 = (n == n') := ⟨_, rfl⟩
  obtain ⟨q1, hq1⟩ : ∃ q1, q1 = (e1 == e1' && l1 == l1') := ⟨_, rfl⟩
  obtain ⟨q2, hq2⟩ : ∃ q2, q2 = (e2 == e2' && l2 == l2') := ⟨_, rfl⟩
  obtain ⟨q3, hq3⟩ : ∃ q3, q3 = (s == s') := ⟨_, rfl⟩
  rw [← hq0, ← hq1, ← hq2, ← hq3] at HE
  rw [← hq1] at he1
  rw [← hq2] at he2
  rw [← hq3] at HQ hxy
  have hn0 := hq0.symm
  clear hsx hsy r0 r1 v0 v1 hb h h' hl1 hl2 hl1' hl2' hq0 hq1 hq2 hq3
  cases q0
  · go_enter Try.func14, Try.ntmps14
    go_wp2_with fail
    go_ret
    exact ⟨by rw [HE.out]; first | rfl | (simp only [Bool.true_and]; exact congrArg (fun b => Ending.returned (.bool b)) hxy) | simp, HB.out⟩
  · cases q1
    · go_enter Try.func14, Try.ntmps14
      go_wp2_with (first
        | (refine BigFrame.wpList_want rfl (fun K hK => ?_); refine wp_load_midC 26 (.tmp 11) rfl w.heap.size 1 rfl (ptC e1 l1) (ptV e1 l1) rfl _ V0.out.src Try.underlying26 rfl (size_ptV _ _) ?_; refine hK _ _ ?_; clear hK K)
        | (refine BigFrame.wpList_want rfl (fun K hK => ?_); refine wp_load_midC 26 (.tmp 13) rfl (w.heap.size + 1) 1 rfl (ptC e1' l1') (ptV e1' l1') rfl _ V1.out.src Try.underlying26 rfl (size_ptV _ _) ?_; refine hK _ _ ?_; clear hK K))
      go_ret
      exact ⟨by rw [HE.out]; first | rfl | (simp only [Bool.true_and]; exact congrArg (fun b => Ending.returned (.bool b)) hxy) | simp, HB.out⟩
    · cases q2
      · go_enter Try.func14, Try.ntmps14
        go_wp2_with (first
          | (refine BigFrame.wpList_want rfl (fun K hK => ?_); refine wp_load_midC 26 (.tmp 11) rfl w.heap.size 1 rfl (ptC e1 l1) (ptV e1 l1) rfl _ V0.out.src Try.underlying26 rfl (size_ptV _ _) ?_; refine hK _ _ ?_; clear hK K)
          | (refine BigFrame.wpList_want rfl (fun K hK => ?_); refine wp_load_midC 26 (.tmp 13) rfl (w.heap.size + 1) 1 rfl (ptC e1' l1') (ptV e1' l1') rfl _ V1.out.src Try.underlying26 rfl (size_ptV _ _) ?_; refine hK _ _ ?_; clear hK K)
          | (refine BigFrame.wpList_want rfl (fun K hK => ?_); refine wp_load_midC 26 (.tmp 18) rfl w.heap.size 34 rfl (ptC e2 l2) (ptV e2 l2) rfl _ V0.out.tgt Try.underlying26 rfl (size_ptV _ _) ?_; refine hK _ _ ?_; clear hK K)
          | (refine BigFrame.wpList_want rfl (fun K hK => ?_); refine wp_load_midC 26 (.tmp 20) rfl (w.heap.size + 1) 34 rfl (ptC e2' l2') (ptV e2' l2') rfl _ V1.out.tgt Try.underlying26 rfl (size_ptV _ _) ?_; refine hK _ _ ?_; clear hK K))
        go_ret
        exact ⟨by rw [HE.out]; first | rfl | (simp only [Bool.true_and]; exact congrArg (fun b => Ending.returned (.bool b)) hxy) | simp, HB.out⟩
      · go_enter Try.func14, Try.ntmps14
        go_wp2_with (first
          | (refine BigFrame.wpList_want rfl (fun K hK => ?_); refine wp_load_midC 26 (.tmp 11) rfl w.heap.size 1 rfl (ptC e1 l1) (ptV e1 l1) rfl _ V0.out.src Try.underlying26 rfl (size_ptV _ _) ?_; refine hK _ _ ?_; clear hK K)
          | (refine BigFrame.wpList_want rfl (fun K hK => ?_); refine wp_load_midC 26 (.tmp 13) rfl (w.heap.size + 1) 1 rfl (ptC e1' l1') (ptV e1' l1') rfl _ V1.out.src Try.underlying26 rfl (size_ptV _ _) ?_; refine hK _ _ ?_; clear hK K)
          | (refine BigFrame.wpList_want rfl (fun K hK => ?_); refine wp_load_midC 26 (.tmp 18) rfl w.heap.size 34 rfl (ptC e2 l2) (ptV e2 l2) rfl _ V0.out.tgt Try.underlying26 rfl (size_ptV _ _) ?_; refine hK _ _ ?_; clear hK K)
          | (refine BigFrame.wpList_want rfl (fun K hK => ?_); refine wp_load_midC 26 (.tmp 20) rfl (w.heap.size + 1) 34 rfl (ptC e2' l2') (ptV e2' l2') rfl _ V1.out.tgt Try.underlying26 rfl (size_ptV _ _) ?_; refine hK _ _ ?_; clear hK K))
        go_ret
        exact ⟨by rw [HE.out]; first | rfl | (simp only [Bool.true_and]; exact congrArg (fun b => Ending.returned (.bool b)) hxy) | simp, HB.out⟩
end Go.Proofs.Ytmebppfbdeokeaa
