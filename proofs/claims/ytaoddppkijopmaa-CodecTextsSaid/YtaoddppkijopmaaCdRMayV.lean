/- Contract: the reference's MayVote. -/
import Derived.Test.YtaoddppkijopmaaCdMay
import Derived.Test.YtaoddppkijopmaaCdRefP
import Derived.BigFrame
namespace Go.Proofs.Ytaoddppkijopmaa
open Go.ChangeShapes Go.WideShapes Go.ChangeAt Go.RowKit
set_option linter.unusedVariables false
set_option maxRecDepth 100000

set_option maxHeartbeats 4000000 in
theorem refMayVote_c (n : Int) (e1 : Nat) (l1 : List UInt8) (e2 : Nat) (l2 : List UInt8) (A : Option Addr) (k c : Nat) (w : World) :
    Calls Try.prog 36 #[.agg (vtV n e1 l1 e2 l2 (.slice A k c))] w fun x w' => x = .returned (.bool (mayVt n e1 e2 k)) ∧ Below w.heap.size w w' := by
  obtain ⟨W, hW⟩ : ∃ W, W = w.alloc (.cells (vtV n e1 l1 e2 l2 (.slice A k c)) 32) := ⟨_, rfl⟩
  have hb : Below w.heap.size w W := by rw [hW]; exact (Below.refl _ _).alloc (Nat.le_refl _) _
  have v0 : VtB w.heap.size n e1 l1 e2 l2 (.slice A k c) W := by rw [hW]; exact VtB.new
  have v1 : VtB w.heap.size n e1 l1 e2 l2 (.slice A k c) (w.alloc (.cells (vtV n e1 l1 e2 l2 (.slice A k c)) 32)) := VtB.new
  have hlt : w.heap.size < W.heap.size := v0.lt
  have hnum : (w.alloc (.cells (vtV n e1 l1 e2 l2 (.slice A k c)) 32)).cell? ⟨w.heap.size, 0, none⟩ = some (.int .i64 n) := VtB.new.num
  have HW := Lib.hid hW
  have HB := Lib.hid hb
  have V0 := Lib.hid v0
  have V1 := Lib.hid v1
  have HL := Lib.hid hlt
  clear hW hb v0 v1 hlt
  have HP1 : Hid (∀ u, Calls Try.prog 67 #[.agg (ptV e1 l1)] u fun x w' => x = .returned (.bool (mayEp e1)) ∧ Below u.heap.size u w') := fun u => refMayPoint_c e1 l1 u
  have HP2 : Hid (∀ u, Calls Try.prog 67 #[.agg (ptV e2 l2)] u fun x w' => x = .returned (.bool (mayEp e2)) ∧ Below u.heap.size u w') := fun u => refMayPoint_c e2 l2 u
  have HE := Lib.hid (show mayVt n e1 e2 k = (decide (1 ≤ n) && decide (n ≤ 64) && mayEp e1 && mayEp e2 && decide (k ≤ 4096)) from rfl)
  generalize mayEp e1 = q1 at *
  generalize mayEp e2 = q2 at *
  by_cases h1 : 1 ≤ n
  · have d1 : decide (1 ≤ n) = true := by simpa using h1
    rw [d1] at HE
    by_cases h2 : n ≤ 64
    · have d2 : decide (n ≤ 64) = true := by simpa using h2
      rw [d2] at HE
      clear h1 h2
      cases q1
      · go_enter Try.func36, Try.ntmps36
        go_wp2_with (first
          | (refine BigFrame.wpList_want rfl (fun K hK => ?_); refine wp_load_midC 29 (.tmp 12) rfl w.heap.size 1 rfl (ptC e1 l1) (ptV e1 l1) rfl _ V1.out.src Try.underlying29 rfl (size_ptV _ _) ?_; refine hK _ _ ?_; clear hK K)
          | (go_at_call 67; rw [← HW.out]; refine (HP1.out _).mono ?_; rintro e w2 ⟨rfl, b2⟩))
        go_ret
        exact ⟨by rw [HE.out]; rfl, HB.out.trans (b2.mono HB.out.size)⟩
      · go_enter Try.func36, Try.ntmps36
        go_wp2_with (first
          | (refine BigFrame.wpList_want rfl (fun K hK => ?_); refine wp_load_midC 29 (.tmp 12) rfl w.heap.size 1 rfl (ptC e1 l1) (ptV e1 l1) rfl _ V1.out.src Try.underlying29 rfl (size_ptV _ _) ?_; refine hK _ _ ?_; clear hK K)
          | (refine BigFrame.wpList_want rfl (fun K hK => ?_); refine wp_load_midC 29 (.tmp 17) rfl w.heap.size 34 rfl (ptC e2 l2) (ptV e2 l2) rfl _ (V0.out.below b2 HL.out).tgt Try.underlying29 rfl (size_ptV _ _) ?_; refine hK _ _ ?_; clear hK K)
          | (go_at_call 67; rw [← HW.out]; refine (HP1.out _).mono ?_; rintro e w2 ⟨rfl, b2⟩)
          | (go_at_call 67; refine (HP2.out _).mono ?_; rintro e w3 ⟨rfl, b3⟩; have hsig := ((V0.out.below b2 HL.out).below b3 (Nat.lt_of_lt_of_le HL.out b2.size)).sig; cases q2))
        all_goals
          go_ret
          exact ⟨by rw [HE.out]; first | rfl | (simp; omega) | simp, (HB.out.trans (b2.mono HB.out.size)).trans (b3.mono (HB.out.trans (b2.mono HB.out.size)).size)⟩
    · have d2 : decide (n ≤ 64) = false := by simpa using h2
      rw [d2] at HE
      clear h1 h2
      go_enter Try.func36, Try.ntmps36
      go_wp2_with fail
      go_ret
      exact ⟨by rw [HE.out]; rfl, by rw [← HW.out]; exact HB.out⟩
  · have d1 : decide (1 ≤ n) = false := by simpa using h1
    rw [d1] at HE
    clear h1
    go_enter Try.func36, Try.ntmps36
    go_wp2_with fail
    go_ret
    exact ⟨by rw [HE.out]; rfl, by rw [← HW.out]; exact HB.out⟩
end Go.Proofs.Ytaoddppkijopmaa
