/- MayVote, by links. -/
import Derived.Test.YtomfgopmgfoecaaSlEq
namespace Go.Proofs.Ytomfgopmgfoecaa
open Go.ChangeShapes Go.WideShapes Go.ChangeAt Go.RowKit
set_option linter.unusedVariables false
set_option maxRecDepth 100000

section
variable {g : Nat} {n : Int} {x : Lk} {sv : Value} {w : World}
theorem VtK.num (h : VtK g n x sv w) : w.cell? ⟨g, 0, none⟩ = some (.int .i64 n) := Fill.at_ h 0 (by omega)
theorem VtK.sig (h : VtK g n x sv w) : w.cell? ⟨g, 67, none⟩ = some sv := Fill.at_ h 67 (by omega)
end
def mayVal (n : Int) : Bool := decide (1 ≤ n) && decide (n ≤ 64)
def mayEp (e : Nat) : Bool := decide (e ≤ 4611686018427387904)
theorem mayValidator_c (n : Int) (w : World) : Calls Try.prog 51 #[.int .i64 n] w fun e w' => e = .returned (.bool (mayVal n)) ∧ w = w' := by
  by_cases h1 : 1 ≤ n
  · have d1 : decide (1 ≤ n) = true := by simpa using h1
    have HC := Lib.hid (show mayVal n = decide (n ≤ 64) by simp [mayVal, h1])
    go_enter Try.func51, Try.ntmps51
    go_wp2
    go_ret
    exact ⟨by rw [HC.out]; rfl, rfl⟩
  · have d1 : decide (1 ≤ n) = false := by simpa using h1
    have HC := Lib.hid (show mayVal n = false by simp [mayVal, h1])
    go_enter Try.func51, Try.ntmps51
    go_wp2
    go_ret
    exact ⟨by rw [HC.out]; rfl, rfl⟩
theorem mayPoint_b (e : Nat) (l : List UInt8) (w : World) :
    Calls Try.prog 52 #[.agg (ptV e l)] w fun r w' => r = .returned (.bool (mayEp e)) ∧ Below w.heap.size w w' := mayPoint_c e l w
/-- May a vote be? -/
def mayVt (n : Int) (e1 e2 k : Nat) : Bool := mayVal n && mayEp e1 && mayEp e2 && decide (k ≤ 4096)

set_option maxHeartbeats 4000000 in
theorem mayVote_c (n : Int) (x : Lk) (A : Option Addr) (k c : Nat) (w : World) :
    Calls Try.prog 42 #[.agg (vtw n x (.slice A k c))] w fun r w' => r = .returned (.bool (mayVt n x.s.e x.t.e k)) ∧ Below w.heap.size w w' := by
  obtain ⟨W, hW⟩ : ∃ W, W = w.alloc (.cells (vtw n x (.slice A k c)) 40) := ⟨_, rfl⟩
  have hb : Below w.heap.size w W := by rw [hW]; exact (Below.refl _ _).alloc (Nat.le_refl _) _
  have v0 : VtK w.heap.size n x (.slice A k c) W := by rw [hW]; exact VtK.new
  have hlt : w.heap.size < W.heap.size := v0.lt
  have HW := Lib.hid hW
  have HB := Lib.hid hb
  have V0 := Lib.hid v0
  have hnum : (w.alloc (.cells (vtw n x (.slice A k c)) 40)).cell? ⟨w.heap.size, 0, none⟩ = some (.int .i64 n) := VtK.new.num
  have HL := Lib.hid hlt
  clear hW hb v0 hlt
  have HV := Lib.hid (mayValidator_c n)
  have HP1 : Hid (∀ u, Calls Try.prog 52 #[.agg (ptV x.s.e x.s.l)] u fun r w' => r = .returned (.bool (mayEp x.s.e)) ∧ Below u.heap.size u w') := fun u => mayPoint_b x.s.e x.s.l u
  have HP2 : Hid (∀ u, Calls Try.prog 52 #[.agg (ptV x.t.e x.t.l)] u fun r w' => r = .returned (.bool (mayEp x.t.e)) ∧ Below u.heap.size u w') := fun u => mayPoint_b x.t.e x.t.l u
  have HE := Lib.hid (show mayVt n x.s.e x.t.e k = (mayVal n && mayEp x.s.e && mayEp x.t.e && decide (k ≤ 4096)) from rfl)
  generalize mayVal n = q at *
  generalize mayEp x.s.e = q1 at *
  generalize mayEp x.t.e = q2 at *
  cases q
  · go_enter Try.func42, Try.ntmps42
    go_wp2_with (first
      | (go_at_call 51; rw [← HW.out]; refine (HV.out _).mono ?_; rintro e w1 ⟨rfl, rfl⟩))
    go_ret
    exact ⟨by rw [HE.out]; rfl, HB.out⟩
  · cases q1
    · go_enter Try.func42, Try.ntmps42
      go_wp2_with (first
        | (go_at_call 51; rw [← HW.out]; refine (HV.out _).mono ?_; rintro e w1 ⟨rfl, rfl⟩)
        | (refine BigFrame.wpList_want rfl (fun K hK => ?_); refine wp_load_midC 37 (.tmp 7) rfl w.heap.size 1 rfl (pC x.s) (ptV x.s.e x.s.l) rfl _ V0.out.src Try.underlying37 rfl (size_ptV _ _) ?_; refine hK _ _ ?_; clear hK K)
        | (go_at_call 52; refine (HP1.out _).mono ?_; rintro e w2 ⟨rfl, b2⟩))
      go_ret
      exact ⟨by rw [HE.out]; rfl, HB.out.trans (b2.mono HB.out.size)⟩
    · cases q2
      · go_enter Try.func42, Try.ntmps42
        go_wp2_with (first
          | (go_at_call 51; rw [← HW.out]; refine (HV.out _).mono ?_; rintro e w1 ⟨rfl, rfl⟩)
          | (refine BigFrame.wpList_want rfl (fun K hK => ?_); refine wp_load_midC 37 (.tmp 7) rfl w.heap.size 1 rfl (pC x.s) (ptV x.s.e x.s.l) rfl _ V0.out.src Try.underlying37 rfl (size_ptV _ _) ?_; refine hK _ _ ?_; clear hK K)
          | (refine BigFrame.wpList_want rfl (fun K hK => ?_); refine wp_load_midC 37 (.tmp 12) rfl w.heap.size 34 rfl (pC x.t) (ptV x.t.e x.t.l) rfl _ (V0.out.below b2 HL.out).tgt Try.underlying37 rfl (size_ptV _ _) ?_; refine hK _ _ ?_; clear hK K)
          | (go_at_call 52; refine (HP1.out _).mono ?_; rintro e w2 ⟨rfl, b2⟩)
          | (go_at_call 52; refine (HP2.out _).mono ?_; rintro e w3 ⟨rfl, b3⟩; have hsig := ((V0.out.below b2 HL.out).below b3 (Nat.lt_of_lt_of_le HL.out b2.size)).sig))
        go_ret
        exact ⟨by rw [HE.out]; rfl, (HB.out.trans (b2.mono HB.out.size)).trans (b3.mono (HB.out.trans (b2.mono HB.out.size)).size)⟩
      · go_enter Try.func42, Try.ntmps42
        go_wp2_with (first
          | (go_at_call 51; rw [← HW.out]; refine (HV.out _).mono ?_; rintro e w1 ⟨rfl, rfl⟩)
          | (refine BigFrame.wpList_want rfl (fun K hK => ?_); refine wp_load_midC 37 (.tmp 7) rfl w.heap.size 1 rfl (pC x.s) (ptV x.s.e x.s.l) rfl _ V0.out.src Try.underlying37 rfl (size_ptV _ _) ?_; refine hK _ _ ?_; clear hK K)
          | (refine BigFrame.wpList_want rfl (fun K hK => ?_); refine wp_load_midC 37 (.tmp 12) rfl w.heap.size 34 rfl (pC x.t) (ptV x.t.e x.t.l) rfl _ (V0.out.below b2 HL.out).tgt Try.underlying37 rfl (size_ptV _ _) ?_; refine hK _ _ ?_; clear hK K)
          | (go_at_call 52; refine (HP1.out _).mono ?_; rintro e w2 ⟨rfl, b2⟩)
          | (go_at_call 52; refine (HP2.out _).mono ?_; rintro e w3 ⟨rfl, b3⟩; have hsig := ((V0.out.below b2 HL.out).below b3 (Nat.lt_of_lt_of_le HL.out b2.size)).sig))
        go_ret
        exact ⟨by rw [HE.out]; simp; omega, (HB.out.trans (b2.mono HB.out.size)).trans (b3.mono (HB.out.trans (b2.mono HB.out.size)).size)⟩
end Go.Proofs.Ytomfgopmgfoecaa
