/- ClockGreatest: the greatest of any readings. -/
import Derived.Test.YtkjlcfffalmgoaaCkRow
namespace Go.Proofs.Ytkjlcfffalmgoaa
open Go.ChangeShapes Go.WideShapes Go.ChangeAt Go.RowKit
set_option linter.unusedVariables false
set_option maxRecDepth 100000

set_option maxHeartbeats 8000000 in
theorem clockGreatest_any (w : World) (A : Option Addr) (L : List Nat) (c : Nat) (hL : ∀ x ∈ L, x < 18446744073709551616) (hr : RU w A L) : Calls Try.prog 4 #[.slice A L.length c] w fun r w' => r = .returned (.bool true) ∧ Below w.heap.size w w' := by
  by_cases hbig : 300 < L.length
  · obtain ⟨n, hn⟩ : ∃ n, n = L.length := ⟨_, rfl⟩
    rw [← hn] at hbig ⊢
    have d1 : decide ((n : Int) > 300) = true := by simp; omega
    have d1' : decide (300 < (n : Int)) = true := by simp; omega
    clear hn hr hL
    go_enter Try.func4, Try.ntmps4
    go_wp2_with fail
    refine (known_c _).mono ?_
    rintro r w1 ⟨rfl, b1⟩
    go_wp2_with fail
    go_ret
    exact ⟨rfl, b1⟩
  · have HR := Lib.hid hr
    obtain ⟨n, hn⟩ : ∃ n, n = L.length := ⟨_, rfl⟩
    have HN := Lib.hid hn
    rw [← hn] at hbig ⊢
    have d1 : decide ((n : Int) > 300) = false := by simp; omega
    have d1' : decide (300 < (n : Int)) = false := by simp; omega
    clear hn hr
    go_enter Try.func4, Try.ntmps4
    go_wp2_with (at_builtin; refine wpList_append_ru rfl (.const (Value.slice none 0 0)) (.tmp 11) rfl w.heap.size (Value.slice none 0 0) [] rfl OU.nil A c n L HN.out rfl HR.out (by have := HN.out; simp only [List.length_nil]; omega) (Nat.le_refl _) ?_; intro v1 w1 o1 g1 a1)
    rw [List.nil_append] at o1
    have B1 : Hid (Below w.heap.size w w1) := Lib.hid (Below.grown (Below.refl _ _) g1 (Nat.le_refl _) (by simp [Value.ownBlock]))
    obtain ⟨A1, c1, rfl, hc1⟩ := o1.form
    rw [← HN.out]
    have O1 := Lib.hid o1.rd
    have R1 := Lib.hid (HR.out.below B1.out (Nat.le_refl _))
    clear o1 g1 a1 hc1
    have GC := Lib.hid (greatest_c A1 c1 L (by have := HN.out; omega) w1 O1.out)
    rw [← HN.out] at GC
    by_cases h0 : n = 0
    · have hl0 : mx L = 0 := by
        have : L = [] := List.length_eq_zero_iff.1 (by have := HN.out; omega)
        rw [this]; rfl
      rw [decide_eq_false (show ¬ 1 ≤ n by omega), hl0] at GC
      subst h0
      go_wp2_with fail
      refine GC.out.mono ?_
      rintro r w2 ⟨rfl, rfl⟩
      go_wp2_with fail
      refine (known_c _).mono ?_
      rintro r w3 ⟨rfl, b3⟩
      go_wp2_with fail
      go_ret
      exact ⟨rfl, B1.out.trans (b3.mono B1.out.size)⟩
    · rw [decide_eq_true (show 1 ≤ n by omega)] at GC
      have e1 : ¬ (n : Int) = 0 := by omega
      have e2 : ((n : Int) == 0) = false := by rw [beq_eq_false_iff_ne]; omega
      have e3 : decide ((n : Int) = 0) = false := by simp; omega
      have RF := Lib.hid (fun (u : World) (h : RU u A L) => refAt_c A c L (by have := HN.out; omega) (by have := HN.out; omega) u h)
      obtain ⟨m, hm⟩ : ∃ m, m = mx L := ⟨_, rfl⟩
      rw [← HN.out, ← hm] at RF
      rw [← hm] at GC
      clear hm
      go_wp2_with fail
      refine GC.out.mono ?_
      rintro r w2 ⟨rfl, rfl⟩
      go_wp2_with fail
      go_loopw [6] (fun v6 u => ∃ i : Nat, i ≤ n ∧ v6 = .int .i64 (i : Int) ∧ ∃ q, u = w2.drewN q) (fun v6 _ => n - (intOf v6).toNat)
      case atStart => exact ⟨0, Nat.zero_le _, rfl, 0, rfl⟩
      case round =>
        obtain ⟨i, hi, rfl, q, hu⟩ := hrel
        have HU := Lib.hid hu
        by_cases hlt : i < n
        · obtain ⟨z, hz⟩ : ∃ z, L[i]? = some z := ⟨_, List.getElem?_eq_getElem (by have := HN.out; omega)⟩
          obtain ⟨xa, rfl, c3⟩ := O1.out i z hz
          obtain ⟨xb, rfl, c4⟩ := R1.out i z hz
          have c3' : wr.cell? (xa.add i) = some (.int .u64 (z : Int)) := by rw [hu]; exact c3
          have c4' : wr.cell? (xb.add i) = some (.int .u64 (z : Int)) := by rw [hu]; exact c4
          clear c3 c4 hu hz
          go_wp2_with fail
          go_quiet (fail)
          go_wp2_with fail
          exact ⟨⟨i + 1, by omega, by go_num, q + nq, by rw [HU.out, World.drewN_drewN]⟩, by simp [intOf]; omega⟩
        · obtain rfl : i = n := by omega
          have R3 : RU wr A L := by rw [hu]; exact R1.out
          have RFW := Lib.hid (RF.out wr R3)
          have B3 : Hid (Below w.heap.size w wr) := Lib.hid (by rw [hu]; exact ⟨B1.out.os, B1.out.tape, B1.out.output, B1.out.size, B1.out.block⟩)
          clear hu R3
          go_wp2_with fail
          refine RFW.out.mono ?_
          rintro r w4 ⟨rfl, rfl⟩
          go_wp2_with fail
          refine (known_c _).mono ?_
          rintro r w5 ⟨rfl, b5⟩
          go_wp2_with fail
          go_ret
          exact ⟨rfl, B3.out.trans (b5.mono B3.out.size)⟩
end Go.Proofs.Ytkjlcfffalmgoaa
