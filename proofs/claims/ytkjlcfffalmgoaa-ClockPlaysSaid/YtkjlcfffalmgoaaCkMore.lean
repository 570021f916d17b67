/- The greatest of some, the same of two, and the chapter's rows. -/
import Derived.Test.YtkjlcfffalmgoaaCkRef
namespace Go.Proofs.Ytkjlcfffalmgoaa
open Go.ChangeShapes Go.WideShapes Go.ChangeAt Go.RowKit
set_option linter.unusedVariables false
set_option maxRecDepth 100000

set_option maxHeartbeats 4000000 in
theorem max_c (A : Option Addr) (c : Nat) (L : List Nat) (hL : 1 ≤ L.length) (hl : L.length ≤ 2000000000) (w : World) (h : RU w A L) : Calls Try.prog 22 #[.slice A L.length c] w fun e w' => e = .returned (.int .u64 ((mx L : Nat) : Int)) ∧ w' = w := by
  obtain ⟨l0, hl0⟩ : ∃ z, L[0]? = some z := ⟨_, List.getElem?_eq_getElem (by omega)⟩
  obtain ⟨xa, rfl, c0⟩ := h 0 l0 hl0
  have H := Lib.hid h
  obtain ⟨n, hn⟩ : ∃ n, n = L.length := ⟨_, rfl⟩
  rw [← hn] at hl hL ⊢
  have HN := Lib.hid hn
  have e0 : xa.add 0 = xa := rfl
  rw [e0] at c0
  have M1 : Hid (mx (L.take 1) = l0) := Lib.hid (by rw [mx_take hl0]; simp [mx])
  have dl : decide ((n : Int) < 1) = false := by simp; omega
  clear h hn e0 hl0
  go_enter Try.func22, Try.ntmps22
  go_wp2_with fail
  go_loopw [3, 4] (fun v3 v4 u => ∃ i : Nat, 1 ≤ i ∧ i ≤ n ∧ v4 = .int .i64 (i : Int) ∧ v3 = .int .u64 ((mx (L.take i) : Nat) : Int) ∧ u = w) (fun _ v4 _ => n - (intOf v4).toNat)
  case atStart => exact ⟨1, by omega, hL, rfl, by rw [M1.out], rfl⟩
  case round =>
    obtain ⟨i, hi1, hi, rfl, rfl, rfl⟩ := hrel
    by_cases hlt : i < n
    · obtain ⟨z, hz⟩ : ∃ z, L[i]? = some z := ⟨_, List.getElem?_eq_getElem (by have := HN.out; omega)⟩
      obtain ⟨xb, hb, c1⟩ := H.out i z hz
      injection hb with hb
      subst hb
      obtain ⟨m, hm⟩ : ∃ m, m = mx (L.take i) := ⟨_, rfl⟩
      have hm2 : Hid (mx (L.take (i + 1)) = max m z) := Lib.hid (by rw [mx_take hz]; omega)
      rw [← hm]
      clear hm hz c0
      go_wp2_with fail
      refine ⟨⟨i + 1, by omega, by omega, by go_num, ?_, trivial⟩, by simp [intOf]; omega⟩
      rw [hm2.out]
      congr 1
      split <;> omega
    · obtain rfl : i = n := by omega
      go_wp2_with fail
      go_ret
      refine ⟨?_, rfl⟩
      rw [HN.out, List.take_length]
      rfl
set_option maxHeartbeats 4000000 in
theorem greatest_c (A : Option Addr) (c : Nat) (L : List Nat) (hl : L.length ≤ 2000000000) (w : World) (h : RU w A L) : Calls Try.prog 19 #[.slice A L.length c] w fun e w' => e = .returned (.tuple #[.int .u64 ((mx L : Nat) : Int), .bool (decide (1 ≤ L.length))]) ∧ w' = w := by
  by_cases hL : 1 ≤ L.length
  · have MC := Lib.hid (max_c A c L hL hl w h)
    rw [decide_eq_true hL]
    obtain ⟨n, hn⟩ : ∃ n, n = L.length := ⟨_, rfl⟩
    rw [← hn] at hL MC ⊢
    have d1 : decide ((n : Int) = 0) = false := by simp; omega
    have d2 : ¬ (n : Int) = 0 := by omega
    have d3 : ((n : Int) == 0) = false := by rw [beq_eq_false_iff_ne]; omega
    clear hn h hl
    go_enter Try.func19, Try.ntmps19
    go_wp2_with fail
    refine MC.out.mono ?_
    rintro e w1 ⟨rfl, rfl⟩
    go_wp2_with fail
    go_ret2
    exact ⟨rfl, rfl⟩
  · obtain rfl : L = [] := List.length_eq_zero_iff.1 (by omega)
    rw [decide_eq_false hL]
    go_enter Try.func19, Try.ntmps19
    go_wp2_with fail
    go_ret2
    exact ⟨rfl, rfl⟩
set_option maxHeartbeats 4000000 in
theorem same_any (v1 v2 : Value) (b1 b2 : Bool) (a1 a2 : Nat) (w : World)
    (I1 : Calls Try.prog 21 #[v1] w fun e w' => e = .returned (.bool b1) ∧ w' = w) (I2 : Calls Try.prog 21 #[v2] w fun e w' => e = .returned (.bool b2) ∧ w' = w)
    (A1 : Calls Try.prog 10 #[v1] w fun e w' => e = .returned (.int .u64 (a1 : Int)) ∧ w' = w) (A2 : Calls Try.prog 10 #[v2] w fun e w' => e = .returned (.int .u64 (a2 : Int)) ∧ w' = w) :
    Calls Try.prog 18 #[v1, v2] w fun e w' => e = .returned (.bool ((b1 == b2) && decide (a1 = a2))) ∧ w' = w := by
  have HI1 := Lib.hid I1
  have HI2 := Lib.hid I2
  have HA1 := Lib.hid A1
  have HA2 := Lib.hid A2
  clear I1 I2 A1 A2
  by_cases hb : b1 = b2
  · subst hb
    by_cases ha : a1 = a2
    · subst ha
      have e1 : ((b1 == b1) && decide (a1 = a1)) = true := by simp
      rw [e1]
      go_enter Try.func18, Try.ntmps18
      go_wp2_with fail
      refine HI1.out.mono ?_
      rintro e w1 ⟨rfl, rfl⟩
      go_wp2_with fail
      refine HI2.out.mono ?_
      rintro e w1 ⟨rfl, rfl⟩
      go_wp2_with fail
      refine HA1.out.mono ?_
      rintro e w1 ⟨rfl, rfl⟩
      go_wp2_with fail
      refine HA2.out.mono ?_
      rintro e w1 ⟨rfl, rfl⟩
      go_wp2_with fail
      go_ret
      exact ⟨rfl, rfl⟩
    · have e1 : ((b1 == b1) && decide (a1 = a2)) = false := by simp [ha]
      have d1 : decide ((a1 : Int) = (a2 : Int)) = false := by simp; omega
      have d2 : ((a1 : Int) == (a2 : Int)) = false := by rw [beq_eq_false_iff_ne]; omega
      have d3 : ¬ (a1 : Int) = (a2 : Int) := by omega
      rw [e1]
      go_enter Try.func18, Try.ntmps18
      go_wp2_with fail
      refine HI1.out.mono ?_
      rintro e w1 ⟨rfl, rfl⟩
      go_wp2_with fail
      refine HI2.out.mono ?_
      rintro e w1 ⟨rfl, rfl⟩
      go_wp2_with fail
      refine HA1.out.mono ?_
      rintro e w1 ⟨rfl, rfl⟩
      go_wp2_with fail
      refine HA2.out.mono ?_
      rintro e w1 ⟨rfl, rfl⟩
      go_wp2_with fail
      go_ret
      exact ⟨rfl, rfl⟩
  · have hbb : (b1 == b2) = false := by simpa using hb
    rw [hbb, Bool.false_and]
    go_enter Try.func18, Try.ntmps18
    go_wp2_with fail
    refine HI1.out.mono ?_
    rintro e w1 ⟨rfl, rfl⟩
    go_wp2_with fail
    refine HI2.out.mono ?_
    rintro e w1 ⟨rfl, rfl⟩
    go_wp2_with fail
    go_ret
    exact ⟨rfl, rfl⟩
end Go.Proofs.Ytkjlcfffalmgoaa
