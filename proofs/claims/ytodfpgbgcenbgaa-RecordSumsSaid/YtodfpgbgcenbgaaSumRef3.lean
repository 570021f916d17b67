/- Contracts: the reference's More, Less and Sum. -/
import Derived.Test.YtodfpgbgcenbgaaSumRef2
namespace Go.Proofs.Ytodfpgbgcenbgaa
open Go.ChangeShapes Go.WideShapes Go.ChangeAt Go.RowKit
set_option linter.unusedVariables false

theorem cpl_int {s : Nat} (h : s < 4294967296) : (4294967295 : Int) - (s : Int) = ((cpl s : Nat) : Int) := by unfold cpl; omega

set_option maxHeartbeats 400000 in
theorem refMore_any (s : Nat) (A : Option Addr) (c : Nat) (l : List UInt8) (w : World) (hi : Nat) (hs : s < 4294967296) (h : Rd w 0 hi A l) (hl : l.length ≤ 9223372036854775807) :
    Calls Try.prog 15 #[.int .u32 (s : Int), .slice A l.length c] w fun e w' => e = .returned (rv (moreS s l)) ∧ w = w' := by
  have HC := Lib.hid (cpl_int hs)
  go_enter Try.func15, Try.ntmps15
  go_wp2
  rw [HC.out]
  go_loop [5, 6] (fun t i => ∃ k : Nat, k ≤ l.length ∧ i = .int .i64 k ∧ t = rv (inL (cpl s) (l.take k))) (fun _ i => l.length - (intOf i).toNat)
  case atStart => exact ⟨0, Nat.zero_le _, rfl, rfl⟩
  case round =>
    obtain ⟨k, hk, rfl, rfl⟩ := hrel
    have hr := inL_lt (l.take k) (cpl_lt s)
    unfold rv
    by_cases hlt : k < l.length
    · obtain ⟨b, off, rfl, _, _, hc⟩ := h.at_ hlt
      unfold bv at hc
      have HT := Lib.hid (inL_take (cpl s) l k hlt)
      have hx := l[k].toNat_lt
      generalize l[k].toNat = x at *
      generalize inL (cpl s) (l.take k) = q at *
      go_wp2_with fail
      refine (refIn_any q x _ hr hx).mono ?_
      rw [← HT.out]
      unfold rv
      rintro e w' ⟨rfl, rfl⟩
      go_wp2
      refine ⟨⟨k + 1, by omega, by go_num, rfl⟩, by simp [intOf]; omega⟩
    · obtain rfl : k = l.length := by omega
      rw [List.take_length] at hr ⊢
      have HD := Lib.hid (cpl_int hr)
      have HM : Hid (cpl (inL (cpl s) l) = moreS s l) := rfl
      generalize inL (cpl s) l = q at *
      go_wp2
      go_ret
      exact ⟨ret_rv (by rw [HD.out, HM.out]), rfl⟩

set_option maxHeartbeats 400000 in
theorem refLess_any (s : Nat) (A : Option Addr) (c : Nat) (l : List UInt8) (w : World) (hi : Nat) (hs : s < 4294967296) (h : Rd w 0 hi A l) (hl : l.length ≤ 9223372036854775807) :
    Calls Try.prog 13 #[.int .u32 (s : Int), .slice A l.length c] w fun e w' => e = .returned (rv (lessS s l)) ∧ w = w' := by
  have HC := Lib.hid (cpl_int hs)
  go_enter Try.func13, Try.ntmps13
  go_wp2
  rw [HC.out]
  go_loop [5, 6] (fun t i => ∃ k : Nat, k ≤ l.length ∧ i = .int .i64 ((k : Int) - 1) ∧ t = rv (outL (cpl s) (l.drop k))) (fun _ i => (intOf i + 1).toNat)
  case atStart => exact ⟨l.length, Nat.le_refl _, rfl, by rw [List.drop_length]; rfl⟩
  case round =>
    obtain ⟨k, hk, rfl, rfl⟩ := hrel
    have hr := outL_lt (l.drop k) (cpl_lt s)
    unfold rv
    rcases k with _ | k
    · rw [List.drop_zero] at hr ⊢
      have HD := Lib.hid (cpl_int hr)
      have HM : Hid (cpl (outL (cpl s) l) = lessS s l) := rfl
      generalize outL (cpl s) l = q at *
      go_wp2
      go_ret
      exact ⟨ret_rv (by rw [HD.out, HM.out]), rfl⟩
    · rw [show ((k + 1 : Nat) : Int) - 1 = (k : Int) by omega]
      have hlt : k < l.length := by omega
      obtain ⟨b, off, rfl, _, _, hc⟩ := h.at_ hlt
      unfold bv at hc
      have HT := Lib.hid (outL_drop (cpl s) l k hlt)
      have hx := l[k].toNat_lt
      generalize l[k].toNat = x at *
      generalize outL (cpl s) (l.drop (k + 1)) = q at *
      go_wp2_with fail
      refine (refOut_any q x _ hr hx).mono ?_
      rw [← HT.out]
      unfold rv
      rintro e w' ⟨rfl, rfl⟩
      go_wp2
      refine ⟨⟨k, by omega, rfl, rfl⟩, by simp [intOf]⟩

theorem refSum_any (A : Option Addr) (c : Nat) (l : List UInt8) (w : World) (hi : Nat) (h : Rd w 0 hi A l) (hl : l.length ≤ 9223372036854775807) :
    Calls Try.prog 10 #[.slice A l.length c] w fun e w' => e = .returned (rv (moreS 0 l)) ∧ w = w' := by
  have HM := Lib.hid (refMore_any 0 A c l w hi (by omega) h hl)
  unfold rv at HM ⊢
  go_enter Try.func10, Try.ntmps10
  go_wp2_with (go_at_call 15; refine HM.out.mono ?_; rintro e w' ⟨rfl, rfl⟩)
  go_ret
  exact ⟨rfl, rfl⟩
end Go.Proofs.Ytodfpgbgcenbgaa
