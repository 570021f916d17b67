/- Contract: the document's own answer to whether a name may be. -/
import Derived.Test.YtcemfpbkaahcmaaMay
import Derived.BigRegion
namespace Go.Proofs.Ytcemfpbkaahcmaa
open Go.RowKit
set_option linter.unusedVariables false

theorem mayB_short {s : Str} (h : s.length < 1 ∨ 32 < s.length) : mayB s = false := by
  unfold mayB
  have : (!s.isEmpty && decide (s.length ≤ 32)) = false := by
    rcases h with h | h
    · have : s = [] := by cases s; rfl; simp at h
      subst this; rfl
    · simp; intro _; omega
  rw [this, Bool.and_false]
set_option maxHeartbeats 4000000 in
theorem refMay_any (s : Str) (w : World) (hs : s.length ≤ maxLen) : Calls Try.prog 25 #[strV s] w fun e w' => e = .returned (.bool (mayB s)) ∧ w = w' := by
  unfold maxLen at hs
  unfold strV
  by_cases hsh : s.length < 1 ∨ 32 < s.length
  · have hno := Lib.hid (mayB_short hsh)
    go_enter Try.func25, Try.ntmps25
    rcases hsh with h | h
    · have q : (s.length : Int) < 1 := by omega
      go_wp2
      go_ret
      exact ⟨ret_bool hno.out.symm, rfl⟩
    · have q : ¬ (s.length : Int) < 1 := by omega
      have q2 : (32 : Int) < (s.length : Int) := by omega
      go_wp2
      go_ret
      exact ⟨ret_bool hno.out.symm, rfl⟩
  · have q : ¬ (s.length : Int) < 1 := by omega
    have q2 : ¬ (32 : Int) < (s.length : Int) := by omega
    have hlen := Lib.hid (show (!s.isEmpty && decide (s.length ≤ 32)) = true by
      cases s with
      | nil => simp at hsh
      | cons a r => simp at hsh ⊢; omega)
    clear hsh
    go_enter Try.func25, Try.ntmps25
    go_wp2
    clear q q2
    go_loopw [3] (fun i wr => ∃ k : Nat, k ≤ s.length ∧ i = .int .i64 k ∧ (s.take k).all okSign = true ∧ wr = w) (fun i _ => s.length - (intOf i).toNat)
    case atStart => exact ⟨0, Nat.zero_le _, rfl, rfl, rfl⟩
    case round =>
      obtain ⟨k, hk, rfl, ha, rfl⟩ := hrel
      by_cases hlt : k < s.length
      · have hsz : k < ({ data := List.toArray s } : ByteArray).size := by show k < s.toArray.size; simpa using hlt
        have q : (k : Int) < (s.length : Int) := by omega
        go_wp2
        all_goals first
          | (refine ⟨⟨k + 1, by omega, by go_num, sign_ok hlt (({ data := List.toArray s } : ByteArray)[k]'hsz) rfl (by (try simp only [Bool.not_eq_false', Bool.not_eq_true', decide_eq_true_eq, decide_eq_false_iff_not, beq_iff_eq, beq_eq_false_iff_ne, ne_eq] at *); omega) ha, by first | trivial | rfl⟩, by simp [intOf]; omega⟩)
          | (go_ret
             refine ⟨ret_bool ?_, rfl⟩
             exact (sign_no hlt (({ data := List.toArray s } : ByteArray)[k]'hsz) rfl (by (try simp only [Bool.not_eq_false', Bool.not_eq_true', decide_eq_true_eq, decide_eq_false_iff_not, beq_iff_eq, beq_eq_false_iff_ne, ne_eq] at *); omega)).symm)
      · have e : k = s.length := by omega
        subst e
        rw [List.take_length] at ha
        have q : ¬ (s.length : Int) < (s.length : Int) := by omega
        go_wp2
        go_ret
        exact ⟨ret_bool (by unfold mayB; rw [ha, hlen.out]; rfl), rfl⟩
end Go.Proofs.Ytcemfpbkaahcmaa
