/- Contract: may a name be? -/
import Derived.Test.YtcemfpbkaahcmaaNone
import Derived.Laws.IdiomStrings
namespace Go.Proofs.Ytcemfpbkaahcmaa
open Go.RowKit
set_option linter.unusedVariables false

theorem sign_ok {s : Str} {k : Nat} (h : k < s.length) (x : UInt8) (e : x = s[k]) (hx : (97 ≤ (x.toNat : Int) ∧ (x.toNat : Int) ≤ 122) ∨ (48 ≤ (x.toNat : Int) ∧ (x.toNat : Int) ≤ 57) ∨ (x.toNat : Int) = 46 ∨ (x.toNat : Int) = 45) (ha : (s.take k).all okSign = true) : (s.take (k + 1)).all okSign = true := by
  rw [List.take_succ_eq_append_getElem h, List.all_append, ha, ← e]
  simp [okSign]
  omega
theorem sign_no {s : Str} {k : Nat} (h : k < s.length) (x : UInt8) (e : x = s[k]) (hx : ¬((97 ≤ (x.toNat : Int) ∧ (x.toNat : Int) ≤ 122) ∨ (48 ≤ (x.toNat : Int) ∧ (x.toNat : Int) ≤ 57) ∨ (x.toNat : Int) = 46 ∨ (x.toNat : Int) = 45)) : mayB s = false := by
  unfold mayB
  have : s.all okSign = false := by
    rw [List.all_eq_false]
    refine ⟨s[k], List.getElem_mem h, ?_⟩
    rw [← e]
    simp [okSign]
    omega
  rw [this]; rfl
theorem ret_bool {a b : Bool} (h : a = b) : Ending.returned (.bool a) = .returned (.bool b) := by rw [h]

set_option maxHeartbeats 1000000 in
theorem may_any (s : Str) (w : World) (hs : s.length ≤ maxLen) : Calls Try.prog 47 #[strV s] w fun e w' => e = .returned (.bool (mayB s)) ∧ w = w' := by
  unfold maxLen at hs
  unfold strV
  go_enter Try.func47, Try.ntmps47
  go_wp2
  go_loop [7] (fun i => ∃ k : Nat, k ≤ s.length ∧ i = .int .i64 k ∧ (s.take k).all okSign = true) (fun i => s.length - (intOf i).toNat)
  case atStart => exact ⟨0, Nat.zero_le _, rfl, rfl⟩
  case round =>
    obtain ⟨k, hk, rfl, ha⟩ := hrel
    by_cases hlt : k < s.length
    · have hsz : k < ({ data := List.toArray s } : ByteArray).size := by show k < s.toArray.size; simpa using hlt
      go_wp2
      all_goals first
        | (go_round
           case rel => exact ⟨k + 1, by omega, by go_num, sign_ok hlt (({ data := List.toArray s } : ByteArray)[k]'hsz) rfl (by simp only [beq_iff_eq, beq_eq_false_iff_ne, ne_eq] at *; omega) ha⟩
           case measure => simp [intOf]; omega)
        | (go_ret
           refine ⟨ret_bool ?_, rfl⟩
           exact (sign_no hlt (({ data := List.toArray s } : ByteArray)[k]'hsz) rfl (by simp only [beq_eq_false_iff_ne, ne_eq] at *; omega)).symm)
    · have e : k = s.length := by omega
      subst e
      rw [List.take_length] at ha
      have hm : mayB s = (!s.isEmpty && decide ((s.length : Int) ≤ 32)) := by
        unfold mayB
        rw [ha, Bool.true_and]
        congr 1
        simp
        omega
      have HM := Lib.hid hm
      clear hm
      go_wp2
      all_goals go_ret
      all_goals refine ⟨ret_bool ?_, rfl⟩
      · rfl
      · exact HM.out.symm
end Go.Proofs.Ytcemfpbkaahcmaa
