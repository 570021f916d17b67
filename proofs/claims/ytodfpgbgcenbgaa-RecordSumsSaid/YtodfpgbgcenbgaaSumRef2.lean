/- Contracts: the reference's In and Out. -/
import Derived.Test.YtodfpgbgcenbgaaSumRef
namespace Go.Proofs.Ytodfpgbgcenbgaa
open Go.ChangeShapes Go.WideShapes Go.ChangeAt Go.RowKit
set_option linter.unusedVariables false

theorem stpN_snoc (k r : Nat) : stpN (k + 1) r = stp (stpN k r) := stpN_add k 1 r
theorem mod_up (k x : Nat) : x % 2 ^ (k + 1) = x % 2 ^ k ^^^ 2 ^ k * (x / 2 ^ k % 2) := by
  rw [← xor_part k _ _ (Nat.mod_lt _ (Nat.two_pow_pos k)), Nat.mod_pow_succ]
/-- Behind k bits. -/
def inTo (r x k : Nat) : Nat := stpN k (r ^^^ x % 2 ^ k)
theorem inTo_step (r x k : Nat) : stp (inTo r x k ^^^ x / 2 ^ k % 2) = inTo r x (k + 1) := by
  unfold inTo
  rw [stpN_snoc, mod_up, ← Nat.xor_assoc, stpN_xor k (r ^^^ x % 2 ^ k), stpN_up]
theorem inTo_zero (r x : Nat) : inTo r x 0 = r := by unfold inTo; rw [Nat.pow_zero, Nat.mod_one, Nat.xor_zero]; rfl
theorem inTo_8 (r x : Nat) (hx : x < 256) : inTo r x 8 = inB r x := by unfold inTo inB; rw [show (2 : Nat) ^ 8 = 256 by rfl, Nat.mod_eq_of_lt hx]
theorem inTo_lt {r x : Nat} (k : Nat) (hr : r < 4294967296) (hx : x < 256) : inTo r x k < 4294967296 :=
  stpN_lt k (xor_lt hr (Nat.lt_of_le_of_lt (Nat.mod_le _ _) (by omega)))

theorem cast_bit (x k : Nat) : (x : Int) / 2 ^ k % 2 = ((x / 2 ^ k % 2 : Nat) : Int) := by simp

set_option maxHeartbeats 400000 in
theorem refIn_any (r x : Nat) (w : World) (hr : r < 4294967296) (hx : x < 256) :
    Calls Try.prog 20 #[.int .u32 (r : Int), .int .u8 (x : Int)] w fun e w' => e = .returned (rv (inB r x)) ∧ w = w' := by
  have H8 := Lib.hid (inTo_8 r x hx)
  have H0 := Lib.hid (inTo_zero r x)
  go_enter Try.func20, Try.ntmps20
  go_wp2
  go_loop [0, 5] (fun t i => ∃ k : Nat, k ≤ 8 ∧ i = .int .i64 k ∧ t = rv (inTo r x k)) (fun _ i => 8 - (intOf i).toNat)
  case atStart => exact ⟨0, by omega, rfl, by rw [H0.out]; rfl⟩
  case round =>
    obtain ⟨k, hk, rfl, rfl⟩ := hrel
    have HS := Lib.hid (inTo_step r x k)
    have hl := inTo_lt k hr hx
    have HB := Lib.hid (cast_bit x k)
    unfold rv
    by_cases hlt : k < 8
    · generalize inTo r x k = q at *
      go_wp2_with fail
      rw [HB.out]
      refine (bit_any q (x / 2 ^ k % 2) _ hl (by omega)).mono ?_
      rw [HS.out]
      unfold rv
      rintro e w' ⟨rfl, rfl⟩
      go_wp2
      refine ⟨⟨k + 1, by omega, by go_num, rfl⟩, by simp [intOf]; omega⟩
    · obtain rfl : k = 8 := by omega
      rw [H8.out]
      go_wp2
      go_ret
      exact ⟨rfl, rfl⟩

/-- Ahead of the last k bits. -/
def ouTo (r x : Nat) : Nat → Nat
  | 0 => r
  | k + 1 => ust (ouTo r x k) ^^^ x / 2 ^ (7 - k) % 2
theorem ouTo_lt {r x : Nat} (k : Nat) (hr : r < 4294967296) : ouTo r x k < 4294967296 := by
  induction k with
  | zero => exact hr
  | succ k ih => exact xor_lt (ust_lt ih) (Nat.lt_trans (Nat.mod_lt _ (by omega)) (by omega))
/-- What goes out goes in again. -/
theorem ouTo_in {r x : Nat} (k : Nat) (hk : k ≤ 8) (hr : r < 4294967296) : stp (ouTo r x (k + 1) ^^^ x / 2 ^ (7 - k) % 2) = ouTo r x k := by
  show stp ((ust (ouTo r x k) ^^^ x / 2 ^ (7 - k) % 2) ^^^ x / 2 ^ (7 - k) % 2) = _
  rw [Nat.xor_assoc, Nat.xor_self, Nat.xor_zero, stp_ust (ouTo_lt k hr)]
theorem ouTo_8 {r x : Nat} (hr : r < 4294967296) (hx : x < 256) : ouTo r x 8 = outB r x := by
  refine outB_of (ouTo_lt 8 hr) hr hx ?_
  rw [← inTo_8 _ x hx]
  have e0 := inTo_zero (ouTo r x 8) x
  have e1 : inTo (ouTo r x 8) x 1 = ouTo r x 7 := by rw [← inTo_step, e0]; exact ouTo_in 7 (by omega) hr
  have e2 : inTo (ouTo r x 8) x 2 = ouTo r x 6 := by rw [← inTo_step, e1]; exact ouTo_in 6 (by omega) hr
  have e3 : inTo (ouTo r x 8) x 3 = ouTo r x 5 := by rw [← inTo_step, e2]; exact ouTo_in 5 (by omega) hr
  have e4 : inTo (ouTo r x 8) x 4 = ouTo r x 4 := by rw [← inTo_step, e3]; exact ouTo_in 4 (by omega) hr
  have e5 : inTo (ouTo r x 8) x 5 = ouTo r x 3 := by rw [← inTo_step, e4]; exact ouTo_in 3 (by omega) hr
  have e6 : inTo (ouTo r x 8) x 6 = ouTo r x 2 := by rw [← inTo_step, e5]; exact ouTo_in 2 (by omega) hr
  have e7 : inTo (ouTo r x 8) x 7 = ouTo r x 1 := by rw [← inTo_step, e6]; exact ouTo_in 1 (by omega) hr
  rw [← inTo_step, e7]
  exact ouTo_in 0 (by omega) hr

set_option maxHeartbeats 400000 in
theorem refOut_any (r x : Nat) (w : World) (hr : r < 4294967296) (hx : x < 256) :
    Calls Try.prog 19 #[.int .u32 (r : Int), .int .u8 (x : Int)] w fun e w' => e = .returned (rv (outB r x)) ∧ w = w' := by
  have H8 := Lib.hid (ouTo_8 hr hx)
  go_enter Try.func19, Try.ntmps19
  go_wp2
  go_loop [0, 5] (fun t i => ∃ k : Nat, k ≤ 8 ∧ i = .int .i64 (7 - (k : Int)) ∧ t = rv (ouTo r x k)) (fun _ i => (intOf i + 1).toNat)
  case atStart => exact ⟨0, by omega, rfl, rfl⟩
  case round =>
    obtain ⟨k, hk, rfl, rfl⟩ := hrel
    have hl := ouTo_lt (x := x) k hr
    unfold rv
    by_cases hlt : k < 8
    · have HB := Lib.hid (cast_bit x (7 - k))
      have HS : Hid (ust (ouTo r x k) ^^^ x / 2 ^ (7 - k) % 2 = ouTo r x (k + 1)) := rfl
      generalize ouTo r x k = q at *
      obtain ⟨j, hj⟩ : ∃ j : Nat, 7 - k = j := ⟨_, rfl⟩
      rw [hj] at HB HS
      have HJ := Lib.hid hj
      have e : (7 : Int) - k = (j : Int) := by omega
      rw [e]
      have hj7 : j ≤ 7 := by omega
      have HE := Lib.hid e
      clear e hj
      go_wp2_with fail
      rw [HB.out]
      refine (gone_any q (x / 2 ^ j % 2) _ hl (by omega)).mono ?_
      rw [HS.out]
      unfold rv
      rintro e w' ⟨rfl, rfl⟩
      go_wp2
      have := HE.out
      refine ⟨⟨k + 1, by omega, congrArg (Value.int .i64) (by omega), rfl⟩, by simp [intOf]⟩
    · obtain rfl : k = 8 := by omega
      rw [H8.out]
      go_wp2
      go_ret
      exact ⟨rfl, rfl⟩
end Go.Proofs.Ytodfpgbgcenbgaa
