/- Contracts: the reference's bit, gone, In, Out. -/
import Derived.Test.YtodfpgbgcenbgaaMem
import Derived.Test.YtodfpgbgcenbgaaSumPlain
import Derived.WalkKit
import Derived.ProofKit
import Derived.OpenShut
import Derived.Lib.Hide
import Derived.Outline
import Derived.WalkSpells
import Derived.WalkLawsBesides
import Derived.Laws.BitsAllLaws
namespace Go.Proofs.Ytodfpgbgcenbgaa
open Go.ChangeShapes Go.WideShapes Go.ChangeAt Go.RowKit
set_option linter.unusedVariables false

/-- A register as a value. -/
def rv (r : Nat) : Value := .int .u32 (r : Int)
theorem ret_rv {n : Int} {r : Nat} (h : n = (r : Int)) : Ending.returned (.int .u32 n) = .returned (rv r) := by rw [h]; rfl

theorem xorP (r : Nat) (h : r < 4294967296) : bits .xor .u32 (r : Int) 2197175160 = ((r ^^^ 2197175160 : Nat) : Int) := u32_xor_nat r 2197175160 h (by omega)

/-- A bit goes in: a nought into the register xor the bit. -/
theorem bit_plain (r b : Nat) (hb : b < 2) : stp (r ^^^ b) = if r % 2 = b then r / 2 else r / 2 ^^^ 2197175160 := by
  unfold stp
  rw [xor_odd, xor_div2, Nat.div_eq_of_lt hb, Nat.xor_zero]
  by_cases e : r % 2 = b
  · rw [if_pos e, if_neg (by omega)]
  · rw [if_neg e, if_pos (by omega)]

theorem bit_any (r b : Nat) (w : World) (hr : r < 4294967296) (hb : b < 2) :
    Calls Try.prog 23 #[.int .u32 (r : Int), .int .u32 (b : Int)] w fun e w' => e = .returned (rv (stp (r ^^^ b))) ∧ w = w' := by
  have HP := Lib.hid (bit_plain r b hb)
  have hx := xorP (r / 2) (by omega)
  rw [show (((r / 2 : Nat)) : Int) = (r : Int) / 2 by omega] at hx
  by_cases e : r % 2 = b
  · have d : (((r : Int) % 2) != (b : Int)) = false := by simp; omega
    have HE := Lib.hid e
    clear e
    go_enter Try.func23, Try.ntmps23
    go_wp2
    go_ret
    exact ⟨ret_rv (by rw [HP.out, if_pos HE.out]; omega), rfl⟩
  · have d : (((r : Int) % 2) != (b : Int)) = true := by simp; omega
    have HE := Lib.hid e
    clear e
    go_enter Try.func23, Try.ntmps23
    go_wp2
    go_ret
    exact ⟨ret_rv (by rw [HP.out, if_neg HE.out]), rfl⟩

/-- A bit goes out. -/
theorem gone_plain (r b : Nat) (hr : r < 4294967296) (hb : b < 2) : ust r ^^^ b = if 2147483648 ≤ r then (r ^^^ 2197175160) * 2 + 1 - b else r * 2 + b := by
  unfold ust
  have h0 : b = 0 ∨ b = 1 := by omega
  have hx : ∀ y : Nat, y * 2 ^^^ 1 = y * 2 + 1 := fun y => by
    have := xor_part 1 1 y (by omega)
    rw [Nat.pow_one, Nat.mul_comm 2 y] at this
    rw [Nat.xor_comm]
    omega
  have hy : ∀ y : Nat, (y * 2 + 1) ^^^ 1 = y * 2 := fun y => by rw [← hx, Nat.xor_assoc, Nat.xor_self, Nat.xor_zero]
  rcases h0 with rfl | rfl
  · split <;> simp
  · split
    · rw [hy]; omega
    · rw [hx]

theorem gone_any (r b : Nat) (w : World) (hr : r < 4294967296) (hb : b < 2) :
    Calls Try.prog 22 #[.int .u32 (r : Int), .int .u32 (b : Int)] w fun e w' => e = .returned (rv (ust r ^^^ b)) ∧ w = w' := by
  have HP := Lib.hid (gone_plain r b hr hb)
  have hx := xorP r hr
  by_cases e : 2147483648 ≤ r
  · have HU := Lib.hid (show ust r = (r ^^^ 2197175160) * 2 + 1 by unfold ust; rw [if_pos e])
    have hl := ust_lt hr
    rw [HU.out] at hl
    have d : decide ((2147483648 : Int) ≤ (r : Int)) = true := by simp; omega
    have HE := Lib.hid e
    generalize hq : r ^^^ 2197175160 = q at *
    go_enter Try.func22, Try.ntmps22
    go_wp2
    go_ret
    exact ⟨ret_rv (by rw [HP.out, if_pos HE.out]; omega), rfl⟩
  · have d : decide ((2147483648 : Int) ≤ (r : Int)) = false := by simp; omega
    have HE := Lib.hid e
    have e' : r < 2147483648 := by omega
    clear e hx
    go_enter Try.func22, Try.ntmps22
    go_wp2
    go_ret
    exact ⟨ret_rv (by rw [HP.out, if_neg HE.out]; omega), rfl⟩

end Go.Proofs.Ytodfpgbgcenbgaa
