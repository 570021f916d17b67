/- Plain facts: bits turned over within 32 that follow one another are told. -/
import Derived.Test.YtodfpgbgcenbgaaSumPlain
namespace Go.Proofs.Ytodfpgbgcenbgaa
set_option linter.unusedVariables false

/-- A bit of a byte turned over. -/
def flipB (x : UInt8) (b : Nat) : UInt8 := UInt8.ofNat (x.toNat ^^^ 2 ^ b)
theorem flipB_toNat (x : UInt8) (b : Nat) (hb : b < 8) : (flipB x b).toNat = x.toNat ^^^ 2 ^ b := by
  unfold flipB
  rw [UInt8.toNat_ofNat']
  exact Nat.mod_eq_of_lt (xor_lt8 x.toNat_lt (Nat.pow_lt_pow_right (by omega) hb))
/-- A bit of bytes turned over, at a place from the front. -/
def flipL : List UInt8 → Nat → Nat → List UInt8
  | [], _, _ => []
  | x :: l, 0, b => flipB x b :: l
  | x :: l, i + 1, b => x :: flipL l i b
theorem flipL_length (l : List UInt8) (i b : Nat) : (flipL l i b).length = l.length := by
  induction l generalizing i with
  | nil => rfl
  | cons x l ih => cases i with
    | zero => rfl
    | succ i => simp only [flipL, List.length_cons, ih]
theorem flipL_set (l : List UInt8) (i b : Nat) (h : i < l.length) : flipL l i b = l.set i (flipB l[i] b) := by
  induction l generalizing i with
  | nil => simp at h
  | cons x l ih => cases i with
    | zero => rfl
    | succ i => simp only [flipL, List.set_cons_succ, List.getElem_cons_succ]; rw [ih i (by simpa using h)]
theorem mul_xor (n a b : Nat) : 2 ^ n * (a ^^^ b) = 2 ^ n * a ^^^ 2 ^ n * b := by
  rw [Nat.mul_comm, Nat.mul_comm _ a, Nat.mul_comm _ b, ← Nat.shiftLeft_eq, ← Nat.shiftLeft_eq, ← Nat.shiftLeft_eq, Nat.shiftLeft_xor_distrib]
theorem leN_flip (l : List UInt8) (i b : Nat) (h : i < l.length) (hb : b < 8) : leN (flipL l i b) = leN l ^^^ 2 ^ (8 * i + b) := by
  induction l generalizing i with
  | nil => simp at h
  | cons x l ih =>
    have hx : x.toNat < 2 ^ 8 := x.toNat_lt
    have e : ∀ y : Nat, x.toNat + 256 * y = x.toNat ^^^ 2 ^ 8 * y := fun y => xor_part 8 x.toNat y hx
    cases i with
    | zero =>
      have hf := flipB_toNat x b hb
      have hl : (flipB x b).toNat < 2 ^ 8 := (flipB x b).toNat_lt
      simp only [flipL, leN]
      have e2 := xor_part 8 (flipB x b).toNat (leN l) hl
      rw [show (2 : Nat) ^ 8 * leN l = 256 * leN l by rfl] at e2
      rw [e2, e, hf, Nat.mul_zero, Nat.zero_add, Nat.xor_assoc, Nat.xor_comm (2 ^ b), ← Nat.xor_assoc]
    | succ i =>
      simp only [flipL, leN]
      rw [e, e, ih i (by simpa using h), mul_xor, ← Nat.xor_assoc, ← Nat.pow_add, show 8 * (i + 1) + b = 8 + (8 * i + b) by omega]

/-- Behind k of the 32 bits. -/
def flipTo (l : List UInt8) (a f : Nat) : Nat → List UInt8
  | 0 => l
  | k + 1 => if f / 2 ^ k % 2 = 1 then flipL (flipTo l a f k) ((a + k) / 8) ((a + k) % 8) else flipTo l a f k
theorem flipTo_length (l : List UInt8) (a f k : Nat) : (flipTo l a f k).length = l.length := by
  induction k with
  | zero => rfl
  | succ k ih =>
    simp only [flipTo]
    split
    · rw [flipL_length, ih]
    · exact ih
theorem mod_up' (k x : Nat) : x % 2 ^ (k + 1) = x % 2 ^ k ^^^ 2 ^ k * (x / 2 ^ k % 2) := by
  rw [← xor_part k _ _ (Nat.mod_lt _ (Nat.two_pow_pos k)), Nat.mod_pow_succ]
theorem leN_flipTo (l : List UInt8) (a f k : Nat) (hk : a + k ≤ 8 * l.length) : leN (flipTo l a f k) = leN l ^^^ 2 ^ a * (f % 2 ^ k) := by
  induction k with
  | zero => simp [flipTo, Nat.mod_one]
  | succ k ih =>
    have ih := ih (by omega)
    simp only [flipTo]
    rw [mod_up', mul_xor, ← Nat.xor_assoc, ← ih]
    split
    · next h1 =>
      rw [leN_flip _ _ _ (by rw [flipTo_length]; omega) (by omega), h1, Nat.mul_one, ← Nat.pow_add]
      congr 2
      omega
    · next h1 =>
      have h0 : f / 2 ^ k % 2 = 0 := by omega
      rw [h0, Nat.mul_zero, Nat.mul_zero, Nat.xor_zero]
/-- It is told. -/
theorem flip_told (l : List UInt8) (a f : Nat) (hf : f < 4294967296) (h0 : f ≠ 0) (ha : a + 32 ≤ 8 * l.length) : moreS 0 (flipTo l a f 32) ≠ moreS 0 l := by
  intro h
  have h1 := cpl_inj (inL_lt _ (cpl_lt 0)) (inL_lt _ (cpl_lt 0)) h
  rw [inL_le, inL_le, flipTo_length, leN_flipTo l a f 32 ha, Nat.mod_eq_of_lt (show f < 2 ^ 32 from hf), ← Nat.xor_assoc, stpN_xor _ (cpl 0 ^^^ leN l)] at h1
  have h2 : stpN (8 * l.length) (2 ^ a * f) = 0 := by
    apply xor_cancel (c := stpN (8 * l.length) (cpl 0 ^^^ leN l))
    rw [Nat.zero_xor, Nat.xor_comm]
    exact h1
  rw [show 8 * l.length = a + (8 * l.length - a) by omega, stpN_add, stpN_up] at h2
  exact h0 (stpN_eq_zero _ hf h2)
end Go.Proofs.Ytodfpgbgcenbgaa
