/- Plain: numbers by digits of 16 bits; roots; the first primes. -/
import Derived.Test.YthjeanjodhafjaaDoorShaPlain
namespace Go.Proofs.YthjeanjodhafjaaDoor
set_option linter.unusedVariables false

/-- The number of the first n digits. -/
def val (f : Nat → Nat) : Nat → Nat
  | 0 => 0
  | n + 1 => val f n + f n * 65536 ^ n
theorem val_lt (f : Nat → Nat) (n : Nat) (h : ∀ j, j < n → f j < 65536) : val f n < 65536 ^ n := by
  induction n with
  | zero => exact Nat.one_pos
  | succ n ih =>
    have h1 := ih (fun j hj => h j (by omega))
    have h2 := h n (by omega)
    rw [val, Nat.pow_succ]
    generalize 65536 ^ n = p at *
    have : f n * p ≤ 65535 * p := Nat.mul_le_mul_right p (by omega)
    omega
/-- One digit is another one. -/
def setD (f : Nat → Nat) (m d : Nat) : Nat → Nat := fun j => if j = m then d else f j
theorem val_set (f : Nat → Nat) (m d n : Nat) : val (setD f m d) n + (if m < n then f m * 65536 ^ m else 0) = val f n + (if m < n then d * 65536 ^ m else 0) := by
  induction n with
  | zero => simp [val]
  | succ n ih =>
    rw [val, val]
    by_cases h1 : m < n
    · rw [if_pos h1, if_pos h1] at ih
      rw [if_pos (by omega), if_pos (by omega), show setD f m d n = f n from if_neg (by omega)]
      omega
    · rw [if_neg h1, if_neg h1] at ih
      by_cases h2 : m = n
      · subst h2
        rw [if_pos (by omega), if_pos (by omega), show setD f m d m = d from if_pos rfl]
        omega
      · rw [if_neg (by omega), if_neg (by omega), show setD f m d n = f n from if_neg (by omega)]
        omega
theorem setD_lt (f : Nat → Nat) (m d : Nat) (h : ∀ j, f j < 65536) (hd : d < 65536) : ∀ j, setD f m d j < 65536 := by
  intro j
  unfold setD
  split
  · exact hd
  · exact h j
theorem val_mono (f : Nat → Nat) (m n : Nat) (h : m ≤ n) : val f m ≤ val f n := by
  induction n with
  | zero => obtain rfl : m = 0 := (by omega); exact Nat.le_refl _
  | succ n ih =>
    by_cases e : m = n + 1
    · rw [e]; exact Nat.le_refl _
    · exact Nat.le_trans (ih (by omega)) (Nat.le_add_right _ _)
/-- A number below a power has no digit above. -/
theorem val_small (f : Nat → Nat) (m n : Nat) (h : m ≤ n) (hv : val f n < 65536 ^ m) : val f m = val f n := by
  induction n with
  | zero => obtain rfl : m = 0 := (by omega); rfl
  | succ n ih =>
    by_cases e : m = n + 1
    · rw [e]
    · rw [val] at hv ⊢
      have hp : 65536 ^ m ≤ 65536 ^ n := Nat.pow_le_pow_right (by omega) (by omega)
      have h0 : f n = 0 := by
        rcases Nat.eq_zero_or_pos (f n) with h | h
        · exact h
        · have : 1 * 65536 ^ n ≤ f n * 65536 ^ n := Nat.mul_le_mul_right _ h
          omega
      rw [h0, Nat.zero_mul, Nat.add_zero] at hv ⊢
      exact ih (by omega) hv
/-- One row of a product is done. -/
theorem times_row (f g : Nat → Nat) (i X c : Nat) (hi : i < 12) (hX : X < 65536 ^ 12) (hp : val f 12 * val g 12 < 65536 ^ 12) (h : X + c * 65536 ^ 12 = val f i * val g 12 + f i * 65536 ^ i * val g (12 - i)) : X = val f (i + 1) * val g 12 := by
  have key : f i * 65536 ^ i * val g (12 - i) = f i * 65536 ^ i * val g 12 := by
    rcases Nat.eq_zero_or_pos (f i) with h0 | h0
    · rw [h0, Nat.zero_mul, Nat.zero_mul, Nat.zero_mul]
    · have h1 : 65536 ^ i ≤ val f 12 := by
        have : val f (i + 1) ≤ val f 12 := val_mono f _ _ (by omega)
        rw [val] at this
        have h2 : 1 * 65536 ^ i ≤ f i * 65536 ^ i := Nat.mul_le_mul_right _ h0
        omega
      have h2 : 65536 ^ i * val g 12 ≤ val f 12 * val g 12 := Nat.mul_le_mul_right _ h1
      have h3 : 65536 ^ i * val g 12 < 65536 ^ i * 65536 ^ (12 - i) := by
        rw [← Nat.pow_add, show i + (12 - i) = 12 by omega]
        omega
      have h4 : val g 12 < 65536 ^ (12 - i) := Nat.lt_of_mul_lt_mul_left h3
      rw [val_small g (12 - i) 12 (by omega) h4]
  rw [key, ← Nat.add_mul] at h
  have e : val f (i + 1) = val f i + f i * 65536 ^ i := rfl
  rw [← e] at h
  have h1 : val f (i + 1) * val g 12 ≤ val f 12 * val g 12 := Nat.mul_le_mul_right _ (val_mono f _ _ (by omega))
  have hc : c = 0 := by
    rcases Nat.eq_zero_or_pos c with h0 | h0
    · exact h0
    · have : 1 * 65536 ^ 12 ≤ c * 65536 ^ 12 := Nat.mul_le_mul_right _ h0
      omega
  subst hc
  omega
/-- One digit of a row. -/
theorem times_step (f g h : Nat → Nat) (P i k c s : Nat) (hik : i + k < 12) (hs : s = h (i + k) + f i * g k + c) (hI : val h 12 + c * 65536 ^ (i + k) = P + f i * 65536 ^ i * val g k) :
    val (setD h (i + k) (s % 65536)) 12 + s / 65536 * 65536 ^ (i + (k + 1)) = P + f i * 65536 ^ i * val g (k + 1) := by
  have h1 := val_set h (i + k) (s % 65536) 12
  rw [if_pos hik, if_pos hik] at h1
  have e1 : 65536 ^ (i + (k + 1)) = 65536 * 65536 ^ (i + k) := by rw [← Nat.add_assoc, Nat.pow_succ, Nat.mul_comm]
  have e2 : f i * 65536 ^ i * val g (k + 1) = f i * 65536 ^ i * val g k + f i * g k * 65536 ^ (i + k) := by
    rw [val, Nat.mul_add, Nat.pow_add]
    congr 1
    rw [Nat.mul_mul_mul_comm]
  rw [e1, e2]
  generalize 65536 ^ (i + k) = w at *
  generalize val (setD h (i + k) (s % 65536)) 12 = V' at *
  generalize val h 12 = V at *
  generalize f i * 65536 ^ i * val g k = T at *
  generalize f i * g k = m at *
  have e3 : s / 65536 * (65536 * w) + s % 65536 * w = s * w := by
    rw [← Nat.mul_assoc, ← Nat.add_mul, Nat.div_add_mod' s 65536]
  have e4 : s * w = h (i + k) * w + m * w + c * w := by rw [hs, Nat.add_mul, Nat.add_mul]
  omega
/-- Of two numbers the greater one is told by the highest digit that is not the same. -/
theorem val_above (f g : Nat → Nat) (n i : Nat) (hf : ∀ j, f j < 65536) (hg : ∀ j, g j < 65536) (hi : i < n) (he : ∀ j, i < j → j < n → f j = g j) (hne : f i ≠ g i) : (val g n < val f n ↔ g i < f i) := by
  induction n with
  | zero => omega
  | succ n ih =>
    by_cases e : i = n
    · subst e
      rw [val, val]
      have h1 := val_lt f i (fun j _ => hf j)
      have h2 := val_lt g i (fun j _ => hg j)
      generalize 65536 ^ i = p at *
      constructor
      · intro h
        rcases Nat.lt_or_gt_of_ne hne with h3 | h3
        · have : (f i + 1) * p ≤ g i * p := Nat.mul_le_mul_right _ h3
          rw [Nat.add_mul, Nat.one_mul] at this
          omega
        · exact h3
      · intro h3
        have : (g i + 1) * p ≤ f i * p := Nat.mul_le_mul_right _ h3
        rw [Nat.add_mul, Nat.one_mul] at this
        omega
    · have h1 := ih (by omega) (fun j h2 h3 => he j h2 (by omega))
      rw [val, val, he n (by omega) (by omega)]
      omega
theorem val_same (f g : Nat → Nat) (n : Nat) (he : ∀ j, j < n → f j = g j) : val f n = val g n := by
  induction n with
  | zero => rfl
  | succ n ih => rw [val, val, ih (fun j hj => he j (by omega)), he n (by omega)]
/-- The digits of a number. -/
def dgs (n : Nat) : Nat → Nat := fun j => n / 65536 ^ j % 65536
theorem dgs_lt (n j : Nat) : dgs n j < 65536 := Nat.mod_lt _ (by omega)
theorem val_dgs (n k : Nat) : val (dgs n) k = n % 65536 ^ k := by
  induction k with
  | zero => simp [val, Nat.mod_one]
  | succ k ih =>
    rw [val, ih, dgs, Nat.pow_succ, Nat.mod_mul, Nat.mul_comm (n / 65536 ^ k % 65536)]

/-- The root so far, from a bit on down. -/
def rootTo (p power : Nat) : Nat → Nat
  | 0 => 0
  | k + 1 => if (rootTo p power k + 2 ^ (37 - k)) ^ power ≤ p * 65536 ^ (2 * power) then rootTo p power k + 2 ^ (37 - k) else rootTo p power k
def fracN (p power : Nat) : Nat := rootTo p power 38 % 4294967296
/-- The primes so far: the numbers from 2 on, k of them looked at. -/
def prTo : Nat → List Nat
  | 0 => []
  | k + 1 => if (prTo k).all (fun p => decide ((k + 2) % p ≠ 0)) then prTo k ++ [k + 2] else prTo k
def primesL : List Nat := prTo 310
theorem roots_ok : (List.range 64).all (fun i => decide (fracN (primesL.getD i 0) 3 = kN i)) = true := by decide +kernel
theorem roots_ok2 : (List.range 8).all (fun i => decide (fracN (primesL.getD i 0) 2 = hN i)) = true := by decide +kernel
theorem primes_len : primesL.length = 64 := by decide +kernel
theorem primes_less : (List.range 310).all (fun k => decide ((prTo k).length < 64)) = true := by decide +kernel
end Go.Proofs.YthjeanjodhafjaaDoor
