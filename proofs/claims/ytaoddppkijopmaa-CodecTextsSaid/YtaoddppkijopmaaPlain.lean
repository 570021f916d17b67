/- Plain facts on numbers and their bytes. -/
import Derived.Test.YtaoddppkijopmaaSeen
namespace Go.Proofs.Ytaoddppkijopmaa

theorem div_step (n m : Nat) : n / 256 ^ m / 256 = n / 256 ^ (m + 1) := by rw [Nat.div_div_eq_div_mul, Nat.pow_succ]
theorem need_le (n m : Nat) (hn : n < 18446744073709551616) (h : m = 1 ∨ 256 ^ (m - 1) ≤ n) : m ≤ 8 := by
  rcases h with h | h
  · omega
  · rcases Nat.lt_or_ge 8 m with h9 | h9
    · have h1 : 256 ^ 8 ≤ 256 ^ (m - 1) := Nat.pow_le_pow_right (by omega) (by omega)
      have h2 : (256 : Nat) ^ 8 = 18446744073709551616 := by decide
      omega
    · exact h9
theorem room_mono (n m size : Nat) (h : n < 256 ^ m) (hm : m ≤ size) : n < 256 ^ size := Nat.lt_of_lt_of_le h (Nat.pow_le_pow_right (by omega) hm)
theorem none_mono (n m size : Nat) (h : 256 ^ (m - 1) ≤ n) (hm : size < m) : 256 ^ size ≤ n := Nat.le_trans (Nat.pow_le_pow_right (by omega) (by omega)) h

theorem putL_snoc (n size : Nat) : putL n (size + 1) = putL (n / 256) size ++ [UInt8.ofNat n] := by
  unfold putL
  rw [List.range_succ, List.map_append]
  congr 1
  · apply List.map_congr_left
    intro j hj
    have hj := List.mem_range.1 hj
    rw [show size + 1 - 1 - j = (size - 1 - j) + 1 by omega, Nat.div_div_eq_div_mul]
    congr 2
    rw [show 8 * (size - 1 - j + 1) = 8 + 8 * (size - 1 - j) by omega, Nat.pow_add]
  · simp
theorem num_putL (n size : Nat) : num (putL n size) = n % 256 ^ size := by
  induction size generalizing n with
  | zero => simp [putL, num, Nat.mod_one]
  | succ size ih =>
    have h := Nat.mod_mul (a := 256) (b := 256 ^ size) (x := n)
    have hp : 256 ^ (size + 1) = 256 * 256 ^ size := by rw [Nat.pow_succ, Nat.mul_comm]
    rw [putL_snoc, num_snoc, ih, UInt8.toNat_ofNat', hp, h]
    show _ + n % 256 = _
    omega
theorem num_put (n size : Nat) (h : n < 256 ^ size) : num (putL n size) = n := by rw [num_putL, Nat.mod_eq_of_lt h]
theorem putL_cons (n size : Nat) (h : n < 256 ^ size) : putL n (size + 1) = 0 :: putL n size := by
  apply List.ext_getElem?
  intro j
  rcases j with _ | j
  · simp only [putL]
    rw [List.getElem?_map, List.getElem?_range (by omega)]
    simp only [Option.map_some, List.getElem?_cons_zero]
    rw [show size + 1 - 1 - 0 = size by omega, Nat.div_eq_of_lt (by rw [← pow_8]; exact h)]
    rfl
  · rw [List.getElem?_cons_succ]
    simp only [putL]
    by_cases hj : j < size
    · rw [List.getElem?_map, List.getElem?_range (by omega), List.getElem?_map, List.getElem?_range (by omega)]
      simp only [Option.map_some]
      rw [show size + 1 - 1 - (j + 1) = size - 1 - j by omega]
    · rw [List.getElem?_eq_none (by simp; omega), List.getElem?_eq_none (by simp; omega)]
theorem putL_zero (n size m k : Nat) (h : n < 256 ^ m) (hk : k + m < size) : (putL n size)[k]? = some 0 := by
  simp only [putL]
  rw [List.getElem?_map, List.getElem?_range (by omega)]
  simp only [Option.map_some]
  rw [Nat.div_eq_of_lt (by rw [← pow_8]; exact room_mono n m _ h (by omega))]
  rfl
theorem num_append (x y : List UInt8) : num (x ++ y) = num x * 256 ^ y.length + num y := by
  have key : ∀ (y : List UInt8) (a : Nat), y.foldl (fun n x => n * 256 + x.toNat) a = a * 256 ^ y.length + y.foldl (fun n x => n * 256 + x.toNat) 0 := by
    intro y
    induction y with
    | nil => intro a; simp
    | cons b y ih =>
      intro a
      simp only [List.foldl_cons, List.length_cons]
      rw [ih (a * 256 + b.toNat), ih (0 * 256 + b.toNat), Nat.zero_mul, Nat.zero_add, Nat.pow_succ, Nat.add_mul, Nat.mul_assoc, Nat.mul_comm 256 (256 ^ y.length)]
      omega
  simp only [num, List.foldl_append]
  exact key y _
theorem num_lt4 (x : List UInt8) (h : x.length ≤ 4) : num x < 4294967296 := by
  have h1 := num_lt x
  have h2 : 256 ^ x.length ≤ 256 ^ 4 := Nat.pow_le_pow_right (by omega) h
  have h3 : (256 : Nat) ^ 4 = 4294967296 := by decide
  omega
theorem pow_lt4 (k : Nat) (h : k ≤ 4) : 256 ^ k ≤ 4294967296 := by
  have h2 : 256 ^ k ≤ 256 ^ 4 := Nat.pow_le_pow_right (by omega) h
  have h3 : (256 : Nat) ^ 4 = 4294967296 := by decide
  omega
end Go.Proofs.Ytaoddppkijopmaa
