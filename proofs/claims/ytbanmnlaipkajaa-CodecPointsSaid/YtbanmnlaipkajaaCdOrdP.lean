/- The order of bytes, and of checkpoints, plainly. -/
import Derived.Test.YtbanmnlaipkajaaCdLess
import Derived.Test.YtbanmnlaipkajaaCdPt
namespace Go.Proofs.Ytbanmnlaipkajaa
open Go.RowKit
set_option linter.unusedVariables false

theorem cmpB_self : ∀ a : List UInt8, Lib.compareBytes a a = 0
  | [] => rfl
  | x :: a => by
    unfold Lib.compareBytes
    rw [if_neg (UInt8.lt_irrefl x), if_neg (UInt8.lt_irrefl x)]
    exact cmpB_self a
theorem cmpB_zero : ∀ a b : List UInt8, Lib.compareBytes a b = 0 → a = b
  | [], [] => fun _ => rfl
  | [], _ :: _ => fun h => by simp [Lib.compareBytes] at h
  | _ :: _, [] => fun h => by simp [Lib.compareBytes] at h
  | x :: a, y :: b => fun h => by
    unfold Lib.compareBytes at h
    by_cases h1 : x < y
    · rw [if_pos h1] at h; cases h
    · rw [if_neg h1] at h
      by_cases h2 : y < x
      · rw [if_pos h2] at h; cases h
      · rw [if_neg h2] at h
        have e : x = y := UInt8.le_antisymm (UInt8.not_lt.1 h2) (UInt8.not_lt.1 h1)
        rw [e, cmpB_zero a b h]
theorem cmpB_neg : ∀ a b : List UInt8, Lib.compareBytes b a = - Lib.compareBytes a b
  | [], [] => rfl
  | [], _ :: _ => rfl
  | _ :: _, [] => rfl
  | x :: a, y :: b => by
    unfold Lib.compareBytes
    by_cases h1 : x < y
    · rw [if_pos h1, if_neg (UInt8.lt_asymm h1), if_pos h1]; decide
    · by_cases h2 : y < x
      · rw [if_pos h2, if_neg h1, if_pos h2]
      · rw [if_neg h2, if_neg h1, if_neg h1, if_neg h2]
        exact cmpB_neg a b
theorem cmpB_trans : ∀ a b c : List UInt8, Lib.compareBytes a b < 0 → Lib.compareBytes b c < 0 → Lib.compareBytes a c < 0
  | [], [], _ => fun h _ => by simp [Lib.compareBytes] at h
  | _ :: _, [], _ => fun h _ => by simp [Lib.compareBytes] at h
  | _, _ :: _, [] => fun _ h => by simp [Lib.compareBytes] at h
  | [], _ :: _, _ :: _ => fun _ _ => by simp [Lib.compareBytes]
  | x :: a, y :: b, z :: c => fun h1 h2 => by
    unfold Lib.compareBytes at h1 h2 ⊢
    by_cases hxy : x < y
    · by_cases hyz : y < z
      · rw [if_pos (UInt8.lt_trans hxy hyz)]; decide
      · rw [if_neg hyz] at h2
        by_cases hzy : z < y
        · rw [if_pos hzy] at h2; exact absurd h2 (by decide)
        · have e : y = z := UInt8.le_antisymm (UInt8.not_lt.1 hzy) (UInt8.not_lt.1 hyz)
          rw [if_pos (e ▸ hxy)]; decide
    · rw [if_neg hxy] at h1
      by_cases hyx : y < x
      · rw [if_pos hyx] at h1; exact absurd h1 (by decide)
      · rw [if_neg hyx] at h1
        have e : x = y := UInt8.le_antisymm (UInt8.not_lt.1 hyx) (UInt8.not_lt.1 hxy)
        subst e
        by_cases hyz : x < z
        · rw [if_pos hyz]; decide
        · rw [if_neg hyz] at h2 ⊢
          by_cases hzy : z < x
          · rw [if_pos hzy] at h2; exact absurd h2 (by decide)
          · rw [if_neg hzy] at h2 ⊢
            exact cmpB_trans a b c h1 h2
theorem cmpB_append : ∀ x y l l' : List UInt8, x.length = y.length → Lib.compareBytes (x ++ l) (y ++ l') = orI (Lib.compareBytes x y) (Lib.compareBytes l l')
  | [], [], l, l' => fun _ => rfl
  | [], _ :: _, _, _ => fun h => by cases h
  | _ :: _, [], _, _ => fun h => by cases h
  | a :: x, b :: y, l, l' => fun h => by
    rw [List.cons_append, List.cons_append]
    conv => lhs; unfold Lib.compareBytes
    conv => rhs; arg 1; unfold Lib.compareBytes
    by_cases h1 : a < b
    · rw [if_pos h1, if_pos h1]; rfl
    · by_cases h2 : b < a
      · rw [if_neg h1, if_pos h2, if_neg h1, if_pos h2]; rfl
      · rw [if_neg h1, if_neg h2, if_neg h1, if_neg h2]
        exact cmpB_append x y l l' (by simpa using h)
theorem putL_succ (n k : Nat) : putL n (k + 1) = UInt8.ofNat (n / 2 ^ (8 * k)) :: putL n k := by
  unfold putL
  rw [List.range_succ_eq_map, List.map_cons, List.map_map]
  refine List.cons_eq_cons.2 ⟨by simp, List.map_congr_left fun j hj => ?_⟩
  rw [List.mem_range] at hj
  show UInt8.ofNat (n / 2 ^ (8 * (k + 1 - 1 - (j + 1)))) = UInt8.ofNat (n / 2 ^ (8 * (k - 1 - j)))
  rw [show k + 1 - 1 - (j + 1) = k - 1 - j by omega]
theorem putL_cmp (n m : Nat) : ∀ k, Lib.compareBytes (putL n k) (putL m k) = cmpN (n % 256 ^ k) (m % 256 ^ k)
  | 0 => by simp [putL, Lib.compareBytes, cmpN, Nat.mod_one]
  | k + 1 => by
    rw [putL_succ, putL_succ]
    unfold Lib.compareBytes
    have ih := putL_cmp n m k
    have hp : 2 ^ (8 * k) = 256 ^ k := by rw [Nat.pow_mul]
    rw [hp]
    have dn : n % 256 ^ (k + 1) = n / 256 ^ k % 256 * 256 ^ k + n % 256 ^ k := by
      rw [Nat.pow_succ, Nat.mod_mul, Nat.add_comm, Nat.mul_comm]
    have dm : m % 256 ^ (k + 1) = m / 256 ^ k % 256 * 256 ^ k + m % 256 ^ k := by
      rw [Nat.pow_succ, Nat.mod_mul, Nat.add_comm, Nat.mul_comm]
    have ln : n % 256 ^ k < 256 ^ k := Nat.mod_lt _ (Nat.pow_pos (by omega))
    have lm : m % 256 ^ k < 256 ^ k := Nat.mod_lt _ (Nat.pow_pos (by omega))
    have l1 : (UInt8.ofNat (n / 256 ^ k) < UInt8.ofNat (m / 256 ^ k)) ↔ n / 256 ^ k % 256 < m / 256 ^ k % 256 := by
      rw [UInt8.lt_iff_toNat_lt, UInt8.toNat_ofNat', UInt8.toNat_ofNat']
    have l2 : (UInt8.ofNat (m / 256 ^ k) < UInt8.ofNat (n / 256 ^ k)) ↔ m / 256 ^ k % 256 < n / 256 ^ k % 256 := by
      rw [UInt8.lt_iff_toNat_lt, UInt8.toNat_ofNat', UInt8.toNat_ofNat']
    rw [dn, dm]
    rw [ih]
    generalize n / 256 ^ k % 256 = a at *
    generalize m / 256 ^ k % 256 = b at *
    generalize n % 256 ^ k = r at *
    generalize m % 256 ^ k = s at *
    generalize 256 ^ k = B at *
    unfold cmpN
    by_cases h1 : a < b
    · rw [if_pos (l1.2 h1), if_pos]
      have : (a + 1) * B ≤ b * B := Nat.mul_le_mul_right B h1
      rw [Nat.add_mul] at this
      omega
    · rw [if_neg (fun h => h1 (l1.1 h))]
      by_cases h2 : b < a
      · have : (b + 1) * B ≤ a * B := Nat.mul_le_mul_right B h2
        rw [Nat.add_mul] at this
        rw [if_pos (l2.2 h2), if_neg (by omega), if_pos (by omega)]
      · rw [if_neg (fun h => h2 (l2.1 h))]
        have e : a = b := by omega
        subst e
        simp only [Nat.add_lt_add_iff_left]
/-- The order of checkpoints is that of their bytes. -/
theorem lessP_bytes (e e' : Nat) (l l' : List UInt8) (he : e < 18446744073709551616) (he' : e' < 18446744073709551616) : lessP e l e' l' = decide (Lib.compareBytes (ptL e l) (ptL e' l') < 0) := by
  unfold lessP ptL
  rw [cmpB_append _ _ _ _ (by rw [putL_length, putL_length]), putL_cmp, Nat.mod_eq_of_lt (by simpa using he), Nat.mod_eq_of_lt (by simpa using he')]
theorem putL_inj (e e' : Nat) (he : e < 18446744073709551616) (he' : e' < 18446744073709551616) (h : putL e 8 = putL e' 8) : e = e' := by
  have h1 := putL_cmp e e' 8
  rw [h, cmpB_self, Nat.mod_eq_of_lt (by simpa using he), Nat.mod_eq_of_lt (by simpa using he')] at h1
  unfold cmpN at h1
  split at h1
  · cases h1
  · split at h1
    · cases h1
    · omega
theorem ptL_inj (e e' : Nat) (l l' : List UInt8) (he : e < 18446744073709551616) (he' : e' < 18446744073709551616) (h : ptL e l = ptL e' l') : e = e' ∧ l = l' := by
  obtain ⟨h1, h2⟩ := List.append_inj h (by rw [putL_length, putL_length])
  exact ⟨putL_inj e e' he he' h1, h2⟩
theorem less_asym (e e' : Nat) (l l' : List UInt8) (he : e < 18446744073709551616) (he' : e' < 18446744073709551616) (h : lessP e l e' l' = true) : lessP e' l' e l = false := by
  rw [lessP_bytes _ _ _ _ he he'] at h
  rw [lessP_bytes _ _ _ _ he' he, cmpB_neg]
  simp only [decide_eq_true_eq, decide_eq_false_iff_not] at h ⊢
  omega
theorem less_total (e e' : Nat) (l l' : List UInt8) (he : e < 18446744073709551616) (he' : e' < 18446744073709551616) : (lessP e l e' l' || lessP e' l' e l) = !(e == e' && l == l') := by
  rw [lessP_bytes _ _ _ _ he he', lessP_bytes _ _ _ _ he' he, cmpB_neg (ptL e l) (ptL e' l')]
  by_cases h : ptL e l = ptL e' l'
  · obtain ⟨rfl, rfl⟩ := ptL_inj _ _ _ _ he he' h
    rw [cmpB_self]
    simp
  · have h0 : Lib.compareBytes (ptL e l) (ptL e' l') ≠ 0 := fun h0 => h (cmpB_zero _ _ h0)
    have h1 : (e == e' && l == l') = false := by
      rw [Bool.eq_false_iff]
      intro h2
      rw [Bool.and_eq_true, beq_iff_eq, beq_iff_eq] at h2
      exact h (by rw [h2.1, h2.2])
    rw [h1]
    simp only [Bool.not_false, Bool.or_eq_true, decide_eq_true_eq]
    omega
theorem less_trans (e e' e'' : Nat) (l l' l'' : List UInt8) (he : e < 18446744073709551616) (he' : e' < 18446744073709551616) (he'' : e'' < 18446744073709551616) (h1 : lessP e l e' l' = true) (h2 : lessP e' l' e'' l'' = true) : lessP e l e'' l'' = true := by
  rw [lessP_bytes _ _ _ _ he he'] at h1
  rw [lessP_bytes _ _ _ _ he' he''] at h2
  rw [lessP_bytes _ _ _ _ he he'']
  simp only [decide_eq_true_eq] at h1 h2 ⊢
  exact cmpB_trans _ _ _ h1 h2
theorem bytesLess_cmp : ∀ a b : List UInt8, Op.bytesLess a b = decide (Lib.compareBytes a b < 0)
  | [], [] => by simp [Op.bytesLess, Lib.compareBytes]
  | [], _ :: _ => by simp [Op.bytesLess, Lib.compareBytes]
  | _ :: _, [] => by simp [Op.bytesLess, Lib.compareBytes]
  | x :: a, y :: b => by
    have ih := bytesLess_cmp a b
    unfold Op.bytesLess Lib.compareBytes
    by_cases h1 : x < y
    · simp [h1]
    · by_cases h2 : y < x
      · have hne : (x == y) = false := by
          rw [beq_eq_false_iff_ne]
          intro e
          subst e
          exact UInt8.lt_irrefl _ h2
        simp [h1, h2, hne]
      · have e : x = y := UInt8.le_antisymm (UInt8.not_lt.1 h2) (UInt8.not_lt.1 h1)
        subst e
        simp [h1, ih]
end Go.Proofs.Ytbanmnlaipkajaa
