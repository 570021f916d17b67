/- The digits of a hash, plainly: that of two hashes whose first halves differ each has a digit that is less. -/
import Derived.Test.YtgdiffjobkfmoaaMem
namespace Go.Proofs.Ytgdiffjobkfmoaa
set_option linter.unusedVariables false

/-- A digit of the first 64; how much they lack; a digit of all 68. -/
def md (l : List UInt8) (i : Nat) : Nat := (l.getD (i / 4) 0).toNat / 4 ^ (3 - i % 4) % 4
def lk (l : List UInt8) : Nat → Nat
  | 0 => 0
  | n + 1 => lk l n + (3 - md l n)
def dg (l : List UInt8) (i : Nat) : Nat := if i < 64 then md l i else lk l 64 / 4 ^ (67 - i) % 4
theorem md_lt (l : List UInt8) (i : Nat) : md l i < 4 := Nat.mod_lt _ (by omega)
theorem dg_lt (l : List UInt8) (i : Nat) : dg l i < 4 := by
  unfold dg
  split
  · exact md_lt l i
  · exact Nat.mod_lt _ (by omega)
theorem lk_le (l : List UInt8) (n : Nat) : lk l n ≤ 3 * n := by
  induction n with
  | zero => exact Nat.le_refl _
  | succ n ih => simp only [lk]; omega
theorem lk_mono (a b : List UInt8) (n : Nat) (h : ∀ i, i < n → md b i ≤ md a i) : lk a n ≤ lk b n := by
  induction n with
  | zero => exact Nat.le_refl _
  | succ n ih =>
    have h1 := ih (fun i hi => h i (by omega))
    have h2 := h n (by omega)
    simp only [lk]
    omega
theorem lk_less (a b : List UInt8) (n : Nat) (h : ∀ i, i < n → md b i ≤ md a i) (k : Nat) (hk : k < n) (hlt : md b k < md a k) : lk a n < lk b n := by
  induction n with
  | zero => omega
  | succ n ih =>
    have h2 := h n (by omega)
    have ha := md_lt a n
    simp only [lk]
    rcases Nat.lt_or_ge k n with h3 | h3
    · have h1 := ih (fun i hi => h i (by omega)) h3
      omega
    · obtain rfl : k = n := by omega
      have h1 := lk_mono a b k (fun i hi => h i (by omega))
      omega
theorem of_digits (y : Nat) (hy : y < 256) : y = 64 * (y / 64 % 4) + 16 * (y / 16 % 4) + 4 * (y / 4 % 4) + y / 1 % 4 := by
  have e1 : y / 16 = y / 4 / 4 := by rw [Nat.div_div_eq_div_mul]
  have e2 : y / 64 = y / 4 / 4 / 4 := by rw [Nat.div_div_eq_div_mul, Nat.div_div_eq_div_mul]
  rw [e1, e2, Nat.div_one]
  omega
/-- A number below 256 whose four digits are none of them less is itself not less. -/
theorem four_le (x y : Nat) (hx : x < 256) (hy : y < 256) (h : ∀ i, 64 ≤ i → i < 68 → y / 4 ^ (67 - i) % 4 ≤ x / 4 ^ (67 - i) % 4) : y ≤ x := by
  have h0 : y / 64 % 4 ≤ x / 64 % 4 := h 64 (by omega) (by omega)
  have h1 : y / 16 % 4 ≤ x / 16 % 4 := h 65 (by omega) (by omega)
  have h2 : y / 4 % 4 ≤ x / 4 % 4 := h 66 (by omega) (by omega)
  have h3 : y / 1 % 4 ≤ x / 1 % 4 := h 67 (by omega) (by omega)
  have ex := of_digits x hx
  have ey := of_digits y hy
  omega
theorem byte_digits (x y : UInt8) (h : ∀ k, k < 4 → x.toNat / 4 ^ (3 - k) % 4 = y.toNat / 4 ^ (3 - k) % 4) : x = y := by
  have hx := x.toNat_lt
  have hy := y.toNat_lt
  have h0 : x.toNat / 64 % 4 = y.toNat / 64 % 4 := h 0 (by omega)
  have h1 : x.toNat / 16 % 4 = y.toNat / 16 % 4 := h 1 (by omega)
  have h2 : x.toNat / 4 % 4 = y.toNat / 4 % 4 := h 2 (by omega)
  have h3 : x.toNat / 1 % 4 = y.toNat / 1 % 4 := h 3 (by omega)
  have ex := of_digits _ hx
  have ey := of_digits _ hy
  exact UInt8.toNat_inj.1 (by omega)
theorem some_less (a b : List UInt8) (j : Nat) (hj : j < 16) (hd : a.getD j 0 ≠ b.getD j 0) : ∃ i, i < 68 ∧ dg a i < dg b i := by
  apply Classical.byContradiction
  intro hn
  have hge : ∀ i, i < 68 → dg b i ≤ dg a i := fun i hi => Nat.le_of_not_lt fun h => hn ⟨i, hi, h⟩
  have hm : ∀ i, i < 64 → md b i ≤ md a i := fun i hi => by
    have := hge i (by omega)
    unfold dg at this
    rwa [if_pos hi, if_pos hi] at this
  have hk : ∃ k, k < 64 ∧ md b k < md a k := by
    apply Classical.byContradiction
    intro hk
    refine hd (byte_digits _ _ fun k hk4 => ?_)
    have e : md a (4 * j + k) = md b (4 * j + k) := by
      have h1 := hm (4 * j + k) (by omega)
      have h2 : ¬ md b (4 * j + k) < md a (4 * j + k) := fun h => hk ⟨_, by omega, h⟩
      omega
    unfold md at e
    rwa [show (4 * j + k) / 4 = j by omega, show (4 * j + k) % 4 = k by omega] at e
  obtain ⟨k, hk, hlt⟩ := hk
  have hl := lk_less a b 64 hm k hk hlt
  have ha := lk_le a 64
  have hb := lk_le b 64
  have := four_le (lk a 64) (lk b 64) (by omega) (by omega) (fun i h1 h2 => by
    have := hge i (by omega)
    unfold dg at this
    rwa [if_neg (by omega), if_neg (by omega)] at this)
  omega
theorem dg_same (a b : List UInt8) (h : ∀ j, j < 16 → a.getD j 0 = b.getD j 0) (i : Nat) : dg a i = dg b i := by
  have hm : ∀ i, i < 64 → md a i = md b i := fun i hi => by
    unfold md
    rw [h (i / 4) (by omega)]
  have hk : ∀ n, n ≤ 64 → lk a n = lk b n := fun n => by
    induction n with
    | zero => intro _; rfl
    | succ n ih =>
      intro hn
      simp only [lk]
      rw [ih (by omega), hm n (by omega)]
  unfold dg
  rw [hk 64 (Nat.le_refl _)]
  split
  · exact hm i (by assumption)
  · rfl
/-- What a loop over the digits finds. -/
def lessTo (a b : List UInt8) (n : Nat) : Bool := (List.range n).any fun i => decide (dg a i < dg b i)
theorem lessTo_succ (a b : List UInt8) (n : Nat) : lessTo a b (n + 1) = (lessTo a b n || decide (dg a n < dg b n)) := by
  unfold lessTo
  rw [List.range_succ, List.any_append]
  simp
theorem lessTo_true (a b : List UInt8) (n : Nat) : lessTo a b n = true ↔ ∃ i, i < n ∧ dg a i < dg b i := by
  unfold lessTo
  rw [List.any_eq_true]
  constructor
  · rintro ⟨i, h1, h2⟩
    exact ⟨i, List.mem_range.1 h1, of_decide_eq_true h2⟩
  · rintro ⟨i, h1, h2⟩
    exact ⟨i, List.mem_range.2 h1, decide_eq_true h2⟩
def sameTo (a b : List UInt8) (n : Nat) : Bool := (List.range n).all fun i => a.getD i 0 == b.getD i 0
theorem sameTo_succ (a b : List UInt8) (n : Nat) : sameTo a b (n + 1) = (sameTo a b n && (a.getD n 0 == b.getD n 0)) := by
  unfold sameTo
  rw [List.range_succ, List.all_append]
  simp
theorem digits_tell (a b : List UInt8) : (sameTo a b 16 && (!lessTo a b 68 && !lessTo b a 68) || !sameTo a b 16 && (lessTo a b 68 && lessTo b a 68)) = true := by
  rcases hs : sameTo a b 16 with _ | _
  · have : ∃ j, j < 16 ∧ a.getD j 0 ≠ b.getD j 0 := by
      apply Classical.byContradiction
      intro hn
      have : sameTo a b 16 = true := by
        unfold sameTo
        rw [List.all_eq_true]
        intro i hi
        rw [beq_iff_eq]
        exact Classical.byContradiction fun h => hn ⟨i, List.mem_range.1 hi, h⟩
      rw [hs] at this
      cases this
    obtain ⟨j, hj, hd⟩ := this
    rw [(lessTo_true a b 68).2 (some_less a b j hj hd), (lessTo_true b a 68).2 (some_less b a j hj (Ne.symm hd))]
    rfl
  · have h : ∀ j, j < 16 → a.getD j 0 = b.getD j 0 := fun j hj => by
      unfold sameTo at hs
      rw [List.all_eq_true] at hs
      have := hs j (List.mem_range.2 hj)
      rwa [beq_iff_eq] at this
    have h1 : lessTo a b 68 = false := Bool.eq_false_iff.2 fun h' => by
      obtain ⟨i, _, hi⟩ := (lessTo_true a b 68).1 h'
      rw [dg_same a b h i] at hi
      omega
    have h2 : lessTo b a 68 = false := Bool.eq_false_iff.2 fun h' => by
      obtain ⟨i, _, hi⟩ := (lessTo_true b a 68).1 h'
      rw [dg_same a b h i] at hi
      omega
    rw [h1, h2]
    rfl
end Go.Proofs.Ytgdiffjobkfmoaa
