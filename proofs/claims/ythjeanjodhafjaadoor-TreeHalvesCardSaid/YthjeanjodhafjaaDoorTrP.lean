/- Trees of hashes, plainly: climbs, roots, paths, rows, texts. -/
import Derived.Test.YthjeanjodhafjaaDoorShaPlain
namespace Go.Proofs.YthjeanjodhafjaaDoor
set_option linter.unusedVariables false

/-- The node of two hashes. -/
def nd (a b : List UInt8) : List UInt8 := shaL ([78] ++ a ++ b)
theorem nd_len (a b : List UInt8) : (nd a b).length = 32 := shaL_length _
/-- What a climb sums at a height; what it reaches. -/
def txt (i k : Nat) (y p : List UInt8) : List UInt8 := if (i / 2 ^ k) % 2 = 1 then [78] ++ p ++ y else [78] ++ y ++ p
def up (i k : Nat) (y p : List UInt8) : List UInt8 := if (i / 2 ^ k) % 2 = 1 then nd p y else nd y p
theorem up_txt (i k : Nat) (y p : List UInt8) : up i k y p = shaL (txt i k y p) := by
  unfold up txt nd
  split <;> rfl
theorem up_len (i k : Nat) (y p : List UInt8) : (up i k y p).length = 32 := by
  rw [up_txt]
  exact shaL_length _
def climbN (i : Nat) (x : List UInt8) (P : List (List UInt8)) : Nat → List UInt8
  | 0 => x
  | k + 1 => up i k (climbN i x P k) (P.getD k [])
theorem climbN_len (i : Nat) (x : List UInt8) (P : List (List UInt8)) (hx : x.length = 32) : ∀ k, (climbN i x P k).length = 32
  | 0 => hx
  | k + 1 => up_len _ _ _ _
def textN (i : Nat) (x : List UInt8) (P : List (List UInt8)) (k : Nat) : List UInt8 := txt i k (climbN i x P k) (P.getD k [])
def textsL (i : Nat) (x : List UInt8) (P : List (List UInt8)) (n : Nat) : List (List UInt8) := (List.range n).map (textN i x P)
theorem textN_sum (i : Nat) (x : List UInt8) (P : List (List UInt8)) (k : Nat) : shaL (textN i x P k) = climbN i x P (k + 1) := (up_txt _ _ _ _).symm
theorem textN_len (i : Nat) (x : List UInt8) (P : List (List UInt8)) (k : Nat) (hx : x.length = 32) (hp : (P.getD k []).length = 32) : (textN i x P k).length = 65 := by
  have := climbN_len i x P hx k
  unfold textN txt
  generalize climbN i x P k = y at *
  generalize P.getD k [] = p at *
  split <;> simp <;> omega
/-- Two climbs of unlike leaves that come together sum two unlike texts to one hash. -/
theorem climb_apart (i : Nat) (a b : List UInt8) (P : List (List UInt8)) (ha : a.length = 32) (hb : b.length = 32) (hab : a ≠ b) :
    ∀ n, (∀ k, k < n → (P.getD k []).length = 32) → climbN i a P n = climbN i b P n → ∃ k, k < n ∧ textN i a P k ≠ textN i b P k ∧ shaL (textN i a P k) = shaL (textN i b P k)
  | 0, _, h => absurd h hab
  | n + 1, hP, h => by
    by_cases h1 : climbN i a P n = climbN i b P n
    · obtain ⟨k, hk, h2⟩ := climb_apart i a b P ha hb hab n (fun k hk => hP k (by omega)) h1
      exact ⟨k, by omega, h2⟩
    · refine ⟨n, by omega, fun he => h1 ?_, ?_⟩
      · have la := climbN_len i a P ha n
        have lb := climbN_len i b P hb n
        unfold textN txt at he
        split at he
        · exact (List.append_inj he rfl).2
        · have := (List.append_inj he (by simp [la, lb])).1
          exact (List.append_inj this rfl).2
      · rw [textN_sum, textN_sum]
        exact h

/-- Roots and paths, from the top. -/
def rootH : Nat → List (List UInt8) → List UInt8
  | 0, xs => xs.getD 0 []
  | h + 1, xs => nd (rootH h (xs.take (2 ^ h))) (rootH h (xs.drop (2 ^ h)))
def pathH : Nat → List (List UInt8) → Nat → List (List UInt8)
  | 0, _, _ => []
  | h + 1, xs, i => if (i / 2 ^ h) % 2 = 1 then pathH h (xs.drop (2 ^ h)) i ++ [rootH h (xs.take (2 ^ h))] else pathH h (xs.take (2 ^ h)) i ++ [rootH h (xs.drop (2 ^ h))]
theorem pathH_length : ∀ h xs i, (pathH h xs i).length = h
  | 0, _, _ => rfl
  | h + 1, xs, i => by
    unfold pathH
    split <;> simp [pathH_length h]
theorem rootH_len : ∀ h (xs : List (List UInt8)), xs.length = 2 ^ h → (∀ x ∈ xs, x.length = 32) → (rootH h xs).length = 32
  | 0, xs, hl, hx => by
    match xs, hl with
    | [x], _ => exact hx x (by simp)
  | h + 1, xs, _, _ => nd_len _ _
theorem pathH_mem : ∀ h (xs : List (List UInt8)) i, xs.length = 2 ^ h → (∀ x ∈ xs, x.length = 32) → ∀ p ∈ pathH h xs i, p.length = 32
  | 0, _, _, _, _, _, hp => by cases hp
  | h + 1, xs, i, hl, hx, p, hp => by
    have l1 : (xs.take (2 ^ h)).length = 2 ^ h := by rw [List.length_take, hl, Nat.pow_succ]; omega
    have l2 : (xs.drop (2 ^ h)).length = 2 ^ h := by rw [List.length_drop, hl, Nat.pow_succ]; omega
    have x1 : ∀ x ∈ xs.take (2 ^ h), x.length = 32 := fun x h => hx x (List.mem_of_mem_take h)
    have x2 : ∀ x ∈ xs.drop (2 ^ h), x.length = 32 := fun x h => hx x (List.mem_of_mem_drop h)
    unfold pathH at hp
    split at hp
    · rcases List.mem_append.1 hp with hp | hp
      · exact pathH_mem h _ i l2 x2 p hp
      · rw [List.mem_singleton.1 hp]
        exact rootH_len h _ l1 x1
    · rcases List.mem_append.1 hp with hp | hp
      · exact pathH_mem h _ i l1 x1 p hp
      · rw [List.mem_singleton.1 hp]
        exact rootH_len h _ l2 x2
theorem pathH_add : ∀ h (xs : List (List UInt8)) i m, pathH h xs (i + m * 2 ^ h) = pathH h xs i
  | 0, _, _, _ => rfl
  | h + 1, xs, i, m => by
    have e : i + m * 2 ^ (h + 1) = i + (2 * m) * 2 ^ h := by rw [Nat.pow_succ, ← Nat.mul_assoc, Nat.mul_right_comm, Nat.mul_comm m 2]
    have e2 : (i + (2 * m) * 2 ^ h) / 2 ^ h % 2 = i / 2 ^ h % 2 := by
      rw [Nat.add_mul_div_right _ _ (Nat.two_pow_pos h)]
      omega
    rw [e]
    unfold pathH
    rw [e2, pathH_add h, pathH_add h]
/-- Two halves. -/
theorem rootH_halves (h : Nat) (a b : List (List UInt8)) (ha : a.length = 2 ^ h) : rootH (h + 1) (a ++ b) = nd (rootH h a) (rootH h b) := by
  conv => lhs; unfold rootH
  rw [List.take_left' ha, List.drop_left' ha]
theorem pathH_low (h : Nat) (a b : List (List UInt8)) (i : Nat) (ha : a.length = 2 ^ h) (hi : i < 2 ^ h) : pathH (h + 1) (a ++ b) i = pathH h a i ++ [rootH h b] := by
  conv => lhs; unfold pathH
  rw [List.take_left' ha, List.drop_left' ha, Nat.div_eq_of_lt hi, if_neg (by decide)]
theorem pathH_high (h : Nat) (a b : List (List UInt8)) (i : Nat) (ha : a.length = 2 ^ h) (hi : i < 2 ^ h) : pathH (h + 1) (a ++ b) (2 ^ h + i) = pathH h b i ++ [rootH h a] := by
  have e : 2 ^ h + i = i + 1 * 2 ^ h := by omega
  rw [e]
  conv => lhs; unfold pathH
  rw [List.take_left' ha, List.drop_left' ha, Nat.add_mul_div_right _ _ (Nat.two_pow_pos h), Nat.div_eq_of_lt hi, if_pos (by decide), pathH_add]

/-- Parts of a list. -/
def block (xs : List (List UInt8)) (k j : Nat) : List (List UInt8) := (xs.drop (j * 2 ^ k)).take (2 ^ k)
theorem block_low (xs : List (List UInt8)) (k j : Nat) : (block xs (k + 1) j).take (2 ^ k) = block xs k (2 * j) := by
  unfold block
  rw [List.take_take, Nat.pow_succ, Nat.min_eq_left (by omega), show j * (2 ^ k * 2) = 2 * j * 2 ^ k by rw [Nat.mul_comm (2 ^ k) 2, ← Nat.mul_assoc, Nat.mul_comm j 2]]
theorem block_high (xs : List (List UInt8)) (k j : Nat) : (block xs (k + 1) j).drop (2 ^ k) = block xs k (2 * j + 1) := by
  unfold block
  rw [List.drop_take, List.drop_drop, Nat.pow_succ, show 2 ^ k * 2 - 2 ^ k = 2 ^ k by omega]
  congr 2
  rw [Nat.add_mul, Nat.one_mul, Nat.mul_comm (2 ^ k) 2, ← Nat.mul_assoc, Nat.mul_comm j 2]
theorem block_all (xs : List (List UInt8)) (h : Nat) (hl : xs.length = 2 ^ h) : block xs h 0 = xs := by
  unfold block
  rw [Nat.zero_mul, List.drop_zero, List.take_of_length_le (by omega)]
theorem rootH_block (xs : List (List UInt8)) (k j : Nat) : rootH (k + 1) (block xs (k + 1) j) = nd (rootH k (block xs k (2 * j))) (rootH k (block xs k (2 * j + 1))) := by
  conv => lhs; unfold rootH
  rw [block_low, block_high]
theorem rootH_one (xs : List (List UInt8)) (j : Nat) : rootH 0 (block xs 0 j) = xs.getD j [] := by
  unfold rootH block
  rw [List.getD_eq_getElem?_getD, List.getElem?_take, if_pos (by decide), List.getElem?_drop, List.getD_eq_getElem?_getD]
  simp
/-- The one beside. -/
def sib (j : Nat) : Nat := j + 1 - 2 * (j % 2)
theorem pathH_block (xs : List (List UInt8)) (i : Nat) : ∀ h, pathH h (block xs h (i / 2 ^ h)) i = (List.range h).map fun k => rootH k (block xs k (sib (i / 2 ^ k)))
  | 0 => rfl
  | h + 1 => by
    have e : i / 2 ^ (h + 1) = i / 2 ^ h / 2 := by rw [Nat.pow_succ, Nat.div_div_eq_div_mul]
    conv => lhs; unfold pathH
    rw [block_low, block_high, List.range_succ, List.map_append, ← pathH_block xs i h, e]
    by_cases hb : i / 2 ^ h % 2 = 1
    · rw [if_pos hb, show 2 * (i / 2 ^ h / 2) + 1 = i / 2 ^ h by omega]
      congr 2
      show rootH h (block xs h (2 * (i / 2 ^ h / 2))) = rootH h (block xs h (sib (i / 2 ^ h)))
      rw [show sib (i / 2 ^ h) = 2 * (i / 2 ^ h / 2) by unfold sib; omega]
    · rw [if_neg hb, show 2 * (i / 2 ^ h / 2) = i / 2 ^ h by omega]
      congr 2
      show rootH h (block xs h (i / 2 ^ h + 1)) = rootH h (block xs h (sib (i / 2 ^ h)))
      rw [show sib (i / 2 ^ h) = i / 2 ^ h + 1 by unfold sib; generalize i / 2 ^ h = c at *; omega]
theorem pathH_at (xs : List (List UInt8)) (h i k : Nat) (hl : xs.length = 2 ^ h) (hi : i < 2 ^ h) (hk : k < h) : (pathH h xs i).getD k [] = rootH k (block xs k (sib (i / 2 ^ k))) := by
  have := pathH_block xs i h
  rw [Nat.div_eq_of_lt hi, block_all xs h hl] at this
  rw [this, List.getD_eq_getElem?_getD, List.getElem?_map, List.getElem?_range hk]
  rfl
/-- A leaf and its path come to the root. -/
theorem climb_path (xs : List (List UInt8)) (h i : Nat) (hl : xs.length = 2 ^ h) (hi : i < 2 ^ h) : ∀ k, k ≤ h → climbN i (xs.getD i []) (pathH h xs i) k = rootH k (block xs k (i / 2 ^ k))
  | 0, _ => by
    rw [rootH_one, Nat.pow_zero, Nat.div_one]
    rfl
  | k + 1, hk => by
    have e : i / 2 ^ (k + 1) = i / 2 ^ k / 2 := by rw [Nat.pow_succ, Nat.div_div_eq_div_mul]
    unfold climbN
    rw [climb_path xs h i hl hi k (by omega), pathH_at xs h i k hl hi (by omega), e, rootH_block]
    unfold up
    by_cases hb : i / 2 ^ k % 2 = 1
    · rw [if_pos hb, show 2 * (i / 2 ^ k / 2) + 1 = i / 2 ^ k by omega, show sib (i / 2 ^ k) = 2 * (i / 2 ^ k / 2) by unfold sib; omega]
    · rw [if_neg hb, show 2 * (i / 2 ^ k / 2) = i / 2 ^ k by omega, show sib (i / 2 ^ k) = i / 2 ^ k + 1 by unfold sib; generalize i / 2 ^ k = c at *; omega]
theorem climb_root (xs : List (List UInt8)) (h i : Nat) (hl : xs.length = 2 ^ h) (hi : i < 2 ^ h) : climbN i (xs.getD i []) (pathH h xs i) h = rootH h xs := by
  rw [climb_path xs h i hl hi h (Nat.le_refl _), Nat.div_eq_of_lt hi, block_all xs h hl]

/-- Rows, from the leaves up. -/
def pairAt (xs : List (List UInt8)) (j : Nat) : List UInt8 := nd (xs.getD (2 * j) []) (xs.getD (2 * j + 1) [])
def pairsL (xs : List (List UInt8)) : List (List UInt8) := (List.range (xs.length / 2)).map (pairAt xs)
def rowN (xs : List (List UInt8)) : Nat → List (List UInt8)
  | 0 => xs
  | k + 1 => pairsL (rowN xs k)
theorem rowN_length (xs : List (List UInt8)) : ∀ k, (rowN xs k).length = xs.length / 2 ^ k
  | 0 => by simp [rowN]
  | k + 1 => by
    unfold rowN pairsL
    rw [List.length_map, List.length_range, rowN_length xs k, Nat.pow_succ, Nat.div_div_eq_div_mul]
theorem rowN_mem (xs : List (List UInt8)) (hx : ∀ x ∈ xs, x.length = 32) : ∀ k, ∀ x ∈ rowN xs k, x.length = 32
  | 0, x, h => hx x h
  | k + 1, x, h => by
    unfold rowN pairsL at h
    obtain ⟨j, _, rfl⟩ := List.mem_map.1 h
    exact nd_len _ _
theorem rowN_at (xs : List (List UInt8)) : ∀ k j, (j + 1) * 2 ^ k ≤ xs.length → (rowN xs k).getD j [] = rootH k (block xs k j)
  | 0, j, _ => (rootH_one xs j).symm
  | k + 1, j, hj => by
    have h2 : 2 ^ (k + 1) = 2 * 2 ^ k := by rw [Nat.pow_succ, Nat.mul_comm]
    have h3 : (j + 1) * 2 ^ (k + 1) = (2 * j + 1 + 1) * 2 ^ k := by rw [h2, ← Nat.mul_assoc]; congr 1; omega
    have hlen : j < (rowN xs k).length / 2 := by
      rw [rowN_length, Nat.div_div_eq_div_mul, ← Nat.pow_succ]
      exact (Nat.le_div_iff_mul_le (Nat.two_pow_pos _)).2 hj
    rw [rootH_block, ← rowN_at xs k (2 * j) (Nat.le_trans (Nat.mul_le_mul_right _ (by omega)) (h3 ▸ hj)), ← rowN_at xs k (2 * j + 1) (h3 ▸ hj)]
    show (pairsL (rowN xs k)).getD j [] = _
    unfold pairsL
    rw [List.getD_eq_getElem?_getD, List.getElem?_map, List.getElem?_range hlen]
    rfl
theorem rowN_root (xs : List (List UInt8)) (h : Nat) (hl : xs.length = 2 ^ h) : (rowN xs h).getD 0 [] = rootH h xs := by
  rw [rowN_at xs h 0 (by omega), block_all xs h hl]
theorem rowN_path (xs : List (List UInt8)) (h i k : Nat) (hl : xs.length = 2 ^ h) (hi : i < 2 ^ h) (hk : k < h) : (rowN xs k).getD (sib (i / 2 ^ k)) [] = (pathH h xs i).getD k [] := by
  rw [pathH_at xs h i k hl hi hk]
  refine rowN_at xs k _ ?_
  have h1 : 2 ^ h = 2 ^ (h - k) * 2 ^ k := by rw [← Nat.pow_add]; congr 1; omega
  have h2 : 2 ^ (h - k) = 2 * 2 ^ (h - k - 1) := by
    conv => lhs; rw [show h - k = (h - k - 1) + 1 by omega, Nat.pow_succ, Nat.mul_comm]
  have h3 : i / 2 ^ k < 2 ^ (h - k) := (Nat.div_lt_iff_lt_mul (Nat.two_pow_pos k)).2 (by rw [← h1]; exact hi)
  rw [hl, h1]
  refine Nat.mul_le_mul_right _ ?_
  unfold sib
  generalize 2 ^ (h - k) = a at *
  generalize 2 ^ (h - k - 1) = b at *
  generalize i / 2 ^ k = c at *
  omega
end Go.Proofs.YthjeanjodhafjaaDoor
