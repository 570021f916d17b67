/- Plain facts on rows: what a reader's state is behind each field of a row that is cut. -/
import Derived.Test.YtmebppfbdeokeaaMuch
namespace Go.Proofs.Ytmebppfbdeokeaa

theorem blobLn (b : List UInt8) : (blobL b).length = b.length + 2 := by simp [blobL, putL_length]; omega
/-- A row: a number, and k blobs behind it. -/
def rowL (n sz : Nat) (L : List Pc) (k : Nat) : List UInt8 := putL n sz ++ ((L.take k).map fun x => blobL x.2.2).flatten
theorem rowL_zero (n sz : Nat) (L : List Pc) : rowL n sz L 0 = putL n sz := by simp [rowL]
theorem rowL_succ (n sz : Nat) (L : List Pc) (k : Nat) (h : k < L.length) : rowL n sz L (k + 1) = rowL n sz L k ++ blobL L[k].2.2 := by
  unfold rowL
  rw [List.take_succ_eq_append_getElem h, List.map_append, List.flatten_append, List.append_assoc]
  simp
theorem rowL_split (n sz : Nat) (L : List Pc) (k : Nat) : ∃ post, rowL n sz L L.length = rowL n sz L k ++ post := by
  refine ⟨((L.drop k).map fun x => blobL x.2.2).flatten, ?_⟩
  unfold rowL
  rw [List.take_length, List.append_assoc, ← List.flatten_append, ← List.map_append, List.take_append_drop]
theorem rowL_len (n sz : Nat) (L : List Pc) (k : Nat) (hk : k ≤ L.length) : (rowL n sz L k).length = sz + 2 * k + (flat (L.take k)).length := by
  induction k with
  | zero => rw [rowL_zero, putL_length]; simp [flat]
  | succ k ih =>
    rw [rowL_succ n sz L k (by omega), List.length_append, ih (by omega), flat_take L k (by omega), List.length_append, blobLn]
    omega

/-- A reader's state behind e bytes of R, cut at c. -/
def stAt (R : List UInt8) (c e : Nat) : Option (List UInt8) := if e ≤ c then some ((R.take c).drop e) else none

theorem cut_yes (l : List UInt8) (n : Nat) (h : n ≤ l.length) : cutS (some l) (n : Int) = (l.take n, some (l.drop n)) := by
  simp only [cutS]; rw [if_pos (by omega)]; rfl
theorem cut_short (l : List UInt8) (n : Nat) (h : l.length < n) : cutS (some l) (n : Int) = ([], none) := by
  simp only [cutS]; rw [if_neg (by omega)]
theorem cut_none (n : Int) : cutS none n = ([], none) := rfl

theorem num_blob (x : List UInt8) (h : x.length ≤ 65535) : num (putL x.length 2) = x.length := num_put _ 2 (by omega)
/-- A blob that is there. -/
theorem blobS_yes (x post : List UInt8) (h : x.length ≤ 65535) : blobS (some (blobL x ++ post)) = (x, some post) := by
  have h1 : numS (some (blobL x ++ post)) 2 = (x.length, some (x ++ post)) := by
    unfold numS
    rw [if_pos (by omega)]
    have := cut_yes (blobL x ++ post) 2 (by rw [List.length_append, blobLn]; omega)
    rw [show ((2 : Nat) : Int) = 2 by rfl] at this
    rw [this]
    simp only [blobL, List.append_assoc]
    rw [List.take_left' (putL_length _ _), List.drop_left' (putL_length _ _), num_blob x h]
  unfold blobS
  rw [h1, cut_yes _ _ (by simp)]
  simp
/-- A blob that is cut. -/
theorem blobS_no (x post : List UInt8) (m : Nat) (h : x.length ≤ 65535) (hm : m < x.length + 2) : blobS (some ((blobL x ++ post).take m)) = ([], none) := by
  rcases Nat.lt_or_ge m 2 with h2 | h2
  · have h1 : numS (some ((blobL x ++ post).take m)) 2 = (0, none) := by
      unfold numS
      rw [if_pos (by omega)]
      have := cut_short ((blobL x ++ post).take m) 2 (by rw [List.length_take]; omega)
      rw [show ((2 : Nat) : Int) = 2 by rfl] at this
      rw [this]
      rfl
    unfold blobS
    rw [h1]
    rfl
  · have hlen : ((blobL x ++ post).take m).length = m := by rw [List.length_take, List.length_append, blobLn]; omega
    have h1 : numS (some ((blobL x ++ post).take m)) 2 = (x.length, some (((blobL x ++ post).take m).drop 2)) := by
      unfold numS
      rw [if_pos (by omega)]
      have := cut_yes ((blobL x ++ post).take m) 2 (by omega)
      rw [show ((2 : Nat) : Int) = 2 by rfl] at this
      rw [this, List.take_take, Nat.min_eq_left h2]
      simp only [blobL, List.append_assoc]
      rw [List.take_left' (putL_length _ _), num_blob x h]
    unfold blobS
    rw [h1, cut_short _ _ (by rw [List.length_drop, hlen]; omega)]

theorem blobS_none : blobS none = ([], none) := by
  unfold blobS numS
  rw [if_pos (by omega)]
  rfl

/-- One blob of a row that is cut. -/
theorem blob_step (pre x post : List UInt8) (c : Nat) (h : x.length ≤ 65535) :
    blobS (stAt (pre ++ blobL x ++ post) c pre.length) = (if (pre ++ blobL x).length ≤ c then x else [], stAt (pre ++ blobL x ++ post) c (pre ++ blobL x).length) := by
  unfold stAt
  by_cases h1 : pre.length ≤ c
  · rw [if_pos h1]
    have e : ((pre ++ blobL x ++ post).take c).drop pre.length = (blobL x ++ post).take (c - pre.length) := by
      rw [List.append_assoc, List.drop_take, List.drop_left]
    rw [e]
    by_cases h2 : (pre ++ blobL x).length ≤ c
    · rw [if_pos h2, if_pos h2]
      have h3 : (blobL x).length ≤ c - pre.length := by rw [List.length_append] at h2; omega
      have e2 : (blobL x ++ post).take (c - pre.length) = blobL x ++ post.take (c - pre.length - (blobL x).length) := by
        rw [List.take_append, List.take_of_length_le h3]
      rw [e2, blobS_yes _ _ h]
      congr 2
      rw [List.drop_take, List.drop_left, List.length_append, Nat.sub_sub]
    · rw [if_neg h2, if_neg h2, blobS_no x post _ h (by rw [List.length_append, blobLn] at h2; omega)]
  · rw [if_neg h1, if_neg (by rw [List.length_append]; omega), if_neg (by rw [List.length_append]; omega), blobS_none]

/-- The number of a row that is cut. -/
theorem num_step (n sz : Nat) (post : List UInt8) (c : Nat) (h1 : 1 ≤ sz) (h8 : sz ≤ 8) (hn : n < 256 ^ sz) :
    numS (some ((putL n sz ++ post).take c)) (sz : Int) = (if sz ≤ c then n else 0, stAt (putL n sz ++ post) c sz) := by
  unfold numS stAt
  rw [if_pos (by omega)]
  by_cases h : sz ≤ c
  · rw [if_pos h, if_pos h, cut_yes _ _ (by rw [List.length_take, List.length_append, putL_length]; omega), List.take_take, Nat.min_eq_left h, List.take_left' (putL_length _ _), num_put n sz hn]
  · rw [if_neg h, if_neg h, cut_short _ _ (by rw [List.length_take]; omega)]
    rfl
theorem st_end (R : List UInt8) (c : Nat) (h : c ≤ R.length) : stAt R c R.length = if c = R.length then some [] else none := by
  unfold stAt
  by_cases e : c = R.length
  · rw [if_pos (by omega), if_pos e, e]; simp
  · rw [if_neg (by omega), if_neg e]
end Go.Proofs.Ytmebppfbdeokeaa
