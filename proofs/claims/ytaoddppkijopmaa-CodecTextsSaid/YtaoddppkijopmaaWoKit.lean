/- Words: nodes and secrets in memory; parts of rows. -/
import Derived.Test.YtaoddppkijopmaaWoFill
import Derived.Deep.MidRow
import Derived.Test.YtaoddppkijopmaaMem
namespace Go.Proofs.Ytaoddppkijopmaa
open Go.RowKit
set_option linter.unusedVariables false

/-- A digit of the first 64; how much they lack; a digit of all 68. -/
def md (l : List UInt8) (i : Nat) : Nat := (l.getD (i / 4) 0).toNat / 4 ^ (3 - i % 4) % 4
def lk (l : List UInt8) : Nat → Nat
  | 0 => 0
  | n + 1 => lk l n + (3 - md l n)
def dg (l : List UInt8) (i : Nat) : Nat := if i < 64 then md l i else lk l 64 / 4 ^ (67 - i) % 4
theorem md_lt (l : List UInt8) (i : Nat) : md l i < 4 := Nat.mod_lt _ (by omega)
theorem dg_lt (l : List UInt8) (i : Nat) : dg l i < 4 := by
  unfold dg
  split
  · exact md_lt l i
  · exact Nat.mod_lt _ (by omega)
theorem lk_le (l : List UInt8) (n : Nat) : lk l n ≤ 3 * n := by
  induction n with
  | zero => exact Nat.le_refl _
  | succ n ih => simp only [lk]; omega
theorem lk_mono (a b : List UInt8) (n : Nat) (h : ∀ i, i < n → md b i ≤ md a i) : lk a n ≤ lk b n := by
  induction n with
  | zero => exact Nat.le_refl _
  | succ n ih =>
    have h1 := ih (fun i hi => h i (by omega))
    have h2 := h n (by omega)
    simp only [lk]
    omega
theorem lk_less (a b : List UInt8) (n : Nat) (h : ∀ i, i < n → md b i ≤ md a i) (k : Nat) (hk : k < n) (hlt : md b k < md a k) : lk a n < lk b n := by
  induction n with
  | zero => omega
  | succ n ih =>
    have h2 := h n (by omega)
    have ha := md_lt a n
    simp only [lk]
    rcases Nat.lt_or_ge k n with h3 | h3
    · have h1 := ih (fun i hi => h i (by omega)) h3
      omega
    · obtain rfl : k = n := by omega
      have h1 := lk_mono a b k (fun i hi => h i (by omega))
      omega
theorem of_digits (y : Nat) (hy : y < 256) : y = 64 * (y / 64 % 4) + 16 * (y / 16 % 4) + 4 * (y / 4 % 4) + y / 1 % 4 := by
  have e1 : y / 16 = y / 4 / 4 := by rw [Nat.div_div_eq_div_mul]
  have e2 : y / 64 = y / 4 / 4 / 4 := by rw [Nat.div_div_eq_div_mul, Nat.div_div_eq_div_mul]
  rw [e1, e2, Nat.div_one]
  omega
/-- A number below 256 whose four digits are none of them less is itself not less. -/
theorem four_le (x y : Nat) (hx : x < 256) (hy : y < 256) (h : ∀ i, 64 ≤ i → i < 68 → y / 4 ^ (67 - i) % 4 ≤ x / 4 ^ (67 - i) % 4) : y ≤ x := by
  have h0 : y / 64 % 4 ≤ x / 64 % 4 := h 64 (by omega) (by omega)
  have h1 : y / 16 % 4 ≤ x / 16 % 4 := h 65 (by omega) (by omega)
  have h2 : y / 4 % 4 ≤ x / 4 % 4 := h 66 (by omega) (by omega)
  have h3 : y / 1 % 4 ≤ x / 1 % 4 := h 67 (by omega) (by omega)
  have ex := of_digits x hx
  have ey := of_digits y hy
  omega
theorem byte_digits (x y : UInt8) (h : ∀ k, k < 4 → x.toNat / 4 ^ (3 - k) % 4 = y.toNat / 4 ^ (3 - k) % 4) : x = y := by
  have hx := x.toNat_lt
  have hy := y.toNat_lt
  have h0 : x.toNat / 64 % 4 = y.toNat / 64 % 4 := h 0 (by omega)
  have h1 : x.toNat / 16 % 4 = y.toNat / 16 % 4 := h 1 (by omega)
  have h2 : x.toNat / 4 % 4 = y.toNat / 4 % 4 := h 2 (by omega)
  have h3 : x.toNat / 1 % 4 = y.toNat / 1 % 4 := h 3 (by omega)
  have ex := of_digits _ hx
  have ey := of_digits _ hy
  exact UInt8.toNat_inj.1 (by omega)
theorem some_less (a b : List UInt8) (j : Nat) (hj : j < 16) (hd : a.getD j 0 ≠ b.getD j 0) : ∃ i, i < 68 ∧ dg a i < dg b i := by
  apply Classical.byContradiction
  intro hn
  have hge : ∀ i, i < 68 → dg b i ≤ dg a i := fun i hi => Nat.le_of_not_lt fun h => hn ⟨i, hi, h⟩
  have hm : ∀ i, i < 64 → md b i ≤ md a i := fun i hi => by
    have := hge i (by omega)
    unfold dg at this
    rwa [if_pos hi, if_pos hi] at this
  have hk : ∃ k, k < 64 ∧ md b k < md a k := by
    apply Classical.byContradiction
    intro hk
    refine hd (byte_digits _ _ fun k hk4 => ?_)
    have e : md a (4 * j + k) = md b (4 * j + k) := by
      have h1 := hm (4 * j + k) (by omega)
      have h2 : ¬ md b (4 * j + k) < md a (4 * j + k) := fun h => hk ⟨_, by omega, h⟩
      omega
    unfold md at e
    rwa [show (4 * j + k) / 4 = j by omega, show (4 * j + k) % 4 = k by omega] at e
  obtain ⟨k, hk, hlt⟩ := hk
  have hl := lk_less a b 64 hm k hk hlt
  have ha := lk_le a 64
  have hb := lk_le b 64
  have := four_le (lk a 64) (lk b 64) (by omega) (by omega) (fun i h1 h2 => by
    have := hge i (by omega)
    unfold dg at this
    rwa [if_neg (by omega), if_neg (by omega)] at this)
  omega
theorem dg_same (a b : List UInt8) (h : ∀ j, j < 16 → a.getD j 0 = b.getD j 0) (i : Nat) : dg a i = dg b i := by
  have hm : ∀ i, i < 64 → md a i = md b i := fun i hi => by
    unfold md
    rw [h (i / 4) (by omega)]
  have hk : ∀ n, n ≤ 64 → lk a n = lk b n := fun n => by
    induction n with
    | zero => intro _; rfl
    | succ n ih =>
      intro hn
      simp only [lk]
      rw [ih (by omega), hm n (by omega)]
  unfold dg
  rw [hk 64 (Nat.le_refl _)]
  split
  · exact hm i (by assumption)
  · rfl
/-- What a loop over the digits finds. -/
def lessTo (a b : List UInt8) (n : Nat) : Bool := (List.range n).any fun i => decide (dg a i < dg b i)
theorem lessTo_succ (a b : List UInt8) (n : Nat) : lessTo a b (n + 1) = (lessTo a b n || decide (dg a n < dg b n)) := by
  unfold lessTo
  rw [List.range_succ, List.any_append]
  simp
theorem lessTo_true (a b : List UInt8) (n : Nat) : lessTo a b n = true ↔ ∃ i, i < n ∧ dg a i < dg b i := by
  unfold lessTo
  rw [List.any_eq_true]
  constructor
  · rintro ⟨i, h1, h2⟩
    exact ⟨i, List.mem_range.1 h1, of_decide_eq_true h2⟩
  · rintro ⟨i, h1, h2⟩
    exact ⟨i, List.mem_range.2 h1, decide_eq_true h2⟩
def sameTo (a b : List UInt8) (n : Nat) : Bool := (List.range n).all fun i => a.getD i 0 == b.getD i 0
theorem sameTo_succ (a b : List UInt8) (n : Nat) : sameTo a b (n + 1) = (sameTo a b n && (a.getD n 0 == b.getD n 0)) := by
  unfold sameTo
  rw [List.range_succ, List.all_append]
  simp
theorem digits_tell (a b : List UInt8) : (sameTo a b 16 && (!lessTo a b 68 && !lessTo b a 68) || !sameTo a b 16 && (lessTo a b 68 && lessTo b a 68)) = true := by
  rcases hs : sameTo a b 16 with _ | _
  · have : ∃ j, j < 16 ∧ a.getD j 0 ≠ b.getD j 0 := by
      apply Classical.byContradiction
      intro hn
      have : sameTo a b 16 = true := by
        unfold sameTo
        rw [List.all_eq_true]
        intro i hi
        rw [beq_iff_eq]
        exact Classical.byContradiction fun h => hn ⟨i, List.mem_range.1 hi, h⟩
      rw [hs] at this
      cases this
    obtain ⟨j, hj, hd⟩ := this
    rw [(lessTo_true a b 68).2 (some_less a b j hj hd), (lessTo_true b a 68).2 (some_less b a j hj (Ne.symm hd))]
    rfl
  · have h : ∀ j, j < 16 → a.getD j 0 = b.getD j 0 := fun j hj => by
      unfold sameTo at hs
      rw [List.all_eq_true] at hs
      have := hs j (List.mem_range.2 hj)
      rwa [beq_iff_eq] at this
    have h1 : lessTo a b 68 = false := Bool.eq_false_iff.2 fun h' => by
      obtain ⟨i, _, hi⟩ := (lessTo_true a b 68).1 h'
      rw [dg_same a b h i] at hi
      omega
    have h2 : lessTo b a 68 = false := Bool.eq_false_iff.2 fun h' => by
      obtain ⟨i, _, hi⟩ := (lessTo_true b a 68).1 h'
      rw [dg_same a b h i] at hi
      omega
    rw [h1, h2]
    rfl

theorem rowForm {w : World} {base sz n : Nat} {t : TypeId} {v : Value} {xs : List Value} (h : w.ownsRow base t sz v n xs) : ∃ A c, v = .slice A n c ∧ n ≤ c ∧ (A = none ∨ ∃ g, A = some ⟨g, 0, none⟩ ∧ base ≤ g ∧ g < w.heap.size) := by
  rcases h.2 with ⟨rfl, rfl⟩ | ⟨g, cap, cur, rfl, h1, h2, h3, _⟩
  · exact ⟨none, 0, rfl, Nat.le_refl _, .inl rfl⟩
  · exact ⟨_, cap, rfl, h3, .inr ⟨g, rfl, h1, (h.lt g rfl).2⟩⟩
theorem rowBelow {w w' : World} {base sz n B : Nat} {t : TypeId} {v : Value} {xs : List Value} (h : w.ownsRow base t sz v n xs) (hb : Below B w w') (hB : w.heap.size ≤ B) : w'.ownsRow base t sz v n xs := by
  refine ⟨h.1, ?_⟩
  rcases h.2 with h0 | ⟨g, cap, cur, hv, h1, h2, h3⟩
  · exact .inl h0
  · have hlt : g < w.heap.size := (h.lt g (by rw [hv]; rfl)).2
    exact .inr ⟨g, cap, cur, hv, h1, (hb.block g (by omega)).trans h2, h3⟩
theorem rowBase {w : World} {base base' sz n : Nat} {t : TypeId} {v : Value} {xs : List Value} (h : w.ownsRow base t sz v n xs) (hb : base' ≤ base) : w.ownsRow base' t sz v n xs := by
  refine ⟨h.1, ?_⟩
  rcases h.2 with h0 | ⟨g, cap, cur, hv, h1, h2⟩
  · exact .inl h0
  · exact .inr ⟨g, cap, cur, hv, Nat.le_trans hb h1, h2⟩
/-- A cell of a row that is owned. -/
theorem rowAt {w : World} {base n : Nat} {t : TypeId} {A : Option Addr} {c : Nat} {xs : List Value} (h : w.ownsRow base t 1 (.slice A n c) n xs) {j : Nat} {u : Value} (hu : xs[j]? = some u) : ∃ g, A = some ⟨g, 0, none⟩ ∧ base ≤ g ∧ g < w.heap.size ∧ w.cell? ⟨g, j, none⟩ = some u := by
  have hj : j < xs.length := (List.getElem?_eq_some_iff.1 hu).1
  have hl := h.1
  rcases h.2 with ⟨e, h0⟩ | ⟨g, cap, cur, e, h1, h2, h3, h4, h5, h6⟩
  · omega
  · injection e with e1 e2 e3
    subst e1
    refine ⟨g, rfl, h1, (h.lt g rfl).2, ?_⟩
    rw [cell_of_row _ g j _ _ (0, 0) h2, ← Array.getElem?_toList, ← hu, ← h6, List.getElem?_take, if_pos (by omega)]
theorem hF_one (l : List UInt8) (i : Nat) : (hF l i).oneCell' = true := rfl
theorem hF_at (l : List UInt8) (i : Nat) (h : i < l.length) : (l.map bv)[i]? = some (hF l i) := by
  rw [List.getElem?_map, List.getElem?_eq_getElem h]
  unfold hF
  rw [List.getD_eq_getElem?_getD, List.getElem?_eq_getElem h]
  rfl
theorem rowV_hF (l : List UInt8) : rowV l.length (hF l) = (l.map bv).toArray := by
  apply Array.ext_getElem?
  intro j
  by_cases hj : j < l.length
  · rw [rowV_at _ _ j hj, List.getElem?_toArray, hF_at l j hj]
  · rw [Array.getElem?_eq_none (by rw [rowV_size]; omega), Array.getElem?_eq_none (by simp; omega)]
/-- A part of a row. -/
theorem Fill.range {g t n k : Nat} {f : Nat → Value} {w : World} (h : Fill g t n k f w) (o m : Nat) (f' : Nat → Value) (ho : o + m ≤ k) (hf : ∀ j, j < m → f' j = f (o + j)) : w.rangeAt g o ((List.range m).map f') := fun j v hv => by
  rw [List.getElem?_map] at hv
  rcases Nat.lt_or_ge j m with h1 | h1
  · rw [List.getElem?_range h1] at hv
    rw [h.at_ (o + j) (by omega), ← hf j h1]
    exact hv
  · rw [List.getElem?_eq_none (by simpa using h1)] at hv; cases hv
theorem Fill.there {g t n k : Nat} {f : Nat → Value} {w : World} (h : Fill g t n k f w) (o m : Nat) (ho : o + m ≤ n) : w.there g o m := fun j hj => by
  obtain ⟨u, h1, h2⟩ := h.cell (o + j) (by omega)
  exact ⟨by rw [h1]; rfl, h2⟩
/-- A part of a row is another one. -/
theorem Fill.cells {g t n : Nat} (vs : List Value) : ∀ (o : Nat) (f f' : Nat → Value) (w : World), Fill g t n n f w → o + vs.length ≤ n →
    (∀ j, j < n → f' j = if o ≤ j ∧ j < o + vs.length then vs.getD (j - o) undef else f j) → Fill g t n n f' (w.setCells g o vs) := by
  induction vs with
  | nil =>
    intro o f f' w h _ hf
    exact h.same (fun j hj => by rw [hf j hj, if_neg (by rw [List.length_nil]; omega)])
  | cons v r ih =>
    intro o f f' w h hl hf
    rw [List.length_cons] at hl hf
    rw [World.setCells]
    refine ih (o + 1) (fun j => if j = o then v else f j) f' _ (h.put (by omega) (fun j _ => rfl)) (by omega) (fun j hj => ?_)
    rw [hf j hj]
    by_cases h1 : j = o
    · subst h1
      rw [if_pos ⟨Nat.le_refl _, by omega⟩, if_neg (by omega), if_pos rfl, Nat.sub_self]
      rfl
    · by_cases h2 : o ≤ j ∧ j < o + (r.length + 1)
      · rw [if_pos h2, if_pos (by omega), show j - o = (j - (o + 1)) + 1 by omega]
        rfl
      · rw [if_neg h2, if_neg (by omega), if_neg h1]
theorem setCells_block {b : Nat} : ∀ (vs : List Value) (o : Nat) (w : World) (k : Nat), k ≠ b → (w.setCells b o vs).heap[k]? = w.heap[k]? := fun vs => by
  induction vs with
  | nil => intro o w k _; rfl
  | cons v r ih =>
    intro o w k hk
    rw [World.setCells, ih (o + 1) _ k hk]
    exact Below.heap_setCell _ _ _ _ (fun e => hk e)
theorem setCells_size {b : Nat} : ∀ (vs : List Value) (o : Nat) (w : World), (w.setCells b o vs).heap.size = w.heap.size ∧ (w.setCells b o vs).os = w.os ∧ (w.setCells b o vs).tape = w.tape ∧ (w.setCells b o vs).output = w.output := fun vs => by
  induction vs with
  | nil => intro o w; exact ⟨rfl, rfl, rfl, rfl⟩
  | cons v r ih =>
    intro o w
    rw [World.setCells]
    obtain ⟨h1, h2, h3, h4⟩ := ih (o + 1) (w.setCell ⟨b, o, none⟩ v)
    exact ⟨by rw [h1]; simp, h2, h3, h4⟩
theorem grown_cells {a w : World} {g : Nat} (h : a.grownBy w (some g)) (o : Nat) (vs : List Value) : a.grownBy (w.setCells g o vs) (some g) := by
  obtain ⟨h1, h2, h3, h4⟩ := setCells_size (b := g) vs o w
  exact h.trans ⟨h2, h3, h4, by omega, fun k hk hne => setCells_block vs o w k (fun e => hne (by rw [e]))⟩
theorem below_cells {B : Nat} {a w : World} {g : Nat} (h : Below B a w) (hg : B ≤ g) (o : Nat) (vs : List Value) : Below B a (w.setCells g o vs) := by
  obtain ⟨h1, h2, h3, h4⟩ := setCells_size (b := g) vs o w
  exact h.trans ⟨h2, h3, h4, by omega, fun k hk => setCells_block vs o w k (by omega)⟩

/-- A secret's node; what becomes of a secret's nodes one by one. -/
def nodeL (S : List UInt8) (i : Nat) : List UInt8 := (S.drop (16 * i)).take 16
theorem nodeL_len (S : List UInt8) (h : S.length = 1088) (i : Nat) (hi : i < 68) : (nodeL S i).length = 16 := by
  unfold nodeL
  rw [List.length_take, List.length_drop]
  omega
theorem nodeL_at (S : List UInt8) (i j : Nat) (hj : j < 16) : (nodeL S i).getD j 0 = S.getD (16 * i + j) 0 := by
  unfold nodeL
  rw [List.getD_eq_getElem?_getD, List.getElem?_take, if_pos hj, List.getElem?_drop, ← List.getD_eq_getElem?_getD]
def frontL (g : Nat → List UInt8 → List UInt8) (S : List UInt8) (i : Nat) : List UInt8 := (List.range i).flatMap fun j => g j (nodeL S j)
def eachTo (g : Nat → List UInt8 → List UInt8) (S : List UInt8) (i : Nat) : List UInt8 := frontL g S i ++ S.drop (16 * i)
def eachL (g : Nat → List UInt8 → List UInt8) (S : List UInt8) : List UInt8 := frontL g S 68
section
variable {g : Nat → List UInt8 → List UInt8} {S : List UInt8}
theorem frontL_succ (i : Nat) : frontL g S (i + 1) = frontL g S i ++ g i (nodeL S i) := by
  unfold frontL
  rw [List.range_succ, List.flatMap_append]
  simp
theorem frontL_len (hg : ∀ i x, i < 68 → x.length = 16 → (g i x).length = 16) (hS : S.length = 1088) (i : Nat) (hi : i ≤ 68) : (frontL g S i).length = 16 * i := by
  induction i with
  | zero => rfl
  | succ i ih => rw [frontL_succ, List.length_append, ih (by omega), hg i _ (by omega) (nodeL_len S hS i (by omega))]; omega
theorem eachL_len (hg : ∀ i x, i < 68 → x.length = 16 → (g i x).length = 16) (hS : S.length = 1088) : (eachL g S).length = 1088 := frontL_len hg hS 68 (Nat.le_refl _)
theorem eachTo_zero : eachTo g S 0 = S := by simp [eachTo, frontL]
theorem eachTo_all (hS : S.length = 1088) : eachTo g S 68 = eachL g S := by
  unfold eachTo eachL
  rw [List.drop_eq_nil_of_le (by omega), List.append_nil]
theorem getD_app (l x : List UInt8) (j : Nat) : (l ++ x).getD j 0 = if j < l.length then l.getD j 0 else x.getD (j - l.length) 0 := by
  by_cases h : j < l.length
  · rw [if_pos h, List.getD_eq_getElem?_getD, List.getElem?_append_left h, ← List.getD_eq_getElem?_getD]
  · rw [if_neg h, List.getD_eq_getElem?_getD, List.getElem?_append_right (by omega), ← List.getD_eq_getElem?_getD]
theorem eachTo_succ (hg : ∀ i x, i < 68 → x.length = 16 → (g i x).length = 16) (hS : S.length = 1088) (i : Nat) (hi : i < 68) (j : Nat) :
    (eachTo g S (i + 1)).getD j 0 = if 16 * i ≤ j ∧ j < 16 * i + 16 then (g i (nodeL S i)).getD (j - 16 * i) 0 else (eachTo g S i).getD j 0 := by
  have h1 := frontL_len hg hS i (by omega)
  have h2 := hg i _ hi (nodeL_len S hS i hi)
  unfold eachTo
  rw [frontL_succ, getD_app, getD_app, getD_app, List.length_append, h1, h2]
  by_cases a1 : j < 16 * i
  · rw [if_pos (by omega), if_pos a1, if_neg (by omega), if_pos a1]
  · by_cases a2 : j < 16 * i + 16
    · rw [if_pos a2, if_neg a1, if_pos ⟨by omega, a2⟩]
    · rw [if_neg a2, if_neg (by omega), if_neg a1, List.getD_eq_getElem?_getD, List.getElem?_drop, List.getD_eq_getElem?_getD, List.getElem?_drop]
      congr 2
      omega
/-- A node that is still to be done is the secret's own. -/
theorem eachTo_node (hg : ∀ i x, i < 68 → x.length = 16 → (g i x).length = 16) (hS : S.length = 1088) (i : Nat) (hi : i < 68) (j : Nat) : (eachTo g S i).getD (16 * i + j) 0 = S.getD (16 * i + j) 0 := by
  unfold eachTo
  rw [getD_app, frontL_len hg hS i (by omega), if_neg (by omega), List.getD_eq_getElem?_getD, List.getElem?_drop, ← List.getD_eq_getElem?_getD]
  congr 1
  omega
theorem nodeL_each (hg : ∀ i x, i < 68 → x.length = 16 → (g i x).length = 16) (hS : S.length = 1088) (i : Nat) (hi : i < 68) : nodeL (eachL g S) i = g i (nodeL S i) := by
  have key : ∀ n, i < n → n ≤ 68 → nodeL (frontL g S n) i = g i (nodeL S i) := fun n => by
    induction n with
    | zero => intro h _; omega
    | succ n ih =>
      intro h1 h2
      have hl := frontL_len hg hS n (by omega)
      rcases Nat.lt_or_ge i n with h3 | h3
      · rw [← ih h3 (by omega), frontL_succ]
        unfold nodeL
        rw [List.drop_append_of_le_length (by omega), List.take_append_of_le_length (by rw [List.length_drop]; omega)]
      · obtain rfl : i = n := by omega
        rw [frontL_succ]
        unfold nodeL
        rw [List.drop_left' hl, List.take_of_length_le (by rw [show (List.take 16 (List.drop (16 * i) S)) = nodeL S i from rfl, hg i _ hi (nodeL_len S hS i hi)]; omega)]
  exact key 68 hi (Nat.le_refl _)
theorem eachL_each {g2 : Nat → List UInt8 → List UInt8} (hg : ∀ i x, i < 68 → x.length = 16 → (g i x).length = 16) (hS : S.length = 1088) : eachL g2 (eachL g S) = eachL (fun i x => g2 i (g i x)) S := by
  have key : ∀ n, n ≤ 68 → frontL g2 (eachL g S) n = frontL (fun i x => g2 i (g i x)) S n := fun n => by
    induction n with
    | zero => intro _; rfl
    | succ n ih =>
      intro h
      rw [frontL_succ, frontL_succ, ih (by omega), nodeL_each hg hS n (by omega)]
  exact key 68 (Nat.le_refl _)
theorem eachL_same {g2 : Nat → List UInt8 → List UInt8} (h : ∀ i x, i < 68 → g i x = g2 i x) : eachL g S = eachL g2 S := by
  unfold eachL
  have key : ∀ n, n ≤ 68 → frontL g S n = frontL g2 S n := fun n => by
    induction n with
    | zero => intro _; rfl
    | succ n ih => intro hn; rw [frontL_succ, frontL_succ, ih (by omega), h n _ (by omega)]
  exact key 68 (Nat.le_refl _)
end
end Go.Proofs.Ytaoddppkijopmaa
