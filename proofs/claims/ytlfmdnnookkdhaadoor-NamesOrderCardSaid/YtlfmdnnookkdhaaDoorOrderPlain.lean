/- Plain: texts stand in the order of their hashes. -/
import Derived.Test.YtlfmdnnookkdhaaDoorText
namespace Go.Proofs.YtlfmdnnookkdhaaDoor
set_option linter.unusedVariables false

/-- Are the first ones the same; is the first other one less? -/
def smF (a b : List UInt8) : Nat → Bool
  | 0 => true
  | i + 1 => smF a b i && (a.getD i 0 == b.getD i 0)
def ahF (a b : List UInt8) : Nat → Bool
  | 0 => false
  | i + 1 => if smF a b i && (a.getD i 0 != b.getD i 0) then decide ((a.getD i 0).toNat < (b.getD i 0).toNat) else ahF a b i

theorem less_irrefl (p : List UInt8) : Op.bytesLess p p = false := by
  induction p with
  | nil => rfl
  | cons x p ih => simp [Op.bytesLess, ih]
theorem less_snoc (x y : UInt8) : ∀ (p q : List UInt8), p.length = q.length → Op.bytesLess (p ++ [x]) (q ++ [y]) = (Op.bytesLess p q || (p == q && decide (x < y))) := by
  intro p
  induction p with
  | nil =>
    intro q h
    rcases q with _ | ⟨z, q⟩
    · simp [Op.bytesLess]
    · cases h
  | cons u p ih =>
    intro q h
    rcases q with _ | ⟨z, q⟩
    · cases h
    · have := ih q (by simpa using h)
      simp only [List.cons_append, Op.bytesLess, this, List.cons_beq_cons]
      cases decide (u < z) <;> cases (u == z) <;> simp
theorem take_snoc' (l : List UInt8) (i : Nat) (h : i < l.length) : l.take (i + 1) = l.take i ++ [l.getD i 0] := by
  rw [List.take_succ_eq_append_getElem h, List.getD_eq_getElem?_getD, List.getElem?_eq_getElem h]
  rfl
theorem order_to (a b : List UInt8) (n : Nat) (ha : a.length = n) (hb : b.length = n) : ∀ i, i ≤ n → smF a b i = (a.take i == b.take i) ∧ ahF a b i = Op.bytesLess (a.take i) (b.take i) := by
  intro i
  induction i with
  | zero => intro _; exact ⟨rfl, rfl⟩
  | succ i ih =>
    intro h
    obtain ⟨h1, h2⟩ := ih (by omega)
    have hl : (a.take i).length = (b.take i).length := by rw [List.length_take, List.length_take]; omega
    rw [take_snoc' a i (by omega), take_snoc' b i (by omega), less_snoc _ _ _ _ hl]
    unfold smF ahF
    rw [h1, h2]
    generalize a.getD i 0 = x
    generalize b.getD i 0 = y
    generalize a.take i = p at *
    generalize b.take i = q at *
    constructor
    · rw [Bool.eq_iff_iff]
      simp only [Bool.and_eq_true, beq_iff_eq]
      constructor
      · rintro ⟨rfl, rfl⟩; rfl
      · intro h
        obtain ⟨h3, h4⟩ := List.append_inj h hl
        exact ⟨h3, by simpa using h4⟩
    · by_cases e : p = q
      · subst e
        by_cases e2 : x = y
        · subst e2
          simp [less_irrefl]
        · have : (x != y) = true := by simpa using e2
          simp [less_irrefl, e2, UInt8.lt_iff_toNat_lt]
      · have : (p == q) = false := by simpa using e
        simp [this]
theorem sg_lt (m n : Nat) (hm : m < 16) (hn : n < 16) : decide (sg m < sg n) = decide (m < n) ∧ (sg m == sg n) = decide (m = n) := by
  have key : (List.range 16).all (fun m => (List.range 16).all fun n => (decide (sg m < sg n) == decide (m < n)) && ((sg m == sg n) == decide (m = n))) = true := by decide +kernel
  have h1 := List.all_eq_true.1 key m (List.mem_range.2 hm)
  have h2 := List.all_eq_true.1 h1 n (List.mem_range.2 hn)
  simp only [Bool.and_eq_true, beq_iff_eq] at h2
  exact h2
theorem hex_less : ∀ (a b : List UInt8), a.length = b.length → Op.bytesLess (hexL a) (hexL b) = Op.bytesLess a b ∧ (hexL a == hexL b) = (a == b) := by
  intro a
  induction a with
  | nil =>
    intro b h
    rcases b with _ | ⟨y, b⟩
    · exact ⟨rfl, rfl⟩
    · cases h
  | cons x a ih =>
    intro b h
    rcases b with _ | ⟨y, b⟩
    · cases h
    · obtain ⟨h1, h2⟩ := ih b (by simpa using h)
      have ea : hexL (x :: a) = sg (x.toNat / 16) :: sg (x.toNat % 16) :: hexL a := rfl
      have eb : hexL (y :: b) = sg (y.toNat / 16) :: sg (y.toNat % 16) :: hexL b := rfl
      have hx := x.toNat_lt
      have hy := y.toNat_lt
      obtain ⟨s1, s2⟩ := sg_lt (x.toNat / 16) (y.toNat / 16) (by omega) (by omega)
      obtain ⟨s3, s4⟩ := sg_lt (x.toNat % 16) (y.toNat % 16) (by omega) (by omega)
      have e1 : decide (x < y) = decide (x.toNat < y.toNat) := by simp [UInt8.lt_iff_toNat_lt]
      have e2 : (x == y) = decide (x.toNat = y.toNat) := by
        rw [Bool.eq_iff_iff, beq_iff_eq, decide_eq_true_eq, UInt8.toNat_inj]
      rw [ea, eb]
      simp only [Op.bytesLess, List.cons_beq_cons, s1, s2, s3, s4, h1, h2, e1, e2]
      generalize x.toNat = m at *
      generalize y.toNat = n at *
      constructor
      · rw [Bool.eq_iff_iff]
        simp only [Bool.or_eq_true, Bool.and_eq_true, decide_eq_true_eq]
        constructor
        · rintro (h | ⟨h, h' | ⟨h', h''⟩⟩)
          · left; omega
          · left; omega
          · right; exact ⟨by omega, h''⟩
        · rintro (h | ⟨h, h'⟩)
          · by_cases e : m / 16 < n / 16
            · left; exact e
            · right; exact ⟨by omega, .inl (by omega)⟩
          · right; exact ⟨by omega, .inr ⟨by omega, h'⟩⟩
      · rw [Bool.eq_iff_iff]
        simp only [Bool.and_eq_true, decide_eq_true_eq]
        constructor
        · rintro ⟨h, h', h''⟩; exact ⟨by omega, h''⟩
        · rintro ⟨h, h'⟩; exact ⟨by omega, by omega, h'⟩
theorem order_less (a b : List UInt8) (ha : a.length = 32) (hb : b.length = 32) : Op.bytesLess (hexL a) (hexL b) = ahF a b 32 ∧ (hexL a == hexL b) = smF a b 32 ∧ (a == b) = smF a b 32 := by
  obtain ⟨h1, h2⟩ := hex_less a b (by omega)
  obtain ⟨h3, h4⟩ := order_to a b 32 ha hb 32 (Nat.le_refl _)
  rw [List.take_of_length_le (by omega), List.take_of_length_le (by omega)] at h3 h4
  exact ⟨by rw [h1, h4], by rw [h2, h3], h3.symm⟩
end Go.Proofs.YtlfmdnnookkdhaaDoor
