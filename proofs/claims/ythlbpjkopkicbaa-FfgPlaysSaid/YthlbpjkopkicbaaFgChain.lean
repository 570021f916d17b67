/- Links that stand in a row, told in any order. -/
import Derived.Test.YthlbpjkopkicbaaFgKnown
namespace Go.Proofs.Ythlbpjkopkicbaa
set_option linter.unusedVariables false
set_option maxRecDepth 100000

section
variable (p : Nat → Pt) (m : Nat)
def lkk (k : Nat) : Lk := ⟨p k, p (k + 1)⟩
/-- Of the links told a first part, c of them, has been followed; the others wait. -/
structure InRow (S : FgS) (c : Nat) : Prop where
  le : c ≤ m
  st : ∀ k, k ≤ c → stN S.stands (p k) = if k = 0 ∨ (k < c ∧ near (lkk p k) = true) then 2 else 1
  no : ∀ q, (∀ k, k ≤ c → q ≠ p k) → stN S.stands q = 0
  wt : ∀ k, c < k → k < m → S.waiting (p k) = if lkk p k ∈ S.told then some [lkk p k] else none
  wn : ∀ q, (∀ k, c < k → k < m → q ≠ p k) → S.waiting q = none
  told : ∀ k, k < c → lkk p k ∈ S.told
  sub : ∀ y, y ∈ S.told → ∃ k, k < m ∧ y = lkk p k
end
variable {p : Nat → Pt} {m : Nat}
theorem stN_set (f : Pt → Option Nat) (q : Pt) (n : Nat) (z : Pt) : stN (setSt f q (some n)) z = if z = q then n else stN f z := by
  unfold stN setSt
  by_cases h : z = q
  · rw [if_pos h, if_pos h]; rfl
  · rw [if_neg h, if_neg h]
theorem stepA_st (S : FgS) (y : Lk) (z : Pt) : stN (stepA S y).stands z = if near y = true ∧ z = y.s then 2 else stN S.stands z := by
  unfold stepA
  by_cases h : near y = true
  · rw [if_pos h]
    show stN (setSt S.stands y.s (some 2)) z = _
    rw [stN_set]
    by_cases hz : z = y.s
    · rw [if_pos hz, if_pos ⟨h, hz⟩]
    · rw [if_neg hz, if_neg (fun e => hz e.2)]
  · rw [if_neg h, if_neg (fun e => h e.1)]
theorem stepA_wt (S : FgS) (y : Lk) : (stepA S y).waiting = S.waiting ∧ (stepA S y).told = S.told ∧ (stepA S y).links = S.links := by
  unfold stepA
  split <;> exact ⟨rfl, rfl, rfl⟩
/-- One round: the next one stands. -/
theorem row_round (inj : ∀ i j, i ≤ m → j ≤ m → p i = p j → i = j) {S : FgS} {c : Nat} (h : InRow p m S c) (hc : c < m) (ht : lkk p c ∈ S.told) :
    InRow p m (roundS S [lkk p c]).1 (c + 1) ∧ (roundS S [lkk p c]).1.told = S.told ∧ (roundS S [lkk p c]).1.links = S.links ∧ (roundS S [lkk p c]).2 = (if c + 1 < m ∧ lkk p (c + 1) ∈ S.told then [lkk p (c + 1)] else []) := by
  have hne : p (c + 1) ≠ p c := fun e => by have := inj _ _ (by omega) (by omega) e; omega
  have h0 : stN (stepA S (lkk p c)).stands (p (c + 1)) = 0 := by
    rw [stepA_st, if_neg (fun e => hne e.2)]
    exact h.no _ (fun k hk e => by have := inj _ _ (by omega) (by omega) e; omega)
  obtain ⟨a1, a2, a3⟩ := stepA_wt S (lkk p c)
  have e1 : (roundS S [lkk p c]).1 = { stepA S (lkk p c) with stands := setSt (stepA S (lkk p c)).stands (p (c + 1)) (some 1), waiting := setWt (stepA S (lkk p c)).waiting (p (c + 1)) none } := by
    show stepB (stepA S (lkk p c)) (lkk p c) = _
    unfold stepB
    rw [if_pos (show stN (stepA S (lkk p c)).stands (lkk p c).t = 0 from h0)]
    rfl
  have e2 : (roundS S [lkk p c]).2 = (S.waiting (p (c + 1))).getD [] := by
    show [] ++ stepN (stepA S (lkk p c)) (lkk p c) = _
    unfold stepN
    rw [if_pos (show stN (stepA S (lkk p c)).stands (lkk p c).t = 0 from h0), a1]
    rfl
  have hst : ∀ z, stN (roundS S [lkk p c]).1.stands z = if z = p (c + 1) then 1 else if near (lkk p c) = true ∧ z = p c then 2 else stN S.stands z := fun z => by
    rw [e1]
    show stN (setSt _ _ (some 1)) z = _
    rw [stN_set, stepA_st]
    rfl
  have hwt : ∀ z, (roundS S [lkk p c]).1.waiting z = if z = p (c + 1) then none else S.waiting z := fun z => by
    rw [e1]
    show setWt _ _ none z = _
    rw [a1]
    rfl
  have htl : (roundS S [lkk p c]).1.told = S.told := by rw [e1]; exact a2
  have hlk : (roundS S [lkk p c]).1.links = S.links := by rw [e1]; exact a3
  refine ⟨{ le := by omega, st := fun k hk => ?_, no := fun q hq => ?_, wt := fun k h1 h2 => ?_, wn := fun q hq => ?_, told := fun k hk => ?_, sub := fun y hy => by rw [htl] at hy; exact h.sub y hy }, htl, hlk, ?_⟩
  · rw [hst]
    by_cases hk1 : k = c + 1
    · rw [if_pos (by rw [hk1]), if_neg (by omega)]
    · have hk2 : k ≤ c := by omega
      rw [if_neg (fun e => hk1 (inj _ _ (by omega) (by omega) e))]
      by_cases hkc : k = c
      · subst hkc
        by_cases hn : near (lkk p k) = true
        · rw [if_pos ⟨hn, rfl⟩, if_pos (.inr ⟨by omega, hn⟩)]
        · rw [if_neg (fun e => hn e.1), h.st k (Nat.le_refl _)]
          by_cases hk0 : k = 0
          · rw [if_pos (.inl hk0), if_pos (.inl hk0)]
          · rw [if_neg (by omega), if_neg (by rintro (e | ⟨_, e⟩); exact hk0 e; exact hn e)]
      · rw [if_neg (fun e => hkc (inj _ _ (by omega) (by omega) e.2)), h.st k hk2]
        have : (k = 0 ∨ k < c ∧ near (lkk p k) = true) ↔ (k = 0 ∨ k < c + 1 ∧ near (lkk p k) = true) := by
          constructor
          · rintro (e | ⟨e, e'⟩); exact .inl e; exact .inr ⟨by omega, e'⟩
          · rintro (e | ⟨e, e'⟩); exact .inl e; exact .inr ⟨by omega, e'⟩
        by_cases hh : k = 0 ∨ k < c ∧ near (lkk p k) = true
        · rw [if_pos hh, if_pos (this.1 hh)]
        · rw [if_neg hh, if_neg (fun e => hh (this.2 e))]
  · rw [hst, if_neg (hq _ (Nat.le_refl _)), if_neg (fun e => hq c (by omega) e.2)]
    exact h.no q (fun k hk => hq k (by omega))
  · rw [hwt, if_neg (fun e => by have := inj _ _ (by omega) (by omega) e; omega), htl]
    exact h.wt k (by omega) h2
  · rw [hwt]
    by_cases e : q = p (c + 1)
    · rw [if_pos e]
    · rw [if_neg e]
      exact h.wn q (fun k h1 h2 => by
        by_cases hk : k = c + 1
        · rw [hk]; exact e
        · exact hq k (by omega) h2)
  · rw [htl]
    by_cases hkc : k = c
    · rw [hkc]; exact ht
    · exact h.told k (by omega)
  · rw [e2]
    by_cases h1 : c + 1 < m
    · rw [h.wt (c + 1) (by omega) h1]
      by_cases h2 : lkk p (c + 1) ∈ S.told
      · rw [if_pos h2, if_pos ⟨h1, h2⟩]; rfl
      · rw [if_neg h2, if_neg (fun e => h2 e.2)]; rfl
    · rw [if_neg (fun e => h1 e.1), h.wn (p (c + 1)) (fun k h2 h3 e => by have := inj _ _ (by omega) (by omega) e; omega)]
      rfl
/-- What is told is followed up to the next one that is not told. -/
theorem row_follow (inj : ∀ i j, i ≤ m → j ≤ m → p i = p j → i = j) : ∀ (d c : Nat) (S S' : FgS), m - c = d → InRow p m S c → c < m → lkk p c ∈ S.told → Follows S [lkk p c] S' → ∃ c', InRow p m S' c' ∧ (c' < m → lkk p c' ∉ S'.told) ∧ S'.told = S.told ∧ S'.links = S.links := by
  intro d
  induction d with
  | zero => intro c S S' hd _ hc; omega
  | succ d ih =>
    intro c S S' hd h hc ht hf
    obtain ⟨r1, r2, r3, r4⟩ := row_round inj h hc ht
    by_cases hn : c + 1 < m ∧ lkk p (c + 1) ∈ S.told
    · rw [if_pos hn] at r4
      cases hf with
      | done _ _ h1 => rw [r4] at h1; cases h1
      | more _ _ _ h1 h2 =>
        rw [r4] at h2
        obtain ⟨c', q1, q2, q3, q4⟩ := ih (c + 1) _ S' (by omega) r1 hn.1 (by rw [r2]; exact hn.2) h2
        exact ⟨c', q1, q2, q3.trans r2, q4.trans r3⟩
    · rw [if_neg hn] at r4
      cases hf with
      | done _ _ h1 => exact ⟨c + 1, r1, fun h1 h2 => hn ⟨h1, by rw [r2] at h2; exact h2⟩, r2, r3⟩
      | more _ _ _ h1 h2 => exact absurd r4 h1
theorem row_start (inj : ∀ i j, i ≤ m → j ≤ m → p i = p j → i = j) : InRow p m (S0 (p 0)) 0 where
  le := Nat.zero_le _
  st k hk := by
    obtain rfl : k = 0 := by omega
    rw [if_pos (.inl rfl)]
    show Option.getD (if p 0 = p 0 then some 2 else none) 0 = 2
    rw [if_pos rfl]; rfl
  no q hq := by
    show Option.getD (if q = p 0 then some 2 else none) 0 = 0
    rw [if_neg (hq 0 (Nat.le_refl _))]; rfl
  wt k h1 h2 := by
    rw [if_neg (fun h => by cases h)]; rfl
  wn q hq := rfl
  told k hk := by omega
  sub y hy := by cases hy
theorem lkk_inj (inj : ∀ i j, i ≤ m → j ≤ m → p i = p j → i = j) {i j : Nat} (hi : i < m) (hj : j < m) (h : lkk p i = lkk p j) : i = j := by
  injection h with h1 _
  exact inj i j (by omega) (by omega) h1
/-- A link of the row is told. -/
theorem row_tell (inj : ∀ i j, i ≤ m → j ≤ m → p i = p j → i = j) {S S' : FgS} {c k : Nat} {er : Int} (h : InRow p m S c) (hn : c < m → lkk p c ∉ S.told) (hk : k < m) (hm : mayL (lkk p k) = true) (ht : Strongs S (lkk p k) S' er) :
    (lkk p k ∈ S.told ∧ er ≠ 0 ∧ S' = S) ∨ (lkk p k ∉ S.told ∧ er = 0 ∧ S'.told = S.told ++ [lkk p k] ∧ S'.links = S.links ++ [lkk p k] ∧ ∃ c', InRow p m S' c' ∧ (c' < m → lkk p c' ∉ S'.told)) := by
  rcases ht with ⟨h0, _⟩ | ⟨_, h1, h2, h3⟩ | ⟨_, h1, h2, h3⟩
  · rw [hm] at h0; cases h0
  · exact .inl ⟨h1, by omega, h3⟩
  · refine .inr ⟨h1, h2, ?_⟩
    have hkc : c ≤ k := by
      rcases Nat.lt_or_ge k c with e | e
      · exact absurd (h.told k e) h1
      · exact e
    have hc : c < m := by omega
    rcases h3 with ⟨e, rfl⟩ | ⟨e, hf⟩
    · have hck : k ≠ c := fun e' => by
        subst e'
        rw [show stN S.stands (lkk p k).s = _ from h.st k (Nat.le_refl _)] at e
        split at e <;> omega
      refine ⟨rfl, rfl, c, { le := h.le, st := h.st, no := h.no, wt := fun j h4 h5 => ?_, wn := fun q hq => ?_, told := fun j hj => List.mem_append_left _ (h.told j hj), sub := fun y hy => ?_ }, fun _ hh => ?_⟩
      · show (if p j = p k then some ((S.waiting (p k)).getD [] ++ [lkk p k]) else S.waiting (p j)) = if lkk p j ∈ S.told ++ [lkk p k] then some [lkk p j] else none
        by_cases hjk : j = k
        · subst hjk
          rw [if_pos rfl, if_pos (by simp), h.wt j h4 h5, if_neg h1]
          rfl
        · rw [if_neg (fun e' => hjk (inj _ _ (by omega) (by omega) e')), h.wt j h4 h5]
          by_cases h6 : lkk p j ∈ S.told
          · rw [if_pos h6, if_pos (List.mem_append_left _ h6)]
          · rw [if_neg h6, if_neg (fun e' => (List.mem_append.1 e').elim h6 (fun e'' => hjk (lkk_inj inj h5 hk (List.mem_singleton.1 e''))))]
      · show (if q = p k then some ((S.waiting (p k)).getD [] ++ [lkk p k]) else S.waiting q) = none
        rw [if_neg (hq k (by omega) hk)]
        exact h.wn q hq
      · rcases List.mem_append.1 hy with h6 | h6
        · exact h.sub y h6
        · exact ⟨k, hk, List.mem_singleton.1 h6⟩
      · rcases List.mem_append.1 hh with h6 | h6
        · exact hn hc h6
        · exact hck (lkk_inj inj hk hc (List.mem_singleton.1 h6).symm)
    · have hck : k = c := by
        rcases Nat.lt_or_ge c k with h6 | h6
        · exact absurd (h.no (p k) (fun j hj e' => by have := inj _ _ (by omega) (by omega) e'; omega)) e
        · omega
      subst hck
      have h7 : InRow p m (putA S (lkk p k)) k := by
        refine { le := h.le, st := h.st, no := h.no, wt := fun j h4 h5 => ?_, wn := h.wn, told := fun j hj => List.mem_append_left _ (h.told j hj), sub := fun y hy => ?_ }
        · show S.waiting (p j) = if lkk p j ∈ S.told ++ [lkk p k] then some [lkk p j] else none
          rw [h.wt j h4 h5]
          by_cases h6 : lkk p j ∈ S.told
          · rw [if_pos h6, if_pos (List.mem_append_left _ h6)]
          · rw [if_neg h6, if_neg (fun e' => (List.mem_append.1 e').elim h6 (fun e'' => by have := lkk_inj inj h5 hk (List.mem_singleton.1 e''); omega))]
        · rcases List.mem_append.1 hy with h6 | h6
          · exact h.sub y h6
          · exact ⟨k, hk, List.mem_singleton.1 h6⟩
      obtain ⟨c', q1, q2, q3, q4⟩ := row_follow inj _ k _ S' rfl h7 hk (List.mem_append_right _ (by simp)) hf
      exact ⟨q3, q4, c', q1, q2⟩
/-- Who waits is one. -/
theorem row_wait {S : FgS} {c : Nat} (h : InRow p m S c) (q : Pt) (L : List Lk) (hw : S.waiting q = some L) : L.length ≤ 1 := by
  by_cases hq : ∀ k, c < k → k < m → q ≠ p k
  · rw [h.wn q hq] at hw; cases hw
  · have : ∃ k, c < k ∧ k < m ∧ q = p k := by
      refine Classical.byContradiction (fun hh => hq (fun k h1 h2 e => hh ⟨k, h1, h2, e⟩))
    obtain ⟨k, h1, h2, rfl⟩ := this
    rw [h.wt k h1 h2] at hw
    split at hw
    · injection hw with hw; rw [← hw]; simp
    · cases hw
/-- All are told: how they stand. -/
theorem row_all {S : FgS} {c : Nat} (h : InRow p m S c) (hn : c < m → lkk p c ∉ S.told) (hall : ∀ k, k < m → lkk p k ∈ S.told) : c = m := by
  have := h.le
  rcases Nat.lt_or_ge c m with h1 | h1
  · exact absurd (hall c h1) (hn h1)
  · omega
/-- A list without doubles whose members are among m is no longer than m. -/
theorem row_count {α : Type} [BEq α] [LawfulBEq α] (f : Nat → α) : ∀ (m : Nat) (L : List α), L.Nodup → (∀ y, y ∈ L → ∃ k, k < m ∧ y = f k) → L.length ≤ m
  | 0, L, _, h => by
    cases L with
    | nil => simp
    | cons y r =>
      obtain ⟨k, h1, _⟩ := h y (by simp)
      omega
  | m + 1, L, hn, h => by
    by_cases hm : f m ∈ L
    · have h1 := row_count f m (L.erase (f m)) (hn.erase _) (fun y hy => by
        rw [hn.mem_erase_iff] at hy
        obtain ⟨k, h2, h3⟩ := h y hy.2
        refine ⟨k, ?_, h3⟩
        rcases Nat.lt_or_ge k m with h4 | h4
        · exact h4
        · have : k = m := by omega
          subst this
          exact absurd h3 hy.1)
      rw [List.length_erase_of_mem hm] at h1
      omega
    · have h1 := row_count f m L hn (fun y hy => by
        obtain ⟨k, h2, h3⟩ := h y hy
        refine ⟨k, ?_, h3⟩
        rcases Nat.lt_or_ge k m with h4 | h4
        · exact h4
        · have : k = m := by omega
          subst this
          exact absurd (h3 ▸ hy) hm)
      omega
/-- How much a gadget bears behind i links. -/
def nS : Nat → Nat
  | 0 => 1
  | i + 1 => nS i + 5 + 2 * (i * (1 + 2 * i))
theorem nS_mono : ∀ {i j : Nat}, i ≤ j → nS i ≤ nS j := fun {i j} h => by
  induction h with
  | refl => exact Nat.le_refl _
  | step _ ih => exact Nat.le_trans ih (by show _ ≤ nS _ + 5 + _; omega)
theorem nS_59 {i : Nat} (h : i ≤ 59) : nS i ≤ 270634 := Nat.le_trans (nS_mono h) (by decide +kernel)
/-- A gadget of a row of links: in memory, with its bounds, and plainly. -/
structure RowG (p : Nat → Pt) (m g : Nat) (F : Nat → Prop) (S : FgS) (w : World) : Prop where
  mem : FgK g F S (nS S.told.length) S.told.length (1 + 2 * S.told.length) w
  row : ∃ c, InRow p m S c ∧ (c < m → lkk p c ∉ S.told)
  nod : S.told.Nodup
  same : S.links = S.told
theorem RowG.len {p : Nat → Pt} {m g : Nat} {F : Nat → Prop} {S : FgS} {w : World} (h : RowG p m g F S w) : S.told.length ≤ m := by
  obtain ⟨c, h1, _⟩ := h.row
  exact row_count (lkk p) m _ h.nod h1.sub
end Go.Proofs.Ythlbpjkopkicbaa
