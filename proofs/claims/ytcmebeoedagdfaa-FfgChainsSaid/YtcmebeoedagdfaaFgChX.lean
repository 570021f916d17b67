/- FfgChains: what stands between its loops. -/
import Derived.Test.YtcmebeoedagdfaaFgChW
import Derived.Test.YtcmebeoedagdfaaFgChG
namespace Go.Proofs.Ytcmebeoedagdfaa
open Go.ChangeMaps Go.MapKept Go.Maps Go.WideElems Go.RowKit
set_option linter.unusedVariables false
set_option maxRecDepth 100000

theorem pk_inj {E : List Nat} {n : Nat} (h : ∀ a b, a < b → b < n → E.getD a 0 < E.getD b 0) (h2 : ∀ a, a < n → E.getD a 0 ≤ 4611686018427387904) {M : Nat} (hM : M + 1 = n) : ∀ a b, a ≤ M → b ≤ M → pk E a = pk E b → a = b := fun a b ha hb e => by
  have h1 : (pk E a).e = (pk E b).e := by rw [e]
  have e1 : E.getD a 0 % 18446744073709551616 = E.getD b 0 % 18446744073709551616 := h1
  have q1 := h2 a (by omega)
  have q2 := h2 b (by omega)
  rcases Nat.lt_trichotomy a b with h3 | h3 | h3
  · have := h a b h3 (by omega); omega
  · exact h3
  · have := h b a h3 (by omega); omega
theorem pk_rise {E : List Nat} {n : Nat} (h : ∀ a b, a < b → b < n → E.getD a 0 < E.getD b 0) (h2 : ∀ a, a < n → E.getD a 0 ≤ 4611686018427387904) {M : Nat} (hM : M + 1 = n) : ∀ a b, a < b → b ≤ M → (pk E a).e < (pk E b).e := fun a b ha hb => by
  have q1 := h2 a (by omega)
  have q2 := h2 b (by omega)
  have := h a b ha (by omega)
  show E.getD a 0 % 18446744073709551616 < E.getD b 0 % 18446744073709551616
  omega
theorem pk_e {E : List Nat} {n : Nat} (h2 : ∀ a, a < n → E.getD a 0 ≤ 4611686018427387904) {k : Nat} (hk : k < n) : (pk E k).e = E.getD k 0 ∧ (pk E k).e ≤ 4611686018427387904 := by
  have q1 := h2 k hk
  have e : (pk E k).e = E.getD k 0 := by show E.getD k 0 % 18446744073709551616 = _; omega
  exact ⟨e, by omega⟩
theorem pk_may {E : List Nat} {n : Nat} (h : ∀ a b, a < b → b < n → E.getD a 0 < E.getD b 0) (h2 : ∀ a, a < n → E.getD a 0 ≤ 4611686018427387904) {k : Nat} (hk : k + 1 < n) : mayL (lkk (pk E) k) = true := by
  have q1 := pk_e h2 (show k < n by omega)
  have q2 := pk_e h2 hk
  have := h k (k + 1) (by omega) hk
  unfold mayL lkk
  simp
  omega
structure ChS (E : List Nat) (M n g gA hz : Nat) (w : World) (F : Nat → Prop) (S : FgS) (u : World) : Prop where
  row : RowG (pk E) M g F S u
  foot : ∀ j, F j → hz ≤ j
  lo : gA < hz
  size : hz ≤ u.heap.size
  base : w.heap.size ≤ hz
  bel : Below w.heap.size w u
  cells : ∀ k, k < n → u.rangeAt gA (k * 33) (pC (pk E k))
variable {E : List Nat} {M n g gA hz : Nat} {w u u' : World} {F : Nat → Prop} {S : FgS}
theorem ChS.below (h : ChS E M n g gA hz w F S u) (hb : Below u.heap.size u u') : ChS E M n g gA hz w F S u' where
  row := h.row.below hb
  foot := h.foot
  lo := h.lo
  size := Nat.le_trans h.size hb.size
  base := h.base
  bel := h.bel.trans (hb.mono (Nat.le_trans h.base h.size))
  cells k hk j v hv := (hb.cell (p := ⟨gA, k * 33 + j, none⟩) (Nat.lt_of_lt_of_le h.lo h.size)).trans (h.cells k hk j v hv)
theorem ChS.noF (h : ChS E M n g gA hz w F S u) : ¬ F gA := fun e => by have := h.foot _ e; have := h.lo; omega
theorem ChS.step (inj : ∀ i j, i ≤ M → j ≤ M → pk E i = pk E j → i = j) {k : Nat} (h : ChS E M n g gA hz w F S u) (hk : k < M) (hm : mayL (lkk (pk E) k) = true) (hr : StrongR g F S (lkk (pk E) k) (nS S.told.length) S.told.length (1 + 2 * S.told.length) u u') :
    ∃ F' S', ChS E M n g gA hz w F' S' u' ∧ lkk (pk E) k ∈ S'.told ∧ ∀ y, y ∈ S.told → y ∈ S'.told := by
  obtain ⟨F', S', h1, h2, h3, h4, h5⟩ := rowG_step inj h.row hk hm hr
  exact ⟨F', S', { row := h1, foot := fun j hj => (h5 j hj).elim (h.foot j) (fun e => Nat.le_trans h.size e), lo := h.lo, size := Nat.le_trans h.size h4.2.2.2.1, base := h.base, bel := h.bel.trans (h4.below (Nat.le_trans h.base h.size) (fun j hj => Nat.le_trans h.base (h.foot j hj))), cells := fun k hk => h4.range (h.cells k hk) (Nat.lt_of_lt_of_le h.lo h.size) h.noF }, h2, h3⟩
end Go.Proofs.Ytcmebeoedagdfaa
