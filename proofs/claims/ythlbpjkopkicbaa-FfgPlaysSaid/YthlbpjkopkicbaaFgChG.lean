/- FfgChains: a row of links in memory. -/
import Derived.Test.YthlbpjkopkicbaaFgChR
namespace Go.Proofs.Ythlbpjkopkicbaa
open Go.ChangeMaps Go.MapKept Go.Maps Go.WideElems Go.RowKit
set_option linter.unusedVariables false
set_option maxRecDepth 100000

variable {p : Nat → Pt} {m g : Nat} {F : Nat → Prop} {S : FgS} {w w' : World}
theorem RowG.pre (h : RowG p m g F S w) (hm : m ≤ 59) : S.told.length ≤ 1000 ∧ 1 + 2 * S.told.length ≤ 1000 ∧ nS S.told.length ≤ 800000 ∧ S.links.length ≤ 1000000 := by
  have h1 := h.len
  have h2 := nS_59 (Nat.le_trans h1 hm)
  rw [h.same]
  omega
theorem RowG.below (h : RowG p m g F S w) (hb : Below w.heap.size w w') : RowG p m g F S w' := { h with mem := h.mem.below hb }
theorem rowG_start (inj : ∀ i j, i ≤ m → j ≤ m → p i = p j → i = j) {s bt bs bw : Nat} {vl : Value} {hd : Pt → Option Value} (hgF : ¬ F g) (ga : GaB g s w) (fb : FgB s bt bs bw vl hd F (S0 (p 0)) 1 w) : RowG p m g F (S0 (p 0)) w where
  mem := ⟨s, bt, bs, bw, _, _, ga, hgF, ga.lt, fb, (fun p L h => by cases h), Nat.le_trans fb.waits.size (by show 1 ≤ 1 + _; omega)⟩
  row := ⟨0, row_start inj, fun _ h => by cases h⟩
  nod := List.nodup_nil
  same := rfl
/-- A link of the row is told: what stands then. -/
theorem rowG_step (inj : ∀ i j, i ≤ m → j ≤ m → p i = p j → i = j) {k : Nat} (h : RowG p m g F S w) (hk : k < m) (hm : mayL (lkk p k) = true) (hr : StrongR g F S (lkk p k) (nS S.told.length) S.told.length (1 + 2 * S.told.length) w w') :
    ∃ F' S', RowG p m g F' S' w' ∧ lkk p k ∈ S'.told ∧ (∀ y, y ∈ S.told → y ∈ S'.told) ∧ Kept F w w' ∧ ∀ j, F' j → F j ∨ w.heap.size ≤ j := by
  obtain ⟨er, F', S', hs, fk, kp, hF, hR⟩ := hr
  obtain ⟨c, h1, h2⟩ := h.row
  rcases row_tell inj h1 h2 hk hm hs with ⟨q1, q2, rfl⟩ | ⟨q1, q2, q3, q4, c', q5, q6⟩
  · exact ⟨F', S', { mem := hR q2, row := ⟨c, h1, h2⟩, nod := h.nod, same := h.same }, q1, fun y hy => hy, kp, hF⟩
  · have hl : S'.told.length = S.told.length + 1 := by rw [q3, List.length_append]; rfl
    refine ⟨F', S', { mem := ?_, row := ⟨c', q5, q6⟩, nod := ?_, same := by rw [q4, q3, h.same] }, by rw [q3]; simp, fun y hy => by rw [q3]; exact List.mem_append_left _ hy, kp, hF⟩
    · rw [hl]
      exact fk.mono (by show _ ≤ nS _ + 5 + 2 * (_ * (1 + 2 * _)); exact Nat.le_refl _) (Nat.le_refl _) (by omega)
    · rw [q3]
      exact List.nodup_append.2 ⟨h.nod, by simp, fun a ha b hb e => by rw [List.mem_singleton.1 hb] at e; rw [e] at ha; exact q1 ha⟩
/-- All told: how they stand. -/
theorem rowG_all (h : RowG p m g F S w) (hall : ∀ k, k < m → lkk p k ∈ S.told) : (∀ k, k ≤ m → stN S.stands (p k) = if k = 0 ∨ (k < m ∧ near (lkk p k) = true) then 2 else 1) ∧ ∀ q, (∀ k, k ≤ m → q ≠ p k) → stN S.stands q = 0 := by
  obtain ⟨c, h1, h2⟩ := h.row
  obtain rfl := row_all h1 h2 hall
  exact ⟨h1.st, h1.no⟩
/-- The last of the row is the highest. -/
theorem rowG_last (h : RowG p m g F S w) (hall : ∀ k, k < m → lkk p k ∈ S.told) (hrise : ∀ i j, i < j → j ≤ m → (p i).e < (p j).e) : (∃ q, 1 ≤ stN S.stands q) ∧ ∀ q, LastOf S 1 q → q = p m := by
  obtain ⟨h1, h2⟩ := rowG_all h hall
  have hm : 1 ≤ stN S.stands (p m) := by rw [h1 m (Nat.le_refl _)]; split <;> omega
  refine ⟨⟨_, hm⟩, fun q hq => ?_⟩
  have h3 := hq.2 _ hm
  by_cases hx : ∃ k, k ≤ m ∧ q = p k
  · obtain ⟨k, hk, rfl⟩ := hx
    rcases Nat.lt_or_ge k m with e | e
    · have h4 := hrise k m e (Nat.le_refl _)
      have h5 := bnum_lt (p k).l
      rw [(p k).hl] at h5
      have h6 : ((p k).e + 1) * 256 ^ 32 ≤ (p m).e * 256 ^ 32 := Nat.mul_le_mul_right _ (by omega)
      have h7 : keyN (p m) ≤ keyN (p k) := h3
      unfold keyN at h7
      rw [Nat.add_mul, Nat.one_mul] at h6
      omega
    · rw [show k = m by omega]
  · have := h2 q (fun k hk e => hx ⟨k, hk, e⟩)
    have h4 := hq.1
    omega
end Go.Proofs.Ythlbpjkopkicbaa
