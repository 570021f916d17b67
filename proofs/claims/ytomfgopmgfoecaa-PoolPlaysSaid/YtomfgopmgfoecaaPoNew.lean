/- A new pool. -/
import Derived.Test.YtomfgopmgfoecaaPoAdd
import Derived.BigFrame
namespace Go.Proofs.Ytomfgopmgfoecaa
open Go.ChangeMaps Go.MapKept Go.Maps Go.RowKit Go.ChangeShapes Go.WideShapes Go.ChangeAt
set_option linter.unusedVariables false
set_option maxRecDepth 100000

def poS0 : PoS := ⟨[], [], fun _ => 0, fun _ => none, []⟩
theorem poS0_ok : PoOk poS0 := ⟨fun _ _ => rfl, fun _ => Nat.zero_le _, Nat.zero_le _, fun _ => Nat.zero_le _⟩
set_option maxHeartbeats 4000000 in
theorem begin_c (w : World) : Calls Try.prog 25 #[] w fun e w' => ∃ s bt bk bb F, e = .returned (.pointer (some ⟨s, 0, none⟩)) ∧ Below w.heap.size w w' ∧ (∀ k, F k → w.heap.size ≤ k) ∧ PoB s bt bk bb (.slice none 0 0) (.slice none 0 0) (fun _ => none) F poS0 0 w' := by
  have hmm := @run_makeMap Try.prog
  obtain ⟨W1, hW1⟩ : ∃ W1, W1 = w.alloc (.map #[] 0) := ⟨_, rfl⟩
  obtain ⟨W2, hW2⟩ : ∃ W2, W2 = W1.alloc (.map #[] 0) := ⟨_, rfl⟩
  obtain ⟨W3, hW3⟩ : ∃ W3, W3 = W2.alloc (.map #[] 0) := ⟨_, rfl⟩
  obtain ⟨W4, hW4⟩ : ∃ W4, W4 = W3.alloc (.cells #[.slice none 0 0, .slice none 0 0, .map (some w.heap.size), .map (some (w.heap.size + 1)), .map (some (w.heap.size + 2))] 79) := ⟨_, rfl⟩
  have z1 : W1.heap.size = w.heap.size + 1 := by rw [hW1]; simp
  have z2 : W2.heap.size = w.heap.size + 2 := by rw [hW2]; simp [z1]
  have z3 : W3.heap.size = w.heap.size + 3 := by rw [hW3]; simp [z2]
  have z4 : W4.heap.size = w.heap.size + 4 := by rw [hW4]; simp [z3]
  have b1 : Below w.heap.size w W1 := by rw [hW1]; exact (Below.refl _ _).alloc (Nat.le_refl _) _
  have b2 : Below W1.heap.size W1 W2 := by rw [hW2]; exact (Below.refl _ _).alloc (Nat.le_refl _) _
  have b3 : Below W2.heap.size W2 W3 := by rw [hW3]; exact (Below.refl _ _).alloc (Nat.le_refl _) _
  have b4 : Below W3.heap.size W3 W4 := by rw [hW4]; exact (Below.refl _ _).alloc (Nat.le_refl _) _
  have m1 : MapF (α := Lk) 50 klL W1 w.heap.size 0 (fun _ => none) := by rw [hW1]; exact MapF.made w
  have m2 : MapF (α := Hh) 24 klH W2 (w.heap.size + 1) 0 (fun _ => none) := by rw [hW2, ← z1]; exact MapF.made W1
  have m3 : MapF (α := Bt) 91 klB W3 (w.heap.size + 2) 0 (fun _ => none) := by rw [hW3, ← z2]; exact MapF.made W2
  have FIN : Hid (Below w.heap.size w W4 ∧ PoB (w.heap.size + 3) w.heap.size (w.heap.size + 1) (w.heap.size + 2) (.slice none 0 0) (.slice none 0 0) (fun _ => none) (fun k => w.heap.size ≤ k ∧ k < w.heap.size + 4) poS0 0 W4) := by
    refine ⟨((b1.trans (b2.mono b1.size)).trans (b3.mono (by omega))).trans (b4.mono (by omega)), ?_⟩
    exact {
      cells := by rw [hW4, ← z3]; exact heap_alloc_new W3 _
      tal := ((m1.below b2 (by omega)).below b3 (by omega)).below b4 (by omega)
      keys := (m2.below b3 (by omega)).below b4 (by omega)
      bals := m3.below b4 (by omega)
      votes := ⟨rfl, .inl ⟨rfl, rfl⟩⟩
      links := ⟨rfl, .inl ⟨rfl, rfl⟩⟩
      rows := fun i => rfl
      apart := fun i j v v' k _ e => by cases e
      foot := ⟨⟨by omega, by omega⟩, ⟨by omega, by omega⟩, ⟨by omega, by omega⟩, ⟨by omega, by omega⟩, fun k e => (by cases e), fun k e => (by cases e)⟩
      ne := ⟨by omega, by omega, by omega⟩
      fin := fun k e => by omega }
  have HW := Lib.hid (show W4 = (((w.alloc (.map #[] 0)).alloc (.map #[] 0)).alloc (.map #[] 0)).alloc (.cells #[.slice none 0 0, .slice none 0 0, .map (some w.heap.size), .map (some (w.heap.size + 1)), .map (some (w.heap.size + 1 + 1))] 79) by rw [hW4, hW3, hW2, hW1])
  clear hW1 hW2 hW3 hW4 z1 z2 z3 z4 b1 b2 b3 b4 m1 m2 m3
  go_enter Try.func25, Try.ntmps25
  go_wp2_with fail
  rw [← HW.out]
  go_ret
  exact ⟨_, _, _, _, _, rfl, FIN.out.1, fun k e => e.1, FIN.out.2⟩
set_option maxHeartbeats 4000000 in
theorem new_c (w : World) : Calls Try.prog 10 #[] w fun e w' => ∃ g F, e = .returned (.pointer (some ⟨g, 0, none⟩)) ∧ PoM g F poS0 w' ∧ Below w.heap.size w w' ∧ w.heap.size ≤ g ∧ ∀ k, F k → w.heap.size ≤ k := by
  go_enter Try.func10, Try.ntmps10
  go_wp2_with fail
  refine (begin_c w).mono ?_
  rintro e w2 ⟨s, bt, bk, bb, F, rfl, b2, hF, h2⟩
  have hb3 : Below w2.heap.size w2 (w2.alloc (.cells #[.pointer (some ⟨s, 0, none⟩)] 67)) := (Below.refl _ _).alloc (Nat.le_refl _) _
  have FIN : Hid (PoM w2.heap.size F poS0 (w2.alloc (.cells #[.pointer (some ⟨s, 0, none⟩)] 67)) ∧ Below w.heap.size w (w2.alloc (.cells #[.pointer (some ⟨s, 0, none⟩)] 67)) ∧ w.heap.size ≤ w2.heap.size ∧ ∀ k, F k → w.heap.size ≤ k) :=
    ⟨⟨s, bt, bk, bb, _, _, _, heap_alloc_new w2 _, fun e => Nat.lt_irrefl _ (h2.fin _ e), h2.below hb3, poS0_ok, Nat.zero_le _⟩, b2.trans (hb3.mono b2.size), b2.size, hF⟩
  clear b2 h2 hb3 hF
  go_wp2_with fail
  go_ret
  exact ⟨_, F, rfl, FIN.out⟩
end Go.Proofs.Ytomfgopmgfoecaa
