/- A new gadget. -/
import Derived.Test.YthlbpjkopkicbaaFgOps
import Derived.Carry
namespace Go.Proofs.Ythlbpjkopkicbaa
open Go.ChangeMaps Go.MapKept Go.Maps Go.RowKit
set_option linter.unusedVariables false
set_option maxRecDepth 100000

/-- A gadget without links. -/
def S0 (p : Pt) : FgS := ⟨[], [], fun q => if q = p then some 2 else none, fun _ => none⟩
set_option maxHeartbeats 4000000 in
theorem begin_c (p : Pt) (w : World) : Calls Try.prog 28 #[.agg (pv p)] w fun e w' => ∃ s bt bs bw F, e = .returned (.pointer (some ⟨s, 0, none⟩)) ∧ Below w.heap.size w w' ∧ (∀ k, F k → w.heap.size < k) ∧ FgB s bt bs bw (.slice none 0 0) (fun _ => none) F (S0 p) 1 w' := by
  have hmm := @run_makeMap Try.prog
  obtain ⟨E2, hE2⟩ : ∃ E2, E2 = ((w.alloc (.cells (pv p) 29)).alloc (.map #[] 0)).alloc (.map #[] 0) := ⟨_, rfl⟩
  have z2 : E2.heap.size = w.heap.size + 3 := by rw [hE2]; simp
  have b2 : Below w.heap.size w E2 := by rw [hE2]; exact (((Below.refl _ _).alloc (Nat.le_refl _) _).alloc (by simp) _).alloc (by simp; omega) _
  have g0 : E2.heap[w.heap.size]? = some (.cells (pv p) 29 (0, 0)) := by rw [hE2, heap_lt _ _ (by simp; omega)]; exact heap_alloc2_old w _ _
  have m1 : MapF 36 klL E2 (w.heap.size + 1) 0 (fun _ => none) := by
    rw [hE2]
    have := MapF.made (α := Lk) (k := 36) (kl := klL) (w.alloc (.cells (pv p) 29))
    rw [heap_sz] at this
    exact this.keep (heap_lt _ _ (by simp))
  have m2 : MapF 29 klP E2 (w.heap.size + 1 + 1) 0 (fun _ => none) := by
    rw [hE2]
    have := MapF.made (α := Pt) (k := 29) (kl := klP) ((w.alloc (.cells (pv p) 29)).alloc (.map #[] 0))
    rw [heap_sz, heap_sz] at this
    exact this
  obtain ⟨w3, hr, m3, t3⟩ := m2.put keyP Try.underlying70 (by unfold maxLen; omega) p (.int .i64 2)
  obtain ⟨o3, z3, e3⟩ := turned_block t3
  have b3 : Below w.heap.size E2 w3 := by
    obtain ⟨es, clock, es', clock', q1, q2⟩ := t3
    exact ⟨by rw [q2]; rfl, by rw [q2]; rfl, by rw [q2]; rfl, by omega, fun k hk => o3 k (by omega)⟩
  have m1' : MapF 36 klL w3 (w.heap.size + 1) 0 (fun _ => none) := m1.keep (o3 _ (by omega))
  obtain ⟨w5, h5⟩ : ∃ w5, w5 = (w3.alloc (.map #[] 0)).alloc (.cells #[.slice none 0 0, .map (some (w.heap.size + 1)), .map (some (w.heap.size + 1 + 1)), .map (some w3.heap.size)] 73) := ⟨_, rfl⟩
  have b5 : Below w3.heap.size w3 w5 := by rw [h5]; exact ((Below.refl _ _).alloc (Nat.le_refl _) _).alloc (by simp) _
  have z5 : w5.heap.size = w3.heap.size + 2 := by rw [h5]; simp
  have m5 : MapF 29 klP w5 w3.heap.size 0 (fun _ => none) := by
    rw [h5]
    exact (MapF.made (α := Pt) (k := 29) (kl := klP) w3).keep (heap_lt _ _ (by simp))
  have c5 : w5.heap[w3.heap.size + 1]? = some (.cells #[.slice none 0 0, .map (some (w.heap.size + 1)), .map (some (w.heap.size + 1 + 1)), .map (some w3.heap.size)] 73 (0, 0)) := by rw [h5]; exact heap_alloc2_new w3 _ _
  have FIN : Hid (Below w.heap.size w w5 ∧ FgB (w3.heap.size + 1) (w.heap.size + 1) (w.heap.size + 1 + 1) w3.heap.size (.slice none 0 0) (fun _ => none) (fun k => k = w3.heap.size + 1 ∨ k = w.heap.size + 1 ∨ k = w.heap.size + 1 + 1 ∨ k = w3.heap.size) (S0 p) 1 w5) := ⟨(b2.trans b3).trans (b5.mono (by omega)), {
    cells := c5
    told := ((m1'.keep (b5.block _ (by omega))).mono (Nat.zero_le _))
    stands := by
      have h1 := m3.keep (b5.block _ (by omega))
      have e : stF (S0 p).stands = setF (fun _ => none) p (some (.int .i64 2)) := by
        funext q
        show ((if q = p then some 2 else none) : Option Nat).map stv = if q = p then _ else _
        split <;> rfl
      rw [e]
      exact h1
    waits := m5.mono (Nat.zero_le _)
    links := ⟨rfl, .inl ⟨rfl, rfl⟩⟩
    rows := fun q => rfl
    apart := fun q r v v' k _ h => by cases h
    apartL := fun q v k h => by cases h
    foot := ⟨.inl rfl, .inr (.inl rfl), .inr (.inr (.inl rfl)), .inr (.inr (.inr rfl)), fun k h => by cases h⟩
    ne := ⟨by omega, by omega, by omega⟩
    fin := fun k h => by omega }⟩
  have Z3 := Lib.hid z3
  have Z2 := Lib.hid z2
  rw [hE2] at hr g0
  have H5 := Lib.hid h5
  clear hE2 z2 b2 m1 m2 m3 t3 o3 z3 e3 b3 m1' h5 b5 z5 m5 c5
  go_enter Try.func28, Try.ntmps28
  go_wp2_with (first
    | (refine wpList_load_row rfl 29 (.tmp 1) rfl w.heap.size rfl 29 (pv p) (0, 0) _ g0 Try.underlying29 rfl (size_pv p) ?_)
    | fail)
  rw [← H5.out]
  go_ret
  refine ⟨_, _, _, _, _, rfl, FIN.out.1, fun k h => ?_, FIN.out.2⟩
  have z3 := Z3.out
  have z2 := Z2.out
  omega
set_option maxHeartbeats 4000000 in
theorem new_ok (p : Pt) (w : World) (hp : p.e ≤ 4611686018427387904) : Calls Try.prog 12 #[.agg (pv p)] w fun e w' => ∃ g s bt bs bw F, e = .returned (.tuple #[.pointer (some ⟨g, 0, none⟩), .int .i64 0]) ∧ Below w.heap.size w w' ∧ (∀ k, F k → w.heap.size < k) ∧ w.heap.size < g ∧ ¬ F g ∧ GaB g s w' ∧ FgB s bt bs bw (.slice none 0 0) (fun _ => none) F (S0 p) 1 w' := by
  obtain ⟨W, hW⟩ : ∃ W, W = w.alloc (.cells (pv p) 29) := ⟨_, rfl⟩
  have hB : Below w.heap.size w W := by rw [hW]; exact (Below.refl _ _).alloc (Nat.le_refl _) _
  have h0 : PkB w.heap.size p W := by rw [hW]; exact PkB.new
  have g0 := h0.row
  have HW := Lib.hid hW
  have HB := Lib.hid hB
  have H0 := Lib.hid h0
  rw [hW] at g0
  clear hW hB h0
  have d1 := decide_eq_true hp
  go_enter Try.func12, Try.ntmps12
  go_wp2_with (first
    | (refine wpList_load_row rfl 29 (.tmp 1) rfl w.heap.size rfl 29 (pv p) (0, 0) _ g0 Try.underlying29 rfl (size_pv p) ?_)
    | fail)
  rw [← HW.out]
  refine (mayP_c p W).mono ?_
  rintro e w1 ⟨rfl, b1⟩
  rw [d1]
  have B1 := Lib.hid (HB.out.trans (b1.mono HB.out.size))
  have H1 := Lib.hid (H0.out.below b1 H0.out.lt)
  have g1 := H1.out.row
  clear b1 g0
  go_wp2_with (first
    | (refine wpList_load_row rfl 29 (.tmp 1) rfl w.heap.size rfl 29 (pv p) (0, 0) _ g1 Try.underlying29 rfl (size_pv p) ?_)
    | fail)
  refine (begin_c p w1).mono ?_
  rintro e w2 ⟨s, bt, bs, bw, F, rfl, b2, hF, h2⟩
  have B2 := Lib.hid (B1.out.trans (b2.mono B1.out.size))
  have hb3 : Below w2.heap.size w2 (w2.alloc (.cells #[.pointer (some ⟨s, 0, none⟩)] 51)) := (Below.refl _ _).alloc (Nat.le_refl _) _
  have FIN : Hid (Below w.heap.size w (w2.alloc (.cells #[.pointer (some ⟨s, 0, none⟩)] 51)) ∧ (∀ k, F k → w.heap.size < k) ∧ w.heap.size < w2.heap.size ∧ ¬ F w2.heap.size ∧ GaB w2.heap.size s (w2.alloc (.cells #[.pointer (some ⟨s, 0, none⟩)] 51)) ∧ FgB s bt bs bw (.slice none 0 0) (fun _ => none) F (S0 p) 1 (w2.alloc (.cells #[.pointer (some ⟨s, 0, none⟩)] 51))) := by
    have l1 := H1.out.lt
    have l2 := b2.size
    exact ⟨B2.out.trans (hb3.mono B2.out.size), fun k hk => by have := hF k hk; omega, by omega, fun e => Nat.lt_irrefl _ (h2.fin _ e), heap_alloc_new w2 _, h2.below hb3⟩
  clear b2 h2 hb3 hF
  go_wp2_with fail
  go_ret2
  exact ⟨_, _, _, _, _, _, rfl, FIN.out⟩
set_option maxHeartbeats 4000000 in
theorem new_no (p : Pt) (w : World) (hp : 4611686018427387904 < p.e) : Calls Try.prog 12 #[.agg (pv p)] w fun e w' => e = .returned (.tuple #[.pointer none, .int .i64 2]) ∧ Below w.heap.size w w' := by
  obtain ⟨W, hW⟩ : ∃ W, W = w.alloc (.cells (pv p) 29) := ⟨_, rfl⟩
  have hB : Below w.heap.size w W := by rw [hW]; exact (Below.refl _ _).alloc (Nat.le_refl _) _
  have h0 : PkB w.heap.size p W := by rw [hW]; exact PkB.new
  have g0 := h0.row
  have HW := Lib.hid hW
  have HB := Lib.hid hB
  rw [hW] at g0
  clear hW hB h0
  have d1 : decide (p.e ≤ 4611686018427387904) = false := decide_eq_false (by omega)
  go_enter Try.func12, Try.ntmps12
  go_wp2_with (first
    | (refine wpList_load_row rfl 29 (.tmp 1) rfl w.heap.size rfl 29 (pv p) (0, 0) _ g0 Try.underlying29 rfl (size_pv p) ?_)
    | fail)
  rw [← HW.out]
  refine (mayP_c p W).mono ?_
  rintro e w1 ⟨rfl, b1⟩
  rw [d1]
  have B1 := Lib.hid (HB.out.trans (b1.mono HB.out.size))
  clear b1 g0
  go_wp2_with fail
  go_ret2
  exact ⟨rfl, B1.out⟩
end Go.Proofs.Ythlbpjkopkicbaa
