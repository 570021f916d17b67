/- The last that stands so: Best, Highest. -/
import Derived.Test.YthlbpjkopkicbaaFgMax
namespace Go.Proofs.Ythlbpjkopkicbaa
open Go.ChangeMaps Go.MapKept Go.Maps Go.WideElems Go.RowKit
set_option linter.unusedVariables false
set_option maxRecDepth 100000

/-- The last of those that stand so at least. -/
def LastOf (S : FgS) (least : Nat) (p : Pt) : Prop := least ≤ stN S.stands p ∧ ∀ q, least ≤ stN S.stands q → keyN q ≤ keyN p
set_option maxRecDepth 1000000 in
set_option maxHeartbeats 8000000 in
theorem last_c (w : World) (s bt bs bw n least : Nat) (vl : Value) (hd : Pt → Option Value) (F : Nat → Prop) (S : FgS) (h : FgB s bt bs bw vl hd F S n w) (hl : 1 ≤ least) (hn : n ≤ 1000000000) (hex : ∃ p, least ≤ stN S.stands p) :
    Calls Try.prog 37 #[.pointer (some ⟨s, 0, none⟩), .int .i64 (least : Int)] w fun e w' => ∃ p, e = .returned (.agg (pv p)) ∧ LastOf S least p ∧ Below w.heap.size w w' := by
  have hzp := zero_pt
  obtain ⟨W0, hW0⟩ : ∃ W0, W0 = w.alloc (.cells (pv ptZ) 29) := ⟨_, rfl⟩
  have b0 : Below w.heap.size w W0 := by rw [hW0]; exact (Below.refl _ _).alloc (Nat.le_refl _) _
  have z0 : W0.heap.size = w.heap.size + 1 := by rw [hW0]; simp
  have r0 : W0.heap[w.heap.size]? = some (.cells (pv ptZ) 29 (0, 0)) := by rw [hW0]; exact heap_alloc_new w _
  have H0 := Lib.hid (h.below b0)
  have B0 := Lib.hid b0
  have Z0 := Lib.hid z0
  have R0 := Lib.hid r0
  have HW0 := Lib.hid hW0
  clear hW0 b0 z0 r0 h
  go_enter Try.func37, Try.ntmps37
  go_wp2_with fail
  rw [← HW0.out]
  refine (all_c W0 s bt bs bw n least vl hd F S H0.out hl hn).mono ?_
  rintro e w1 ⟨A, c, Lp, rfl, hLp, own1, b1, hlen⟩
  have B1 := Lib.hid (B0.out.trans (b1.mono B0.out.size))
  have R1 : Hid (w1.heap[w.heap.size]? = some (.cells (pv ptZ) 29 (0, 0))) := (b1.block _ (by have := Z0.out; omega)).trans R0.out
  have HL := Lib.hid hLp
  have O1 := Lib.hid own1
  have hne : Lp ≠ [] := fun e => by
    obtain ⟨p, hp⟩ := hex
    have := (hLp p).2 hp
    rw [e] at this
    cases this
  have NE := Lib.hid hne
  have hpos : 0 < Lp.length := List.length_pos_iff.2 hne
  have d1 : decide ((Lp.length : Int) = 0) = false := by simp; exact hne
  have d2 : ((Lp.length : Int) == 0) = false := by rw [beq_eq_false_iff_ne]; omega
  have HLN := Lib.hid hlen
  clear b1 hLp own1 hne hlen hpos
  go_wp2_with fail
  refine (max_c w1 A c (W0.heap.size + 1) Lp O1.out NE.out (by have := HLN.out; omega)).mono ?_
  rintro e w2 ⟨p, rfl, hp, hq, b2⟩
  have B2 := Lib.hid (B1.out.trans (b2.mono B1.out.size))
  have e2 : w2.heap[w.heap.size]? = some (.cells (pv ptZ) 29 (0, 0)) := (b2.block _ (by have := Z0.out; have := R1.out; rcases Nat.lt_or_ge w.heap.size w1.heap.size with h | h; exact h; rw [Array.getElem?_eq_none h] at this; cases this)).trans R1.out
  have HP := Lib.hid hp
  have HQ := Lib.hid hq
  clear b2 hp hq
  go_wp2_with (first
    | (refine wpList_store_row rfl 29 (.tmp 4) (.tmp 14) rfl w.heap.size (pv p) rfl rfl 29 (pv ptZ) e2 (size_pv p) (by rw [show (pv p).size = 33 from rowV_size _ _]; exact rowV_size _ _) (rowV_one 33 _ (pf_one p)) ?_)
    | fail)
  exact bodyPost_ret (v := .agg (pv p)) (results_cell_row rfl _ _ w.heap.size 29 (pv p) (0, 0) _ rfl (setRow_heap _ _ _ _ _ _ e2) Try.underlying29 rfl (size_pv p)) rfl ⟨p, rfl, ⟨(((HL.out p).1) HP.out), fun q hq => HQ.out q ((HL.out q).2 hq)⟩, below_setRow B2.out (Nat.le_refl _) _⟩
set_option maxRecDepth 1000000 in
set_option maxHeartbeats 8000000 in
theorem best_c (g : Nat) (F : Nat → Prop) (S : FgS) (n : Nat) (w : World) (h : FgM g F S n w) (hn : n ≤ 1000000000) (hex : ∃ p, 2 ≤ stN S.stands p) : Calls Try.prog 19 #[.pointer (some ⟨g, 0, none⟩)] w fun e w' => ∃ p, e = .returned (.agg (pv p)) ∧ LastOf S 2 p ∧ Below w.heap.size w w' := by
  obtain ⟨s, bt, bs, bw, vl, hd, hg, hgF, h⟩ := h
  have hzp := zero_pt
  have hglt := h.fin g hgF
  obtain ⟨W0, hW0⟩ : ∃ W0, W0 = w.alloc (.cells (pv ptZ) 29) := ⟨_, rfl⟩
  have b0 : Below w.heap.size w W0 := by rw [hW0]; exact (Below.refl _ _).alloc (Nat.le_refl _) _
  have z0 : W0.heap.size = w.heap.size + 1 := by rw [hW0]; simp
  have r0 : W0.heap[w.heap.size]? = some (.cells (pv ptZ) 29 (0, 0)) := by rw [hW0]; exact heap_alloc_new w _
  have H0 := Lib.hid (h.below b0)
  have G0 : Hid (GaB g s W0) := (b0.block g hglt).trans hg
  have B0 := Lib.hid b0
  have Z0 := Lib.hid z0
  have R0 := Lib.hid r0
  have HW0 := Lib.hid hW0
  clear hW0 b0 z0 r0 h hg
  go_enter Try.func19, Try.ntmps19
  go_wp2_with (go_at_call 35; rw [← HW0.out]; refine (seen_c g s _ G0.out).mono ?_; rintro e w1 ⟨rfl, rfl⟩)
  go_wp2_with fail
  refine (last_c _ s bt bs bw n 2 vl hd F S H0.out (by omega) hn hex).mono ?_
  rintro e w2 ⟨p, rfl, hp, b2⟩
  have B2 := Lib.hid (B0.out.trans (b2.mono B0.out.size))
  have e2 : w2.heap[w.heap.size]? = some (.cells (pv ptZ) 29 (0, 0)) := (b2.block _ (by have := Z0.out; omega)).trans R0.out
  have HP := Lib.hid hp
  clear b2 hp
  go_wp2_with (first
    | (refine wpList_store_row rfl 29 (.tmp 2) (.tmp 5) rfl w.heap.size (pv p) rfl rfl 29 (pv ptZ) e2 (size_pv p) (by rw [show (pv p).size = 33 from rowV_size _ _]; exact rowV_size _ _) (rowV_one 33 _ (pf_one p)) ?_)
    | fail)
  exact bodyPost_ret (v := .agg (pv p)) (results_cell_row rfl _ _ w.heap.size 29 (pv p) (0, 0) _ rfl (setRow_heap _ _ _ _ _ _ e2) Try.underlying29 rfl (size_pv p)) rfl ⟨p, rfl, HP.out, below_setRow B2.out (Nat.le_refl _) _⟩
set_option maxRecDepth 1000000 in
set_option maxHeartbeats 8000000 in
theorem highest_c (g : Nat) (F : Nat → Prop) (S : FgS) (n : Nat) (w : World) (h : FgM g F S n w) (hn : n ≤ 1000000000) (hex : ∃ p, 1 ≤ stN S.stands p) : Calls Try.prog 20 #[.pointer (some ⟨g, 0, none⟩)] w fun e w' => ∃ p, e = .returned (.agg (pv p)) ∧ LastOf S 1 p ∧ Below w.heap.size w w' := by
  obtain ⟨s, bt, bs, bw, vl, hd, hg, hgF, h⟩ := h
  have hzp := zero_pt
  have hglt := h.fin g hgF
  obtain ⟨W0, hW0⟩ : ∃ W0, W0 = w.alloc (.cells (pv ptZ) 29) := ⟨_, rfl⟩
  have b0 : Below w.heap.size w W0 := by rw [hW0]; exact (Below.refl _ _).alloc (Nat.le_refl _) _
  have z0 : W0.heap.size = w.heap.size + 1 := by rw [hW0]; simp
  have r0 : W0.heap[w.heap.size]? = some (.cells (pv ptZ) 29 (0, 0)) := by rw [hW0]; exact heap_alloc_new w _
  have H0 := Lib.hid (h.below b0)
  have G0 : Hid (GaB g s W0) := (b0.block g hglt).trans hg
  have B0 := Lib.hid b0
  have Z0 := Lib.hid z0
  have R0 := Lib.hid r0
  have HW0 := Lib.hid hW0
  clear hW0 b0 z0 r0 h hg
  go_enter Try.func20, Try.ntmps20
  go_wp2_with (go_at_call 35; rw [← HW0.out]; refine (seen_c g s _ G0.out).mono ?_; rintro e w1 ⟨rfl, rfl⟩)
  go_wp2_with fail
  refine (last_c _ s bt bs bw n 1 vl hd F S H0.out (by omega) hn hex).mono ?_
  rintro e w2 ⟨p, rfl, hp, b2⟩
  have B2 := Lib.hid (B0.out.trans (b2.mono B0.out.size))
  have e2 : w2.heap[w.heap.size]? = some (.cells (pv ptZ) 29 (0, 0)) := (b2.block _ (by have := Z0.out; omega)).trans R0.out
  have HP := Lib.hid hp
  clear b2 hp
  go_wp2_with (first
    | (refine wpList_store_row rfl 29 (.tmp 2) (.tmp 5) rfl w.heap.size (pv p) rfl rfl 29 (pv ptZ) e2 (size_pv p) (by rw [show (pv p).size = 33 from rowV_size _ _]; exact rowV_size _ _) (rowV_one 33 _ (pf_one p)) ?_)
    | fail)
  exact bodyPost_ret (v := .agg (pv p)) (results_cell_row rfl _ _ w.heap.size 29 (pv p) (0, 0) _ rfl (setRow_heap _ _ _ _ _ _ e2) Try.underlying29 rfl (size_pv p)) rfl ⟨p, rfl, HP.out, below_setRow B2.out (Nat.le_refl _) _⟩
end Go.Proofs.Ythlbpjkopkicbaa
