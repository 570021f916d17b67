/- Contracts: the reference's Start, Constant, Begin, rot. -/
import Derived.Test.YthjeanjodhafjaaDoorFraction
import Derived.Test.YthjeanjodhafjaaDoorShaKnown
namespace Go.Proofs.YthjeanjodhafjaaDoor
open Go.ChangeShapes Go.WideShapes Go.ChangeAt Go.RowKit
set_option linter.unusedVariables false

theorem primes_small (i : Nat) : primesL.getD i 0 < 65536 := by
  by_cases h : i < primesL.length
  · have := prTo_ge 310 _ (List.getElem_mem h)
    rw [List.getD_eq_getElem?_getD, List.getElem?_eq_getElem h]
    show primesL[i] < 65536
    omega
  · rw [List.getD_eq_getElem?_getD, List.getElem?_eq_none (by omega)]
    exact Nat.zero_lt_succ _
theorem frac_k (i : Nat) (h : i < 64) : fracN (primesL.getD i 0) 3 = kN i := by
  have := List.all_eq_true.1 roots_ok i (List.mem_range.2 h)
  simpa using this
theorem frac_h (i : Nat) (h : i < 8) : fracN (primesL.getD i 0) 2 = hN i := by
  have := List.all_eq_true.1 roots_ok2 i (List.mem_range.2 h)
  simpa using this


/-- The words as Begin lays them: a of the start's, b of the constants. -/
def bgF (a b : Nat) : Nat → Value := fun j => if j < 8 then (if j < a then rv (hN j) else .int .u32 0) else (if j - 8 < b then rv (kN (j - 8)) else .int .u32 0)
def bgT : Nat → Value := fun j => if j < 8 then rv (hN j) else rv (kN (j - 8))
theorem bgF_k (a b : Nat) (v : Value) (hv : v = rv (kN b)) : ∀ j, j < 72 → bgF a (b + 1) j = if j = 8 + b then v else bgF a b j := by
  intro j _
  unfold bgF
  by_cases h8 : j < 8
  · have e : ¬ j = 8 + b := by omega
    simp only [if_pos h8, if_neg e]
  · simp only [if_neg h8]
    by_cases e : j = 8 + b
    · subst e
      rw [if_pos (by omega), if_pos rfl, hv, show 8 + b - 8 = b by omega]
    · rw [if_neg e]
      by_cases h : j - 8 < b
      · rw [if_pos (by omega), if_pos h]
      · rw [if_neg (by omega), if_neg h]
theorem bgF_h (a b : Nat) (v : Value) (ha : a < 8) (hv : v = rv (hN a)) : ∀ j, j < 72 → bgF (a + 1) b j = if j = a then v else bgF a b j := by
  intro j _
  unfold bgF
  by_cases h8 : j < 8
  · simp only [if_pos h8]
    by_cases e : j = a
    · subst e
      rw [if_pos (by omega), if_pos rfl, hv]
    · rw [if_neg e]
      by_cases h : j < a
      · rw [if_pos (by omega), if_pos h]
      · rw [if_neg (by omega), if_neg h]
  · have e : ¬ j = a := by omega
    simp only [if_neg h8, if_neg e]
theorem bgF_done : ∀ j, j < 72 → bgT j = bgF 8 64 j := by
  intro j hj
  unfold bgF bgT
  by_cases h8 : j < 8
  · simp only [if_pos h8]
  · simp only [if_neg h8]
    rw [if_pos (by omega)]
theorem zero_begun (u : World) : (zeroValue 53).run Tryd.prog u = .ok (.agg (rowV 72 z32)) u := by kernel_rfl
theorem size_begun : (Tryd.prog.info? 53).map (·.size) = some 72 := by kernel_rfl
theorem begun_size (f : Nat → Value) : (Tryd.prog.info? 53).map (·.size) = some (rowV 72 f).size := by rw [rowV_size]; exact size_begun

set_option maxRecDepth 100000 in
set_option maxHeartbeats 2000000 in
theorem begin_any (w : World) :
    Calls Tryd.prog 24 #[] w fun e w' => e = .returned (.agg (rowV 72 bgT)) ∧ Below w.heap.size w w' := by
  have hz := zero_begun
  go_enter Tryd.func24, Tryd.ntmps24
  go_wp2_with fail
  have g0 : Fill w.heap.size 53 72 72 z32 ((w.alloc (.cells (rowV 72 z32) 53)).alloc (.cells (rowV 72 z32) 53)) := Fill.of_row (heap_alloc2_old w _ _)
  have g1 : Fill (w.heap.size + 1) 53 72 72 z32 ((w.alloc (.cells (rowV 72 z32) 53)).alloc (.cells (rowV 72 z32) 53)) := Fill.of_row (heap_alloc2_new w _ _)
  have b0 : Below w.heap.size w ((w.alloc (.cells (rowV 72 z32) 53)).alloc (.cells (rowV 72 z32) 53)) := ((Below.refl _ _).alloc (Nat.le_refl _) _).alloc (by simp) _
  clear hz
  generalize (w.alloc (.cells (rowV 72 z32) 53)).alloc (.cells (rowV 72 z32) 53) = W at *
  refine (primes_any W).mono ?_
  rintro e w1 ⟨g, c, rfl, hg1, hg2, hc, hb⟩
  have G0 := g0.below hb g0.lt
  have G1 : Fill (w.heap.size + 1) 53 72 72 (bgF 0 0) w1 := (g1.below hb g1.lt).same (fun j _ => by unfold bgF z32; split <;> rfl)
  have hg3 : w.heap.size + 1 < g := Nat.lt_of_lt_of_le g1.lt hg1
  have HC := Lib.hid hc
  have B1 := b0.trans (hb.mono b0.size)
  clear g0 g1 b0 hb hc
  go_wp2_with fail
  go_loopw [3] (fun v wr => ∃ i : Nat, i ≤ 64 ∧ v = .int .i64 i ∧ Fill (w.heap.size + 1) 53 72 72 (bgF (min i 8) i) wr ∧ Fill w.heap.size 53 72 72 z32 wr ∧ Hid (∀ j, j < 64 → wr.cell? ⟨g, j, none⟩ = some (nv (primesL.getD j 0))) ∧ Below w.heap.size w wr ∧ g < wr.heap.size) (fun v _ => 64 - (intOf v).toNat)
  case atStart => exact ⟨0, by omega, rfl, G1, G0, HC.out, B1, hg2⟩
  case round =>
    clear G0 G1 HC B1
    obtain ⟨i, hi, rfl, G1, G0, HC, B1, hg4⟩ := hrel
    by_cases hlt : i < 64
    · have hck := HC.out i hlt
      unfold nv at hck
      have HP3 := Lib.hid (fun u => fraction_any (primesL.getD i 0) 3 u (primes_small i) (by omega) (by omega))
      have HP2 := Lib.hid (fun u => fraction_any (primesL.getD i 0) 2 u (primes_small i) (by omega) (by omega))
      rw [frac_k i hlt] at HP3
      have HFH : Hid (i < 8 → fracN (primesL.getD i 0) 2 = hN i) := fun h => frac_h i h
      generalize primesL.getD i 0 = q at *
      have HK := Lib.hid (fun a => bgF_k a i _ rfl)
      have i72 : (i : Int) < 64 := by omega
      have hp1 := G1.lt
      have HW := Lib.hid (fun (u : World) (hu : Below wr.heap.size wr u) => (hu.cell (p := ⟨g, i, none⟩) hg4).trans hck)
      by_cases h8 : i < 8
      · have d1 : decide ((i : Int) < 8) = true := by simp <;> omega
        have HH := Lib.hid (fun b => bgF_h i b _ h8 rfl)
        rw [HFH.out h8] at HP2
        rw [show min i 8 = i by omega] at G1
        have HM := Lib.hid (show min (i + 1) 8 = i + 1 by omega)
        unfold rv at HK HH HP2 HP3
        generalize kN i = kv at *
        generalize hN i = hv at *
        go_wp2_with fail
        refine (HP3.out wr).mono ?_
        rintro e w2 ⟨rfl, hb2⟩
        have G2 := G1.below hb2 hp1
        have G02 := G0.below hb2 G0.lt
        obtain ⟨u0, hu0, hf0⟩ := G2.cell (8 + i) (by omega)
        have B2 := B1.trans (hb2.mono B1.size)
        have hb3 := hb2.size
        have hc3 : (w2.setCell ⟨w.heap.size + 1, 8 + i, none⟩ (.int .u32 (kv : Int))).cell? ⟨g, i, none⟩ = some (.int .u64 (q : Int)) := (World.cell?_setCell_other w2 _ _ _ (by simp <;> omega)).trans (HW.out w2 hb2)
        go_wp2_with fail
        have G3 := G2.put (by omega) (HK.out _)
        have G03 : Fill w.heap.size 53 72 72 z32 (w2.setCell ⟨w.heap.size + 1, 8 + i, none⟩ (.int .u32 (kv : Int))) := G02.keep (heap_setCell_other _ _ _ _ (by simp))
        have B3 := B2.setCell (p := ⟨w.heap.size + 1, 8 + i, none⟩) (by simp) (.int .u32 (kv : Int))
        have HC3 : Hid (∀ j, j < 64 → (w2.setCell ⟨w.heap.size + 1, 8 + i, none⟩ (.int .u32 (kv : Int))).cell? ⟨g, j, none⟩ = some (nv (primesL.getD j 0))) := fun j hj => (World.cell?_setCell_other w2 _ _ _ (by simp <;> omega)).trans ((hb2.cell (p := ⟨g, j, none⟩) hg4).trans (HC.out j hj))
        have hs3 : g < (w2.setCell ⟨w.heap.size + 1, 8 + i, none⟩ (.int .u32 (kv : Int))).heap.size := by simp <;> omega
        clear G1 G2 G0 G02 B1 B2 hck hu0 hf0
        generalize w2.setCell ⟨w.heap.size + 1, 8 + i, none⟩ (.int .u32 (kv : Int)) = w3 at *
        refine (HP2.out w3).mono ?_
        rintro e w4 ⟨rfl, hb5⟩
        have G4 := G3.below hb5 G3.lt
        have G04 := G03.below hb5 G03.lt
        obtain ⟨u0, hu0, hf0⟩ := G4.cell i (by omega)
        have B4 := B3.trans (hb5.mono B3.size)
        have hb6 := hb5.size
        have HC4 : Hid (∀ j, j < 64 → w4.cell? ⟨g, j, none⟩ = some (nv (primesL.getD j 0))) := fun j hj => (hb5.cell (p := ⟨g, j, none⟩) hs3).trans (HC3.out j hj)
        go_wp2_with fail
        exact ⟨⟨i + 1, by omega, by go_num, by rw [HM.out]; exact G4.put (by omega) (HH.out _), G04.keep (heap_setCell_other _ _ _ _ (by simp)), fun j hj => (World.cell?_setCell_other w4 _ _ _ (by simp <;> omega)).trans (HC4.out j hj), B4.setCell (by simp) _, by simp <;> omega⟩, by simp [intOf] <;> omega⟩
      · have d1 : decide ((i : Int) < 8) = false := by simp <;> omega
        have HM := Lib.hid (show min (i + 1) 8 = min i 8 by omega)
        unfold rv at HK HP3
        generalize kN i = kv at *
        go_wp2_with fail
        refine (HP3.out wr).mono ?_
        rintro e w2 ⟨rfl, hb2⟩
        have G2 := G1.below hb2 hp1
        have G02 := G0.below hb2 G0.lt
        obtain ⟨u0, hu0, hf0⟩ := G2.cell (8 + i) (by omega)
        have B2 := B1.trans (hb2.mono B1.size)
        have hb3 := hb2.size
        go_wp2_with fail
        exact ⟨⟨i + 1, by omega, by go_num, by rw [HM.out]; exact G2.put (by omega) (HK.out _), G02.keep (heap_setCell_other _ _ _ _ (by simp)), fun j hj => (World.cell?_setCell_other w2 _ _ _ (by simp <;> omega)).trans ((hb2.cell (p := ⟨g, j, none⟩) hg4).trans (HC.out j hj)), B2.setCell (by simp) _, by simp <;> omega⟩, by simp [intOf] <;> omega⟩
    · obtain rfl : i = 64 := by omega
      rw [show min 64 8 = 8 by rfl] at G1
      have h1 := (G1.same bgF_done).done
      have h2 := G0.done
      clear G0 G1
      go_wp2_with (first | (refine wpList_load_row rfl 53 (.tmp 1) rfl (w.heap.size + 1) rfl 53 (rowV 72 bgT) (0, 0) _ h1 Tryd.underlying53 rfl (begun_size _) ?_) | (refine wpList_store_row rfl 53 (.tmp 0) (.tmp 27) rfl w.heap.size (rowV 72 bgT) rfl rfl 53 (rowV 72 z32) h2 (begun_size _) (by rw [rowV_size, rowV_size]) (rowV_one 72 _ (fun i => by unfold bgT rv; split <;> rfl)) ?_))
      exact bodyPost_ret (v := .agg (rowV 72 bgT)) (results_cell_row rfl _ _ w.heap.size 53 (rowV 72 bgT) (0, 0) _ rfl (setRow_heap _ _ _ _ _ _ h2) Tryd.underlying53 rfl (begun_size _)) rfl ⟨rfl, below_setRow B1 (Nat.le_refl _) _⟩
end Go.Proofs.YthjeanjodhafjaaDoor
