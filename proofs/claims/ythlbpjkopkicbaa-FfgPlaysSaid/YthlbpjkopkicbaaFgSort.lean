/- Checkpoints are sorted. -/
import Derived.Test.YthlbpjkopkicbaaFgGad
import Derived.Test.YthlbpjkopkicbaaFgMax
import Derived.Test.YthlbpjkopkicbaaFgCmpX
import Derived.Test.YthlbpjkopkicbaaLayP
import Derived.Lib.OwnBridge
namespace Go.Proofs.Ythlbpjkopkicbaa
open Go.ChangeMaps Go.MapKept Go.Maps Go.WideElems Go.RowKit Go.ChangeShapes Go.WideShapes Go.ChangeAt Go.Sort Go.Shelf
set_option linter.unusedVariables false
set_option maxRecDepth 100000

instance : Inhabited Pt := ⟨ptZ⟩
theorem bnum_inj : ∀ a b : List UInt8, a.length = b.length → bnum a = bnum b → a = b
  | [], [], _, _ => rfl
  | x :: a, y :: b, h, e => by
    have h' : a.length = b.length := by simpa using h
    have e' : x.toNat * 256 ^ a.length + bnum a = y.toNat * 256 ^ b.length + bnum b := e
    rw [← h'] at e'
    have ha := bnum_lt a
    have hb := bnum_lt b
    rw [← h'] at hb
    have hx : x.toNat = y.toNat := by
      rcases Nat.lt_trichotomy x.toNat y.toNat with h1 | h1 | h1
      · have := Nat.mul_le_mul_right (256 ^ a.length) (show x.toNat + 1 ≤ y.toNat by omega)
        rw [Nat.add_mul, Nat.one_mul] at this; omega
      · exact h1
      · have := Nat.mul_le_mul_right (256 ^ a.length) (show y.toNat + 1 ≤ x.toNat by omega)
        rw [Nat.add_mul, Nat.one_mul] at this; omega
    rw [hx] at e'
    rw [UInt8.toNat_inj.1 hx, bnum_inj a b h' (by omega)]
theorem keyN_inj {p q : Pt} (h : keyN p = keyN q) : p = q := by
  have h1 := bnum_lt p.l
  have h2 := bnum_lt q.l
  rw [p.hl] at h1
  rw [q.hl] at h2
  unfold keyN at h
  have he : p.e = q.e := by
    rcases Nat.lt_trichotomy p.e q.e with h3 | h3 | h3
    · have := Nat.mul_le_mul_right (256 ^ 32) (show p.e + 1 ≤ q.e by omega)
      rw [Nat.add_mul, Nat.one_mul] at this; omega
    · exact h3
    · have := Nat.mul_le_mul_right (256 ^ 32) (show q.e + 1 ≤ p.e by omega)
      rw [Nat.add_mul, Nat.one_mul] at this; omega
  rw [he] at h
  exact Pt.ext' he (bnum_inj _ _ (p.hl.trans q.hl.symm) (by omega))
theorem cmpN_lt (a b : Nat) : cmpN a b < 0 ↔ a < b := by
  unfold cmpN
  split
  · omega
  · split <;> omega
theorem ltOf_key (p q : Pt) : ltOf cmpP p q = decide (keyN p < keyN q) := by
  unfold ltOf
  rw [cmpP_key]
  exact decide_eq_decide.2 (cmpN_lt _ _)
theorem swo_cmp : SWO (ltOf cmpP) where
  irrefl x := by rw [ltOf_key]; exact decide_eq_false (Nat.lt_irrefl _)
  trans x y z h1 h2 := by rw [ltOf_key, decide_eq_true_eq] at *; omega
  ntrans x y z h1 h2 := by rw [ltOf_key, decide_eq_false_iff_not] at *; omega
/-- Checkpoints in order. -/
def sortP (L : List Pt) : List Pt := L.mergeSort fun x y => !(ltOf cmpP) y x
theorem sortP_len (L : List Pt) : (sortP L).length = L.length := List.length_mergeSort ..
theorem sortP_mem (L : List Pt) (p : Pt) : p ∈ sortP L ↔ p ∈ L := (List.mergeSort_perm L _).mem_iff
theorem flat_pts (L : List Pt) : flatK pC 33 L.toArray = (pts L).toArray := by
  apply Array.ext_getElem?
  intro j
  unfold flatK
  by_cases hj : j < L.length * 33
  · have hd : j / 33 < L.length := Nat.div_lt_of_lt_mul (by omega)
    have e := pts_at L (j / 33) (j % 33) L[j / 33] (List.getElem?_eq_getElem hd) (Nat.mod_lt _ (by omega))
    rw [Nat.div_add_mod' j 33] at e
    rw [show (pts L).toArray[j]? = (pts L)[j]? from by simp, e]
    have hm : j % 33 < (pC L[j / 33]).length := by rw [pC_len]; exact Nat.mod_lt _ (by omega)
    rw [List.getElem?_eq_getElem hm]
    simp [hj, hd, hm]
  · rw [Array.getElem?_eq_none (by simp; omega), Array.getElem?_eq_none (by simp; rw [pts_len]; omega)]
theorem own_put {w : World} {base g n cap q : Nat} {L L' : List Pt} {t : TypeId} (h : w.ownsRow base t 33 (.slice (some ⟨g, 0, none⟩) n cap) n (pts L)) (hl : L'.length = n) : (putRowK pC 33 (Sort.ahead w q) g 0 L'.toArray).ownsRow base t 33 (.slice (some ⟨g, 0, none⟩) n cap) n (pts L') := by
  rcases h.2 with ⟨e0, _⟩ | ⟨g', cap', cur, e0, hb, hg, hn, hm, hs, ht⟩
  · cases e0
  · injection e0 with e1 _ e3
    injection e1 with e1
    injection e1 with e1
    subst e1; subst e3
    have hp : (pts L').length = n * 33 := by rw [pts_len, hl]
    refine ⟨hp, .inr ⟨g, cap, putCells id 0 (pts L').toArray cur, rfl, hb, ?_, hn, hm, by simpa [putCells] using hs, ?_⟩⟩
    · unfold putRowK
      rw [flat_pts]
      simp [putRow, mapBlock, Sort.ahead, Array.getElem?_modify, hg, onCells]
    · apply List.ext_getElem?
      intro j
      rw [List.getElem?_take, Array.getElem?_toList]
      by_cases hj : j < n * 33
      · have hn33 : n * 33 ≤ cap * 33 := Nat.mul_le_mul_right 33 hn
        have hjc : j < cur.size := by omega
        rw [if_pos hj]
        simp only [putCells, Array.getElem?_mapIdx, Array.getElem?_eq_getElem hjc, Option.map_some]
        rw [if_pos (by simp; omega), List.getElem?_eq_getElem (by omega)]
        simp [getElem!_pos, show j < (pts L').length by omega]
      · rw [if_neg hj, List.getElem?_eq_none (by omega)]
theorem sort_c (w : World) (A : Option Addr) (c base n : Nat) (L : List Pt) (h : w.ownsRow base 29 33 (.slice A n c) n (pts L)) (hl : L.length = n) (hn : n ≤ 1073741824) (hbs : base ≤ w.heap.size) :
    Calls Try.prog 50 #[.slice A n c, .func (.func 44) #[] #[]] w fun e w' => e = .returned (.tuple #[]) ∧ Below base w w' ∧ w'.ownsRow base 29 33 (.slice A n c) n (pts (sortP L)) := by
  by_cases hv : A = none
  · subst hv
    have h0 : n = 0 := by
      rcases h.2 with ⟨_, h0⟩ | ⟨g, cap, cur, e, _⟩
      · exact h0
      · cases e
    subst h0
    have hz : L = [] := List.eq_nil_of_length_eq_zero hl
    subst hz
    refine (AnyF.slices_SortFunc_none Try.sortFunc none c _ w).mono ?_
    rintro e w' ⟨rfl, rfl⟩
    exact ⟨rfl, Below.refl _ _, by simpa [sortP] using h⟩
  · have h' := h
    rcases h'.2 with ⟨e0, _⟩ | ⟨g, cap, cur, e0, hb, hg, hn', hm, hs, ht⟩
    · injection e0 with e1; exact absurd e1 hv
    · injection e0 with e1 _ e3
      subst e1; subst e3
      have hlt : g < w.heap.size := by
        rcases Nat.lt_or_ge g w.heap.size with h' | h'
        · exact h'
        · rw [Array.getElem?_eq_none h'] at hg; cases hg
      have hH : HoldsK pC 33 w g 0 L.toArray := by
        unfold HoldsK
        rw [flat_pts]
        intro j hj
        have hj' : j < n * 33 := by have : (pts L).toArray.size = L.length * 33 := by simp [pts_len]
                                    omega
        rw [Nat.zero_add]
        refine ⟨?_, by simp [World.frozen?, hg]⟩
        rw [h.cellAt j hj']
        simp at hj
        rw [List.getElem?_eq_getElem hj]
        simp [getElem!_pos, hj]
      have hc := AnyQ.slices_SortFunc_total Try.sortFunc 33 (fun u => by kernel_rfl) (fun u => by kernel_rfl) pC pC_len pC_one cmpP swo_cmp 44 #[] g 0 c L.toArray w (fun args u => by kernel_rfl) (fun m os dk _ x y => (compare_x x y _).mono (fun e w' ⟨h1, q, os', h2⟩ => ⟨h1, q, os', h2⟩)) hH hlt (by simp; omega) (fun x y h1 h2 => keyN_inj (by rw [ltOf_key, decide_eq_false_iff_not] at h1 h2; omega))
      have e1 : L.toArray.size = n := by simp [hl]
      rw [e1] at hc
      refine hc.mono ?_
      rintro e w' ⟨rfl, q, os, rfl⟩
      have hr := own_put (q := q) (L' := sortP L) h (by rw [sortP_len]; exact hl)
      have hb2 : Below base w (putRowK pC 33 (Sort.ahead w q) g 0 (sortP L).toArray) := Lib.below_putRow (Below.refl _ _) hb
      have hgr : (putRowK pC 33 (Sort.ahead w q) g 0 (sortP L).toArray).grownBy (Sort.grow (putRowK pC 33 (Sort.ahead w q) g 0 (sortP L).toArray) os) none := ⟨rfl, rfl, rfl, by simp [Sort.grow], fun k hk _ => by simp [Sort.grow, Array.getElem?_append_left hk]⟩
      exact ⟨rfl, hb2.grown hgr (Nat.le_trans hbs hb2.size) (fun k e => by cases e), hr.kept hgr (by simp [Value.ownBlock])⟩
end Go.Proofs.Ythlbpjkopkicbaa
