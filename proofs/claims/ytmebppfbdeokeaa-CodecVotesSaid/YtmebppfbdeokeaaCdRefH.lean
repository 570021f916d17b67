/- Contracts: the reference's hash and point, of any reader. -/
import Derived.Test.YtmebppfbdeokeaaCdRefP
namespace Go.Proofs.Ytmebppfbdeokeaa
open Go.ChangeShapes Go.WideShapes Go.ChangeAt Go.RowKit
set_option linter.unusedVariables false
set_option maxRecDepth 100000

theorem RR.keep {w w' : World} {p : Nat} {A : Option Addr} {c : Nat} {b : List UInt8} {st : Option (List UInt8)} (h : RR w p A c b st) (e : w'.heap[p]? = w.heap[p]?) : RR w' p A c b st := by
  obtain ⟨k, h1, h2, h3⟩ := h
  exact ⟨k, h1, e.trans h2, h3⟩
theorem _root_.Go.World.grownBy.setCellNew {w w' : World} {r : Option Nat} (h : w.grownBy w' r) {g j : Nat} (hg : w.heap.size ≤ g) (v : Value) : w.grownBy (w'.setCell ⟨g, j, none⟩ v) r :=
  ⟨h.os, h.tape, h.output, by simpa [World.setCell] using h.size, fun k hk hne => (Below.heap_setCell w' ⟨g, j, none⟩ v k (by simp; omega)).trans (h.block k hk hne)⟩
/-- The first k bytes are laid. -/
def fkH (x : List UInt8) (k : Nat) : Nat → Value := fun j => if j < k then bv (x.getD j 0) else bv 0
theorem zeros_getD (j : Nat) : zeros.getD j 0 = 0 := by
  unfold zeros
  rw [List.getD_eq_getElem?_getD, List.getElem?_replicate]
  split <;> rfl
def RHashP (w : World) (p : Nat) (A : Option Addr) (c : Nat) (b : List UInt8) (st : Option (List UInt8)) (e : Ending) (w' : World) : Prop :=
  e = .returned (.agg (hashV (hashR st))) ∧ RR w' p A c b (cutS st 32).2 ∧ w.grownBy w' (some p)

set_option maxHeartbeats 4000000 in
theorem refHash_c (p : Nat) (A : Option Addr) (c lo hi : Nat) (b : List UInt8) (st : Option (List UInt8)) (w : World) (hb : b.length ≤ 100000) (hc : b.length ≤ c) (h : RR w p A c b st) (hr : Rd w lo hi A b) (hp : hi ≤ p) (hs : p < w.heap.size) :
    Calls Try.prog 76 #[.pointer (some ⟨p, 0, none⟩)] w (RHashP w p A c b st) := by
  have hz := zero_hashC
  obtain ⟨W, hW⟩ : ∃ W, W = (w.alloc (.cells (rowV 32 (hF zeros)) 24)).alloc (.cells (rowV 32 (hF zeros)) 24) := ⟨_, rfl⟩
  have hbW : Below w.heap.size w W := by rw [hW]; exact ((Below.refl _ _).alloc (Nat.le_refl _) _).alloc (by simp) _
  have hsz : W.heap.size = w.heap.size + 2 := by rw [hW]; simp
  have f0 : Fill w.heap.size 24 32 32 (hF zeros) W := by
    rw [hW]
    exact Fill.of_row (by rw [heap_lt _ _ (by simp)]; exact heap_alloc_new w _)
  have f1 : Fill (w.heap.size + 1) 24 32 32 (hF zeros) W := by
    rw [hW]
    exact Fill.of_row (by have := heap_alloc_new (w.alloc (.cells (rowV 32 (hF zeros)) 24)) (.cells (rowV 32 (hF zeros)) 24); simpa using this)
  have hR : RR W p A c b st := h.keep (hbW.block p hs)
  have HC := Lib.hid (refBytes_any p A c b st 32 W hb hc hR)
  have HRD := Lib.hid (hr.below hbW (by omega))
  have HW := Lib.hid hW
  have HB := Lib.hid hbW
  have F0 := Lib.hid f0
  have F1 := Lib.hid f1
  have HS := Lib.hid hsz
  obtain ⟨x, hx⟩ : ∃ x, x = (cutS st 32).1 := ⟨_, rfl⟩
  have hm : x.length = 0 ∨ x.length = 32 := by rw [hx]; rcases cut_len st 32 (by omega) with h0 | h0 <;> omega
  have HN : Hid (hashR st = if x.length = 32 then x else zeros) := by rw [hx]; rfl
  have HX := Lib.hid hx
  have HM := Lib.hid hm
  clear hW hbW f0 f1 hR hsz h hr hx hm
  go_enter Try.func76, Try.ntmps76
  go_wp2_with (go_at_call 75; rw [← HW.out]; refine HC.out.mono ?_; rintro e w1 ⟨A1, c1, rfl, r1, t1, g1⟩)
  rw [← HX.out] at t1
  rw [← HX.out]
  have G1 := Lib.hid ((grown_of_below HB.out (some p)).trans g1)
  have HR1 := Lib.hid r1
  have HT := Lib.hid (t1 w1 lo hi (HRD.out.grown g1 (by have := HS.out; omega) (fun g hg => by injection hg with hg; omega)))
  have K0 := Lib.hid (F0.out.keep (g1.block w.heap.size (by have := HS.out; omega) (fun e => by injection e with e; omega)))
  have K1 : Hid (Fill (w.heap.size + 1) 24 32 32 (fkH x 0) w1) := (F1.out.keep (g1.block (w.heap.size + 1) (by have := HS.out; omega) (fun e => by injection e with e; omega))).same (fun j _ => by unfold fkH hF; rw [if_neg (by omega), zeros_getD])
  clear r1 t1 g1 HC HRD F0 F1
  have hxl : x.length ≤ 32 := by rcases HM.out with h | h <;> omega
  have HXL := Lib.hid hxl
  clear hxl
  go_loopw [5] (fun v wr => ∃ k : Nat, k ≤ x.length ∧ v = .int .i64 (k : Int) ∧ Fill (w.heap.size + 1) 24 32 32 (fkH x k) wr ∧ Fill w.heap.size 24 32 32 (hF zeros) wr ∧ RR wr p A c b (cutS st 32).2 ∧ Rd wr lo hi A1 x ∧ w.grownBy wr (some p)) (fun v _ => x.length - (intOf v).toNat)
  case atStart => exact ⟨0, Nat.zero_le _, rfl, K1.out, K0.out, HR1.out, HT.out, G1.out⟩
  case round =>
    obtain ⟨k, hk, rfl, hf1, hf0, hrr, hrd, hg⟩ := hrel
    by_cases hlt : k < x.length
    · have h32 : k < 32 := by have := HXL.out; omega
      have d1 : decide ((k : Int) < (x.length : Int)) = true := by simp; omega
      have d1' : decide (k < x.length) = true := by simpa using hlt
      have d2 : decide ((k : Int) < 32) = true := by simp; omega
      have d2' : decide (k < 32) = true := by simpa using h32
      obtain ⟨b1, off, rfl, hb1, hb2, hcell⟩ := hrd.at_ hlt
      unfold bv at hcell
      obtain ⟨u1, hu1, hz1⟩ := hf1.cell k h32
      have H1 := Lib.hid hf1
      have H0 := Lib.hid hf0
      have H2 := Lib.hid hrr
      have H3 := Lib.hid hrd
      have H4 := Lib.hid hg
      have HV := Lib.hid (show ∀ j, j < 32 → fkH x (k + 1) j = if j = k then .int .u8 (x[k].toNat : Int) else fkH x k j from fun j _ => by
        unfold fkH
        by_cases e : j = k
        · subst e
          rw [if_pos (by omega), if_pos rfl, List.getD_eq_getElem?_getD, List.getElem?_eq_getElem hlt]
          rfl
        · by_cases h : j < k
          · rw [if_pos (by omega), if_neg e, if_pos h]
          · rw [if_neg (by omega), if_neg e, if_neg h])
      clear hf1 hf0 hrr hrd hg
      go_wp2_with fail
      refine ⟨⟨k + 1, by omega, by go_num, H1.out.put h32 HV.out, H0.out.keep (Below.heap_setCell wr ⟨w.heap.size + 1, k, none⟩ _ w.heap.size (by simp)), H2.out.keep (Below.heap_setCell wr ⟨w.heap.size + 1, k, none⟩ _ p (by simp; omega)), H3.out.setCell (by simp; omega) _, H4.out.setCellNew (by omega) _⟩, by simp [intOf]; omega⟩
    · obtain rfl : k = x.length := by omega
      have d1 : decide ((x.length : Int) < (x.length : Int)) = false := by simp
      have HK : Hid (rowV 32 (fkH x x.length) = rowV 32 (hF (hashR st))) := by
        rw [HN.out]
        apply Array.ext_getElem?
        intro j
        by_cases hj : j < 32
        · rw [rowV_at _ _ j hj, rowV_at _ _ j hj]
          unfold fkH hF
          rcases HM.out with h0 | h0
          · rw [if_neg (by omega), if_neg (by omega), zeros_getD]
          · rw [if_pos (by omega), if_pos h0]
        · rw [Array.getElem?_eq_none (by rw [rowV_size]; omega), Array.getElem?_eq_none (by rw [rowV_size]; omega)]
      have h5 := hf1.done
      rw [HK.out] at h5
      have h6 := hf0.done
      have H2 := Lib.hid hrr
      have H4 := Lib.hid hg
      clear hf1 hf0 hrr hrd hg HK
      go_wp2_with (first
        | (refine wpList_load_row rfl 24 (.tmp 3) rfl (w.heap.size + 1) rfl 24 (rowV 32 (hF (hashR st))) (0, 0) _ h5 Try.underlying24 rfl (size_hashVW _) ?_)
        | (refine wpList_store_row rfl 24 (.tmp 2) (.tmp 24) rfl w.heap.size (rowV 32 (hF (hashR st))) rfl rfl 24 (rowV 32 (hF zeros)) h6 (size_hashVW _) (by simp only [rowV_size]) (rowV_one 32 _ (fun i => rfl)) ?_)
        | fail)
      have K6 : (wr.setRow w.heap.size (rowV 32 (hF (hashR st)))).heap[w.heap.size]? = some (.cells (rowV 32 (hF (hashR st))) 24 (0, 0)) := setRow_heap _ _ _ _ _ _ h6
      exact bodyPost_ret (v := .agg (rowV 32 (hF (hashR st)))) (results_cell_row rfl _ _ w.heap.size 24 (rowV 32 (hF (hashR st))) (0, 0) _ rfl K6 Try.underlying24 rfl (size_hashVW _)) rfl ⟨rfl, H2.out.keep (setRow_other _ _ _ _ (by omega)), H4.out.setRowNew (Nat.le_refl _) _⟩

def RPointP (w : World) (p : Nat) (A : Option Addr) (c : Nat) (b : List UInt8) (st : Option (List UInt8)) (e : Ending) (w' : World) : Prop :=
  e = .returned (.agg (ptV (ptR st).1 (ptR st).2)) ∧ RR w' p A c b (ptS st) ∧ w.grownBy w' (some p)
set_option maxHeartbeats 4000000 in
theorem refPoint_c (p : Nat) (A : Option Addr) (c lo hi : Nat) (b : List UInt8) (st : Option (List UInt8)) (w : World) (hb : b.length ≤ 100000) (hc : b.length ≤ c) (h : RR w p A c b st) (hr : Rd w lo hi A b) (hp : hi ≤ p) (hs : p < w.heap.size) :
    Calls Try.prog 59 #[.pointer (some ⟨p, 0, none⟩)] w (RPointP w p A c b st) := by
  have hz := zero_pointC
  obtain ⟨W, hW⟩ : ∃ W, W = w.alloc (.cells (ptV 0 zeros) 26) := ⟨_, rfl⟩
  have hbW : Below w.heap.size w W := by rw [hW]; exact (Below.refl _ _).alloc (Nat.le_refl _) _
  have hsz : W.heap.size = w.heap.size + 1 := by rw [hW]; simp
  have f0 : Fill w.heap.size 26 33 33 (ptF 0 zeros) W := by
    rw [hW]
    exact Fill.of_row (heap_alloc_new w _)
  have hR : RR W p A c b st := h.keep (hbW.block p hs)
  have hRD := hr.below hbW (by omega)
  have HC := Lib.hid (refNumber_any p A c lo hi b st 8 W hb hc hR hRD hp (by omega))
  have HRD := Lib.hid hRD
  have HW := Lib.hid hW
  have HB := Lib.hid hbW
  have F0 := Lib.hid f0
  have HS := Lib.hid hsz
  clear hW hbW f0 hR hsz h hr hRD
  go_enter Try.func59, Try.ntmps59
  go_wp2_with (go_at_call 58; rw [← HW.out]; refine HC.out.mono ?_; rintro e w1 ⟨rfl, r1, g1⟩)
  have HC2 := Lib.hid (refHash_c p A c lo hi b (numS st 8).2 w1 hb hc r1 (HRD.out.grown g1 (by have := HS.out; omega) (fun g hg => by injection hg with hg; omega)) hp (by have := g1.size; have := HS.out; omega))
  have G1 := Lib.hid g1
  clear r1 g1 HC
  refine HC2.out.mono ?_
  rintro e w2 ⟨rfl, r2, g2⟩
  have R2 := Lib.hid r2
  have G2 := Lib.hid g2
  clear r2 g2 HC2
  have h6 := (F0.out.keep ((G2.out.block w.heap.size (by have := G1.out.size; have := HS.out; omega) (fun e => by injection e with e; omega)).trans (G1.out.block w.heap.size (by have := HS.out; omega) (fun e => by injection e with e; omega)))).done
  have HB2 := Lib.hid (built_point (numS st 8).1 (hashR (numS st 8).2))
  go_wp2_with (first
    | (refine wpList_build_as rfl 26 #[(0, .tmp 6), (1, .tmp 8)] rfl _ _ HB2.out (by kernel_rfl) ?_)
    | (refine wpList_store_row rfl 26 (.tmp 2) (.tmp 9) rfl w.heap.size (ptV (numS st 8).1 (hashR (numS st 8).2)) rfl rfl 26 (rowV 33 (ptF 0 zeros)) h6 (size_ptV _ _) (by simp only [ptV, rowV_size]) (rowV_one 33 _ (ptF_one _ _)) ?_)
    | fail)
  have K6 : (w2.setRow w.heap.size (ptV (numS st 8).1 (hashR (numS st 8).2))).heap[w.heap.size]? = some (.cells (ptV (numS st 8).1 (hashR (numS st 8).2)) 26 (0, 0)) := setRow_heap _ _ _ _ _ _ h6
  have GG : w.grownBy (w2.setRow w.heap.size (ptV (numS st 8).1 (hashR (numS st 8).2))) (some p) := ((((grown_of_below HB.out (some p)).trans G1.out).trans G2.out)).setRowNew (Nat.le_refl _) _
  exact bodyPost_ret (v := .agg (ptV (numS st 8).1 (hashR (numS st 8).2))) (results_cell_row rfl _ _ w.heap.size 26 (ptV (numS st 8).1 (hashR (numS st 8).2)) (0, 0) _ rfl K6 Try.underlying26 rfl (size_ptV _ _)) rfl ⟨rfl, R2.out.keep (setRow_other _ _ _ _ (by omega)), GG⟩
end Go.Proofs.Ytmebppfbdeokeaa
