/- Proved: CodecVotes answers true for every two votes and any bytes, and leaves them as they were. Conditions: none but the form's own. -/
import Derived.Test.YtmebppfbdeokeaaCdRefH
import Derived.Test.YtmebppfbdeokeaaCdVoteOf
import Derived.Deep.MidRow
import Derived.Test.YtmebppfbdeokeaaCdRVote
import Derived.Test.YtmebppfbdeokeaaCdRMayV
import Derived.Test.YtmebppfbdeokeaaCdVof
import Derived.Test.YtmebppfbdeokeaaCdTake
import Derived.Test.YtmebppfbdeokeaaCdRText
import Derived.Test.YtmebppfbdeokeaaCdSame
import Derived.Test.YtmebppfbdeokeaaCdSameR
import Derived.Test.YtmebppfbdeokeaaCdTold
import Derived.Test.YtmebppfbdeokeaaCdVofE
import Derived.Test.YtmebppfbdeokeaaCode
import Derived.Deep.CutBlock
import Derived.Deep.Cut
import Derived.Deep.CutRange
import Derived.Test.YtmebppfbdeokeaaCdRead
import Derived.Test.YtmebppfbdeokeaaCdLift
import Derived.Test.YtmebppfbdeokeaaLiftB
namespace Go.Proofs.Ytmebppfbdeokeaa
open Go.ChangeShapes Go.WideShapes Go.ChangeAt Go.RowKit
set_option linter.unusedVariables false
set_option maxRecDepth 100000

theorem setCells_heap (g : Nat) : ∀ (vs : List Value) (o : Nat) (w : World) (k : Nat), k ≠ g → (w.setCells g o vs).heap[k]? = w.heap[k]?
  | [], _, _, _, _ => rfl
  | v :: r, o, w, k, h => (setCells_heap g r (o + 1) _ k h).trans (Below.heap_setCell w ⟨g, o, none⟩ v k h)
theorem setCells_sizeV (g : Nat) : ∀ (vs : List Value) (o : Nat) (w : World), (w.setCells g o vs).heap.size = w.heap.size
  | [], _, _ => rfl
  | v :: r, o, w => (setCells_sizeV g r (o + 1) _).trans (by simp [World.setCell])
theorem setCells_grown {w : World} {r : Option Nat} {g : Nat} (hg : w.heap.size ≤ g) : ∀ (vs : List Value) (o : Nat) (w' : World), w.grownBy w' r → w.grownBy (w'.setCells g o vs) r
  | [], _, _, h => h
  | v :: vs, o, w', h => setCells_grown hg vs (o + 1) _ (h.setCellNew hg v)
/-- Cells of a block are laid anew. -/
theorem Fill.cellsV {g t n : Nat} : ∀ (vs : List Value) (o : Nat) {f f' : Nat → Value} {w : World}, Fill g t n n f w → o + vs.length ≤ n → (∀ j, j < vs.length → vs[j]? = some (f' (o + j))) → (∀ j, j < n → (j < o ∨ o + vs.length ≤ j) → f' j = f j) → Fill g t n n f' (w.setCells g o vs)
  | [], o, f, f', w, h, _, _, h2 => h.same (fun j hj => h2 j hj (by simp; omega))
  | v :: r, o, f, f', w, h, h0, h1, h2 => by
    have hl : (v :: r).length = r.length + 1 := rfl
    rw [hl] at h0 h1 h2
    refine Fill.cellsV r (o + 1) (f := fun j => if j = o then v else f j) (h.put (by omega) (fun j _ => rfl)) (by omega) (fun j hj => ?_) (fun j hj hc => ?_)
    · have := h1 (j + 1) (by omega)
      rw [List.getElem?_cons_succ] at this
      rw [this, show o + (j + 1) = o + 1 + j by omega]
    · by_cases e : j = o
      · subst e
        rw [if_pos rfl]
        have := h1 0 (by omega)
        rw [List.getElem?_cons_zero, Nat.add_zero] at this
        injection this with this
        exact this.symm
      · rw [if_neg e]
        exact h2 j hj (by omega)
theorem Fill.thereV {g t n : Nat} {f : Nat → Value} {w : World} (h : Fill g t n n f w) (o k : Nat) (hk : o + k ≤ n) : w.there g o k := fun j hj => by
  obtain ⟨u, h1, h2⟩ := h.cell (o + j) (by omega)
  exact ⟨by rw [h1]; rfl, h2⟩
theorem ptV_at (e : Nat) (l : List UInt8) (j : Nat) (hj : j < 33) : (ptV e l).toList[j]? = some (ptF e l j) := by
  unfold ptV
  rw [rowV_list, List.getElem?_map, List.getElem?_range hj]
  rfl
theorem ptV_len (e : Nat) (l : List UInt8) : (ptV e l).toList.length = 33 := by unfold ptV; rw [rowV_list]; simp
def RVoteP (w : World) (p : Nat) (A : Option Addr) (c : Nat) (b : List UInt8) (st : Option (List UInt8)) (e : Ending) (w' : World) : Prop :=
  ∃ A' c', e = .returned (.agg (vtV (((numS st 1).1 : Nat) : Int) (ptR (vtS1 st)).1 (ptR (vtS1 st)).2 (ptR (vtS2 st)).1 (ptR (vtS2 st)).2 (.slice A' (blobS (vtS3 st)).1.length c'))) ∧ RR w' p A c b (blobS (vtS3 st)).2 ∧ (∀ (W : World) (lo hi : Nat), Rd W lo hi A b → Rd W lo hi A' (blobS (vtS3 st)).1) ∧ w.grownBy w' (some p)
set_option maxHeartbeats 8000000 in
theorem refVoteR_c (p : Nat) (A : Option Addr) (c lo hi : Nat) (b : List UInt8) (st : Option (List UInt8)) (w : World) (hb : b.length ≤ 100000) (hc : b.length ≤ c) (h : RR w p A c b st) (hr : Rd w lo hi A b) (hp : hi ≤ p) (hs : p < w.heap.size) :
    Calls Try.prog 37 #[.pointer (some ⟨p, 0, none⟩)] w (RVoteP w p A c b st) := by
  have hz := zero_voteC
  obtain ⟨W, hW⟩ : ∃ W, W = (w.alloc (.cells (vtV 0 0 zeros 0 zeros (.slice none 0 0)) 29)).alloc (.cells (vtV 0 0 zeros 0 zeros (.slice none 0 0)) 29) := ⟨_, rfl⟩
  have hbW : Below w.heap.size w W := by rw [hW]; exact ((Below.refl _ _).alloc (Nat.le_refl _) _).alloc (by simp) _
  have hsz : W.heap.size = w.heap.size + 2 := by rw [hW]; simp
  have f0 : Fill w.heap.size 29 68 68 (vtF 0 0 zeros 0 zeros (.slice none 0 0)) W := by
    rw [hW]
    exact Fill.of_row (by rw [heap_lt _ _ (by simp)]; exact heap_alloc_new w _)
  have f1 : Fill (w.heap.size + 1) 29 68 68 (vtF 0 0 zeros 0 zeros (.slice none 0 0)) W := by
    rw [hW]
    have h2 := Fill.of_row (n := 68) (f := vtF 0 0 zeros 0 zeros (.slice none 0 0)) (heap_alloc_new (w.alloc (.cells (vtV 0 0 zeros 0 zeros (.slice none 0 0)) 29)) (.cells (vtV 0 0 zeros 0 zeros (.slice none 0 0)) 29))
    rwa [heap_sz] at h2
  have G0 := Lib.hid (grown_of_below hbW (some p))
  have HR0 : RR W p A c b st := h.keep (hbW.block p hs)
  have RD : Hid (∀ u, w.grownBy u (some p) → Rd u lo hi A b) := fun u hu => hr.grown hu (by omega) (fun g hg => by injection hg with hg; omega)
  have HC := Lib.hid (refNumber_any p A c lo hi b st 1 W hb hc HR0 (RD.out W G0.out) hp (by omega))
  have HW := Lib.hid hW
  have F0 := Lib.hid f0
  have F1 := Lib.hid f1
  have HS := Lib.hid hsz
  have N1 := Lib.hid (num1 st)
  have HPS := Lib.hid hs
  clear hW hbW f0 f1 hsz h hr HR0 hs
  go_enter Try.func37, Try.ntmps37
  go_wp2_with fail
  rw [← HW.out]
  refine HC.out.mono ?_
  rintro e w1 ⟨rfl, r1, g1⟩
  obtain ⟨n, hn⟩ : ∃ n, n = (numS st 1).1 := ⟨_, rfl⟩
  have HN := Lib.hid hn
  have hn2 : n < 256 := by rw [hn]; exact N1.out
  rw [← hn]
  have wn : wrap64 (n : Int) = (n : Int) := by unfold wrap64; omega
  have G1 := Lib.hid (G0.out.trans g1)
  have k0 : w1.heap[w.heap.size]? = W.heap[w.heap.size]? := g1.block _ (by have := HS.out; omega) (fun e => by injection e with e; have := HPS.out; omega)
  have k1 : w1.heap[w.heap.size + 1]? = W.heap[w.heap.size + 1]? := g1.block _ (by have := HS.out; omega) (fun e => by injection e with e; have := HPS.out; omega)
  have A0 := Lib.hid (F0.out.keep k0)
  have a1 := F1.out.keep k1
  obtain ⟨v1, hv1, hz1⟩ := a1.cell 0 (by omega)
  have A1 : Hid (Fill (w.heap.size + 1) 29 68 68 (vtF (n : Int) 0 zeros 0 zeros (.slice none 0 0)) (w1.setCell ⟨w.heap.size + 1, 0, none⟩ (.int .i64 (n : Int)))) := a1.put (by omega) (fun j _ => by
    unfold vtF
    by_cases e : j = 0
    · rw [if_pos e, if_pos e]
    · rw [if_neg e, if_neg e, if_neg e])
  have A0' := Lib.hid (A0.out.keep (Below.heap_setCell w1 ⟨w.heap.size + 1, 0, none⟩ (.int .i64 (n : Int)) w.heap.size (by simp)))
  have R1 : Hid (RR (w1.setCell ⟨w.heap.size + 1, 0, none⟩ (.int .i64 (n : Int))) p A c b (vtS1 st)) := r1.keep (Below.heap_setCell w1 ⟨w.heap.size + 1, 0, none⟩ _ p (by have := HPS.out; simp; omega))
  have G2 := Lib.hid (G1.out.setCellNew (g := w.heap.size + 1) (j := 0) (by omega) (.int .i64 (n : Int)))
  have S2 : Hid (w.heap.size + 2 ≤ (w1.setCell ⟨w.heap.size + 1, 0, none⟩ (.int .i64 (n : Int))).heap.size) := by
    show _ ≤ _
    have := g1.size
    have := HS.out
    simp [World.setCell]
    omega
  clear r1 g1 hn k0 k1 a1 HC A0 G1 F0 F1 hn2
  go_wp2_with fail
  generalize (w1.setCell ⟨w.heap.size + 1, 0, none⟩ (.int .i64 (n : Int))) = V1 at *
  have hl2 : p < V1.heap.size := by have := S2.out; have := HPS.out; omega
  refine (refPoint_c p A c lo hi b (vtS1 st) V1 hb hc R1.out (RD.out V1 G2.out) hp hl2).mono ?_
  rintro e x2 ⟨rfl, r2, g2⟩
  obtain ⟨e2, he2⟩ : ∃ e1, e1 = (ptR (vtS1 st)).1 := ⟨_, rfl⟩
  obtain ⟨l2, hl2'⟩ : ∃ l1, l1 = (ptR (vtS1 st)).2 := ⟨_, rfl⟩
  rw [← he2, ← hl2']
  have E2 := Lib.hid (And.intro he2 hl2')
  have b2 : Hid (Fill (w.heap.size + 1) 29 68 68 (vtF (n : Int) 0 zeros 0 zeros (.slice none 0 0)) x2) := A1.out.keep (g2.block _ (by have := S2.out; omega) (fun e => by injection e with e; have := HPS.out; omega))
  have z2 : Hid (Fill w.heap.size 29 68 68 (vtF 0 0 zeros 0 zeros (.slice none 0 0)) x2) := A0'.out.keep (g2.block _ (by have := S2.out; omega) (fun e => by injection e with e; have := HPS.out; omega))
  have T2 : x2.there (w.heap.size + 1) 1 (ptV e2 l2).size := by
    rw [show (ptV e2 l2).size = 33 from rowV_size _ _]
    exact b2.out.thereV 1 33 (by omega)
  have A2n : Hid (Fill (w.heap.size + 1) 29 68 68 (vtF (n : Int) e2 l2 0 zeros (.slice none 0 0)) (x2.setCells (w.heap.size + 1) 1 (ptV e2 l2).toList)) := by
    refine Fill.cellsV _ 1 b2.out (by rw [ptV_len]; omega) (fun j hj => ?_) (fun j hj hc => ?_)
    · rw [ptV_len] at hj
      rw [ptV_at _ _ _ hj]
      unfold vtF
      rw [if_neg (by omega), if_pos (by omega), show 1 + j - 1 = j by omega]
    · rw [ptV_len] at hc
      unfold vtF
      by_cases e : j = 0
      · rw [if_pos e, if_pos e]
      · have e3 : ¬ j < 34 := by omega
        rw [if_neg e, if_neg e, if_neg e3, if_neg e3]
  have Z2 := Lib.hid (z2.out.keep (setCells_heap (w.heap.size + 1) (ptV e2 l2).toList 1 x2 w.heap.size (by omega)))
  have R2n : Hid (RR (x2.setCells (w.heap.size + 1) 1 (ptV e2 l2).toList) p A c b (ptS (vtS1 st))) := r2.keep (setCells_heap (w.heap.size + 1) (ptV e2 l2).toList 1 x2 p (by have := HPS.out; omega))
  have G2n := Lib.hid (setCells_grown (show w.heap.size ≤ w.heap.size + 1 by omega) (ptV e2 l2).toList 1 x2 (G2.out.trans g2))
  have S2n : Hid (w.heap.size + 2 ≤ (x2.setCells (w.heap.size + 1) 1 (ptV e2 l2).toList).heap.size) := by
    show _ ≤ _
    rw [setCells_sizeV]
    exact Nat.le_trans S2.out g2.size
  obtain ⟨V2, hV2⟩ : ∃ V2, V2 = x2.setCells (w.heap.size + 1) 1 (ptV e2 l2).toList := ⟨_, rfl⟩
  rw [← hV2] at A2n Z2 R2n G2n S2n
  have HV2 := Lib.hid hV2
  clear he2 hl2' hl2 r2 g2 b2 z2 hV2 A1 A0' R1 G2 S2
  go_wp2_with (first
    | (refine wpList_store_mid rfl 26 (.tmp 10) (.tmp 9) rfl (w.heap.size + 1) 1 (ptV e2 l2) rfl rfl T2 (size_ptV _ _) (rowV_one 33 _ (ptF_one _ _)) ?_; rw [← HV2.out])
    | fail)
  clear T2 HV2
  have Z2' := Z2
  have hl3 : p < V2.heap.size := by have := S2n.out; have := HPS.out; omega
  refine (refPoint_c p A c lo hi b (vtS2 st) V2 hb hc R2n.out (RD.out V2 G2n.out) hp hl3).mono ?_
  rintro e x3 ⟨rfl, r3, g3⟩
  obtain ⟨e3, he3⟩ : ∃ e1, e1 = (ptR (vtS2 st)).1 := ⟨_, rfl⟩
  obtain ⟨l3, hl3'⟩ : ∃ l1, l1 = (ptR (vtS2 st)).2 := ⟨_, rfl⟩
  rw [← he3, ← hl3']
  have E3 := Lib.hid (And.intro he3 hl3')
  have b3 : Hid (Fill (w.heap.size + 1) 29 68 68 (vtF (n : Int) e2 l2 0 zeros (.slice none 0 0)) x3) := A2n.out.keep (g3.block _ (by have := S2n.out; omega) (fun e => by injection e with e; have := HPS.out; omega))
  have z3 : Hid (Fill w.heap.size 29 68 68 (vtF 0 0 zeros 0 zeros (.slice none 0 0)) x3) := Z2.out.keep (g3.block _ (by have := S2n.out; omega) (fun e => by injection e with e; have := HPS.out; omega))
  have T3 : x3.there (w.heap.size + 1) 34 (ptV e3 l3).size := by
    rw [show (ptV e3 l3).size = 33 from rowV_size _ _]
    exact b3.out.thereV 34 33 (by omega)
  have A3n : Hid (Fill (w.heap.size + 1) 29 68 68 (vtF (n : Int) e2 l2 e3 l3 (.slice none 0 0)) (x3.setCells (w.heap.size + 1) 34 (ptV e3 l3).toList)) := by
    refine Fill.cellsV _ 34 b3.out (by rw [ptV_len]; omega) (fun j hj => ?_) (fun j hj hc => ?_)
    · rw [ptV_len] at hj
      rw [ptV_at _ _ _ hj]
      unfold vtF
      rw [if_neg (by omega), if_neg (by omega), if_pos (by omega), show 34 + j - 34 = j by omega]
    · rw [ptV_len] at hc
      unfold vtF
      by_cases e : j = 0
      · rw [if_pos e, if_pos e]
      · by_cases e2 : j < 34
        · rw [if_neg e, if_neg e, if_pos e2, if_pos e2]
        · have e3 : ¬ j < 67 := by omega
          rw [if_neg e, if_neg e, if_neg e2, if_neg e2, if_neg e3, if_neg e3]
  have Z3 := Lib.hid (z3.out.keep (setCells_heap (w.heap.size + 1) (ptV e3 l3).toList 34 x3 w.heap.size (by omega)))
  have R3n : Hid (RR (x3.setCells (w.heap.size + 1) 34 (ptV e3 l3).toList) p A c b (ptS (vtS2 st))) := r3.keep (setCells_heap (w.heap.size + 1) (ptV e3 l3).toList 34 x3 p (by have := HPS.out; omega))
  have G3n := Lib.hid (setCells_grown (show w.heap.size ≤ w.heap.size + 1 by omega) (ptV e3 l3).toList 34 x3 (G2n.out.trans g3))
  have S3n : Hid (w.heap.size + 2 ≤ (x3.setCells (w.heap.size + 1) 34 (ptV e3 l3).toList).heap.size) := by
    show _ ≤ _
    rw [setCells_sizeV]
    exact Nat.le_trans S2n.out g3.size
  obtain ⟨V3, hV3⟩ : ∃ V3, V3 = x3.setCells (w.heap.size + 1) 34 (ptV e3 l3).toList := ⟨_, rfl⟩
  rw [← hV3] at A3n Z3 R3n G3n S3n
  have HV3 := Lib.hid hV3
  clear Z2' he3 hl3' hl3 r3 g3 b3 z3 hV3 A2n Z2 R2n G2n S2n
  go_wp2_with (first
    | (refine wpList_store_mid rfl 26 (.tmp 13) (.tmp 12) rfl (w.heap.size + 1) 34 (ptV e3 l3) rfl rfl T3 (size_ptV _ _) (rowV_one 33 _ (ptF_one _ _)) ?_; rw [← HV3.out])
    | fail)
  clear T3 HV3
  have hl4 : p < V3.heap.size := by have := S3n.out; have := HPS.out; omega
  refine (refBlob_any p A c lo hi b (vtS3 st) V3 hb hc R3n.out (RD.out V3 G3n.out) hp hl4).mono ?_
  rintro e x4 ⟨A5, c5, rfl, r4, t4, g4⟩
  have T4 := Lib.hid t4
  have b4 : Fill (w.heap.size + 1) 29 68 68 (vtF (n : Int) e2 l2 e3 l3 (.slice none 0 0)) x4 := A3n.out.keep (g4.block _ (by have := S3n.out; omega) (fun e => by injection e with e; have := HPS.out; omega))
  have z4 : Fill w.heap.size 29 68 68 (vtF 0 0 zeros 0 zeros (.slice none 0 0)) x4 := Z3.out.keep (g4.block _ (by have := S3n.out; omega) (fun e => by injection e with e; have := HPS.out; omega))
  obtain ⟨v4, hv4, hz4⟩ := b4.cell 67 (by omega)
  have h6 : (x4.setCell ⟨w.heap.size + 1, 67, none⟩ (.slice A5 (blobS (vtS3 st)).1.length c5)).heap[w.heap.size + 1]? = some (.cells (vtV (n : Int) e2 l2 e3 l3 (.slice A5 (blobS (vtS3 st)).1.length c5)) 29 (0, 0)) := Fill.done (b4.put (by omega) (fun j _ => by
    unfold vtF
    by_cases e : j = 67
    · rw [if_pos e, if_neg (by omega), if_neg (by omega), if_neg (by omega)]
    · rw [if_neg e]
      by_cases e0 : j = 0
      · rw [if_pos e0, if_pos e0]
      · by_cases e1 : j < 34
        · rw [if_neg e0, if_neg e0, if_pos e1, if_pos e1]
        · have e3 : j < 67 := by omega
          rw [if_neg e0, if_neg e0, if_neg e1, if_neg e1, if_pos e3, if_pos e3]))
  have h7 : (x4.setCell ⟨w.heap.size + 1, 67, none⟩ (.slice A5 (blobS (vtS3 st)).1.length c5)).heap[w.heap.size]? = some (.cells (vtV 0 0 zeros 0 zeros (.slice none 0 0)) 29 (0, 0)) := (z4.keep (Below.heap_setCell x4 ⟨w.heap.size + 1, 67, none⟩ _ w.heap.size (by simp))).done
  have R4 : Hid (RR (x4.setCell ⟨w.heap.size + 1, 67, none⟩ (.slice A5 (blobS (vtS3 st)).1.length c5)) p A c b (blobS (vtS3 st)).2) := r4.keep (Below.heap_setCell x4 ⟨w.heap.size + 1, 67, none⟩ _ p (by have := HPS.out; simp; omega))
  have G4 := Lib.hid ((G3n.out.trans g4).setCellNew (g := w.heap.size + 1) (j := 67) (by omega) (.slice A5 (blobS (vtS3 st)).1.length c5))
  clear r4 t4 g4 b4 z4 hl4 A3n Z3 R3n G3n S3n
  go_wp2_with (first
    | (refine wpList_load_row rfl 29 (.tmp 3) rfl (w.heap.size + 1) rfl 29 (vtV (n : Int) e2 l2 e3 l3 (.slice A5 (blobS (vtS3 st)).1.length c5)) (0, 0) _ h6 Try.underlying29 rfl (size_vtV _ _ _ _ _ _) ?_)
    | (refine wpList_store_row rfl 29 (.tmp 2) (.tmp 17) rfl w.heap.size (vtV (n : Int) e2 l2 e3 l3 (.slice A5 (blobS (vtS3 st)).1.length c5)) rfl rfl 29 (vtV 0 0 zeros 0 zeros (.slice none 0 0)) h7 (size_vtV _ _ _ _ _ _) (by unfold vtV; simp only [rowV_size]) (rowV_one 68 _ (vtF_one _ _ _ _ _ _ rfl)) ?_)
    | fail)
  have K6 := setRow_heap _ _ _ (vtV (n : Int) e2 l2 e3 l3 (.slice A5 (blobS (vtS3 st)).1.length c5)) _ _ h7
  refine bodyPost_ret (v := .agg (vtV (n : Int) e2 l2 e3 l3 (.slice A5 (blobS (vtS3 st)).1.length c5))) (results_cell_row rfl _ _ w.heap.size 29 (vtV (n : Int) e2 l2 e3 l3 (.slice A5 (blobS (vtS3 st)).1.length c5)) (0, 0) _ rfl K6 Try.underlying29 rfl (size_vtV _ _ _ _ _ _)) rfl ⟨A5, c5, ?_, R4.out.keep (setRow_other _ _ _ _ (by have := HPS.out; omega)), T4.out, G4.out.setRowNew (Nat.le_refl _) _⟩
  rw [HN.out, E2.out.1, E2.out.2, E3.out.1, E3.out.2]
end Go.Proofs.Ytmebppfbdeokeaa
namespace Go.Proofs.Ytmebppfbdeokeaa
open Go.ChangeShapes Go.WideShapes Go.ChangeAt Go.RowKit
set_option linter.unusedVariables false
set_option maxRecDepth 100000

theorem hdBelowV {B : Nat} {w W u : World} (h : Below B w W) (hu : Below W.heap.size W.drew u) (hB : B ≤ w.heap.size := by exact Nat.le_refl _) : Below B w u := h.drew.trans (hu.mono (Nat.le_trans hB h.size))
theorem built_vt0 : Try.prog.built 29 [] = some vote0 := by kernel_rfl
theorem blob_lt (st : Option (List UInt8)) : (blobS st).1.length ≤ 65535 := by
  have h := num2 st
  unfold blobS
  rcases cut_len (numS st 2).2 ((numS st 2).1 : Int) (by omega) with e | e <;> omega
/-- A vote of bytes, its signature at an address. -/
def rvV (l : List UInt8) (A : Option Addr) (c : Nat) : Array Value := vtV (((numS (some l) 1).1 : Nat) : Int) (ptR (vtS1 (some l))).1 (ptR (vtS1 (some l))).2 (ptR (vtS2 (some l))).1 (ptR (vtS2 (some l))).2 (.slice A (vofS l).length c)
def RVofP (w : World) (A : Option Addr) (l : List UInt8) (e : Ending) (w' : World) : Prop :=
  (vofOk l = true ∧ ∃ A' c', e = .returned (.tuple #[.agg (rvV l A' c'), .bool true]) ∧ (∀ (W : World) (lo hi : Nat), Rd W lo hi A l → Rd W lo hi A' (vofS l)) ∧ Below w.heap.size w w') ∨ (vofOk l = false ∧ e = .returned (.tuple #[.agg vote0, .bool false]) ∧ Below w.heap.size w w')
set_option maxHeartbeats 8000000 in
theorem refVoteOf_c (A : Option Addr) (c : Nat) (l : List UInt8) (w : World) (h : Rd w 0 w.heap.size A l) (hl : l.length ≤ 100000) (hc : l.length ≤ c) :
    Calls Try.prog 16 #[.slice A l.length c] w (RVofP w A l) := by
  have hz := zero_vote0
  obtain ⟨W, hW⟩ : ∃ W, W = (w.alloc (.cells vote0 29)).alloc (.cells #[.slice A l.length c, .int .i64 0, .bool false] 70) := ⟨_, rfl⟩
  have hb : Below w.heap.size w W := by rw [hW]; exact ((Below.refl _ _).alloc (Nat.le_refl _) _).alloc (by simp) _
  have hsz : W.heap.size = w.heap.size + 2 := by rw [hW]; simp
  have f0 : W.heap[w.heap.size]? = some (.cells vote0 29 (0, 0)) := by rw [hW, heap_lt _ _ (by simp)]; exact heap_alloc_new w _
  have f1 : W.heap[w.heap.size + 1]? = some (.cells #[.slice A l.length c, .int .i64 0, .bool false] 70 (0, 0)) := by
    rw [hW]
    have := heap_alloc_new (w.alloc (.cells vote0 29)) (.cells #[.slice A l.length c, .int .i64 0, .bool false] 70)
    simpa using this
  have hrr : RR W (w.heap.size + 1) A c l (some l) := ⟨0, Nat.zero_le _, f1, fun m hm => by injection hm with hm; rw [← hm]; rfl⟩
  have hrd := h.below hb (Nat.le_refl _)
  have HC := Lib.hid (refVoteR_c (w.heap.size + 1) A c 0 w.heap.size l (some l) W hl hc hrr hrd (by omega) (by omega))
  have HRD := Lib.hid hrd
  have HW := Lib.hid hW
  have HB := Lib.hid hb
  have F0 := Lib.hid f0
  have HS := Lib.hid hsz
  clear hW hb f0 f1 hrr hsz h hrd
  go_enter Try.func16, Try.ntmps16
  go_wp2_with fail
  rw [← HW.out]
  refine HC.out.mono ?_
  rintro e w2 ⟨A5, c5, rfl, r2, t2, g2⟩
  have T := Lib.hid t2
  have HB2 : Hid (Below w.heap.size w w2) := ⟨g2.os.trans HB.out.os, g2.tape.trans HB.out.tape, g2.output.trans HB.out.output, Nat.le_trans HB.out.size g2.size, fun k hk => (g2.block k (by have := HS.out; omega) (fun e => by injection e with e; omega)).trans (HB.out.block k hk)⟩
  have HL2 := Lib.hid (show w.heap.size < w2.heap.size by have := g2.size; have := HS.out; omega)
  have F2 := Lib.hid ((g2.block w.heap.size (by have := HS.out; omega) (fun e => by injection e with e; omega)).trans F0.out)
  have HRD2 := Lib.hid (HRD.out.grown g2 (by have := HS.out; omega) (fun g hg => by injection hg with hg; omega))
  clear r2 t2 g2 HC F0 HRD
  have hn := num1 (some l)
  have he1 : (ptR (vtS1 (some l))).1 < 18446744073709551616 := num8_lt _
  have he2 : (ptR (vtS2 (some l))).1 < 18446744073709551616 := num8_lt _
  have hx1 : (ptR (vtS1 (some l))).2.length = 32 := hashR_len _
  have hx2 : (ptR (vtS2 (some l))).2.length = 32 := hashR_len _
  have hs := blob_lt (vtS3 (some l))
  have HOK := Lib.hid (show vofOk l = (mayVt (((numS (some l) 1).1 : Nat) : Int) (ptR (vtS1 (some l))).1 (ptR (vtS2 (some l))).1 (blobS (vtS3 (some l))).1.length && (vtL (numS (some l) 1).1 (ptR (vtS1 (some l))).1 (ptR (vtS1 (some l))).2 (ptR (vtS2 (some l))).1 (ptR (vtS2 (some l))).2 (blobS (vtS3 (some l))).1 == l)) from rfl)
  have hrv : rvV l A5 c5 = vtV (((numS (some l) 1).1 : Nat) : Int) (ptR (vtS1 (some l))).1 (ptR (vtS1 (some l))).2 (ptR (vtS2 (some l))).1 (ptR (vtS2 (some l))).2 (.slice A5 (blobS (vtS3 (some l))).1.length c5) := rfl
  have hsS : vofS l = (blobS (vtS3 (some l))).1 := rfl
  have CM := Lib.hid (fun u => refMayVote_c (((numS (some l) 1).1 : Nat) : Int) (ptR (vtS1 (some l))).1 (ptR (vtS1 (some l))).2 (ptR (vtS2 (some l))).1 (ptR (vtS2 (some l))).2 A5 (blobS (vtS3 (some l))).1.length c5 u)
  have CP := Lib.hid (fun u (hu : Rd u 0 u.heap.size A5 (blobS (vtS3 (some l))).1) => refVoteB_c (numS (some l) 1).1 (ptR (vtS1 (some l))).1 (ptR (vtS1 (some l))).2 (ptR (vtS2 (some l))).1 (ptR (vtS2 (some l))).2 (blobS (vtS3 (some l))).1 A5 c5 u hn he1 he2 hx1 hx2 hu hs)
  rw [← hsS] at T CM CP HOK hrv ⊢
  rw [← hrv] at CM CP ⊢
  obtain ⟨mv, hmv⟩ : ∃ mv, mv = mayVt (((numS (some l) 1).1 : Nat) : Int) (ptR (vtS1 (some l))).1 (ptR (vtS2 (some l))).1 (vofS l).length := ⟨_, rfl⟩
  obtain ⟨VL, hVL⟩ : ∃ VL, VL = vtL (numS (some l) 1).1 (ptR (vtS1 (some l))).1 (ptR (vtS1 (some l))).2 (ptR (vtS2 (some l))).1 (ptR (vtS2 (some l))).2 (vofS l) := ⟨_, rfl⟩
  rw [← hmv] at CM HOK
  rw [← hVL] at CP HOK
  obtain ⟨VX, hVX⟩ : ∃ VX, VX = rvV l A5 c5 := ⟨_, rfl⟩
  obtain ⟨VC, hVC⟩ : ∃ VC : List Value, VC.toArray = VX := ⟨VX.toList, by simp⟩
  have HSZ := Lib.hid (show (Try.prog.info? 29).map (·.size) = some VX.size by rw [hVX]; exact size_vtV _ _ _ _ _ _)
  have HON : Hid (VX.all (·.oneCell') = true) := by rw [hVX]; exact rowV_one 68 _ (vtF_one _ _ _ _ _ _ rfl)
  have HSI : Hid (vote0.size = VX.size) := by rw [hVX]; exact (rowV_size _ _).trans (rowV_size _ _).symm
  rw [← hVX] at CM CP ⊢
  obtain ⟨V0, hV0⟩ : ∃ V0, V0 = w2.alloc (.cells VX 29) := ⟨_, rfl⟩
  have bn : Below w2.heap.size w2 V0 := by rw [hV0]; exact (Below.refl _ _).alloc (Nat.le_refl _) _
  have k2 : V0.heap[w2.heap.size]? = some (.cells VX 29 (0, 0)) := by rw [hV0]; exact heap_alloc_new w2 _
  have l2 : w2.heap.size < V0.heap.size := by rw [hV0]; simp
  have HB3 := Lib.hid (HB2.out.trans (bn.mono HB2.out.size))
  have hrd3 := HRD2.out.below bn (Nat.le_of_lt HL2.out)
  have f3 : V0.heap[w.heap.size]? = some (.cells vote0 29 (0, 0)) := (bn.block _ HL2.out).trans F2.out
  have HG : Hid (∀ u : World, Below V0.heap.size V0.drew u → u.heap[w2.heap.size]? = some (.cells VX 29 (0, 0))) := fun u hu => (hu.block _ l2).trans k2
  have KP : Hid (∀ u : World, Below V0.heap.size V0.drew u → u.rangeAt w2.heap.size 0 VC ∧ Rd u 0 w.heap.size A l) := fun u hu =>
    ⟨fun j v hv => by rw [Nat.zero_add, cell_of_row u w2.heap.size j _ _ (0, 0) (HG.out u hu), ← hVC]; simpa using hv, (show Rd V0.drew _ _ _ _ from hrd3).below hu (Nat.le_trans (Nat.le_of_lt HL2.out) bn.size)⟩
  have HF : Hid (∀ u : World, Below V0.heap.size V0.drew u → u.heap[w.heap.size]? = some (.cells vote0 29 (0, 0))) := fun u hu => (hu.block _ (Nat.lt_of_lt_of_le HL2.out bn.size)).trans f3
  have BX : Hid (Below V0.heap.size V0.drew V0.drew) := Below.refl _ _
  have HS3 : Hid (w.heap.size ≤ V0.heap.size) := Nat.le_trans (Nat.le_of_lt HL2.out) bn.size
  obtain ⟨sl, hsl⟩ : ∃ sl : ByteArray, sl = ⟨l.toArray⟩ := ⟨_, rfl⟩
  obtain ⟨sx, hsx⟩ : ∃ sx : ByteArray, sx = ⟨VL.toArray⟩ := ⟨_, rfl⟩
  have hne : (sx.toList == sl.toList) = (VL == l) := by rw [hsx, hsl, str_toListD, str_toListD]
  have HSL := Lib.hid hsl
  have HSX := Lib.hid hsx
  have HV0 := Lib.hid hV0
  have HVX := Lib.hid hVX
  have HVC := Lib.hid hVC
  clear hn he1 he2 hx1 hx2 hs hrv hsS bn k2 l2 hrd3 f3 HB2 HL2 F2 HRD2 hV0 hsl hsx hVX hVC hmv hVL
  go_wp2_with (refine wpList_store_row rfl 29 (.tmp 4) (.tmp 8) rfl w2.heap.size VX rfl rfl 29 vote0 (heap_alloc_new _ _) HSZ.out HSI.out HON.out ?_; rw [World.setRow_alloc_new])
  rw [← HV0.out]
  rcases mv with _ | _
  · rw [Bool.false_and] at HOK
    have HN := HOK
    clear hne
    rename_i K1 hK1
    refine wp_region_noPanic ?_
    refine wp_region_held_drew (S := (fun u => u.rangeAt w2.heap.size 0 VC ∧ Rd u 0 w.heap.size A l)) (by kernel_rfl) (KP.out _ BX.out) (fun hHeld => ?_)
    refine takeH (i := 0) (d := 9) (oi := _) (v := .agg VX) rfl (by kernel_rfl) (by kernel_rfl) (by kernel_rfl) (by kernel_rfl) (fun _ _ _ h => h) (yieldsIf_load_midC (by rfl) _ _ rfl w2.heap.size 0 rfl VC VX HVC.out _ (fun w h => h.1) Try.underlying29 rfl HSZ.out) hHeld ?_
    try simp only [List.setIfInBounds_toArray, List.set_cons_zero, List.set_cons_succ]
    refine wpAnyH_ready (rs := [1]) (by kernel_rfl) (by simp) ?_
    refine AllReadyH.cons (o := _) rfl (fun K hK => ?_) AllReadyH.nil
    go_simp
    go_at_call 6
    refine (CM.out _).mono ?_
    rintro y w3 ⟨rfl, b3⟩
    have BX := Lib.hid (BX.out.trans (b3.mono BX.out.size))
    clear b3
    go_simp
    refine hK.out _ _ (KP.out _ BX.out) (fun hHeld => ?_)
    clear hK K
    try simp only [Act.put, List.setIfInBounds_toArray, List.set_cons_zero, List.set_cons_succ]
    refine takeH (i := 2) (d := 11) (oi := _) (v := .bool true) rfl (by kernel_rfl) (by kernel_rfl) (by kernel_rfl) (by kernel_rfl) (fun _ _ _ h => h) (Or.inl ⟨by rfl, by intro u hSw; go_simp⟩) hHeld ?_
    try simp only [List.setIfInBounds_toArray, List.set_cons_zero, List.set_cons_succ]
    refine takeH (i := 3) (d := 12) (oi := _) (v := .bool true) rfl (by kernel_rfl) (by kernel_rfl) (by kernel_rfl) (by kernel_rfl) (fun _ _ _ h => h) (Or.inl ⟨by rfl, by intro u hSw; go_simp⟩) hHeld ?_
    try simp only [List.setIfInBounds_toArray, List.set_cons_zero, List.set_cons_succ]
    refine takeH (i := 4) (d := 13) (oi := _) (v := undef) rfl (by kernel_rfl) (by kernel_rfl) (by kernel_rfl) (by kernel_rfl) (fun _ _ _ h => h) (Or.inr ⟨by rfl, rfl⟩) hHeld ?_
    try simp only [List.setIfInBounds_toArray, List.set_cons_zero, List.set_cons_succ]
    refine takeH (i := 5) (d := 14) (oi := _) (v := undef) rfl (by kernel_rfl) (by kernel_rfl) (by kernel_rfl) (by kernel_rfl) (fun _ _ _ h => h) (Or.inr ⟨by rfl, rfl⟩) hHeld ?_
    try simp only [List.setIfInBounds_toArray, List.set_cons_zero, List.set_cons_succ]
    refine takeH (i := 6) (d := 15) (oi := _) (v := undef) rfl (by kernel_rfl) (by kernel_rfl) (by kernel_rfl) (by kernel_rfl) (fun _ _ _ h => h) (Or.inr ⟨by rfl, rfl⟩) hHeld ?_
    try simp only [List.setIfInBounds_toArray, List.set_cons_zero, List.set_cons_succ]
    refine takeH (i := 7) (d := 16) (oi := _) (v := undef) rfl (by kernel_rfl) (by kernel_rfl) (by kernel_rfl) (by kernel_rfl) (fun _ _ _ h => h) (Or.inr ⟨by rfl, rfl⟩) hHeld ?_
    try simp only [List.setIfInBounds_toArray, List.set_cons_zero, List.set_cons_succ]
    refine takeH (i := 8) (d := 17) (oi := _) (v := undef) rfl (by kernel_rfl) (by kernel_rfl) (by kernel_rfl) (by kernel_rfl) (fun _ _ _ h => h) (Or.inr ⟨by rfl, rfl⟩) hHeld ?_
    try simp only [List.setIfInBounds_toArray, List.set_cons_zero, List.set_cons_succ]
    refine takeH (i := 9) (d := 18) (oi := _) (v := undef) rfl (by kernel_rfl) (by kernel_rfl) (by kernel_rfl) (by kernel_rfl) (fun _ _ _ h => h) (Or.inr ⟨by rfl, rfl⟩) hHeld ?_
    try simp only [List.setIfInBounds_toArray, List.set_cons_zero, List.set_cons_succ]
    refine takeH (i := 10) (d := 19) (oi := _) (v := .bool true) rfl (by kernel_rfl) (by kernel_rfl) (by kernel_rfl) (by kernel_rfl) (fun _ _ _ h => h) (Or.inl ⟨by rfl, by intro u hSw; go_simp⟩) hHeld ?_
    try simp only [List.setIfInBounds_toArray, List.set_cons_zero, List.set_cons_succ]
    refine wpAnyH_done (by kernel_rfl) ?_ _
    refine NoPanic.normal ?_
    apply hK1
    clear hK1 K1
    have h6 := HF.out _ BX.out
    have HB9 := Lib.hid (hdBelowV HB3.out BX.out)
    clear BX
    go_wp2_with (first
      | (refine wpList_build_as rfl 29 #[] rfl _ _ built_vt0 (by kernel_rfl) ?_)
      | (refine wpList_store_row rfl 29 (.tmp 2) (.tmp 20) rfl w.heap.size vote0 rfl rfl 29 vote0 h6 size_vote0 rfl one_vote0 ?_))
    exact bodyPost_ret (v := .tuple #[.agg vote0, .bool false]) (results_cell_row_tmp rfl _ _ w.heap.size 29 vote0 (0, 0) _ rfl (setRow_heap _ _ _ _ _ _ h6) Try.underlying29 rfl size_vote0 _ rfl) rfl (.inr ⟨HN.out, rfl, below_setRow HB9.out (Nat.le_refl _) _⟩)
  · rw [Bool.true_and, ← hne] at HOK
    cases hq : (sx.toList == sl.toList)
    · rw [hq] at HOK
      have HN := HOK
      clear hne
      rename_i K1 hK1
      refine wp_region_noPanic ?_
      refine wp_region_held_drew (S := (fun u => u.rangeAt w2.heap.size 0 VC ∧ Rd u 0 w.heap.size A l)) (by kernel_rfl) (KP.out _ BX.out) (fun hHeld => ?_)
      refine takeH (i := 0) (d := 9) (oi := _) (v := .agg VX) rfl (by kernel_rfl) (by kernel_rfl) (by kernel_rfl) (by kernel_rfl) (fun _ _ _ h => h) (yieldsIf_load_midC (by rfl) _ _ rfl w2.heap.size 0 rfl VC VX HVC.out _ (fun w h => h.1) Try.underlying29 rfl HSZ.out) hHeld ?_
      try simp only [List.setIfInBounds_toArray, List.set_cons_zero, List.set_cons_succ]
      refine wpAnyH_ready (rs := [1]) (by kernel_rfl) (by simp) ?_
      refine AllReadyH.cons (o := _) rfl (fun K hK => ?_) AllReadyH.nil
      go_simp
      go_at_call 6
      refine (CM.out _).mono ?_
      rintro y w3 ⟨rfl, b3⟩
      have BX := Lib.hid (BX.out.trans (b3.mono BX.out.size))
      clear b3
      go_simp
      refine hK.out _ _ (KP.out _ BX.out) (fun hHeld => ?_)
      clear hK K
      try simp only [Act.put, List.setIfInBounds_toArray, List.set_cons_zero, List.set_cons_succ]
      refine takeH (i := 2) (d := 11) (oi := _) (v := .bool false) rfl (by kernel_rfl) (by kernel_rfl) (by kernel_rfl) (by kernel_rfl) (fun _ _ _ h => h) (Or.inl ⟨by rfl, by intro u hSw; go_simp⟩) hHeld ?_
      try simp only [List.setIfInBounds_toArray, List.set_cons_zero, List.set_cons_succ]
      refine takeH (i := 3) (d := 12) (oi := _) (v := .bool false) rfl (by kernel_rfl) (by kernel_rfl) (by kernel_rfl) (by kernel_rfl) (fun _ _ _ h => h) (Or.inl ⟨by rfl, by intro u hSw; go_simp⟩) hHeld ?_
      try simp only [List.setIfInBounds_toArray, List.set_cons_zero, List.set_cons_succ]
      refine takeH (i := 4) (d := 13) (oi := _) (v := .agg VX) rfl (by kernel_rfl) (by kernel_rfl) (by kernel_rfl) (by kernel_rfl) (fun _ _ _ h => h) (yieldsIf_load_midC (by rfl) _ _ rfl w2.heap.size 0 rfl VC VX HVC.out _ (fun w h => h.1) Try.underlying29 rfl HSZ.out) hHeld ?_
      try simp only [List.setIfInBounds_toArray, List.set_cons_zero, List.set_cons_succ]
      refine takeH (i := 7) (d := 16) (oi := _) (v := .slice A l.length c) rfl (by kernel_rfl) (by kernel_rfl) (by kernel_rfl) (by kernel_rfl) (fun _ _ _ h => h) (Or.inl ⟨by rfl, by intro u hSw; go_simp⟩) hHeld ?_
      try simp only [List.setIfInBounds_toArray, List.set_cons_zero, List.set_cons_succ]
      refine takeH (i := 8) (d := 17) (oi := _) (v := .string sl) rfl (by kernel_rfl) (by kernel_rfl) (by kernel_rfl) (by kernel_rfl) (fun _ _ _ h => h) (Or.inl ⟨by rfl, by intro u hSw; (have hst := run_str hSw.2 l.length c rfl; unfold strOf at hst; rw [← HSL.out] at hst; clear hSw; go_simp)⟩) hHeld ?_
      try simp only [List.setIfInBounds_toArray, List.set_cons_zero, List.set_cons_succ]
      refine wpAnyH_ready (rs := [5]) (by kernel_rfl) (by simp) ?_
      refine AllReadyH.cons (o := _) rfl (fun K hK => ?_) AllReadyH.nil
      go_simp
      go_at_call 9
      refine (CP.out _ ((T.out _ _ _ (KP.out _ BX.out).2).wide (Nat.le_refl _) (Nat.le_trans HS3.out BX.out.size))).mono ?_
      rintro y w3 ⟨A3, c3, rfl, hc3, o3, b3⟩
      have BX := Lib.hid (BX.out.trans (b3.mono BX.out.size))
      have hst := run_str o3 VL.length c3 rfl
      unfold strOf at hst
      rw [← HSX.out] at hst
      have HST := Lib.hid hst
      clear hst o3
      clear b3
      go_simp
      refine hK.out _ _ (KP.out _ BX.out) (fun hHeld => ?_)
      clear hK K
      try simp only [Act.put, List.setIfInBounds_toArray, List.set_cons_zero, List.set_cons_succ]
      refine wpAnyH_ready (rs := [6]) (by kernel_rfl) (by simp) ?_
      refine AllReadyH.cons (o := _) rfl (fun K hK => ?_) AllReadyH.nil
      have hst := HST.out
      go_simp
      refine hK.out _ _ (KP.out _ BX.out) (fun hHeld => ?_)
      clear hK K
      try simp only [Act.put, List.setIfInBounds_toArray, List.set_cons_zero, List.set_cons_succ]
      refine takeH (i := 9) (d := 18) (oi := _) (v := .bool true) rfl (by kernel_rfl) (by kernel_rfl) (by kernel_rfl) (by kernel_rfl) (fun _ _ _ h => h) (Or.inl ⟨by rfl, by intro u hSw; go_simp⟩) hHeld ?_
      try simp only [List.setIfInBounds_toArray, List.set_cons_zero, List.set_cons_succ]
      refine takeH (i := 10) (d := 19) (oi := _) (v := .bool true) rfl (by kernel_rfl) (by kernel_rfl) (by kernel_rfl) (by kernel_rfl) (fun _ _ _ h => h) (Or.inl ⟨by rfl, by intro u hSw; go_simp⟩) hHeld ?_
      try simp only [List.setIfInBounds_toArray, List.set_cons_zero, List.set_cons_succ]
      refine wpAnyH_done (by kernel_rfl) ?_ _
      refine NoPanic.normal ?_
      apply hK1
      clear hK1 K1
      have h6 := HF.out _ BX.out
      have HB9 := Lib.hid (hdBelowV HB3.out BX.out)
      clear BX
      go_wp2_with (first
        | (refine wpList_build_as rfl 29 #[] rfl _ _ built_vt0 (by kernel_rfl) ?_)
        | (refine wpList_store_row rfl 29 (.tmp 2) (.tmp 20) rfl w.heap.size vote0 rfl rfl 29 vote0 h6 size_vote0 rfl one_vote0 ?_))
      exact bodyPost_ret (v := .tuple #[.agg vote0, .bool false]) (results_cell_row_tmp rfl _ _ w.heap.size 29 vote0 (0, 0) _ rfl (setRow_heap _ _ _ _ _ _ h6) Try.underlying29 rfl size_vote0 _ rfl) rfl (.inr ⟨HN.out, rfl, below_setRow HB9.out (Nat.le_refl _) _⟩)
    · rw [hq] at HOK
      have HN := HOK
      clear hne
      rename_i K1 hK1
      refine wp_region_noPanic ?_
      refine wp_region_held_drew (S := (fun u => u.rangeAt w2.heap.size 0 VC ∧ Rd u 0 w.heap.size A l)) (by kernel_rfl) (KP.out _ BX.out) (fun hHeld => ?_)
      refine takeH (i := 0) (d := 9) (oi := _) (v := .agg VX) rfl (by kernel_rfl) (by kernel_rfl) (by kernel_rfl) (by kernel_rfl) (fun _ _ _ h => h) (yieldsIf_load_midC (by rfl) _ _ rfl w2.heap.size 0 rfl VC VX HVC.out _ (fun w h => h.1) Try.underlying29 rfl HSZ.out) hHeld ?_
      try simp only [List.setIfInBounds_toArray, List.set_cons_zero, List.set_cons_succ]
      refine wpAnyH_ready (rs := [1]) (by kernel_rfl) (by simp) ?_
      refine AllReadyH.cons (o := _) rfl (fun K hK => ?_) AllReadyH.nil
      go_simp
      go_at_call 6
      refine (CM.out _).mono ?_
      rintro y w3 ⟨rfl, b3⟩
      have BX := Lib.hid (BX.out.trans (b3.mono BX.out.size))
      clear b3
      go_simp
      refine hK.out _ _ (KP.out _ BX.out) (fun hHeld => ?_)
      clear hK K
      try simp only [Act.put, List.setIfInBounds_toArray, List.set_cons_zero, List.set_cons_succ]
      refine takeH (i := 2) (d := 11) (oi := _) (v := .bool false) rfl (by kernel_rfl) (by kernel_rfl) (by kernel_rfl) (by kernel_rfl) (fun _ _ _ h => h) (Or.inl ⟨by rfl, by intro u hSw; go_simp⟩) hHeld ?_
      try simp only [List.setIfInBounds_toArray, List.set_cons_zero, List.set_cons_succ]
      refine takeH (i := 3) (d := 12) (oi := _) (v := .bool false) rfl (by kernel_rfl) (by kernel_rfl) (by kernel_rfl) (by kernel_rfl) (fun _ _ _ h => h) (Or.inl ⟨by rfl, by intro u hSw; go_simp⟩) hHeld ?_
      try simp only [List.setIfInBounds_toArray, List.set_cons_zero, List.set_cons_succ]
      refine takeH (i := 4) (d := 13) (oi := _) (v := .agg VX) rfl (by kernel_rfl) (by kernel_rfl) (by kernel_rfl) (by kernel_rfl) (fun _ _ _ h => h) (yieldsIf_load_midC (by rfl) _ _ rfl w2.heap.size 0 rfl VC VX HVC.out _ (fun w h => h.1) Try.underlying29 rfl HSZ.out) hHeld ?_
      try simp only [List.setIfInBounds_toArray, List.set_cons_zero, List.set_cons_succ]
      refine takeH (i := 7) (d := 16) (oi := _) (v := .slice A l.length c) rfl (by kernel_rfl) (by kernel_rfl) (by kernel_rfl) (by kernel_rfl) (fun _ _ _ h => h) (Or.inl ⟨by rfl, by intro u hSw; go_simp⟩) hHeld ?_
      try simp only [List.setIfInBounds_toArray, List.set_cons_zero, List.set_cons_succ]
      refine takeH (i := 8) (d := 17) (oi := _) (v := .string sl) rfl (by kernel_rfl) (by kernel_rfl) (by kernel_rfl) (by kernel_rfl) (fun _ _ _ h => h) (Or.inl ⟨by rfl, by intro u hSw; (have hst := run_str hSw.2 l.length c rfl; unfold strOf at hst; rw [← HSL.out] at hst; clear hSw; go_simp)⟩) hHeld ?_
      try simp only [List.setIfInBounds_toArray, List.set_cons_zero, List.set_cons_succ]
      refine wpAnyH_ready (rs := [5]) (by kernel_rfl) (by simp) ?_
      refine AllReadyH.cons (o := _) rfl (fun K hK => ?_) AllReadyH.nil
      go_simp
      go_at_call 9
      refine (CP.out _ ((T.out _ _ _ (KP.out _ BX.out).2).wide (Nat.le_refl _) (Nat.le_trans HS3.out BX.out.size))).mono ?_
      rintro y w3 ⟨A3, c3, rfl, hc3, o3, b3⟩
      have BX := Lib.hid (BX.out.trans (b3.mono BX.out.size))
      have hst := run_str o3 VL.length c3 rfl
      unfold strOf at hst
      rw [← HSX.out] at hst
      have HST := Lib.hid hst
      clear hst o3
      clear b3
      go_simp
      refine hK.out _ _ (KP.out _ BX.out) (fun hHeld => ?_)
      clear hK K
      try simp only [Act.put, List.setIfInBounds_toArray, List.set_cons_zero, List.set_cons_succ]
      refine wpAnyH_ready (rs := [6]) (by kernel_rfl) (by simp) ?_
      refine AllReadyH.cons (o := _) rfl (fun K hK => ?_) AllReadyH.nil
      have hst := HST.out
      go_simp
      refine hK.out _ _ (KP.out _ BX.out) (fun hHeld => ?_)
      clear hK K
      try simp only [Act.put, List.setIfInBounds_toArray, List.set_cons_zero, List.set_cons_succ]
      refine takeH (i := 9) (d := 18) (oi := _) (v := .bool false) rfl (by kernel_rfl) (by kernel_rfl) (by kernel_rfl) (by kernel_rfl) (fun _ _ _ h => h) (Or.inl ⟨by rfl, by intro u hSw; go_simp⟩) hHeld ?_
      try simp only [List.setIfInBounds_toArray, List.set_cons_zero, List.set_cons_succ]
      refine takeH (i := 10) (d := 19) (oi := _) (v := .bool false) rfl (by kernel_rfl) (by kernel_rfl) (by kernel_rfl) (by kernel_rfl) (fun _ _ _ h => h) (Or.inl ⟨by rfl, by intro u hSw; go_simp⟩) hHeld ?_
      try simp only [List.setIfInBounds_toArray, List.set_cons_zero, List.set_cons_succ]
      refine wpAnyH_done (by kernel_rfl) ?_ _
      refine NoPanic.normal ?_
      apply hK1
      clear hK1 K1
      have h6 := HF.out _ BX.out
      have h7 := HG.out _ BX.out
      have HB9 := Lib.hid (hdBelowV HB3.out BX.out)
      clear BX
      go_wp2_with (first
        | (refine wpList_load_row rfl 29 (.tmp 4) rfl w2.heap.size rfl 29 VX (0, 0) _ h7 Try.underlying29 rfl HSZ.out ?_)
        | (refine wpList_store_row rfl 29 (.tmp 2) (.tmp 21) rfl w.heap.size VX rfl rfl 29 vote0 h6 HSZ.out HSI.out HON.out ?_))
      exact bodyPost_ret (v := .tuple #[.agg VX, .bool true]) (results_cell_row_tmp rfl _ _ w.heap.size 29 VX (0, 0) _ rfl (setRow_heap _ _ _ _ _ _ h6) Try.underlying29 rfl HSZ.out _ rfl) rfl (.inl ⟨HN.out, A5, c5, by rw [HVX.out], T.out, below_setRow HB9.out (Nat.le_refl _) _⟩)
end Go.Proofs.Ytmebppfbdeokeaa
namespace Go.Proofs.Ytmebppfbdeokeaa
open Go.ChangeShapes Go.WideShapes Go.ChangeAt Go.RowKit
set_option linter.unusedVariables false
set_option maxRecDepth 100000

theorem vt_all {g : Nat} {n : Int} {e1 e2 : Nat} {l1 l2 : List UInt8} {sv : Value} {w : World} (h : VtB g n e1 l1 e2 l2 sv w) : w.rangeAt g 0 (vtV n e1 l1 e2 l2 sv).toList := fun j v hv => by
  rw [Nat.zero_add, cell_of_row w g j _ _ (0, 0) h.row]
  simpa using hv
noncomputable def vts_r9C : Code := ((Try.f3.body.bind (regionOf 9))).getD .skip
set_option maxRecDepth 1000000 in
set_option maxHeartbeats 8000000 in
theorem vts_r9 (c0 c1 c2 c5 c6 c14 c15 c16 c17 c18 c19 c20 c21 c22 c23 c24 c25 c26 c27 c28 c29 c30 c31 c32 c33 c34 c35 c36 c37 c38 c39 c40 c41 c42 c43 c44 c45 c46 c47 c48 c49 c50 c51 c52 c53 c54 c55 c56 c57 c58 c59 c60 c61 c62 c63 c64 c65 c66 c67 c68 c69 c70 c71 c72 c73 c74 c75 c76 c77 c78 c79 c80 c81 c82 c83 c84 c85 c86 c87 c88 c89 c90 c91 c92 c93 c94 c95 c96 c97 c98 c99 c100 c101 c102 c103 c104 c105 c106 c107 c108 c109 c110 c111 c112 c113 c114 c115 c116 c117 c118 c119 c120 c121 c122 c123 c124 c125 c126 c127 c128 c129 c130 c131 c132 c133 c134 c135 c136 c137 c138 c139 c140 c141 c142 : Value) (w : World) (g3 g4 : Nat) (VX OX : Array Value) (VC OC : List Value) (hV : ∀ u, Below w.heap.size w.drew u → u.rangeAt g3 0 VC ∧ u.rangeAt g4 0 OC) (hVX : VC.toArray = VX) (hOX : OC.toArray = OX) (hzV : (Try.prog.info? 29).map (·.size) = some VX.size) (hzO : (Try.prog.info? 29).map (·.size) = some OX.size) (m q : Bool) (X8 X10 X12 X13 : Value) (en eg : Int) (cM : ∀ u, Calls Try.prog 12 #[.agg VX] u fun e w' => e = .returned (.bool m) ∧ Below u.heap.size u w') (cT : ∀ u, Below w.heap.size w.drew u → Calls Try.prog 11 #[X8, .int .i64 en, .bool m, .bool m, X12] u fun e w' => e = .returned (.bool true) ∧ u = w') (cG : ∀ u, Below w.heap.size w.drew u → Calls Try.prog 11 #[X10, .int .i64 eg, .bool m, .bool m, X13] u fun e w' => e = .returned (.bool true) ∧ u = w') (cS : ∀ u, Below w.heap.size w.drew u → Calls Try.prog 13 #[.agg VX, .agg OX] u fun e w' => e = .returned (.bool q) ∧ Below u.heap.size u w') (cR : ∀ u, Below w.heap.size w.drew u → Calls Try.prog 14 #[.agg VX, .agg OX] u fun e w' => e = .returned (.bool q) ∧ Below u.heap.size u w') (cSS : ∀ u, Below w.heap.size w.drew u → Calls Try.prog 13 #[.agg VX, .agg VX] u fun e w' => e = .returned (.bool true) ∧ Below u.heap.size u w')
    (Q : Exit → Act → World → Prop) (hQ : ∀ (u53 u54 u55 u56 u57 u58 u59 u60 u61 u62 u63 u64 u65 u66 u67 u68 u69 u70 u71 u72 u73 u74 u75 u76 u77 u78 u79 u80 u81 u82 u83 u84 : Value) (w' : World), Below w.heap.size w w' → Q .normal ⟨#[c0, c1, c2, .pointer (some ⟨g3, 0, none⟩), .pointer (some ⟨g4, 0, none⟩), c5, c6, .bool m, X8, .int .i64 en, X10, .int .i64 eg, X12, X13, c14, c15, c16, c17, c18, c19, c20, c21, c22, c23, c24, c25, c26, c27, c28, c29, c30, c31, c32, c33, c34, c35, c36, c37, c38, c39, c40, c41, c42, c43, c44, c45, c46, c47, c48, c49, c50, c51, c52, u53, u54, u55, u56, u57, u58, u59, u60, u61, u62, u63, u64, u65, u66, u67, u68, u69, u70, u71, u72, u73, u74, u75, u76, u77, u78, u79, u80, u81, u82, u83, u84, .bool false, c86, c87, c88, c89, c90, c91, c92, c93, c94, c95, c96, c97, c98, c99, c100, c101, c102, c103, c104, c105, c106, c107, c108, c109, c110, c111, c112, c113, c114, c115, c116, c117, c118, c119, c120, c121, c122, c123, c124, c125, c126, c127, c128, c129, c130, c131, c132, c133, c134, c135, c136, c137, c138, c139, c140, c141, c142], []⟩ w') :
    Code.wp Try.prog vts_r9C Q ⟨#[c0, c1, c2, .pointer (some ⟨g3, 0, none⟩), .pointer (some ⟨g4, 0, none⟩), c5, c6, .bool m, X8, .int .i64 en, X10, .int .i64 eg, X12, X13, c14, c15, c16, c17, c18, c19, c20, c21, c22, c23, c24, c25, c26, c27, c28, c29, c30, c31, c32, c33, c34, c35, c36, c37, c38, c39, c40, c41, c42, c43, c44, c45, c46, c47, c48, c49, c50, c51, c52, c53, c54, c55, c56, c57, c58, c59, c60, c61, c62, c63, c64, c65, c66, c67, c68, c69, c70, c71, c72, c73, c74, c75, c76, c77, c78, c79, c80, c81, c82, c83, c84, c85, c86, c87, c88, c89, c90, c91, c92, c93, c94, c95, c96, c97, c98, c99, c100, c101, c102, c103, c104, c105, c106, c107, c108, c109, c110, c111, c112, c113, c114, c115, c116, c117, c118, c119, c120, c121, c122, c123, c124, c125, c126, c127, c128, c129, c130, c131, c132, c133, c134, c135, c136, c137, c138, c139, c140, c141, c142], []⟩ w := by
  conv => arg 2; whnf
  try dsimp only at hQ ⊢
  have HQ := Lib.hid hQ
  have dB : Hid (Below w.heap.size w w.drew) := (Below.refl _ _).drew
  have KP := Lib.hid hV
  have HVX := Lib.hid hVX
  have HOX := Lib.hid hOX
  have HZV := Lib.hid hzV
  have HZO := Lib.hid hzO
  have BX : Hid (Below w.heap.size w.drew w.drew) := Below.refl _ _
  have CM := Lib.hid cM
  have CT := Lib.hid cT
  have CG := Lib.hid cG
  have CS := Lib.hid cS
  have CR := Lib.hid cR
  have CSS := Lib.hid cSS
  clear hQ hV hVX hOX hzV hzO cM cT cG cS cR cSS
  refine wp_region_noPanic ?_
  refine wp_region_held_drew (S := (fun u => u.rangeAt g3 0 VC ∧ u.rangeAt g4 0 OC)) (by kernel_rfl) (KP.out _ BX.out) (fun hHeld => ?_)
  refine takeH (i := 0) (d := 53) (oi := _) (v := X8) rfl (by kernel_rfl) (by kernel_rfl) (by kernel_rfl) (by kernel_rfl) (fun _ _ _ h => h) (Or.inl ⟨by kernel_rfl, by intro u hSw; clear hSw; go_simp⟩) hHeld ?_
  try simp only [List.setIfInBounds_toArray, List.set_cons_zero, List.set_cons_succ]
  refine takeH (i := 1) (d := 54) (oi := _) (v := .int .i64 en) rfl (by kernel_rfl) (by kernel_rfl) (by kernel_rfl) (by kernel_rfl) (fun _ _ _ h => h) (Or.inl ⟨by kernel_rfl, by intro u hSw; clear hSw; go_simp⟩) hHeld ?_
  try simp only [List.setIfInBounds_toArray, List.set_cons_zero, List.set_cons_succ]
  refine takeH (i := 2) (d := 55) (oi := _) (v := .agg (VX)) rfl (by kernel_rfl) (by kernel_rfl) (by kernel_rfl) (by kernel_rfl) (fun _ _ _ h => h) (yieldsIf_load_midC (by kernel_rfl) _ _ rfl (g3) 0 rfl (VC) (VX) (HVX.out) _ (fun u hSw => hSw.1) Try.underlying29 rfl (HZV.out)) hHeld ?_
  try simp only [List.setIfInBounds_toArray, List.set_cons_zero, List.set_cons_succ]
  refine takeH (i := 4) (d := 57) (oi := _) (v := .bool m) rfl (by kernel_rfl) (by kernel_rfl) (by kernel_rfl) (by kernel_rfl) (fun _ _ _ h => h) (Or.inl ⟨by kernel_rfl, by intro u hSw; clear hSw; go_simp⟩) hHeld ?_
  try simp only [List.setIfInBounds_toArray, List.set_cons_zero, List.set_cons_succ]
  refine takeH (i := 5) (d := 58) (oi := _) (v := X12) rfl (by kernel_rfl) (by kernel_rfl) (by kernel_rfl) (by kernel_rfl) (fun _ _ _ h => h) (Or.inl ⟨by kernel_rfl, by intro u hSw; clear hSw; go_simp⟩) hHeld ?_
  try simp only [List.setIfInBounds_toArray, List.set_cons_zero, List.set_cons_succ]
  refine wpAnyH_ready (rs := [3]) (by kernel_rfl) (by simp) ?_
  refine AllReadyH.cons (o := _) rfl (fun K hK => ?_) (AllReadyH.nil)
  go_simp
  go_at_call 12
  refine (CM.out _).mono ?_
  rintro y w2 ⟨rfl, b1⟩
  have BX := Lib.hid (BX.out.trans (b1.mono BX.out.size))
  clear b1
  go_simp
  refine hK.out _ _ (KP.out _ BX.out) (fun hHeld => ?_)
  clear hK K
  try simp only [Act.put, List.setIfInBounds_toArray, List.set_cons_zero, List.set_cons_succ]
  refine wpAnyH_ready (rs := [6]) (by kernel_rfl) (by simp) ?_
  refine AllReadyH.cons (o := _) rfl (fun K hK => ?_) (AllReadyH.nil)
  go_simp
  go_at_call 11
  refine (CT.out _ BX.out).mono ?_
  rintro y w2 ⟨rfl, rfl⟩
  skip
  skip
  go_simp
  refine hK.out _ _ (KP.out _ BX.out) (fun hHeld => ?_)
  clear hK K
  try simp only [Act.put, List.setIfInBounds_toArray, List.set_cons_zero, List.set_cons_succ]
  refine takeH (i := 7) (d := 60) (oi := _) (v := .bool false) rfl (by kernel_rfl) (by kernel_rfl) (by kernel_rfl) (by kernel_rfl) (fun _ _ _ h => h) (Or.inl ⟨by kernel_rfl, by intro u hSw; clear hSw; go_simp⟩) hHeld ?_
  try simp only [List.setIfInBounds_toArray, List.set_cons_zero, List.set_cons_succ]
  refine takeH (i := 8) (d := 61) (oi := _) (v := .bool false) rfl (by kernel_rfl) (by kernel_rfl) (by kernel_rfl) (by kernel_rfl) (fun _ _ _ h => h) (Or.inl ⟨by kernel_rfl, by intro u hSw; clear hSw; go_simp⟩) hHeld ?_
  try simp only [List.setIfInBounds_toArray, List.set_cons_zero, List.set_cons_succ]
  refine takeH (i := 9) (d := 62) (oi := _) (v := X10) rfl (by kernel_rfl) (by kernel_rfl) (by kernel_rfl) (by kernel_rfl) (fun _ _ _ h => h) (Or.inl ⟨by kernel_rfl, by intro u hSw; clear hSw; go_simp⟩) hHeld ?_
  try simp only [List.setIfInBounds_toArray, List.set_cons_zero, List.set_cons_succ]
  refine takeH (i := 10) (d := 63) (oi := _) (v := .int .i64 eg) rfl (by kernel_rfl) (by kernel_rfl) (by kernel_rfl) (by kernel_rfl) (fun _ _ _ h => h) (Or.inl ⟨by kernel_rfl, by intro u hSw; clear hSw; go_simp⟩) hHeld ?_
  try simp only [List.setIfInBounds_toArray, List.set_cons_zero, List.set_cons_succ]
  refine takeH (i := 11) (d := 64) (oi := _) (v := .agg (VX)) rfl (by kernel_rfl) (by kernel_rfl) (by kernel_rfl) (by kernel_rfl) (fun _ _ _ h => h) (yieldsIf_load_midC (by kernel_rfl) _ _ rfl (g3) 0 rfl (VC) (VX) (HVX.out) _ (fun u hSw => hSw.1) Try.underlying29 rfl (HZV.out)) hHeld ?_
  try simp only [List.setIfInBounds_toArray, List.set_cons_zero, List.set_cons_succ]
  refine takeH (i := 13) (d := 66) (oi := _) (v := .bool m) rfl (by kernel_rfl) (by kernel_rfl) (by kernel_rfl) (by kernel_rfl) (fun _ _ _ h => h) (Or.inl ⟨by kernel_rfl, by intro u hSw; clear hSw; go_simp⟩) hHeld ?_
  try simp only [List.setIfInBounds_toArray, List.set_cons_zero, List.set_cons_succ]
  refine takeH (i := 14) (d := 67) (oi := _) (v := X13) rfl (by kernel_rfl) (by kernel_rfl) (by kernel_rfl) (by kernel_rfl) (fun _ _ _ h => h) (Or.inl ⟨by kernel_rfl, by intro u hSw; clear hSw; go_simp⟩) hHeld ?_
  try simp only [List.setIfInBounds_toArray, List.set_cons_zero, List.set_cons_succ]
  refine wpAnyH_ready (rs := [12]) (by kernel_rfl) (by simp) ?_
  refine AllReadyH.cons (o := _) rfl (fun K hK => ?_) (AllReadyH.nil)
  go_simp
  go_at_call 12
  refine (CM.out _).mono ?_
  rintro y w2 ⟨rfl, b1⟩
  have BX := Lib.hid (BX.out.trans (b1.mono BX.out.size))
  clear b1
  go_simp
  refine hK.out _ _ (KP.out _ BX.out) (fun hHeld => ?_)
  clear hK K
  try simp only [Act.put, List.setIfInBounds_toArray, List.set_cons_zero, List.set_cons_succ]
  refine wpAnyH_ready (rs := [15]) (by kernel_rfl) (by simp) ?_
  refine AllReadyH.cons (o := _) rfl (fun K hK => ?_) (AllReadyH.nil)
  go_simp
  go_at_call 11
  refine (CG.out _ BX.out).mono ?_
  rintro y w2 ⟨rfl, rfl⟩
  skip
  skip
  go_simp
  refine hK.out _ _ (KP.out _ BX.out) (fun hHeld => ?_)
  clear hK K
  try simp only [Act.put, List.setIfInBounds_toArray, List.set_cons_zero, List.set_cons_succ]
  refine takeH (i := 16) (d := 69) (oi := _) (v := .bool false) rfl (by kernel_rfl) (by kernel_rfl) (by kernel_rfl) (by kernel_rfl) (fun _ _ _ h => h) (Or.inl ⟨by kernel_rfl, by intro u hSw; clear hSw; go_simp⟩) hHeld ?_
  try simp only [List.setIfInBounds_toArray, List.set_cons_zero, List.set_cons_succ]
  refine takeH (i := 17) (d := 70) (oi := _) (v := .bool false) rfl (by kernel_rfl) (by kernel_rfl) (by kernel_rfl) (by kernel_rfl) (fun _ _ _ h => h) (Or.inl ⟨by kernel_rfl, by intro u hSw; clear hSw; go_simp⟩) hHeld ?_
  try simp only [List.setIfInBounds_toArray, List.set_cons_zero, List.set_cons_succ]
  refine takeH (i := 18) (d := 71) (oi := _) (v := .bool false) rfl (by kernel_rfl) (by kernel_rfl) (by kernel_rfl) (by kernel_rfl) (fun _ _ _ h => h) (Or.inl ⟨by kernel_rfl, by intro u hSw; clear hSw; go_simp⟩) hHeld ?_
  try simp only [List.setIfInBounds_toArray, List.set_cons_zero, List.set_cons_succ]
  refine takeH (i := 19) (d := 72) (oi := _) (v := .agg (VX)) rfl (by kernel_rfl) (by kernel_rfl) (by kernel_rfl) (by kernel_rfl) (fun _ _ _ h => h) (yieldsIf_load_midC (by kernel_rfl) _ _ rfl (g3) 0 rfl (VC) (VX) (HVX.out) _ (fun u hSw => hSw.1) Try.underlying29 rfl (HZV.out)) hHeld ?_
  try simp only [List.setIfInBounds_toArray, List.set_cons_zero, List.set_cons_succ]
  refine takeH (i := 20) (d := 73) (oi := _) (v := .agg (OX)) rfl (by kernel_rfl) (by kernel_rfl) (by kernel_rfl) (by kernel_rfl) (fun _ _ _ h => h) (yieldsIf_load_midC (by kernel_rfl) _ _ rfl (g4) 0 rfl (OC) (OX) (HOX.out) _ (fun u hSw => hSw.2) Try.underlying29 rfl (HZO.out)) hHeld ?_
  try simp only [List.setIfInBounds_toArray, List.set_cons_zero, List.set_cons_succ]
  refine takeH (i := 22) (d := 75) (oi := _) (v := .agg (VX)) rfl (by kernel_rfl) (by kernel_rfl) (by kernel_rfl) (by kernel_rfl) (fun _ _ _ h => h) (yieldsIf_load_midC (by kernel_rfl) _ _ rfl (g3) 0 rfl (VC) (VX) (HVX.out) _ (fun u hSw => hSw.1) Try.underlying29 rfl (HZV.out)) hHeld ?_
  try simp only [List.setIfInBounds_toArray, List.set_cons_zero, List.set_cons_succ]
  refine takeH (i := 23) (d := 76) (oi := _) (v := .agg (OX)) rfl (by kernel_rfl) (by kernel_rfl) (by kernel_rfl) (by kernel_rfl) (fun _ _ _ h => h) (yieldsIf_load_midC (by kernel_rfl) _ _ rfl (g4) 0 rfl (OC) (OX) (HOX.out) _ (fun u hSw => hSw.2) Try.underlying29 rfl (HZO.out)) hHeld ?_
  try simp only [List.setIfInBounds_toArray, List.set_cons_zero, List.set_cons_succ]
  refine wpAnyH_ready (rs := [21]) (by kernel_rfl) (by simp) ?_
  refine AllReadyH.cons (o := _) rfl (fun K hK => ?_) (AllReadyH.nil)
  go_simp
  go_at_call 13
  refine (CS.out _ BX.out).mono ?_
  rintro y w2 ⟨rfl, b1⟩
  have BX := Lib.hid (BX.out.trans (b1.mono BX.out.size))
  clear b1
  go_simp
  refine hK.out _ _ (KP.out _ BX.out) (fun hHeld => ?_)
  clear hK K
  try simp only [Act.put, List.setIfInBounds_toArray, List.set_cons_zero, List.set_cons_succ]
  refine wpAnyH_ready (rs := [24]) (by kernel_rfl) (by simp) ?_
  refine AllReadyH.cons (o := _) rfl (fun K hK => ?_) (AllReadyH.nil)
  go_simp
  go_at_call 14
  refine (CR.out _ BX.out).mono ?_
  rintro y w2 ⟨rfl, b1⟩
  have BX := Lib.hid (BX.out.trans (b1.mono BX.out.size))
  clear b1
  go_simp
  refine hK.out _ _ (KP.out _ BX.out) (fun hHeld => ?_)
  clear hK K
  try simp only [Act.put, List.setIfInBounds_toArray, List.set_cons_zero, List.set_cons_succ]
  refine takeH (i := 25) (d := 78) (oi := _) (v := .bool false) rfl (by kernel_rfl) (by kernel_rfl) (by kernel_rfl) (by kernel_rfl) (fun _ _ _ h => h) (Or.inl ⟨by kernel_rfl, by intro u hSw; clear hSw; go_simp⟩) hHeld ?_
  try simp only [List.setIfInBounds_toArray, List.set_cons_zero, List.set_cons_succ]
  refine takeH (i := 26) (d := 79) (oi := _) (v := .bool false) rfl (by kernel_rfl) (by kernel_rfl) (by kernel_rfl) (by kernel_rfl) (fun _ _ _ h => h) (Or.inl ⟨by kernel_rfl, by intro u hSw; clear hSw; go_simp⟩) hHeld ?_
  try simp only [List.setIfInBounds_toArray, List.set_cons_zero, List.set_cons_succ]
  refine takeH (i := 27) (d := 80) (oi := _) (v := .bool false) rfl (by kernel_rfl) (by kernel_rfl) (by kernel_rfl) (by kernel_rfl) (fun _ _ _ h => h) (Or.inl ⟨by kernel_rfl, by intro u hSw; clear hSw; go_simp⟩) hHeld ?_
  try simp only [List.setIfInBounds_toArray, List.set_cons_zero, List.set_cons_succ]
  refine takeH (i := 28) (d := 81) (oi := _) (v := .agg (VX)) rfl (by kernel_rfl) (by kernel_rfl) (by kernel_rfl) (by kernel_rfl) (fun _ _ _ h => h) (yieldsIf_load_midC (by kernel_rfl) _ _ rfl (g3) 0 rfl (VC) (VX) (HVX.out) _ (fun u hSw => hSw.1) Try.underlying29 rfl (HZV.out)) hHeld ?_
  try simp only [List.setIfInBounds_toArray, List.set_cons_zero, List.set_cons_succ]
  refine takeH (i := 29) (d := 82) (oi := _) (v := .agg (VX)) rfl (by kernel_rfl) (by kernel_rfl) (by kernel_rfl) (by kernel_rfl) (fun _ _ _ h => h) (yieldsIf_load_midC (by kernel_rfl) _ _ rfl (g3) 0 rfl (VC) (VX) (HVX.out) _ (fun u hSw => hSw.1) Try.underlying29 rfl (HZV.out)) hHeld ?_
  try simp only [List.setIfInBounds_toArray, List.set_cons_zero, List.set_cons_succ]
  refine wpAnyH_ready (rs := [30]) (by kernel_rfl) (by simp) ?_
  refine AllReadyH.cons (o := _) rfl (fun K hK => ?_) (AllReadyH.nil)
  go_simp
  go_at_call 13
  refine (CSS.out _ BX.out).mono ?_
  rintro y w2 ⟨rfl, b1⟩
  have BX := Lib.hid (BX.out.trans (b1.mono BX.out.size))
  clear b1
  go_simp
  refine hK.out _ _ (KP.out _ BX.out) (fun hHeld => ?_)
  clear hK K
  try simp only [Act.put, List.setIfInBounds_toArray, List.set_cons_zero, List.set_cons_succ]
  refine takeH (i := 31) (d := 84) (oi := _) (v := .bool false) rfl (by kernel_rfl) (by kernel_rfl) (by kernel_rfl) (by kernel_rfl) (fun _ _ _ h => h) (Or.inl ⟨by kernel_rfl, by intro u hSw; clear hSw; go_simp⟩) hHeld ?_
  try simp only [List.setIfInBounds_toArray, List.set_cons_zero, List.set_cons_succ]
  refine takeH (i := 32) (d := 85) (oi := _) (v := .bool false) rfl (by kernel_rfl) (by kernel_rfl) (by kernel_rfl) (by kernel_rfl) (fun _ _ _ h => h) (Or.inl ⟨by kernel_rfl, by intro u hSw; clear hSw; go_simp⟩) hHeld ?_
  try simp only [List.setIfInBounds_toArray, List.set_cons_zero, List.set_cons_succ]
  refine wpAnyH_done (by kernel_rfl) ?_ _
  refine NoPanic.normal ?_
  exact HQ.out _ _ _ _ _ _ _ _ _ _ _ _ _ _ _ _ _ _ _ _ _ _ _ _ _ _ _ _ _ _ _ _ _ (dB.out.trans BX.out)
noncomputable def vts_r8C : Code := ((Try.f3.body.bind (regionOf 8))).getD .skip
set_option maxRecDepth 1000000 in
set_option maxHeartbeats 8000000 in
theorem vts_r8 (c0 c1 c2 c4 c5 c6 c7 c8 c9 c10 c11 c12 c13 c14 c15 c16 c17 c18 c19 c20 c21 c22 c23 c24 c25 c26 c27 c28 c29 c30 c31 c32 c33 c34 c35 c36 c37 c38 c39 c40 c41 c42 c43 c44 c45 c46 c47 c48 c49 c50 c51 c52 c53 c54 c55 c56 c57 c58 c59 c60 c61 c62 c63 c64 c65 c66 c67 c68 c69 c70 c71 c72 c73 c74 c75 c76 c77 c78 c79 c80 c81 c82 c83 c84 c85 c86 c87 c88 c89 c90 c91 c92 c93 c94 c95 c96 c97 c98 c99 c100 c101 c102 c103 c104 c105 c106 c107 c108 c109 c110 c111 c112 c113 c114 c115 c116 c117 c118 c119 c120 c121 c122 c123 c124 c125 c126 c127 c128 c129 c130 c131 c132 c133 c134 c135 c136 c137 c138 c139 c140 c141 c142 : Value) (w : World) (g3 : Nat) (VX : Array Value) (VC : List Value) (BL TL : List UInt8) (hV : ∀ u, Below w.heap.size w.drew u → u.rangeAt g3 0 VC) (hVX : VC.toArray = VX) (hzV : (Try.prog.info? 29).map (·.size) = some VX.size) (cB : ∀ u, Below w.heap.size w.drew u → Calls Try.prog 9 #[.agg VX] u (RNewP u BL)) (cX : ∀ u, Calls Try.prog 10 #[.agg VX] u (RNewP u TL))
    (Q : Exit → Act → World → Prop) (hQ : ∀ (u12 u13 u49 u50 u51 u52 : Value) (w' : World), (∃ A12 c12 A13 c13, u12 = .slice A12 (List.length BL) c12 ∧ u13 = .slice A13 (List.length TL) c13 ∧ BL.length ≤ c12 ∧ TL.length ≤ c13 ∧ Rd w' w.heap.size w'.heap.size A12 BL ∧ Rd w' w.heap.size w'.heap.size A13 TL ∧ Below w.heap.size w w') → Q .normal ⟨#[c0, c1, c2, .pointer (some ⟨g3, 0, none⟩), c4, c5, c6, c7, c8, c9, c10, c11, u12, u13, c14, c15, c16, c17, c18, c19, c20, c21, c22, c23, c24, c25, c26, c27, c28, c29, c30, c31, c32, c33, c34, c35, c36, c37, c38, c39, c40, c41, c42, c43, c44, c45, c46, c47, c48, u49, u50, u51, u52, c53, c54, c55, c56, c57, c58, c59, c60, c61, c62, c63, c64, c65, c66, c67, c68, c69, c70, c71, c72, c73, c74, c75, c76, c77, c78, c79, c80, c81, c82, c83, c84, c85, c86, c87, c88, c89, c90, c91, c92, c93, c94, c95, c96, c97, c98, c99, c100, c101, c102, c103, c104, c105, c106, c107, c108, c109, c110, c111, c112, c113, c114, c115, c116, c117, c118, c119, c120, c121, c122, c123, c124, c125, c126, c127, c128, c129, c130, c131, c132, c133, c134, c135, c136, c137, c138, c139, c140, c141, c142], []⟩ w') :
    Code.wp Try.prog vts_r8C Q ⟨#[c0, c1, c2, .pointer (some ⟨g3, 0, none⟩), c4, c5, c6, c7, c8, c9, c10, c11, c12, c13, c14, c15, c16, c17, c18, c19, c20, c21, c22, c23, c24, c25, c26, c27, c28, c29, c30, c31, c32, c33, c34, c35, c36, c37, c38, c39, c40, c41, c42, c43, c44, c45, c46, c47, c48, c49, c50, c51, c52, c53, c54, c55, c56, c57, c58, c59, c60, c61, c62, c63, c64, c65, c66, c67, c68, c69, c70, c71, c72, c73, c74, c75, c76, c77, c78, c79, c80, c81, c82, c83, c84, c85, c86, c87, c88, c89, c90, c91, c92, c93, c94, c95, c96, c97, c98, c99, c100, c101, c102, c103, c104, c105, c106, c107, c108, c109, c110, c111, c112, c113, c114, c115, c116, c117, c118, c119, c120, c121, c122, c123, c124, c125, c126, c127, c128, c129, c130, c131, c132, c133, c134, c135, c136, c137, c138, c139, c140, c141, c142], []⟩ w := by
  conv => arg 2; whnf
  try dsimp only at hQ ⊢
  have HQ := Lib.hid hQ
  have dB : Hid (Below w.heap.size w w.drew) := (Below.refl _ _).drew
  have KP := Lib.hid hV
  have HVX := Lib.hid hVX
  have HZV := Lib.hid hzV
  have BX : Hid (Below w.heap.size w.drew w.drew) := Below.refl _ _
  have CB := Lib.hid cB
  have CX := Lib.hid cX
  clear hQ hV hVX hzV cB cX
  refine wp_region_noPanic ?_
  refine wp_region_held_drew (S := (fun u => u.rangeAt g3 0 VC)) (by kernel_rfl) (KP.out _ BX.out) (fun hHeld => ?_)
  refine takeH (i := 0) (d := 49) (oi := _) (v := .agg (VX)) rfl (by kernel_rfl) (by kernel_rfl) (by kernel_rfl) (by kernel_rfl) (fun _ _ _ h => h) (yieldsIf_load_midC (by kernel_rfl) _ _ rfl (g3) 0 rfl (VC) (VX) (HVX.out) _ (fun u hSw => hSw) Try.underlying29 rfl (HZV.out)) hHeld ?_
  try simp only [List.setIfInBounds_toArray, List.set_cons_zero, List.set_cons_succ]
  refine takeH (i := 2) (d := 51) (oi := _) (v := .agg (VX)) rfl (by kernel_rfl) (by kernel_rfl) (by kernel_rfl) (by kernel_rfl) (fun _ _ _ h => h) (yieldsIf_load_midC (by kernel_rfl) _ _ rfl (g3) 0 rfl (VC) (VX) (HVX.out) _ (fun u hSw => hSw) Try.underlying29 rfl (HZV.out)) hHeld ?_
  try simp only [List.setIfInBounds_toArray, List.set_cons_zero, List.set_cons_succ]
  refine wpAnyH_ready (rs := [1]) (by kernel_rfl) (by simp) ?_
  refine AllReadyH.cons (o := _) rfl (fun K hK => ?_) (AllReadyH.nil)
  go_simp
  go_at_call 9
  refine (CB.out _ BX.out).mono ?_
  rintro y w2 ⟨A12, c12, rfl, hc12, r12, b1⟩
  have BX0 := BX
  have BX := Lib.hid (BX.out.trans (b1.mono BX.out.size))
  have O12 := Lib.hid r12
  have N12 := Lib.hid BX.out.size
  have S12 := Lib.hid BX0.out.size
  clear r12
  clear b1
  go_simp
  refine hK.out _ _ (KP.out _ BX.out) (fun hHeld => ?_)
  clear hK K
  try simp only [Act.put, List.setIfInBounds_toArray, List.set_cons_zero, List.set_cons_succ]
  refine wpAnyH_ready (rs := [3]) (by kernel_rfl) (by simp) ?_
  refine AllReadyH.cons (o := _) rfl (fun K hK => ?_) (AllReadyH.nil)
  go_simp
  go_at_call 10
  refine (CX.out _).mono ?_
  rintro y w2 ⟨A13, c13, rfl, hc13, r13, b1⟩
  have BX0 := BX
  have BX := Lib.hid (BX.out.trans (b1.mono BX.out.size))
  have O13 := Lib.hid r13
  have O12 := Lib.hid (O12.out.below b1 (Nat.le_refl _))
  have S13 := Lib.hid BX0.out.size
  have N13 := Lib.hid b1.size
  clear r13
  clear b1
  go_simp
  refine hK.out _ _ (KP.out _ BX.out) (fun hHeld => ?_)
  clear hK K
  try simp only [Act.put, List.setIfInBounds_toArray, List.set_cons_zero, List.set_cons_succ]
  refine takeH (i := 4) (d := 12) (oi := _) (v := .slice A12 (List.length BL) c12) rfl (by kernel_rfl) (by kernel_rfl) (by kernel_rfl) (by kernel_rfl) (fun _ _ _ h => h) (Or.inl ⟨by kernel_rfl, by intro u hSw; clear hSw; go_simp⟩) hHeld ?_
  try simp only [List.setIfInBounds_toArray, List.set_cons_zero, List.set_cons_succ]
  refine takeH (i := 5) (d := 13) (oi := _) (v := .slice A13 (List.length TL) c13) rfl (by kernel_rfl) (by kernel_rfl) (by kernel_rfl) (by kernel_rfl) (fun _ _ _ h => h) (Or.inl ⟨by kernel_rfl, by intro u hSw; clear hSw; go_simp⟩) hHeld ?_
  try simp only [List.setIfInBounds_toArray, List.set_cons_zero, List.set_cons_succ]
  refine wpAnyH_done (by kernel_rfl) ?_ _
  refine NoPanic.normal ?_
  exact HQ.out _ _ _ _ _ _ _ ⟨A12, c12, A13, c13, rfl, rfl, hc12, hc13, O12.out.wide S12.out N13.out, O13.out.wide S13.out (Nat.le_refl _), dB.out.trans BX.out⟩
end Go.Proofs.Ytmebppfbdeokeaa
namespace Go.Proofs.Ytmebppfbdeokeaa
open Go.ChangeShapes Go.WideShapes Go.ChangeAt Go.RowKit
set_option linter.unusedVariables false
set_option maxRecDepth 100000

/-- What is told of bytes: they, or a refusal. -/
def ToldV (m : Bool) (X : Value) (en : Int) (L : List UInt8) (w : World) : Prop := (m = true ∧ en = 0 ∧ ∃ A c, X = .slice A L.length c ∧ Rd w 0 w.heap.size A L) ∨ (m = false ∧ en = 2 ∧ X = .slice none 0 0)
/-- What the reference has of them, if they may be. -/
def HasV (m : Bool) (X : Value) (L : List UInt8) (w : World) : Prop := m = true → ∃ A c, X = .slice A L.length c ∧ Rd w 0 w.heap.size A L
section
variable {m : Bool} {X Y : Value} {en : Int} {L : List UInt8} {w w' : World}
theorem ToldV.below (h : ToldV m X en L w) (hb : Below w.heap.size w w') : ToldV m X en L w' := by
  rcases h with ⟨h1, h2, A, c, h3, h4⟩ | h
  · exact .inl ⟨h1, h2, A, c, h3, (h4.below hb (Nat.le_refl _)).wide (Nat.le_refl _) hb.size⟩
  · exact .inr h
theorem HasV.below (h : HasV m X L w) (hb : Below w.heap.size w w') : HasV m X L w' := fun e => by
  obtain ⟨A, c, h3, h4⟩ := h e
  exact ⟨A, c, h3, (h4.below hb (Nat.le_refl _)).wide (Nat.le_refl _) hb.size⟩
theorem told_c (h : ToldV m X en L w) (h' : HasV m Y L w) : Calls Try.prog 11 #[X, .int .i64 en, .bool m, .bool m, Y] w fun e w' => e = .returned (.bool true) ∧ w = w' := by
  rcases h with ⟨rfl, rfl, A, c, rfl, h4⟩ | ⟨rfl, rfl, rfl⟩
  · obtain ⟨B, d, rfl, h5⟩ := h' rfl
    exact told_yes A B _ _ c d 0 _ 0 _ L w h4 h5 rfl rfl
  · exact told_no Y w
end
theorem mayVt_nat {n : Int} {e1 e2 k : Nat} (h : mayVt n e1 e2 k = true) : ∃ n' : Nat, n = (n' : Int) ∧ n' < 256 := by
  unfold mayVt mayVal at h
  simp only [Bool.and_eq_true, decide_eq_true_eq] at h
  exact ⟨n.toNat, by omega, by omega⟩
theorem voteBytes_any (n : Int) (e1 : Nat) (l1 : List UInt8) (e2 : Nat) (l2 s : List UInt8) (A : Option Addr) (c : Nat) (w : World) (hl1 : l1.length = 32) (hl2 : l2.length = 32) (h : Rd w 0 w.heap.size A s) :
    Calls Try.prog 7 #[.agg (vtV n e1 l1 e2 l2 (.slice A s.length c))] w fun e w' => ∃ X en, e = .returned (.tuple #[X, .int .i64 en]) ∧ ToldV (mayVt n e1 e2 s.length) X en (vtL n.toNat e1 l1 e2 l2 s) w' ∧ Below w.heap.size w w' := by
  cases hm : mayVt n e1 e2 s.length
  · refine (voteBytes_no n e1 l1 e2 l2 A s.length c w hm).mono ?_
    rintro e w' ⟨rfl, hb⟩
    exact ⟨_, _, rfl, .inr ⟨rfl, rfl, rfl⟩, hb⟩
  · obtain ⟨n', rfl, _⟩ := mayVt_nat hm
    refine (voteBytes_ok n' e1 l1 e2 l2 s A c w hm hl1 hl2 h).mono ?_
    rintro e w' ⟨A', c', rfl, _, ho, hb⟩
    exact ⟨_, _, rfl, .inl ⟨rfl, rfl, A', c', rfl, ho.rd.wide (Nat.zero_le _) (Nat.le_refl _)⟩, hb⟩
theorem text_any (n : Int) (e1 : Nat) (l1 : List UInt8) (e2 : Nat) (l2 : List UInt8) (k : Nat) (A : Option Addr) (c : Nat) (w : World) (hl1 : l1.length = 32) (hl2 : l2.length = 32) :
    Calls Try.prog 8 #[.agg (vtV n e1 l1 e2 l2 (.slice A k c))] w fun e w' => ∃ X en, e = .returned (.tuple #[X, .int .i64 en]) ∧ ToldV (mayVt n e1 e2 k) X en (txL n.toNat e1 l1 e2 l2) w' ∧ Below w.heap.size w w' := by
  cases hm : mayVt n e1 e2 k
  · refine (text_no n e1 l1 e2 l2 A k c w hm).mono ?_
    rintro e w' ⟨rfl, hb⟩
    exact ⟨_, _, rfl, .inr ⟨rfl, rfl, rfl⟩, hb⟩
  · obtain ⟨n', rfl, _⟩ := mayVt_nat hm
    refine (text_ok n' e1 l1 e2 l2 A k c w hm hl1 hl2).mono ?_
    rintro e w' ⟨A', c', rfl, _, ho, hb⟩
    exact ⟨_, _, rfl, .inl ⟨rfl, rfl, A', c', rfl, ho.rd.wide (Nat.zero_le _) (Nat.le_refl _)⟩, hb⟩
/-- The vote of bytes, or the zero one. -/
def VD (l : List UInt8) (n : Int) (e1 : Nat) (l1 : List UInt8) (e2 : Nat) (l2 s : List UInt8) : Prop :=
  (vofOk l = true ∧ n = (((numS (some l) 1).1 : Nat) : Int) ∧ e1 = (ptR (vtS1 (some l))).1 ∧ l1 = (ptR (vtS1 (some l))).2 ∧ e2 = (ptR (vtS2 (some l))).1 ∧ l2 = (ptR (vtS2 (some l))).2 ∧ s = vofS l) ∨ (vofOk l = false ∧ n = 0 ∧ e1 = 0 ∧ l1 = zeros ∧ e2 = 0 ∧ l2 = zeros ∧ s = [])
theorem VD.same {l : List UInt8} {n n' : Int} {e1 e1' e2 e2' : Nat} {l1 l1' l2 l2' s s' : List UInt8} (h : VD l n e1 l1 e2 l2 s) (h' : VD l n' e1' l1' e2' l2' s') : n' = n ∧ e1' = e1 ∧ l1' = l1 ∧ e2' = e2 ∧ l2' = l2 ∧ s' = s := by
  rcases h with ⟨h0, rfl, rfl, rfl, rfl, rfl, rfl⟩ | ⟨h0, rfl, rfl, rfl, rfl, rfl, rfl⟩ <;> rcases h' with ⟨h1, rfl, rfl, rfl, rfl, rfl, rfl⟩ | ⟨h1, rfl, rfl, rfl, rfl, rfl, rfl⟩
  · exact ⟨rfl, rfl, rfl, rfl, rfl, rfl⟩
  · rw [h0] at h1; cases h1
  · rw [h0] at h1; cases h1
  · exact ⟨rfl, rfl, rfl, rfl, rfl, rfl⟩
theorem VD.len {l : List UInt8} {n : Int} {e1 e2 : Nat} {l1 l2 s : List UInt8} (h : VD l n e1 l1 e2 l2 s) : l1.length = 32 ∧ l2.length = 32 := by
  rcases h with ⟨h0, rfl, rfl, rfl, rfl, rfl, rfl⟩ | ⟨h0, rfl, rfl, rfl, rfl, rfl, rfl⟩
  · exact ⟨hashR_len _, hashR_len _⟩
  · exact ⟨zeros_len, zeros_len⟩
theorem VD.lenS {l : List UInt8} {n : Int} {e1 e2 : Nat} {l1 l2 s : List UInt8} (h : VD l n e1 l1 e2 l2 s) : s.length ≤ 65535 := by
  rcases h with ⟨h0, rfl, rfl, rfl, rfl, rfl, rfl⟩ | ⟨h0, rfl, rfl, rfl, rfl, rfl, rfl⟩
  · exact blob_lt _
  · simp
theorem voteOf_any (A : Option Addr) (c : Nat) (l : List UInt8) (w : World) (h : Rd w 0 w.heap.size A l) (hl : l.length ≤ 140737488355328) :
    Calls Try.prog 15 #[.slice A l.length c] w fun e w' => ∃ n e1 l1 e2 l2 s Ay cy, VD l n e1 l1 e2 l2 s ∧ e = .returned (.tuple #[.agg (vtV n e1 l1 e2 l2 (.slice Ay s.length cy)), .int .i64 (if vofOk l = true then 0 else 4)]) ∧ s.length ≤ cy ∧ Ow w' w.heap.size Ay s ∧ Below w.heap.size w w' := by
  refine (voteOf_c A c l w h hl).mono ?_
  rintro e w' (⟨h0, Ay, rfl, ho, hb⟩ | ⟨h0, rfl, hb⟩)
  · exact ⟨_, _, _, _, _, vofS l, Ay, _, .inl ⟨h0, rfl, rfl, rfl, rfl, rfl, rfl⟩, by rw [if_pos h0]; rfl, Nat.le_refl _, ho.wide (by omega), hb⟩
  · exact ⟨0, 0, zeros, 0, zeros, [], none, 0, .inr ⟨h0, rfl, rfl, rfl, rfl, rfl, rfl⟩, by rw [if_neg (by rw [h0]; decide)]; rfl, by simp, Ow.nil, hb⟩
theorem refVoteOf_any (A : Option Addr) (c : Nat) (l : List UInt8) (w : World) (h : Rd w 0 w.heap.size A l) (hl : l.length ≤ 100000) (hc : l.length ≤ c) :
    Calls Try.prog 16 #[.slice A l.length c] w fun e w' => ∃ n e1 l1 e2 l2 s Ay cy, VD l n e1 l1 e2 l2 s ∧ e = .returned (.tuple #[.agg (vtV n e1 l1 e2 l2 (.slice Ay s.length cy)), .bool (vofOk l)]) ∧ Rd w' 0 w.heap.size Ay s ∧ Below w.heap.size w w' := by
  refine (refVoteOf_c A c l w h hl hc).mono ?_
  rintro e w' (⟨h0, Ay, cy, rfl, ht, hb⟩ | ⟨h0, rfl, hb⟩)
  · exact ⟨_, _, _, _, _, vofS l, Ay, cy, .inl ⟨h0, rfl, rfl, rfl, rfl, rfl, rfl⟩, by rw [h0]; rfl, ht _ _ _ (h.below hb (Nat.le_refl _)), hb⟩
  · exact ⟨0, 0, zeros, 0, zeros, [], none, 0, .inr ⟨h0, rfl, rfl, rfl, rfl, rfl, rfl⟩, by rw [h0]; rfl, Rd.nil, hb⟩
theorem sameVt_self (n : Int) (e1 : Nat) (l1 : List UInt8) (e2 : Nat) (l2 s : List UInt8) : sameVt n e1 l1 e2 l2 s n e1 l1 e2 l2 s = true := by simp [sameVt]
end Go.Proofs.Ytmebppfbdeokeaa
namespace Go.Proofs.Ytmebppfbdeokeaa
open Go.ChangeShapes Go.WideShapes Go.ChangeAt Go.RowKit
set_option linter.unusedVariables false
set_option maxRecDepth 100000

def blockOf (i : Nat) : Code → Option Code
  | .block n c => if n = i then some (.block n c) else blockOf i c
  | .seq a b => match blockOf i a with
    | some c => some c
    | none => blockOf i b
  | .cond _ a b => match blockOf i a with
    | some c => some c
    | none => blockOf i b
  | .loop c => blockOf i c
  | .scope c => blockOf i c
  | _ => none
noncomputable def vts_b0C : Code := ((Try.f3.body.bind (blockOf 0))).getD .skip
set_option maxRecDepth 1000000 in
set_option maxHeartbeats 8000000 in
theorem vts_b0 (c0 c1 c2 c3 c4 c5 c6 c7 c8 c9 c10 c11 c12 c13 c14 c16 c17 c18 c20 c21 c22 c23 c24 c25 c26 c27 c28 c29 c30 c31 c32 c33 c34 c35 c36 c37 c38 c39 c40 c41 c42 c43 c44 c45 c46 c47 c48 c49 c50 c51 c52 c53 c54 c55 c56 c57 c58 c59 c60 c61 c62 c63 c64 c65 c66 c67 c68 c69 c70 c71 c72 c73 c74 c75 c76 c77 c78 c79 c80 c81 c82 c83 c84 c85 c86 c87 c88 c89 c90 c91 c92 c93 c94 c95 c96 c97 c98 c99 c100 c101 c102 c103 c104 c105 c106 c107 c108 c109 c110 c111 c112 c113 c114 c115 c116 c117 c118 c119 c120 c121 c122 c123 c124 c125 c126 c127 c128 c129 c130 c131 c132 c133 c134 c135 c136 c137 c138 c139 c140 c141 c142 : Value) (w : World) (gy cy B m : Nat) (YX : Array Value) (Ay : Option Addr) (hm9 : m ≤ 100000) (hY : w.heap[gy]? = some (.cells YX 29 (0, 0))) (y67 : YX[67]? = some (.slice Ay m cy)) (hO : 0 < m → ∃ gs N f, Ay = some ⟨gs, 0, none⟩ ∧ B ≤ gs ∧ gs < gy ∧ Fill gs 5 N 0 f w ∧ m ≤ N)
    (Q : Exit → Act → World → Prop) (hQ : ∀ (u19 u123 u124 u125 u126 u127 u128 u129 u130 u131 u132 u133 : Value) (w' : World), Below B w w' → Q .normal ⟨#[c0, c1, c2, c3, c4, c5, c6, c7, c8, c9, c10, c11, c12, c13, c14, .pointer (some ⟨gy, 0, none⟩), c16, c17, c18, u19, c20, c21, c22, c23, c24, c25, c26, c27, c28, c29, c30, c31, c32, c33, c34, c35, c36, c37, c38, c39, c40, c41, c42, c43, c44, c45, c46, c47, c48, c49, c50, c51, c52, c53, c54, c55, c56, c57, c58, c59, c60, c61, c62, c63, c64, c65, c66, c67, c68, c69, c70, c71, c72, c73, c74, c75, c76, c77, c78, c79, c80, c81, c82, c83, c84, c85, c86, c87, c88, c89, c90, c91, c92, c93, c94, c95, c96, c97, c98, c99, c100, c101, c102, c103, c104, c105, c106, c107, c108, c109, c110, c111, c112, c113, c114, c115, c116, c117, c118, c119, c120, c121, c122, u123, u124, u125, u126, u127, u128, u129, u130, u131, u132, u133, c134, c135, c136, c137, c138, c139, c140, c141, c142], []⟩ w') :
    Code.wp Try.prog vts_b0C Q ⟨#[c0, c1, c2, c3, c4, c5, c6, c7, c8, c9, c10, c11, c12, c13, c14, .pointer (some ⟨gy, 0, none⟩), c16, c17, c18, .int .i64 0, c20, c21, c22, c23, c24, c25, c26, c27, c28, c29, c30, c31, c32, c33, c34, c35, c36, c37, c38, c39, c40, c41, c42, c43, c44, c45, c46, c47, c48, c49, c50, c51, c52, c53, c54, c55, c56, c57, c58, c59, c60, c61, c62, c63, c64, c65, c66, c67, c68, c69, c70, c71, c72, c73, c74, c75, c76, c77, c78, c79, c80, c81, c82, c83, c84, c85, c86, c87, c88, c89, c90, c91, c92, c93, c94, c95, c96, c97, c98, c99, c100, c101, c102, c103, c104, c105, c106, c107, c108, c109, c110, c111, c112, c113, c114, c115, c116, c117, c118, c119, c120, c121, c122, c123, c124, c125, c126, c127, c128, c129, c130, c131, c132, c133, c134, c135, c136, c137, c138, c139, c140, c141, c142], []⟩ w := by
  conv => arg 2; whnf
  try dsimp only at hQ ⊢
  have HQ := Lib.hid hQ
  have HY := Lib.hid hY
  have Y67 := Lib.hid y67
  have HO := Lib.hid hO
  clear hQ hY y67 hO
  go_wp2_with fail
  go_loopw [19] (fun v19 u => ∃ k : Nat, k ≤ m ∧ v19 = .int .i64 (k : Int) ∧ u.heap[gy]? = some (.cells YX 29 (0, 0)) ∧ Below B w u ∧ (0 < m → ∃ gs N f, Ay = some ⟨gs, 0, none⟩ ∧ B ≤ gs ∧ gs < gy ∧ Fill gs 5 N 0 f u ∧ m ≤ N)) (fun v19 _ => m - (intOf v19).toNat)
  case atStart => exact ⟨0, Nat.zero_le _, rfl, HY.out, Below.refl _ _, HO.out⟩
  case round =>
    clear HY HO
    obtain ⟨k, hk, rfl, r1, r4, r5⟩ := hrel
    have cy67 : wr.cell? ⟨gy, 67, none⟩ = some (.slice Ay m cy) := by rw [cell_of_row wr gy 67 _ _ (0, 0) r1]; exact Y67.out
    have Q1 := Lib.hid r1
    have Q4 := Lib.hid r4
    clear r1 r4
    by_cases hkn : k < m
    · obtain ⟨gs, N, f, rfl, g1, g2, hF, hN⟩ := r5 (by omega)
      obtain ⟨v, hv, hz2⟩ := hF.cell k (by omega)
      have Q5 := Lib.hid hF
      have E5 := Lib.hid (And.intro g1 (And.intro g2 hN))
      obtain ⟨wq, hwq⟩ : ∃ wq, wq = wr.setCell ⟨gs, k, none⟩ (.int .u8 9) := ⟨_, rfl⟩
      have s1 : Hid (wq.heap[gy]? = some (.cells YX 29 (0, 0))) := by rw [hwq]; exact (Below.heap_setCell wr ⟨gs, k, none⟩ (.int .u8 9) gy (show gy ≠ gs by omega)).trans Q1.out
      have s4 : Hid (Below B w wq) := by
        rw [hwq]
        exact ⟨Q4.out.os, Q4.out.tape, Q4.out.output, by simpa [World.setCell] using Q4.out.size, fun j hj => (Below.heap_setCell wr ⟨gs, k, none⟩ (.int .u8 9) j (show j ≠ gs by omega)).trans (Q4.out.block j hj)⟩
      have s5 : Hid (Fill gs 5 N 0 f wq) := by rw [hwq]; exact Q5.out.past k (Nat.zero_le _) _
      have HWQ := Lib.hid hwq
      have S5 : Hid (0 < m → ∃ gs' N f, some ⟨gs, 0, none⟩ = some (⟨gs', 0, none⟩ : Addr) ∧ B ≤ gs' ∧ gs' < gy ∧ Fill gs' 5 N 0 f wq ∧ m ≤ N) := fun _ => ⟨gs, N, f, rfl, g1, g2, s5.out, hN⟩
      clear hwq g1 g2 hF hN r5
      go_wp2_with fail
      rw [← HWQ.out]
      exact ⟨⟨k + 1, by omega, by go_num, s1.out, s4.out, S5.out⟩, by simp [intOf]; omega⟩
    · obtain rfl : k = m := by omega
      clear r5 hkn hk
      go_wp2_with fail
      exact HQ.out _ _ _ _ _ _ _ _ _ _ _ _ _ Q4.out
noncomputable def vts_r20C : Code := ((Try.f3.body.bind (regionOf 20))).getD .skip
set_option maxRecDepth 1000000 in
set_option maxHeartbeats 8000000 in
theorem vts_r20 (c0 c1 c3 c4 c5 c6 c7 c8 c9 c10 c11 c12 c13 c15 c16 c17 c18 c19 c20 c21 c22 c23 c24 c25 c26 c27 c28 c29 c30 c31 c32 c33 c34 c35 c36 c37 c38 c39 c40 c41 c42 c43 c44 c45 c46 c47 c48 c49 c50 c51 c52 c53 c54 c55 c56 c57 c58 c59 c60 c61 c62 c63 c64 c65 c66 c67 c68 c69 c70 c71 c72 c73 c74 c75 c76 c77 c78 c79 c80 c81 c82 c83 c84 c85 c86 c87 c88 c89 c90 c91 c92 c93 c94 c95 c96 c97 c98 c99 c100 c101 c102 c103 c104 c105 c106 c107 c108 c109 c110 c111 c112 c113 c114 c115 c116 c117 c118 c119 c120 c121 c122 c123 c124 c125 c126 c127 c128 c129 c130 c131 c132 c133 c134 c135 c136 c137 c138 c139 c140 c141 c142 : Value) (w : World) (AB : Option Addr) (g14 c14 cb lo hi lo' hi' : Nat) (b : List UInt8) (r1 : Rd w lo hi (some ⟨g14, 0, none⟩) (b ++ [7])) (r2 : Rd w lo' hi' AB b) (hb : b.length ≤ 9000)
    (Q : Exit → Act → World → Prop) (hQ : ∀ (u134 u135 u136 u137 u138 u139 u140 u141 u142 : Value) (w' : World), Below w.heap.size w w' → Q .normal ⟨#[c0, c1, .slice AB b.length cb, c3, c4, c5, .bool true, c7, c8, c9, c10, c11, c12, c13, .slice (some ⟨g14, 0, none⟩) (b.length + 1) c14, c15, c16, c17, c18, c19, c20, c21, c22, c23, c24, c25, c26, c27, c28, c29, c30, c31, c32, c33, c34, c35, c36, c37, c38, c39, c40, c41, c42, c43, c44, c45, c46, c47, c48, c49, c50, c51, c52, c53, c54, c55, c56, c57, c58, c59, c60, c61, c62, c63, c64, c65, c66, c67, c68, c69, c70, c71, c72, c73, c74, c75, c76, c77, c78, c79, c80, c81, c82, c83, c84, c85, c86, c87, c88, c89, c90, c91, c92, c93, c94, c95, c96, c97, c98, c99, c100, c101, c102, c103, c104, c105, c106, c107, c108, c109, c110, c111, c112, c113, c114, c115, c116, c117, c118, c119, c120, c121, c122, c123, c124, c125, c126, c127, c128, c129, c130, c131, c132, c133, u134, u135, u136, u137, u138, u139, u140, u141, u142], []⟩ w') :
    Code.wp Try.prog vts_r20C Q ⟨#[c0, c1, .slice AB b.length cb, c3, c4, c5, c6, c7, c8, c9, c10, c11, c12, c13, .slice (some ⟨g14, 0, none⟩) (b.length + 1) c14, c15, c16, c17, c18, c19, c20, c21, c22, c23, c24, c25, c26, c27, c28, c29, c30, c31, c32, c33, c34, c35, c36, c37, c38, c39, c40, c41, c42, c43, c44, c45, c46, c47, c48, c49, c50, c51, c52, c53, c54, c55, c56, c57, c58, c59, c60, c61, c62, c63, c64, c65, c66, c67, c68, c69, c70, c71, c72, c73, c74, c75, c76, c77, c78, c79, c80, c81, c82, c83, c84, c85, c86, c87, c88, c89, c90, c91, c92, c93, c94, c95, c96, c97, c98, c99, c100, c101, c102, c103, c104, c105, c106, c107, c108, c109, c110, c111, c112, c113, c114, c115, c116, c117, c118, c119, c120, c121, c122, c123, c124, c125, c126, c127, c128, c129, c130, c131, c132, c133, c134, c135, c136, c137, c138, c139, c140, c141, c142], []⟩ w := by
  conv => arg 2; whnf
  try dsimp only at hQ ⊢
  have HQ := Lib.hid hQ
  have hst1 := run_str r1 (b.length + 1) c14 (by simp)
  have hst2 := run_str r2 b.length cb rfl
  unfold strOf at hst1 hst2
  obtain ⟨sx, hsx⟩ : ∃ sx : ByteArray, sx = ⟨(b ++ [7]).toArray⟩ := ⟨_, rfl⟩
  obtain ⟨sl, hsl⟩ : ∃ sl : ByteArray, sl = ⟨b.toArray⟩ := ⟨_, rfl⟩
  rw [← hsx] at hst1
  rw [← hsl] at hst2
  have hz9 : ¬ 9223372036854775807 < sl.size + 1 := by
    have : sl.size = b.length := by rw [hsl]; simp [ByteArray.size]
    omega
  have hEq : sx.toList = (sl ++ { data := #[7] }).toList := by
    rw [hsx, hsl, ByteArray.toList_eq, ByteArray.toList_eq]
    simp
  clear hQ hsx hsl r1 r2
  go_wp2_with fail
  refine (known_c w).mono ?_
  rintro y w2 ⟨rfl, b2⟩
  go_wp2_with fail
  exact HQ.out _ _ _ _ _ _ _ _ _ _ b2
end Go.Proofs.Ytmebppfbdeokeaa
namespace Go.Proofs.Ytmebppfbdeokeaa
open Go.ChangeShapes Go.WideShapes Go.ChangeAt Go.RowKit
set_option linter.unusedVariables false
set_option maxRecDepth 100000

theorem own_keepV {w w' : World} {base sz n : Nat} {t : TypeId} {v : Value} {xs : List Value} (h : w.ownsRow base t sz v n xs) (hk : ∀ g, v.ownBlock = some g → w'.heap[g]? = w.heap[g]?) : w'.ownsRow base t sz v n xs := by
  refine ⟨h.1, ?_⟩
  rcases h.2 with h0 | ⟨g, cap, cur, hv, h1, h2, h3⟩
  · exact .inl h0
  · exact .inr ⟨g, cap, cur, hv, h1, (hk g (by rw [hv]; rfl)).trans h2, h3⟩
theorem slice_first (u : World) (g k n c : Nat) (hk : k ≤ c) (hc : 0 < c) : (Instr.slice 27 (.slice (some ⟨g, 0, none⟩) n c) none (some (.int .i64 (k : Int))) none).run Try.prog u = .ok (.slice (some ⟨g, 0, none⟩) k c) u := by
  rw [run_slice_h u 27 (some ⟨g, 0, none⟩) n c Try.underlying27 .i64 (k : Int) (by omega) (by omega)]
  have hi : (sizeOf (Try.prog.elem 27)).run Try.prog u = .ok 1 u := by kernel_rfl
  rw [hi]
  show Result.ok (sliced (some ⟨g, 0, none⟩) 0 ((k : Int)).toNat c 1) u = _
  unfold sliced
  rw [if_neg (by omega)]
  simp [Addr.add]
theorem sliceAt_first (u : World) (g k n c : Nat) (hk : k ≤ c) (hc : 0 < c) : (Instr.sliceAt 27 (.slice (some ⟨g, 0, none⟩) n c) none (some (.int .i64 (k : Int))) none).run Try.prog u = .ok (.slice (some ⟨g, 0, none⟩) k c) u := by
  rw [run_sliceAt_slice u 27 _ _ _ _ Try.underlying27]
  exact slice_first u g k n c hk hc
theorem wpList_slice_h {P : Program} {ops : Array Oper} {rest : List Oper} {o : Oper} {a : Act} {w : World} {Q : Exit → Act → World → Prop} (hgd : o.guard = none) (t : TypeId) (x h : Operand) (ho : o.op = .slice t x none (some h) none) (X H V : Value) (hx : a.eval x = X) (hh : a.eval h = H) (hr : (Instr.sliceAt t X none (some H) none).run P w = .ok V w) (k : wpList P ops Q rest (a.put o.dst V) w) : wpList P ops Q (o :: rest) a w :=
  wpList_plain hgd fun _ hK => by
    unfold Oper.wp execOp
    simp only [ho, hx, hh, Option.map_some, Option.map_none, Sem.run_bind, Sem.run_pure, Result.andThen_ok, hr]
    exact hK _ _ k
set_option maxRecDepth 1000000 in
set_option maxHeartbeats 16000000 in
theorem codecVotes_main (n n' : Int) (e1 e2 e1' e2' : Nat) (l1 l2 s l1' l2' s' b : List UInt8) (A A' AB : Option Addr) (c c' cb : Nat) (w : World) (he1 : e1 < 18446744073709551616) (he2 : e2 < 18446744073709551616) (hl1 : l1.length = 32) (hl2 : l2.length = 32) (hl1' : l1'.length = 32) (hl2' : l2'.length = 32) (h : Rd w 0 w.heap.size A s) (h' : Rd w 0 w.heap.size A' s') (hB : Rd w 0 w.heap.size AB b) (hs : s.length ≤ 9000) (hs' : s'.length ≤ 9000) (hb : b.length ≤ 9000) (hcb : b.length ≤ cb) :
    Calls Try.prog 3 #[.agg (vtV n e1 l1 e2 l2 (.slice A s.length c)), .agg (vtV n' e1' l1' e2' l2' (.slice A' s'.length c')), .slice AB b.length cb] w fun e w' => e = .returned (.bool true) ∧ Below w.heap.size w w' := by
  obtain ⟨m, hm⟩ : ∃ m, m = mayVt n e1 e2 s.length := ⟨_, rfl⟩
  obtain ⟨q, hq⟩ : ∃ q, q = sameVt n e1 l1 e2 l2 s n' e1' l1' e2' l2' s' := ⟨_, rfl⟩
  obtain ⟨BL, hBL⟩ : ∃ BL, BL = vtL n.toNat e1 l1 e2 l2 s := ⟨_, rfl⟩
  obtain ⟨TL, hTL⟩ : ∃ TL, TL = txL n.toNat e1 l1 e2 l2 := ⟨_, rfl⟩
  have CVB := Lib.hid (fun u (hu : Rd u 0 u.heap.size A s) => voteBytes_any n e1 l1 e2 l2 s A c u hl1 hl2 hu)
  have CTX := Lib.hid (fun u => text_any n e1 l1 e2 l2 s.length A c u hl1 hl2)
  have CMR := Lib.hid (fun u => refMayVote_c n e1 l1 e2 l2 A s.length c u)
  have CMC := Lib.hid (fun u => mayVote_c n e1 l1 e2 l2 A s.length c u)
  have CSC := Lib.hid (fun u (hu : Rd u 0 u.heap.size A s) (hu' : Rd u 0 u.heap.size A' s') => sameVote_c n n' e1 e2 e1' e2' l1 l2 s l1' l2' s' A A' c c' u hl1 hl2 hl1' hl2' hu hu')
  have CSR := Lib.hid (fun u (hu : Rd u 0 u.heap.size A s) (hu' : Rd u 0 u.heap.size A' s') => refSameVote_c n n' e1 e2 e1' e2' l1 l2 s l1' l2' s' A A' c c' u hl1 hl2 hl1' hl2' hu hu')
  have CSS := Lib.hid (fun u (hu : Rd u 0 u.heap.size A s) => sameVote_c n n e1 e2 e1 e2 l1 l2 s l1 l2 s A A c c u hl1 hl2 hl1 hl2 hu hu)
  have CB : Hid (m = true → ∀ u, Rd u 0 u.heap.size A s → Calls Try.prog 9 #[.agg (vtV n e1 l1 e2 l2 (.slice A s.length c))] u (RNewP u BL)) := fun e u hu => by
    rw [hm] at e
    obtain ⟨k, rfl, hk⟩ := mayVt_nat e
    rw [hBL]
    exact refVoteB_c k e1 l1 e2 l2 s A c u hk he1 he2 hl1 hl2 hu (by omega)
  have CX : Hid (m = true → ∀ u, Calls Try.prog 10 #[.agg (vtV n e1 l1 e2 l2 (.slice A s.length c))] u (RNewP u TL)) := fun e u => by
    rw [hm] at e
    obtain ⟨k, rfl, hk⟩ := mayVt_nat e
    rw [hTL]
    exact refText_c k e1 l1 e2 l2 _ u hk he1 he2 hl1 hl2
  rw [sameVt_self] at CSS
  rw [← hm] at CVB CTX CMR CMC
  rw [← hBL] at CVB
  rw [← hTL] at CTX
  rw [← hq] at CSC CSR
  obtain ⟨VX, hVX⟩ : ∃ VX, VX = (vtV n e1 l1 e2 l2 (.slice A s.length c)) := ⟨_, rfl⟩
  obtain ⟨OX, hOX⟩ : ∃ OX, OX = (vtV n' e1' l1' e2' l2' (.slice A' s'.length c')) := ⟨_, rfl⟩
  have HZV := Lib.hid (show (Try.prog.info? 29).map (·.size) = some VX.size by rw [hVX]; exact size_vtV _ _ _ _ _ _)
  have HZO := Lib.hid (show (Try.prog.info? 29).map (·.size) = some OX.size by rw [hOX]; exact size_vtV _ _ _ _ _ _)
  have s67 : VX[67]? = some (.slice A s.length c) := by rw [hVX]; exact rowV_at 68 _ 67 (by omega)
  have o67 : OX[67]? = some (.slice A' s'.length c') := by rw [hOX]; exact rowV_at 68 _ 67 (by omega)
  rw [← hVX] at CVB CTX CMR CMC CSC CSR CSS CB CX ⊢
  rw [← hOX] at CSC CSR ⊢
  obtain ⟨W, hW⟩ : ∃ W, W = (w.alloc (.cells VX 29)).alloc (.cells OX 29) := ⟨_, rfl⟩
  have b0 : Below w.heap.size w W := by rw [hW]; exact ((Below.refl _ _).alloc (Nat.le_refl _) _).alloc (by simp) _
  have z0 : W.heap.size = w.heap.size + 2 := by rw [hW]; simp
  have k3 : W.heap[w.heap.size]? = some (.cells VX 29 (0, 0)) := by rw [hW]; exact heap_alloc2_old w _ _
  have k4 : W.heap[w.heap.size + 1]? = some (.cells OX 29 (0, 0)) := by rw [hW]; exact heap_alloc2_new w _ _
  have K3 : Hid (∀ u, Below W.heap.size W u → u.heap[w.heap.size]? = some (.cells VX 29 (0, 0))) := fun u hu => (hu.block _ (by omega)).trans k3
  have K4 : Hid (∀ u, Below W.heap.size W u → u.heap[w.heap.size + 1]? = some (.cells OX 29 (0, 0))) := fun u hu => (hu.block _ (by omega)).trans k4
  have RS : Hid (∀ u, Below W.heap.size W u → Rd u 0 u.heap.size A s) := fun u hu => ((h.below b0 (Nat.le_refl _)).below hu (by omega)).wide (Nat.le_refl _) (Nat.le_trans b0.size hu.size)
  have RS' : Hid (∀ u, Below W.heap.size W u → Rd u 0 u.heap.size A' s') := fun u hu => ((h'.below b0 (Nat.le_refl _)).below hu (by omega)).wide (Nat.le_refl _) (Nat.le_trans b0.size hu.size)
  have RB : Hid (∀ u, Below W.heap.size W u → Rd u 0 w.heap.size AB b) := fun u hu => (hB.below b0 (Nat.le_refl _)).below hu (by omega)
  have c3 : W.cell? ⟨w.heap.size, 67, none⟩ = some (.slice A s.length c) := by rw [cell_of_row W w.heap.size 67 _ _ (0, 0) k3]; exact s67
  have c4 : W.cell? ⟨w.heap.size + 1, 67, none⟩ = some (.slice A' s'.length c') := by rw [cell_of_row W (w.heap.size + 1) 67 _ _ (0, 0) k4]; exact o67
  have d1 : decide ((b.length : Int) > 9000) = false := by simp; omega
  have d1' : decide ((9000 : Int) < (b.length : Int)) = false := by simp; omega
  have d1'' : decide (9000 < b.length) = false := by simp; omega
  have d2 : decide ((s.length : Int) > 9000) = false := by simp; omega
  have d2' : decide ((9000 : Int) < (s.length : Int)) = false := by simp; omega
  have d2'' : decide (9000 < s.length) = false := by simp; omega
  have d3 : decide ((s'.length : Int) > 9000) = false := by simp; omega
  have d3' : decide ((9000 : Int) < (s'.length : Int)) = false := by simp; omega
  have d3'' : decide (9000 < s'.length) = false := by simp; omega
  have HW := Lib.hid hW
  have B0 := Lib.hid b0
  have Z0 := Lib.hid z0
  have LB := Lib.hid hb
  have LC := Lib.hid hcb
  have k0 := K3.out W (Below.refl _ _)
  clear hm hq hBL hTL hVX hOX s67 o67 hW b0 z0 k3 k4 h h' hB hs hs' hb hcb he1 he2 hl1 hl2 hl1' hl2'
  go_enter Try.func3, Try.ntmps3
  go_upto_region 1 with fail
  rw [← HW.out]
  go_wp2_with (first
    | (refine wpList_load_row rfl 29 (.tmp 3) rfl (w.heap.size) rfl 29 VX (0, 0) _ k0 Try.underlying29 rfl HZV.out ?_)
    | fail)
  refine (CMR.out W).mono ?_
  rintro y w1 ⟨rfl, b1⟩
  have B1 := Lib.hid (b1)
  have k1 := K3.out w1 B1.out
  clear b1 k0 d1 d1' d1'' d2 d2' d2'' d3 d3' d3'' c3 c4 CMR
  go_wp2_with (first
    | (refine wpList_load_row rfl 29 (.tmp 3) rfl (w.heap.size) rfl 29 VX (0, 0) _ k1 Try.underlying29 rfl HZV.out ?_)
    | fail)
  refine (CVB.out w1 (RS.out w1 B1.out)).mono ?_
  rintro y w2 ⟨X8, en, rfl, t8, b2⟩
  have T8 := Lib.hid t8
  have B2 := Lib.hid (B1.out.trans (b2.mono B1.out.size))
  have k2 := K3.out w2 B2.out
  clear t8 b2 k1 B1 CVB
  go_wp2_with (first
    | (refine wpList_load_row rfl 29 (.tmp 3) rfl (w.heap.size) rfl 29 VX (0, 0) _ k2 Try.underlying29 rfl HZV.out ?_)
    | fail)
  refine (CTX.out w2).mono ?_
  rintro y w3 ⟨X10, eg, rfl, t10, b3⟩
  have T10 := Lib.hid t10
  have T8 := Lib.hid (T8.out.below b3)
  have B3 := Lib.hid (B2.out.trans (b3.mono B2.out.size))
  clear t10 b3 k2 B2 CTX
  go_upto_if 48 with fail
  go_cut [12, 13] from 20 to 52 (fun v12 v13 wx => HasV m v12 BL wx ∧ HasV m v13 TL wx ∧ Below w3.heap.size w3 wx)
  case first =>
    cases m
    · go_wp2_with fail
      go_meet
      case rel => exact ⟨(fun e => absurd e (by decide)), (fun e => absurd e (by decide)), Below.refl _ _⟩
    · go_upto_region 8 with fail
      refine vts_r8 _ _ _ _ _ _ _ _ _ _ _ _ _ _ _ _ _ _ _ _ _ _ _ _ _ _ _ _ _ _ _ _ _ _ _ _ _ _ _ _ _ _ _ _ _ _ _ _ _ _ _ _ _ _ _ _ _ _ _ _ _ _ _ _ _ _ _ _ _ _ _ _ _ _ _ _ _ _ _ _ _ _ _ _ _ _ _ _ _ _ _ _ _ _ _ _ _ _ _ _ _ _ _ _ _ _ _ _ _ _ _ _ _ _ _ _ _ _ _ _ _ _ _ _ _ _ _ _ _ _ _ _ _ _ _ _ _ _ _ _ _ _ w3 w.heap.size VX VX.toList BL TL (fun u hu j v hv => by rw [Nat.zero_add, cell_of_row u w.heap.size j _ _ (0, 0) (K3.out u (B3.out.drew.trans (hu.mono B3.out.size)))]; simpa using hv) (by simp) HZV.out (fun u hu => CB.out rfl u (RS.out u (B3.out.drew.trans (hu.mono B3.out.size)))) (fun u => CX.out rfl u) _ ?_
      rintro t12 t13 t49 t50 t51 t52 w4 ⟨A12, c12, A13, c13, rfl, rfl, h12, h13, r12, r13, b4⟩
      go_wp2_with fail
      go_meet
      case rel => exact ⟨fun _ => ⟨A12, c12, rfl, r12.wide (Nat.zero_le _) (Nat.le_refl _)⟩, fun _ => ⟨A13, c13, rfl, r13.wide (Nat.zero_le _) (Nat.le_refl _)⟩, b4⟩
  case rest =>
    obtain ⟨h12, h13, b4⟩ := hcut
    have T8 := Lib.hid (T8.out.below b4)
    have T10 := Lib.hid (T10.out.below b4)
    have H12 := Lib.hid h12
    have H13 := Lib.hid h13
    have B4 := Lib.hid (B3.out.trans (b4.mono B3.out.size))
    clear h12 h13 b4 B3 CB CX
    go_upto_region 9 with fail
    refine vts_r9 _ _ _ _ _ _ _ _ _ _ _ _ _ _ _ _ _ _ _ _ _ _ _ _ _ _ _ _ _ _ _ _ _ _ _ _ _ _ _ _ _ _ _ _ _ _ _ _ _ _ _ _ _ _ _ _ _ _ _ _ _ _ _ _ _ _ _ _ _ _ _ _ _ _ _ _ _ _ _ _ _ _ _ _ _ _ _ _ _ _ _ _ _ _ _ _ _ _ _ _ _ _ _ _ _ _ _ _ _ _ _ _ _ _ _ _ _ _ _ _ _ _ _ _ _ _ _ _ _ _ _ _ _ _ wc w.heap.size (w.heap.size + 1) VX OX VX.toList OX.toList (fun u hu => ⟨fun j v hv => by rw [Nat.zero_add, cell_of_row u w.heap.size j _ _ (0, 0) (K3.out u (B4.out.drew.trans (hu.mono B4.out.size)))]; simpa using hv, fun j v hv => by rw [Nat.zero_add, cell_of_row u (w.heap.size + 1) j _ _ (0, 0) (K4.out u (B4.out.drew.trans (hu.mono B4.out.size)))]; simpa using hv⟩) (by simp) (by simp) HZV.out HZO.out m q X8 X10 u12 u13 en eg (fun u => CMC.out u) (fun u hu => told_c (T8.out.below ((Below.refl wc.heap.size wc).drew.trans hu)) (H12.out.below ((Below.refl wc.heap.size wc).drew.trans hu))) (fun u hu => told_c (T10.out.below ((Below.refl wc.heap.size wc).drew.trans hu)) (H13.out.below ((Below.refl wc.heap.size wc).drew.trans hu))) (fun u hu => CSC.out u (RS.out u (B4.out.drew.trans (hu.mono B4.out.size))) (RS'.out u (B4.out.drew.trans (hu.mono B4.out.size)))) (fun u hu => CSR.out u (RS.out u (B4.out.drew.trans (hu.mono B4.out.size))) (RS'.out u (B4.out.drew.trans (hu.mono B4.out.size)))) (fun u hu => CSS.out u (RS.out u (B4.out.drew.trans (hu.mono B4.out.size)))) _ ?_
    rintro t53 t54 t55 t56 t57 t58 t59 t60 t61 t62 t63 t64 t65 t66 t67 t68 t69 t70 t71 t72 t73 t74 t75 t76 t77 t78 t79 t80 t81 t82 t83 t84 w5 b5
    have B5 := Lib.hid (B4.out.trans (b5.mono B4.out.size))
    clear b5 T8 T10 H12 H13 B4 CMC CSC CSR CSS K3 K4 RS RS' HZV HZO
    obtain ⟨j0, hj0, hy0, hy1, hy2⟩ := info_parts byte_info
    have ON : w5.ownsRow w5.heap.size 5 1 (.slice none 0 0) 0 [] := ⟨rfl, .inl ⟨rfl, rfl⟩⟩
    have RB5 := RB.out w5 B5.out
    have hb5 : b.length ≤ 140737488355328 := Nat.le_trans LB.out (by omega)
    go_upto_region 12 with (first
      | (at_builtin; refine wpList_append_rd _ rfl (.const (.slice none 0 0)) (.tmp 86) 27 rfl w5.heap.size 5 j0 _ Try.underlying27 hj0 hy0 hy1 hy2 rfl (.slice none 0 0) 0 [] rfl ON 0 w.heap.size AB cb b rfl RB5 (by omega) (Nat.le_refl _) ?_
         intro v6 w6 o6 g6 x6
         obtain ⟨W7, hW7⟩ : ∃ W7, W7 = w6.alloc (.cells #[.int .u8 7] 5) := ⟨_, rfl⟩
         have O7 : Hid (W7.ownsRow w5.heap.size 5 1 v6 (0 + b.length) ([] ++ b.map bv)) := own_keepV o6 (fun g hg => by rw [hW7]; exact heap_lt _ _ (o6.lt g hg).2)
         have R7 : Hid (Rd W7 0 W7.heap.size (some ⟨w6.heap.size, 0, none⟩) [7]) := oneByte 7 (by rw [hW7]; exact heap_alloc_new w6 _) (by omega)
         have S7 : Hid (w6.heap.size ≤ W7.heap.size) := by show _ ≤ _; rw [hW7]; simp
         have B7 : Hid (Below W.heap.size W W7) := by rw [hW7]; exact (B5.out.grown g6 B5.out.size (fun k e => by cases e)).alloc (Nat.le_trans B5.out.size g6.size) _
         have HW7 := Lib.hid hW7
         have G6 := Lib.hid g6
         clear o6 g6 x6 hW7)
      | (at_builtin; rw [← HW7.out]; refine wpList_append_rd _ rfl (.tmp 87) (.tmp 88) 27 rfl w5.heap.size 5 j0 _ Try.underlying27 hj0 hy0 hy1 hy2 rfl v6 (0 + b.length) ([] ++ b.map bv) rfl O7.out 0 W7.heap.size (some ⟨w6.heap.size, 0, none⟩) 1 [7] rfl R7.out (by have := LB.out; simp; omega) (Nat.le_trans G6.out.size S7.out) ?_
         intro v8 w8 o8 g8 x8)
      | fail)
    obtain ⟨A14, c14, hv14, -⟩ := own_form o8
    subst hv14
    have o9 : w8.ownsRow w5.heap.size 5 1 (.slice A14 (b.length + 1) c14) (b.length + 1) ((b ++ [7]).map bv) := by simpa using o8
    have B8 := Lib.hid (B7.out.grown g8 (Nat.le_trans B5.out.size (Nat.le_trans G6.out.size S7.out)) (fun k e => Nat.le_trans B5.out.size (O7.out.lt k e).1))
    obtain ⟨hO, -, hc14⟩ := Ow.of_own o9
    have rO := hO.rd
    obtain ⟨g14, cur14, rfl, q1, q2, q3, q4⟩ := hO (by simp)
    have RO := Lib.hid rO
    have L14 := Lib.hid (And.intro q1 q2)
    have rB : Rd w8 0 w8.heap.size (some ⟨g14, 0, none⟩) b := by
      have := (rO.take b.length).wide (Nat.zero_le _) (Nat.le_refl _)
      rwa [List.take_left] at this
    have CV := Lib.hid (voteOf_any (some ⟨g14, 0, none⟩) c14 b w8 rB hb5)
    have hsl2 := Lib.hid (fun u => sliceAt_first u g14 b.length (b.length + 1) c14 (by omega) (by omega))
    have HC14 := Lib.hid hc14
    rw [show 0 + b.length + [(7 : UInt8)].length = b.length + 1 by simp]
    have hz := zero_vote0
    clear o8 o9 hO rO q1 q2 q3 q4 rB g8 x8 O7 R7 S7 B7 HW7 G6 ON RB5 hj0 hy0 hy1 hy2
    go_wp2_with (first
      | (refine wpList_slice_h rfl 27 (.tmp 91) (.tmp 93) rfl (.slice (some ⟨g14, 0, none⟩) (b.length + 1) c14) (.int .i64 (b.length : Int)) (.slice (some ⟨g14, 0, none⟩) b.length c14) rfl rfl (hsl2.out _) ?_)
      | fail)
    refine CV.out.mono ?_
    rintro y w9 ⟨yn, ye1, yl1, ye2, yl2, ys, Ay, cy, hVD, rfl, hcy, oy, b9⟩
    obtain ⟨ok, hok⟩ : ∃ ok, ok = vofOk b := ⟨_, rfl⟩
    have CRV := Lib.hid (fun u (hu : Rd u 0 u.heap.size AB b) => refVoteOf_any AB cb b u hu (by have := LB.out; omega) LC.out)
    rw [← hok] at CRV ⊢
    obtain ⟨fz, hfz⟩ : ∃ fz : Int, fz = (if ok = true then 0 else 4) := ⟨_, rfl⟩
    rw [← hfz]
    have HFZ := Lib.hid hfz
    obtain ⟨hx1, hx2⟩ := hVD.len
    have LS := Lib.hid hVD.lenS
    have HVD := Lib.hid hVD
    have CSZ := Lib.hid (fun u Az cz (hu : Rd u 0 u.heap.size Ay ys) (hu' : Rd u 0 u.heap.size Az ys) => refSameVote_c yn yn ye1 ye2 ye1 ye2 yl1 yl2 ys yl1 yl2 ys Ay Az cy cz u hx1 hx2 hx1 hx2 hu hu')
    rw [sameVt_self] at CSZ
    obtain ⟨YX, hYX⟩ : ∃ YX, YX = vtV yn ye1 yl1 ye2 yl2 (.slice Ay ys.length cy) := ⟨_, rfl⟩
    have HZY := Lib.hid (show (Try.prog.info? 29).map (·.size) = some YX.size by rw [hYX]; exact size_vtV _ _ _ _ _ _)
    have HSY : Hid (vote0.size = YX.size) := by rw [hYX]; exact (rowV_size _ _).trans (rowV_size _ _).symm
    have HOY : Hid (YX.all (·.oneCell') = true) := by rw [hYX]; exact rowV_one 68 _ (vtF_one _ _ _ _ _ _ rfl)
    have Y67 := Lib.hid (show YX[67]? = some (.slice Ay ys.length cy) by rw [hYX]; exact rowV_at 68 _ 67 (by omega))
    rw [← hYX] at CSZ ⊢
    obtain ⟨W10, hW10⟩ : ∃ W10, W10 = w9.alloc (.cells YX 29) := ⟨_, rfl⟩
    have b10 : Below w9.heap.size w9 W10 := by rw [hW10]; exact (Below.refl _ _).alloc (Nat.le_refl _) _
    have k10 : W10.heap[w9.heap.size]? = some (.cells YX 29 (0, 0)) := by rw [hW10]; exact heap_alloc_new w9 _
    have l10 : w9.heap.size < W10.heap.size := by rw [hW10]; simp
    have B9 := Lib.hid (B8.out.trans (b9.mono B8.out.size))
    have B10 := Lib.hid (B9.out.trans (b10.mono B9.out.size))
    have Y10 := Lib.hid (And.intro k10 l10)
    have C9 := Lib.hid b9
    have C10 := Lib.hid b10
    have OY := Lib.hid oy
    have HW10 := Lib.hid hW10
    clear hok hfz hx1 hx2 hVD hYX hW10 b9 b10 k10 l10 oy CV hsl2 hcy
    go_wp2_with (first
      | (refine wpList_store_row rfl 29 (.tmp 15) (.tmp 96) rfl w9.heap.size YX rfl rfl 29 vote0 (heap_alloc_new _ _) HZY.out HSY.out HOY.out ?_; rw [World.setRow_alloc_new]; rw [← HW10.out])
      | fail)
    refine (CRV.out W10 ((RB.out W10 B10.out).wide (Nat.le_refl _) (Nat.le_trans B0.out.size B10.out.size))).mono ?_
    rintro y w11 ⟨zn, ze1, zl1, ze2, zl2, zs, Az, cz, hVD2, rfl, rz, b11⟩
    obtain ⟨v1, v2, v3, v4, v5, v6'⟩ := HVD.out.same hVD2
    obtain rfl : yn = zn := v1.symm
    obtain rfl : ye1 = ze1 := v2.symm
    obtain rfl : yl1 = zl1 := v3.symm
    obtain rfl : ye2 = ze2 := v4.symm
    obtain rfl : yl2 = zl2 := v5.symm
    obtain rfl : ys = zs := v6'.symm
    have CSZ := Lib.hid (fun u hu hu' => CSZ.out u Az cz hu hu')
    obtain ⟨ZX, hZX⟩ : ∃ ZX, ZX = vtV yn ye1 yl1 ye2 yl2 (.slice Az ys.length cz) := ⟨_, rfl⟩
    have HZZ := Lib.hid (show (Try.prog.info? 29).map (·.size) = some ZX.size by rw [hZX]; exact size_vtV _ _ _ _ _ _)
    have HSZ : Hid (vote0.size = ZX.size) := by rw [hZX]; exact (rowV_size _ _).trans (rowV_size _ _).symm
    have HOZ : Hid (ZX.all (·.oneCell') = true) := by rw [hZX]; exact rowV_one 68 _ (vtF_one _ _ _ _ _ _ rfl)
    have Z67 := Lib.hid (show ZX[67]? = some (.slice Az ys.length cz) by rw [hZX]; exact rowV_at 68 _ 67 (by omega))
    rw [← hZX] at CSZ ⊢
    obtain ⟨W12, hW12⟩ : ∃ W12, W12 = w11.alloc (.cells ZX 29) := ⟨_, rfl⟩
    have b12 : Below w11.heap.size w11 W12 := by rw [hW12]; exact (Below.refl _ _).alloc (Nat.le_refl _) _
    have k12 : W12.heap[w11.heap.size]? = some (.cells ZX 29 (0, 0)) := by rw [hW12]; exact heap_alloc_new w11 _
    have c12 : Below W10.heap.size W10 W12 := b11.trans (b12.mono b11.size)
    have ky : W12.heap[w9.heap.size]? = some (.cells YX 29 (0, 0)) := (c12.block _ Y10.out.2).trans Y10.out.1
    have C12 : Hid (Below w9.heap.size w9 W12) := C10.out.trans (c12.mono C10.out.size)
    have B12 := Lib.hid (B10.out.trans (c12.mono B10.out.size))
    have rz2 : Rd W12 0 W12.heap.size Az ys := (rz.below b12 b11.size).wide (Nat.le_refl _) (Nat.le_trans b11.size b12.size)
    have ry2 : Rd W12 0 W12.heap.size Ay ys := (OY.out.rd.below C12.out (Nat.le_refl _)).wide (Nat.zero_le _) C12.out.size
    have CSY := Lib.hid (CSZ.out W12 ry2 rz2)
    have KY := Lib.hid (And.intro ky c12)
    have HW12 := Lib.hid hW12
    clear v1 v2 v3 v4 v5 v6' hVD2 hZX hW12 b12 c12 rz rz2 ry2 b11 CRV CSZ HVD
    go_upto_region 14 with (first
      | (refine wpList_store_row rfl 29 (.tmp 17) (.tmp 101) rfl w11.heap.size ZX rfl rfl 29 vote0 (heap_alloc_new _ _) HZZ.out HSZ.out HOZ.out ?_; rw [World.setRow_alloc_new]; rw [← HW12.out])
      | fail)
    go_cut [122] from 103 to 122 (fun v122 wx => v122 = .bool false ∧ Below W12.heap.size W12 wx)
    case first =>
      go_wp2_with (first
        | (refine wpList_load_row rfl 29 (.tmp 15) rfl (w9.heap.size) rfl 29 YX (0, 0) _ ky Try.underlying29 rfl HZY.out ?_)
        | (refine wpList_load_row rfl 29 (.tmp 17) rfl (w11.heap.size) rfl 29 ZX (0, 0) _ k12 Try.underlying29 rfl HZZ.out ?_)
        | fail)
      refine CSY.out.mono ?_
      rintro y w13 ⟨rfl, b13⟩
      have D13 := Lib.hid b13
      clear b13 ky k12
      cases ok
      · obtain rfl : fz = 4 := by rw [HFZ.out]; rfl
        clear HFZ
        go_wp2_with (first
          | (go_at_call 17; refine (num_c _ _).mono ?_; rintro y w14 ⟨rfl, rfl⟩)
          | fail)
        go_meet
        case rel => exact ⟨rfl, D13.out⟩
      · obtain rfl : fz = 0 := by rw [HFZ.out]; rfl
        clear HFZ
        go_wp2_with (first
          | (go_at_call 17; refine (num_c _ _).mono ?_; rintro y w14 ⟨rfl, rfl⟩)
          | fail)
        go_meet
        case rel => exact ⟨rfl, D13.out⟩
    case rest =>
      obtain ⟨rfl, b13⟩ := hcut
      have C13 : Hid (Below w9.heap.size w9 wc) := C12.out.trans (b13.mono C12.out.size)
      have ky3 : wc.heap[w9.heap.size]? = some (.cells YX 29 (0, 0)) := (b13.block _ (Nat.lt_of_lt_of_le Y10.out.2 KY.out.2.size)).trans KY.out.1
      have B13 := Lib.hid (B12.out.trans (b13.mono B12.out.size))
      have RO13 := Lib.hid (RO.out.below (C9.out.trans (C13.out.mono C9.out.size)) (Nat.le_refl _))
      have RB13 := Lib.hid (RB.out wc B13.out)
      have KY3 := Lib.hid ky3
      have FY : Hid (0 < ys.length → ∃ gs N f, Ay = some ⟨gs, 0, none⟩ ∧ w8.heap.size ≤ gs ∧ gs < w9.heap.size ∧ Fill gs 5 N 0 f wc ∧ ys.length ≤ N) := fun hp => by
        obtain ⟨gs, cur, e1, e2, e3, e4, e5⟩ := OY.out hp
        have := congrArg List.length e5
        rw [List.length_take, List.length_map] at this
        exact ⟨gs, cur.size, fun _ => undef, e1, e2, e3, ⟨cur, (C13.out.block _ e3).trans e4, rfl, fun j hj => absurd hj (Nat.not_lt_zero _)⟩, by simp only [Array.length_toList] at this; omega⟩
      have BW : Hid (Below w.heap.size w wc) := B0.out.trans (B13.out.mono B0.out.size)
      clear b13 ky3 ky k12 CSY KY C12 B12 C10 Y10
      have WS : Hid (w.heap.size ≤ w8.heap.size) := Nat.le_trans B0.out.size B8.out.size
      go_upto_block 0 with fail
      refine vts_b0 _ _ _ _ _ _ _ _ _ _ _ _ _ _ _ _ _ _ _ _ _ _ _ _ _ _ _ _ _ _ _ _ _ _ _ _ _ _ _ _ _ _ _ _ _ _ _ _ _ _ _ _ _ _ _ _ _ _ _ _ _ _ _ _ _ _ _ _ _ _ _ _ _ _ _ _ _ _ _ _ _ _ _ _ _ _ _ _ _ _ _ _ _ _ _ _ _ _ _ _ _ _ _ _ _ _ _ _ _ _ _ _ _ _ _ _ _ _ _ _ _ _ _ _ _ _ _ _ _ _ _ _ _ _ _ _ _ _ _ _ _ wc w9.heap.size cy w8.heap.size ys.length YX Ay (Nat.le_trans LS.out (by omega)) KY3.out Y67.out FY.out _ ?_
      rintro t19 t123 t124 t125 t126 t127 t128 t129 t130 t131 t132 t133 w14 b14
      have BW14 := Lib.hid (BW.out.trans (b14.mono WS.out))
      have RO14 := Lib.hid (RO13.out.below b14 (Nat.le_refl _))
      have RB14 := Lib.hid (RB13.out.below b14 WS.out)
      clear b14 KY3 RO13 RB13 BW FY
      go_upto_region 20 with fail
      refine vts_r20 _ _ _ _ _ _ _ _ _ _ _ _ _ _ _ _ _ _ _ _ _ _ _ _ _ _ _ _ _ _ _ _ _ _ _ _ _ _ _ _ _ _ _ _ _ _ _ _ _ _ _ _ _ _ _ _ _ _ _ _ _ _ _ _ _ _ _ _ _ _ _ _ _ _ _ _ _ _ _ _ _ _ _ _ _ _ _ _ _ _ _ _ _ _ _ _ _ _ _ _ _ _ _ _ _ _ _ _ _ _ _ _ _ _ _ _ _ _ _ _ _ _ _ _ _ _ _ _ _ _ _ _ _ _ _ _ _ _ _ _ _ w14 AB g14 c14 cb _ _ _ _ b RO14.out RB14.out LB.out _ ?_
      rintro t134 t135 t136 t137 t138 t139 t140 t141 t142 w15 b15
      go_wp2_with fail
      go_ret
      exact ⟨rfl, BW14.out.trans (b15.mono BW14.out.size)⟩
end Go.Proofs.Ytmebppfbdeokeaa
namespace Go.Proofs.Ytmebppfbdeokeaa
open Go.ChangeShapes Go.WideShapes Go.ChangeAt Go.RowKit
set_option linter.unusedVariables false
set_option maxRecDepth 100000

set_option maxRecDepth 1000000 in
set_option maxHeartbeats 8000000 in
theorem codecVotes_out (n n' : Int) (e1 e2 e1' e2' : Nat) (l1 l2 l1' l2' : List UInt8) (ls ls' lb : Nat) (A A' AB : Option Addr) (c c' cb : Nat) (w : World) (h : 9000 < lb ∨ 9000 < ls ∨ 9000 < ls') :
    Calls Try.prog 3 #[.agg (vtV n e1 l1 e2 l2 (.slice A ls c)), .agg (vtV n' e1' l1' e2' l2' (.slice A' ls' c')), .slice AB lb cb] w fun e w' => e = .returned (.bool true) ∧ Below w.heap.size w w' := by
  obtain ⟨VX, hVX⟩ : ∃ VX, VX = vtV n e1 l1 e2 l2 (.slice A ls c) := ⟨_, rfl⟩
  obtain ⟨OX, hOX⟩ : ∃ OX, OX = vtV n' e1' l1' e2' l2' (.slice A' ls' c') := ⟨_, rfl⟩
  have s67 : VX[67]? = some (.slice A ls c) := by rw [hVX]; exact rowV_at 68 _ 67 (by omega)
  have o67 : OX[67]? = some (.slice A' ls' c') := by rw [hOX]; exact rowV_at 68 _ 67 (by omega)
  rw [← hVX, ← hOX]
  obtain ⟨W, hW⟩ : ∃ W, W = (w.alloc (.cells VX 29)).alloc (.cells OX 29) := ⟨_, rfl⟩
  have b0 : Below w.heap.size w W := by rw [hW]; exact ((Below.refl _ _).alloc (Nat.le_refl _) _).alloc (by simp) _
  have c3 : W.cell? ⟨w.heap.size, 67, none⟩ = some (.slice A ls c) := by rw [cell_of_row W w.heap.size 67 _ _ (0, 0) (by rw [hW]; exact heap_alloc2_old w _ _)]; exact s67
  have c4 : W.cell? ⟨w.heap.size + 1, 67, none⟩ = some (.slice A' ls' c') := by rw [cell_of_row W (w.heap.size + 1) 67 _ _ (0, 0) (by rw [hW]; exact heap_alloc2_new w _ _)]; exact o67
  have HW := Lib.hid hW
  have B0 := Lib.hid b0
  clear hW b0 hVX hOX s67 o67
  by_cases h1 : 9000 < lb
  · clear c3 c4
    have d1 : decide ((lb : Int) > 9000) = true := by simp; omega
    have d1' : decide ((9000 : Int) < (lb : Int)) = true := by simp; omega
    have d1'' : decide (9000 < lb) = true := by simp; omega
    clear h
    go_enter Try.func3, Try.ntmps3
    go_upto_region 1 with fail
    rw [← HW.out]
    go_wp2_with fail
    refine (known_c W).mono ?_
    rintro y w3 ⟨rfl, bk⟩
    go_wp2_with fail
    go_ret
    exact ⟨rfl, B0.out.trans (bk.mono B0.out.size)⟩
  · by_cases h2 : 9000 < ls
    · clear c4
      have d1 : decide ((lb : Int) > 9000) = false := by simp; omega
      have d1' : decide ((9000 : Int) < (lb : Int)) = false := by simp; omega
      have d1'' : decide (9000 < lb) = false := by simp; omega
      have d2 : decide ((ls : Int) > 9000) = true := by simp; omega
      have d2' : decide ((9000 : Int) < (ls : Int)) = true := by simp; omega
      have d2'' : decide (9000 < ls) = true := by simp; omega
      clear h
      go_enter Try.func3, Try.ntmps3
      go_upto_region 1 with fail
      rw [← HW.out]
      go_wp2_with fail
      refine (known_c W).mono ?_
      rintro y w3 ⟨rfl, bk⟩
      go_wp2_with fail
      go_ret
      exact ⟨rfl, B0.out.trans (bk.mono B0.out.size)⟩
    · have h3 : 9000 < ls' := by omega
      have d1 : decide ((lb : Int) > 9000) = false := by simp; omega
      have d1' : decide ((9000 : Int) < (lb : Int)) = false := by simp; omega
      have d1'' : decide (9000 < lb) = false := by simp; omega
      have d2 : decide ((ls : Int) > 9000) = false := by simp; omega
      have d2' : decide ((9000 : Int) < (ls : Int)) = false := by simp; omega
      have d2'' : decide (9000 < ls) = false := by simp; omega
      have d3 : decide ((ls' : Int) > 9000) = true := by simp; omega
      have d3' : decide ((9000 : Int) < (ls' : Int)) = true := by simp; omega
      have d3'' : decide (9000 < ls') = true := by simp; omega
      clear h
      go_enter Try.func3, Try.ntmps3
      go_upto_region 1 with fail
      rw [← HW.out]
      go_wp2_with fail
      refine (known_c W).mono ?_
      rintro y w3 ⟨rfl, bk⟩
      go_wp2_with fail
      go_ret
      exact ⟨rfl, B0.out.trans (bk.mono B0.out.size)⟩
theorem codecVotes_any (n n' : Int) (e1 e2 e1' e2' : Nat) (l1 l2 s l1' l2' s' b : List UInt8) (A A' AB : Option Addr) (c c' cb : Nat) (w : World) (he1 : e1 < 18446744073709551616) (he2 : e2 < 18446744073709551616) (hl1 : l1.length = 32) (hl2 : l2.length = 32) (hl1' : l1'.length = 32) (hl2' : l2'.length = 32) (h : Rd w 0 w.heap.size A s) (h' : Rd w 0 w.heap.size A' s') (hB : Rd w 0 w.heap.size AB b) (hcb : b.length ≤ cb) :
    Calls Try.prog 3 #[.agg (vtV n e1 l1 e2 l2 (.slice A s.length c)), .agg (vtV n' e1' l1' e2' l2' (.slice A' s'.length c')), .slice AB b.length cb] w fun e w' => e = .returned (.bool true) ∧ Below w.heap.size w w' := by
  by_cases hh : 9000 < b.length ∨ 9000 < s.length ∨ 9000 < s'.length
  · exact codecVotes_out n n' e1 e2 e1' e2' l1 l2 l1' l2' _ _ _ A A' AB c c' cb w hh
  · exact codecVotes_main n n' e1 e2 e1' e2' l1 l2 s l1' l2' s' b A A' AB c c' cb w he1 he2 hl1 hl2 hl1' hl2' h h' hB (by omega) (by omega) (by omega) hcb
end Go.Proofs.Ytmebppfbdeokeaa
namespace Go.Proofs.Ytmebppfbdeokeaa
open Go.ChangeShapes Go.WideShapes Go.ChangeAt Go.RowKit
set_option linter.unusedVariables false
set_option maxRecDepth 100000

section
variable {H : Type} {enc : TypeId × Value → H} {W : World}
/-- A slice of bytes' cell, wherever it stands. -/
theorem cells_bytes1 {fuel : Nat} {cs : List Value} {x : DataW H × List MemPlace} (hf : DataW.trod enc Try.prog W 0 (fun _ => true) true fuel 27 cs = some x) :
    ∃ (A : Option Addr) (l : List UInt8) (c : Nat), cs = [.slice A l.length c] ∧ Rd W 0 W.heap.size A l ∧ l.length ≤ c ∧ c ≤ 9223372036854775807 := by
  obtain ⟨d, p⟩ := x
  have hlt : ∀ x ∈ p, x.block < W.heap.size := DataW.trod_lt fuel _ _ _ hf
  rcases open_ints Try.underlying27 Try.underlying5 (by kernel_rfl) hf with ⟨hcs, _⟩ | ⟨x, len, cap, zs, hcs, _, hl, hm, hz, hx, hcell, hwz⟩
  · exact ⟨none, [], 0, hcs, Rd.nil, by simp, by omega⟩
  · simp only [if_true] at hz
    have e : (bytesOf (zs.take len)).length = len := by rw [bytesOf_length, List.length_take]; omega
    refine ⟨some x, bytesOf (zs.take len), cap, by rw [e]; exact hcs, rd_of_ints ?_ (by omega) hcell hwz, by rw [e]; exact hl, hm⟩
    rcases Nat.eq_zero_or_pos len with h0 | h0
    · exact .inr h0
    · left
      have hp : p = MemPlace.row x zs.length := by injection hx
      refine hlt (.cell x.block x.off) ?_
      rw [hp]
      exact List.mem_map.2 ⟨0, List.mem_range.2 (by omega), rfl⟩
/-- A vote's cells, wherever they stand. -/
theorem cells_vt {fuel : Nat} {cs : List Value} {x : DataW H × List MemPlace} (h : DataW.trod enc Try.prog W 0 (fun _ => true) true fuel 29 cs = some x) :
    ∃ (n : Int) (e1 : Nat) (l1 : List UInt8) (e2 : Nat) (l2 : List UInt8) (A : Option Addr) (s : List UInt8) (c : Nat), l1.length = 32 ∧ e1 < 18446744073709551616 ∧ l2.length = 32 ∧ e2 < 18446744073709551616 ∧ Rd W 0 W.heap.size A s ∧ s.length ≤ c ∧ cs = (vtV n e1 l1 e2 l2 (.slice A s.length c)).toList := by
  obtain ⟨xs, m, _, _, hsz, hxl, hi⟩ := DataW.trod_struct Try.underlying29 h
  have c68 : Try.prog.cellsOf 29 = 68 := by kernel_rfl
  have c1 : Try.prog.cellsOf 3 = 1 := by kernel_rfl
  have c33 : Try.prog.cellsOf 26 = 33 := by kernel_rfl
  have cB : Try.prog.cellsOf 27 = 1 := by kernel_rfl
  rw [c68] at hsz
  have h0 : DataW.trod enc Try.prog W 0 (fun _ => true) true m 3 ((cs.drop 0).take (Try.prog.cellsOf 3)) = xs[0]? := hi 0 _ rfl
  have h1 : DataW.trod enc Try.prog W 0 (fun _ => true) true m 26 ((cs.drop 1).take (Try.prog.cellsOf 26)) = xs[1]? := hi 1 _ rfl
  have h2 : DataW.trod enc Try.prog W 0 (fun _ => true) true m 26 ((cs.drop 34).take (Try.prog.cellsOf 26)) = xs[2]? := hi 2 _ rfl
  have h3 : DataW.trod enc Try.prog W 0 (fun _ => true) true m 27 ((cs.drop 67).take (Try.prog.cellsOf 27)) = xs[3]? := hi 3 _ rfl
  have hx2 : xs.length = 4 := hxl
  rw [List.getElem?_eq_getElem (by omega)] at h0 h1 h2 h3
  rw [c1] at h0
  rw [c33] at h1 h2
  rw [cB] at h3
  obtain ⟨a, ea, _, wa⟩ := DataW.trod_int Try.underlying3 h0
  obtain ⟨e1, l1, hl1, he1, p1⟩ := cells_pt h1
  obtain ⟨e2, l2, hl2, he2, p2⟩ := cells_pt h2
  obtain ⟨A, s, c, p3, hr, hc, _⟩ := cells_bytes1 h3
  have e0 : cs[0]? = some (.int .i64 a) := by
    have : ((cs.drop 0).take 1)[0]? = some (.int .i64 a) := by rw [show (cs.drop 0).take 1 = [.int .i64 a] from ea]; rfl
    simpa using this
  have e67 : cs[67]? = some (.slice A s.length c) := by
    have : ((cs.drop 67).take 1)[0]? = some (.slice A s.length c) := by rw [p3]; rfl
    simpa using this
  refine ⟨a, e1, l1, e2, l2, A, s, c, hl1, he1, hl2, he2, hr, hc, ?_⟩
  unfold vtV
  rw [rowV_list]
  apply List.ext_getElem?
  intro i
  by_cases hi68 : i < 68
  · rw [List.getElem?_map, List.getElem?_range hi68]
    show _ = some (vtF a _ _ _ _ _ i)
    unfold vtF
    by_cases i0 : i = 0
    · subst i0
      rw [if_pos rfl, e0]
    · rw [if_neg i0]
      by_cases i34 : i < 34
      · rw [if_pos i34]
        have := congrArg (fun (A : List Value) => A[i - 1]?) p1
        rw [List.getElem?_take, if_pos (by omega), List.getElem?_drop, show 1 + (i - 1) = i by omega] at this
        rw [this]
        unfold ptV
        rw [rowV_list, List.getElem?_map, List.getElem?_range (by omega)]
        rfl
      · rw [if_neg i34]
        by_cases i67 : i < 67
        · rw [if_pos i67]
          have := congrArg (fun (A : List Value) => A[i - 34]?) p2
          rw [List.getElem?_take, if_pos (by omega), List.getElem?_drop, show 34 + (i - 34) = i by omega] at this
          rw [this]
          unfold ptV
          rw [rowV_list, List.getElem?_map, List.getElem?_range (by omega)]
          rfl
        · rw [if_neg i67]
          obtain rfl : i = 67 := by omega
          exact e67
  · rw [List.getElem?_eq_none (by omega), List.getElem?_eq_none (by simp; omega)]
theorem open_vt {base : Nat} {v : Value} {d : DataW H} {p : List MemPlace} (hv : Value.okWide Try.prog W .any base 29 v) (h : DataW.Trod enc Try.prog W 0 (fun _ => true) true 29 v d p) :
    ∃ (n : Int) (e1 : Nat) (l1 : List UInt8) (e2 : Nat) (l2 : List UInt8) (A : Option Addr) (s : List UInt8) (c : Nat), l1.length = 32 ∧ e1 < 18446744073709551616 ∧ l2.length = 32 ∧ e2 < 18446744073709551616 ∧ Rd W 0 W.heap.size A s ∧ s.length ≤ c ∧ v = .agg (vtV n e1 l1 e2 l2 (.slice A s.length c)) := by
  simp only [Value.okWide, Try.underlying29] at hv
  obtain ⟨cs, rfl, hsz, _⟩ := hv
  obtain ⟨fuel, hf⟩ := h
  obtain ⟨n, e1, l1, e2, l2, A, s, c, q1, q2, q3, q4, q5, q6, hcs⟩ := cells_vt hf
  refine ⟨n, e1, l1, e2, l2, A, s, c, q1, q2, q3, q4, q5, q6, congrArg Value.agg ?_⟩
  apply Array.toList_inj.1
  simpa [Value.cells] using hcs
end
end Go.Proofs.Ytmebppfbdeokeaa
namespace Go.Proofs.Ytmebppfbdeokeaa
open Go.ChangeShapes Go.WideShapes Go.ChangeAt Go.RowKit
set_option linter.unusedVariables false

set_option maxRecDepth 100000 in
theorem codecVotes_lifted (os : Os) (started : os.Started) (H : Type) (enc : TypeId × Value → H) :
    ReturnsInHanded {} Try.checked os 3 .any (Rows.codecVotesSpec.pre6 enc Try.prog Try.f3 Rows.codecVotesRow.domain false) (Rows.codecVotesSpec.post enc Try.prog Try.f3 false true false false) := by
  refine returnsInHanded_of_change (C := Try.checked) own_knob started (by kernel_rfl) Try.func3
    (ChangeSpec.witness6 (enc := enc) (C := Try.checked) false ⟨#[], #[.agg (vtV 0 0 [] 0 [] (.slice none 0 0)), .agg (vtV 0 0 [] 0 [] (.slice none 0 0)), .slice none 0 0], []⟩ 8 (by kernel_rfl) (by kernel_rfl) (by kernel_rfl) (by kernel_rfl)) ?_
  intro W base args ds gs before hval0 hW hcnd _
  have hval : ∀ (j : Nat) t v, Try.f3.params[j]? = some t → args[j]? = some v → Value.okWide Try.prog W .any base t v := hval0
  have hW' := hW
  obtain ⟨p, q, hA0, hV, rfl, hfz, hnd⟩ := hW
  have hA : DataW.TrodAll enc Try.prog W 0 (fun _ => true) true Try.f3.params.toList args.toList ds p := hA0
  rw [Try.params3] at hA hval
  obtain ⟨v0, vs0, d0, ds0, p0, q0, hargs, rfl, rfl, h0, s0⟩ := trodAll_cons hA
  obtain ⟨v1, vs1, d1, ds1, p1, q1, rfl, rfl, rfl, h1, s1⟩ := trodAll_cons s0
  obtain ⟨v2, vs2, d2, ds2, p2, q2, rfl, rfl, rfl, h2, s2⟩ := trodAll_cons s1
  obtain ⟨rfl, rfl, rfl⟩ := trodAll_nil s2
  obtain rfl : args = #[v0, v1, v2] := by cases args; simp_all
  obtain ⟨rfl, rfl⟩ := trodVars_none hV
  have k0 := h0
  have lt0 : ∀ x ∈ p0, x.block < W.heap.size := by obtain ⟨m, hm⟩ := k0; exact DataW.trod_lt m _ _ _ hm
  have k1 := h1
  have lt1 : ∀ x ∈ p1, x.block < W.heap.size := by obtain ⟨m, hm⟩ := k1; exact DataW.trod_lt m _ _ _ hm
  have k2 := h2
  have lt2 : ∀ x ∈ p2, x.block < W.heap.size := by obtain ⟨m, hm⟩ := k2; exact DataW.trod_lt m _ _ _ hm
  obtain ⟨n, e1, l1, e2, l2, A, s, c, q1, q2, q3, q4, q5, q6, rfl⟩ := open_vt (hval 0 29 v0 rfl rfl) h0
  obtain ⟨n', e1', l1', e2', l2', A', s', c', r1, r2, r3, r4, r5, r6, rfl⟩ := open_vt (hval 1 29 v1 rfl rfl) h1
  obtain ⟨AB, b, cb, rfl, hr, hc, _⟩ := open_bytes1 (hval 2 27 v2 rfl rfl) h2
  clear hA0 hval0
  refine (codecVotes_any n n' e1 e2 e1' e2' l1 l2 s l1' l2' s' b A A' AB c c' cb W q2 q4 q1 q3 r1 r3 q5 r5 hr hc).mono fun e W' ⟨he, bel⟩ => ?_
  subst he
  exact ⟨_, rfl, _, _, _, [], _, [], hW', trodAll_mk1 (shut_bool Try.underlying4 _), (trodAll_cons_mk (Below.trod laid_out (by kernel_rfl) (of_decide_eq_true (by kernel_rfl)) k0 bel lt0) (trodAll_cons_mk (Below.trod laid_out (by kernel_rfl) (of_decide_eq_true (by kernel_rfl)) k1 bel lt1) (trodAll_cons_mk (Below.trod laid_out (by kernel_rfl) (of_decide_eq_true (by kernel_rfl)) k2 bel lt2) trodAll_mk0))), rfl, bel.frame _, fun h => by cases h⟩

theorem codecVotes_proved : Rows.CodecVotesSaid :=
  OpenClaim.holds_of_wide 3 Try.f3 rfl rfl rfl rfl rfl rfl rfl ⟨rfl, rfl, rfl, rfl, rfl⟩ rfl rfl rfl rfl rfl (by kernel_rfl) Try.func3 (by kernel_rfl)
    (of_decide_eq_true (by kernel_rfl)) (by unfold Func.isWrapper; first | (rw [if_pos (by decide +kernel)]; kernel_rfl) | (rw [if_neg (by decide +kernel)]; exact ⟨rfl, rfl⟩))
    (fun os started H enc _ => codecVotes_lifted os started H enc)
end Go.Proofs.Ytmebppfbdeokeaa
