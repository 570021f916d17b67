/- The reference: a step's text; half of a hash. -/
import Derived.Test.YtgdiffjobkfmoaaDoorRRRsSum
import Derived.Test.YtgdiffjobkfmoaaDoorRRWoSum
namespace Go.Proofs.YtgdiffjobkfmoaaDoorRR
open Go.ChangeShapes Go.WideShapes Go.ChangeAt Go.RowKit
set_option linter.unusedVariables false

theorem byte_of (n : Nat) (h : n < 256) : Value.int .u8 (n : Int) = bv (UInt8.ofNat n) := by
  unfold bv
  rw [UInt8.toNat_ofNat']
  congr 2
  omega
/-- Bytes in a slice of the call's own. -/
def OwnB (w : World) (l : List UInt8) (e : Ending) (w' : World) : Prop := ∃ v, e = .returned v ∧ Below w.heap.size w w' ∧ w'.ownsRow w.heap.size 5 1 v l.length (l.map bv)
set_option maxHeartbeats 4000000 in
theorem refStepText_c (x : List UInt8) (hx : x.length = 16) (i k : Nat) (hi : i < 256) (hk : k < 256) (w : World) :
    Calls Tryd.prog 29 #[.agg (rowV 16 (hF x)), .int .i64 (i : Int), .int .i64 (k : Int)] w (OwnB w ([87, UInt8.ofNat i, UInt8.ofNat k] ++ x)) := by
  have q1 : (i : Int) < 256 := by omega
  have q2 : (k : Int) < 256 := by omega
  obtain ⟨i0, hi0, hy0, hy1, hy2⟩ := info_parts byte_info
  obtain ⟨W, hW⟩ : ∃ W, W = w.alloc (.cells (rowV 16 (hF x)) 23) := ⟨_, rfl⟩
  have hb : Below w.heap.size w W := by rw [hW]; exact (Below.refl _ _).alloc (Nat.le_refl _) _
  have hsz : W.heap.size = w.heap.size + 1 := by rw [hW]; simp
  have f0 : Fill w.heap.size 23 16 16 (hF x) W := by rw [hW]; exact Fill.of_row (heap_alloc_new w _)
  have hbl := (Below.refl W.heap.size W).alloc (Nat.le_refl _) (.cells #[.int .u8 87, .int .u8 (i : Int), .int .u8 (k : Int)] 5)
  have hszl : (W.alloc (.cells #[.int .u8 87, .int .u8 (i : Int), .int .u8 (k : Int)] 5)).heap.size = W.heap.size + 1 := heap_sz _ _
  have hown : (W.alloc (.cells #[.int .u8 87, .int .u8 (i : Int), .int .u8 (k : Int)] 5)).ownsRow w.heap.size 5 1 (.slice (some ⟨W.heap.size, 0, none⟩) 3 3) 3 [.int .u8 87, .int .u8 (i : Int), .int .u8 (k : Int)] := World.ownsRow_lit W #[.int .u8 87, .int .u8 (i : Int), .int .u8 (k : Int)] 3 (by omega) (by simp only [maxLen]; omega) rfl
  have hsrc : ∀ j u, (x.map bv)[j]? = some u → (W.alloc (.cells #[.int .u8 87, .int .u8 (i : Int), .int .u8 (k : Int)] 5)).cell? ((⟨w.heap.size, 0, none⟩ : Addr).add j) = some u := fun j u hu => by
    have hj : j < 16 := by rw [← hx, ← List.length_map (f := bv)]; exact (List.getElem?_eq_some_iff.1 hu).1
    rw [Addr.add_mid, Nat.zero_add, (f0.below hbl f0.lt).at_ j hj, ← hF_at _ j (by omega)]
    exact hu
  obtain ⟨T, hT⟩ : ∃ T, T = [87, UInt8.ofNat i, UInt8.ofNat k] ++ x := ⟨_, rfl⟩
  have HLIT := Lib.hid (show [Value.int .u8 87, .int .u8 (i : Int), .int .u8 (k : Int)] ++ x.map bv = T.map bv by rw [hT, List.map_append, byte_of i hi, byte_of k hk]; rfl)
  have HLEN := Lib.hid (show T.length = 19 by rw [hT]; simp [hx])
  rw [← hT]
  clear hT
  have HW := Lib.hid hW
  have HB := Lib.hid (hb.trans (hbl.mono (by omega)))
  have HO := Lib.hid hown
  have HSR := Lib.hid hsrc
  have HX := Lib.hid hx
  clear hW hb f0 hbl hown hsrc hx
  unfold OwnB
  go_enter Tryd.func29, Tryd.ntmps29
  go_wp2_with (first
    | (rw [← HW.out]; refine wpList_append_own _ rfl (.tmp 11) (.tmp 12) _ rfl w.heap.size 5 i0 _ 1 1 Tryd.underlying28 hi0 hy0 hy1 hy2 rfl (by decide) (.slice (some ⟨W.heap.size, 0, none⟩) 3 3) _ _ (by rw [hsz]; rfl) HO.out ⟨w.heap.size, 0, none⟩ 16 16 (x.map bv) rfl (by rw [List.length_map, HX.out]) HSR.out (bv_one x) (by unfold maxLen; omega) (by omega) (by omega) ?_; intro v1 w5 hown1 hg1 _; have HO1 := Lib.hid hown1; have HG := Lib.hid hg1; clear hown1 hg1)
    | fail)
  go_ret
  refine ⟨_, rfl, HB.out.grown HG.out (by omega) (fun g hg => (HO.out.lt g hg).1), ?_⟩
  rw [HLEN.out, ← HLIT.out]
  exact HO1.out
set_option maxHeartbeats 4000000 in
theorem half_c (A : Option Addr) (c lo : Nat) (l : List UInt8) (w : World) (hr : Rd w lo w.heap.size A l) (hl : l.length < 1000000000) :
    Calls Tryd.prog 28 #[.agg (rowV 72 bgT), .slice A l.length c] w fun e w' => e = .returned (.agg (rowV 16 (hF ((shaL l).take 16)))) ∧ Below w.heap.size w w' := by
  have hz16 := zero_node
  have hz32 := zero_hash
  obtain ⟨W, hW⟩ : ∃ W, W = (w.alloc (.cells (rowV 72 bgT) 59)).alloc (.cells (rowV 16 z0) 23) := ⟨_, rfl⟩
  have hb : Below w.heap.size w W := by rw [hW]; exact ((Below.refl _ _).alloc (Nat.le_refl _) _).alloc (by simp) _
  have hsz : W.heap.size = w.heap.size + 2 := by rw [hW]; simp
  have h0 : W.heap[w.heap.size]? = some (.cells (rowV 72 bgT) 59 (0, 0)) := by
    rw [hW, heap_lt _ _ (by simp)]
    exact heap_alloc_new w _
  have f1 : Fill (w.heap.size + 1) 23 16 16 z0 W := by
    rw [hW]
    exact Fill.of_row (by have := heap_alloc_new (w.alloc (.cells (rowV 72 bgT) 59)) (.cells (rowV 16 z0) 23); simpa using this)
  have hs := begunSum_any A c lo l W ((hr.below hb (Nat.le_refl _)).wide (Nat.le_refl _) (by omega)) hl
  have HW := Lib.hid hW
  have HB := Lib.hid hb
  have H1 := Lib.hid f1
  have HS := Lib.hid hs
  rw [hW] at h0
  obtain ⟨y, hy⟩ : ∃ y, y = shaL l := ⟨_, rfl⟩
  rw [← hy] at HS ⊢
  clear hW hb f1 hs hy hr
  unfold hashV at HS
  go_enter Tryd.func28, Tryd.ntmps28
  go_wp2_with (first
    | (refine wpList_load_row rfl 59 (.tmp 2) rfl w.heap.size rfl 59 (rowV 72 bgT) (0, 0) _ h0 Tryd.underlying59 rfl (begun_size _) ?_)
    | fail)
  rw [← HW.out]
  refine HS.out.mono ?_
  rintro e w3 ⟨rfl, hb3⟩
  have HB3 := Lib.hid hb3
  have hs3 := hb3.size
  have hba := (Below.refl w3.heap.size w3).alloc (Nat.le_refl _) (.cells (rowV 32 z8) 27)
  have hr4 : ((w3.alloc (.cells (rowV 32 z8) 27)).setRow w3.heap.size (rowV 32 (hF y))).heap[w3.heap.size]? = some (.cells (rowV 32 (hF y)) 27 (0, 0)) := setRow_heap _ _ _ _ _ _ (heap_alloc_new w3 _)
  have hb4 := below_setRow hba (Nat.le_refl _) (rowV 32 (hF y))
  have hz4 : ((w3.alloc (.cells (rowV 32 z8) 27)).setRow w3.heap.size (rowV 32 (hF y))).heap.size = w3.heap.size + 1 := by simp [World.setRow]
  obtain ⟨w4, hw4⟩ : ∃ w4, w4 = (w3.alloc (.cells (rowV 32 z8) 27)).setRow w3.heap.size (rowV 32 (hF y)) := ⟨_, rfl⟩
  have HW4 := Lib.hid hw4
  rw [← hw4] at hr4 hb4 hz4
  have hb5 := (Below.refl w4.heap.size w4).alloc (Nat.le_refl _) (.cells (rowV 16 z0) 23)
  obtain ⟨w5, hw5⟩ : ∃ w5, w5 = w4.alloc (.cells (rowV 16 z0) 23) := ⟨_, rfl⟩
  have HW5 := Lib.hid hw5
  rw [← hw5] at hb5
  have f4 : Fill w3.heap.size 27 32 32 (hF y) w5 := (Fill.of_row hr4).below hb5 (by omega)
  have f5 : Fill (w3.heap.size + 1) 23 16 0 (hF (y.take 16)) w5 := by
    rw [hw5]
    have := heap_alloc_new w4 (.cells (rowV 16 z0) 23)
    rw [hz4] at this
    exact ⟨_, this, rowV_size _ _, fun j hj => absurd hj (by omega)⟩
  have HB5 := Lib.hid ((HB3.out.trans (hb4.mono (by omega))).trans (hb5.mono (by omega)))
  have hz5 : w5.heap.size = w4.heap.size + 1 := by rw [hw5]; simp
  have HF4 := Lib.hid f4
  have HF5 := Lib.hid f5
  clear hb3 hba hr4 hb4 hw4 hb5 hw5 f4 f5 h0
  go_wp2_with (first
    | (refine wpList_store_row rfl 27 (.tmp 5) (.tmp 10) rfl w3.heap.size (rowV 32 (hF y)) rfl rfl 27 (rowV 32 z8) (heap_alloc_new w3 _) (size_hashVW _) (by rw [rowV_size, rowV_size]) (rowV_one 32 _ (fun i => rfl)) ?_; rw [← HW4.out])
    | fail)
  rw [← HW5.out]
  go_loopw [7] (fun v wr => ∃ k : Nat, k ≤ 16 ∧ v = .int .i64 (k : Int) ∧ Fill (w3.heap.size + 1) 23 16 k (hF (y.take 16)) wr ∧ Below (w3.heap.size + 1) w5 wr) (fun v _ => 16 - (intOf v).toNat)
  case atStart => exact ⟨0, Nat.zero_le _, rfl, HF5.out, Below.refl _ _⟩
  case round =>
    obtain ⟨k, hk, rfl, hn, hbw⟩ := hrel
    have hsw := hbw.size
    by_cases hlt : k < 16
    · have q1 : (k : Int) < 16 := by omega
      have q2 : (k : Int) < 32 := by omega
      have q3 : k < 32 := by omega
      have hc := (HF4.out.below hbw (by omega)).at_ k (by omega)
      obtain ⟨u0, hu0, hf0⟩ := hn.cell k hlt
      have HAT := Lib.hid (show hF (y.take 16) k = hF y k by unfold hF; rw [List.getD_eq_getElem?_getD, List.getElem?_take, if_pos hlt, ← List.getD_eq_getElem?_getD])
      have HN := Lib.hid hn
      have HBW := Lib.hid hbw
      have hv : hF y k = .int .u8 ((y.getD k 0).toNat : Int) := rfl
      rw [hv] at hc
      have HV := Lib.hid hv
      generalize (y.getD k 0).toNat = z at *
      clear hn hbw hv
      go_wp2_with fail
      exact ⟨⟨k + 1, by omega, by go_num, HN.out.step hlt (by rw [HAT.out, HV.out]), HBW.out.setCell (Nat.le_refl _) _⟩, by simp [intOf]; omega⟩
    · obtain rfl : k = 16 := by omega
      have h6 := hn.done
      have h7 := (H1.out.below (HB5.out.trans (hbw.mono (by omega))) (by omega)).done
      have HBW := Lib.hid (HB5.out.trans (hbw.mono (by omega)))
      clear hn hbw
      go_wp2_with (first
        | (refine wpList_load_row rfl 23 (.tmp 6) rfl (w3.heap.size + 1) rfl 23 (rowV 16 (hF (y.take 16))) (0, 0) _ h6 Tryd.underlying23 rfl (size_nodeV _) ?_)
        | (refine wpList_store_row rfl 23 (.tmp 4) (.tmp 20) rfl (w.heap.size + 1) (rowV 16 (hF (y.take 16))) rfl rfl 23 (rowV 16 z0) h7 (size_nodeV _) (by rw [rowV_size, rowV_size]) (rowV_one 16 _ (fun i => rfl)) ?_)
        | fail)
      exact bodyPost_ret (v := .agg (rowV 16 (hF (y.take 16)))) (results_cell_row rfl _ _ (w.heap.size + 1) 23 (rowV 16 (hF (y.take 16))) (0, 0) _ rfl (setRow_heap _ _ _ _ _ _ h7) Tryd.underlying23 rfl (size_nodeV _)) rfl ⟨rfl, below_setRow (HB.out.trans (HBW.out.mono (by omega))) (by omega) _⟩
end Go.Proofs.YtgdiffjobkfmoaaDoorRR
