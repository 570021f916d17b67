/- Contracts: Start, Constant, Sum. -/
import Derived.Test.YthjeanjodhafjaaDoorEnd
import Derived.Test.YthjeanjodhafjaaDoorPieces
namespace Go.Proofs.YthjeanjodhafjaaDoor
open Go.ChangeShapes Go.WideShapes Go.ChangeAt Go.RowKit
set_option linter.unusedVariables false

def startV (i : Int) : Nat := if 0 ≤ i then hN i.toNat else 0
def constV (i : Int) : Nat := if 0 ≤ i then kN i.toNat else 0
theorem startV_nat (i : Nat) : startV (i : Int) = hN i := by unfold startV; rw [if_pos (by omega), Int.toNat_natCast]
theorem constV_nat (i : Nat) : constV (i : Int) = kN i := by unfold constV; rw [if_pos (by omega), Int.toNat_natCast]
theorem hN_big (t : Nat) (h : 8 ≤ t) : hN t = 0 := by
  unfold hN
  rw [List.getD_eq_getElem?_getD, List.getElem?_eq_none h]
  rfl
theorem kN_big (t : Nat) (h : 64 ≤ t) : kN t = 0 := by
  unfold kN
  rw [List.getD_eq_getElem?_getD, List.getElem?_eq_none h]
  rfl
set_option maxHeartbeats 400000 in
theorem start_any (i : Int) (w : World) (ht : Tabs w) :
    Calls Tryd.prog 36 #[.int .i64 i] w fun e w' => e = .returned (rv (startV i)) ∧ w = w' := by
  by_cases h0 : i < 0
  · have d0 : decide (i < 0) = true := by simpa using h0
    have HS := Lib.hid (show startV i = 0 by unfold startV; rw [if_neg (by omega)])
    go_enter Tryd.func36, Tryd.ntmps36
    go_wp2
    go_ret
    exact ⟨ret_rv (by rw [HS.out]; rfl), rfl⟩
  · obtain ⟨k, rfl⟩ := Int.eq_ofNat_of_zero_le (by omega : 0 ≤ i)
    have d0 : decide ((k : Int) < 0) = false := by simp
    rw [startV_nat]
    by_cases h8 : 8 ≤ k
    · have HS := Lib.hid (hN_big k h8)
      have d1 : decide ((8 : Int) ≤ (k : Int)) = true := by simp; omega
      go_enter Tryd.func36, Tryd.ntmps36
      go_wp2
      go_ret
      exact ⟨ret_rv (by rw [HS.out]; rfl), rfl⟩
    · have hc := ht.1 k (by omega)
      have d1 : decide ((8 : Int) ≤ (k : Int)) = false := by simp; omega
      unfold rv at hc
      generalize hN k = v at *
      go_enter Tryd.func36, Tryd.ntmps36
      go_wp2
      go_ret
      exact ⟨rfl, rfl⟩

/-- A hash as a value. -/
def hF (l : List UInt8) : Nat → Value := fun j => bv (l.getD j 0)
def hashV (l : List UInt8) : Array Value := rowV 32 (hF l)
theorem outS_at (s : St) (i : Nat) (h : i < 32) : (outS s).getD i 0 = byteAt (s.at (i / 4)) (3 - i % 4) := by
  match i, h with
  | 0, _ => rfl
  | 1, _ => rfl
  | 2, _ => rfl
  | 3, _ => rfl
  | 4, _ => rfl
  | 5, _ => rfl
  | 6, _ => rfl
  | 7, _ => rfl
  | 8, _ => rfl
  | 9, _ => rfl
  | 10, _ => rfl
  | 11, _ => rfl
  | 12, _ => rfl
  | 13, _ => rfl
  | 14, _ => rfl
  | 15, _ => rfl
  | 16, _ => rfl
  | 17, _ => rfl
  | 18, _ => rfl
  | 19, _ => rfl
  | 20, _ => rfl
  | 21, _ => rfl
  | 22, _ => rfl
  | 23, _ => rfl
  | 24, _ => rfl
  | 25, _ => rfl
  | 26, _ => rfl
  | 27, _ => rfl
  | 28, _ => rfl
  | 29, _ => rfl
  | 30, _ => rfl
  | 31, _ => rfl
  | n + 32, h => exact absurd h (by omega)
/-- A message that is begun. -/
def mF (i : Nat) : Nat → Value := fun j => if j < i then rv (hN j) else if j < 8 then .int .u32 0 else if j < 72 then .int .u8 0 else .int .u64 0
theorem zero_msg (u : World) : (zeroValue 69).run Tryd.prog u = .ok (.agg (rowV 73 (mF 0))) u := by kernel_rfl
theorem zero_hash (u : World) : (zeroValue 25).run Tryd.prog u = .ok (.agg (rowV 32 z8)) u := by kernel_rfl
theorem size_hash : (Tryd.prog.info? 25).map (·.size) = some 32 := by kernel_rfl
theorem mF_put (i : Nat) (v : Value) (hv : v = rv (hN i)) : ∀ j, j < 73 → mF (i + 1) j = if j = i then v else mF i j := by
  intro j _
  unfold mF
  by_cases e : j = i
  · subst e
    rw [if_pos (by omega), if_pos rfl, hv]
  · rw [if_neg e]
    by_cases h : j < i
    · rw [if_pos (by omega), if_pos h]
    · rw [if_neg (by omega), if_neg h]
theorem msg_begun {w : World} {m : Nat} (h : Fill m 69 73 73 (mF 8) w) : MsgOf w m [] := by
  obtain ⟨cur, h1, h2, h3⟩ := h
  refine ⟨cur, h1, h2, fun j hj => ?_, fun j hj => absurd hj (by simp [wtL_nil]), ?_⟩
  · rw [h3 j (by omega)]
    unfold mF
    rw [if_pos hj]
    match j, hj with
    | 0, _ => rfl
    | 1, _ => rfl
    | 2, _ => rfl
    | 3, _ => rfl
    | 4, _ => rfl
    | 5, _ => rfl
    | 6, _ => rfl
    | 7, _ => rfl
  · rw [h3 72 (by omega)]
    rfl

theorem flat_take_le (L : List Pc) (k : Nat) : (flat (L.take k)).length ≤ (flat L).length := by
  have : flat L = flat (L.take k) ++ flat (L.drop k) := by
    unfold flat
    rw [← List.flatten_append, ← List.map_append, List.take_append_drop]
  rw [this, List.length_append]
  omega

set_option maxRecDepth 100000 in
set_option maxHeartbeats 4000000 in
theorem sum_any (A : Option Addr) (c : Nat) (L : List Pc) (w : World) (hR : RdL w w.heap.size A L) (hL : L.length ≤ 9223372036854775807) (hcap : ∀ x ∈ L, x.2.2.length ≤ x.2.1) (hl : (flat L).length < 1000000000) (ht : Tabs w) :
    Calls Tryd.prog 28 #[.slice A L.length c] w fun e w' => e = .returned (.agg (hashV (shaL (flat L)))) ∧ Below w.heap.size w w' := by
  have hz := zero_msg
  have hz2 := zero_hash
  go_enter Tryd.func28, Tryd.ntmps28
  go_wp2_with fail
  have q1 : w.heap.size < w.heap.size + 1 := by omega
  have hm0 : Fill (w.heap.size + 1) 69 73 73 (mF 0) ((w.alloc (.cells (rowV 32 z8) 25)).alloc (.cells (rowV 73 (mF 0)) 69)) := Fill.of_row (heap_alloc2_new w _ _)
  have hr0 : Fill w.heap.size 25 32 32 z8 ((w.alloc (.cells (rowV 32 z8) 25)).alloc (.cells (rowV 73 (mF 0)) 69)) := Fill.of_row (heap_alloc2_old w _ _)
  have hb0 : Below w.heap.size w ((w.alloc (.cells (rowV 32 z8) 25)).alloc (.cells (rowV 73 (mF 0)) 69)) := ((Below.refl _ _).alloc (Nat.le_refl _) _).alloc (by simp) _
  generalize (w.alloc (.cells (rowV 32 z8) 25)).alloc (.cells (rowV 73 (mF 0)) 69) = w0 at *
  generalize w.heap.size + 1 = m at *
  clear hz
  go_loopw [10] (fun v wr => ∃ i : Nat, i ≤ 8 ∧ v = .int .i64 i ∧ Fill m 69 73 73 (mF i) wr ∧ Fill w.heap.size 25 32 32 z8 wr ∧ Below w.heap.size w wr) (fun v _ => 8 - (intOf v).toNat)
  case atStart => exact ⟨0, by omega, rfl, hm0, hr0, hb0⟩
  case round =>
    obtain ⟨i, hi, rfl, hF1, hr1, hb1⟩ := hrel
    clear hm0 hr0 hb0
    by_cases hlt : i < 8
    · have HS := Lib.hid (start_any (i : Int) wr (ht.below hb1 ht.2.2.1 ht.2.2.2))
      rw [startV_nat] at HS
      obtain ⟨u0, hu0, hf0⟩ := hF1.cell i (by omega)
      have HP := Lib.hid (mF_put i _ rfl)
      unfold rv at HP
      generalize hN i = v at *
      go_wp2_with fail
      refine HS.out.mono ?_
      unfold rv
      rintro e w1 ⟨rfl, rfl⟩
      go_wp2_with fail
      refine ⟨⟨i + 1, by omega, by go_num, hF1.put (by omega) HP.out, hr1.keep (heap_setCell_other _ _ _ _ (by simp; omega)), hb1.setCell (by simp; omega) _⟩, by simp [intOf]; omega⟩
    · obtain rfl : i = 8 := by omega
      have hM1 := msg_begun hF1
      clear hF1
      go_wp2_with fail
      go_loopw [21] (fun v wr => ∃ k : Nat, k ≤ L.length ∧ v = .int .i64 k ∧ MsgOf wr m (flat (L.take k)) ∧ Fill w.heap.size 25 32 32 z8 wr ∧ Below w.heap.size w wr) (fun v _ => L.length - (intOf v).toNat)
      case atStart => exact ⟨0, by omega, rfl, hM1, hr1, hb1⟩
      case round =>
        obtain ⟨k, hk, rfl, hM2, hr2, hb2⟩ := hrel
        clear hM1 hr1 hb1
        by_cases hlt2 : k < L.length
        · have hR2 := hR.below hb2 (Nat.le_refl _)
          obtain ⟨b, off, rfl, hbs, hc, hr⟩ := hR2.at_ hlt2
          have hsz := hM2.lt
          have hfl : (flat (L.take (k + 1))).length ≤ (flat L).length := flat_take_le L (k + 1)
          have HT := Lib.hid (take_any m (flat (L.take k)) L[k].1 L[k].2.1 L[k].2.2 wr hM2 (hr.wide (Nat.le_refl _) (Nat.le_of_lt (by omega))) (fun b' off' e hn => by obtain ⟨b2, off2, e2, _, h2, _⟩ := hr hn; rw [e2] at e; injection e with e; injection e with e; omega) (hcap _ (List.getElem_mem hlt2)) (by rw [flat_take L k hlt2, List.length_append] at hfl; omega) (ht.below hb2 ht.2.2.1 ht.2.2.2) (by have := ht.2.2; omega))
          rw [← flat_take L k hlt2] at HT
          clear hR2
          go_wp2_with fail
          refine HT.out.mono ?_
          rintro e w1 ⟨rfl, hM3, hg3⟩
          have hr3 : Fill w.heap.size 25 32 32 z8 w1 := hr2.keep (hg3.block _ (by omega) (by simp; omega))
          have hb3 := hb2.grown hg3 (by omega) (fun g e => by injection e with e; omega)
          clear hg3 HT hM2 hr2 hb2
          go_wp2_with fail
          exact ⟨⟨_, _, _, _, _, _, _, _, ⟨k + 1, by omega, by go_num, hM3, hr3, hb3⟩, rfl⟩, by simp [intOf]; omega⟩
        · obtain rfl : k = L.length := by omega
          rw [List.take_length] at hM2
          have hsz := hM2.lt
          have HE := Lib.hid (end_any m (flat L) wr hM2 (by omega) (ht.below hb2 ht.2.2.1 ht.2.2.2) (by have := ht.2.2; omega))
          go_wp2_with fail
          refine HE.out.mono ?_
          rintro e w1 ⟨rfl, hM3, hg3⟩
          have hr3 : Fill w.heap.size 25 32 32 z8 w1 := hr2.keep (hg3.block _ (by omega) (by simp; omega))
          have hb3 := hb2.grown hg3 (by omega) (fun g e => by injection e with e; omega)
          clear hg3 HE hM2 hr2 hb2
          go_wp2_with fail
          have hsz3 := hM3.lt
          obtain ⟨S, hS⟩ : ∃ S, S = stL (flat L ++ tailL (flat L).length) := ⟨_, rfl⟩
          have h8 : ∀ j, j < 8 → w1.cell? ⟨m, j, none⟩ = some (rv (S.at j)) := fun j hj => by rw [hS]; exact hM3.eight j hj
          have hSok : S.ok := by rw [hS]; exact stL_ok _
          have HS := Lib.hid (show shaL (flat L) = outS S by rw [hS]; rfl)
          have H8 := Lib.hid h8
          have hg0 : Fill w1.heap.size 25 32 0 (hF (outS S)) (w1.alloc (.cells (rowV 32 z8) 25)) := ⟨_, heap_alloc_new _ _, rowV_size 32 z8, fun j hj => absurd hj (by omega)⟩
          have hbg : Below w1.heap.size w1 (w1.alloc (.cells (rowV 32 z8) 25)) := (Below.refl _ _).alloc (Nat.le_refl _) _
          clear hM3 hS h8 hz2
          go_loopw [29] (fun v wr => ∃ i : Nat, i ≤ 32 ∧ v = .int .i64 i ∧ Fill w1.heap.size 25 32 i (hF (outS S)) wr ∧ Below w1.heap.size w1 wr) (fun v _ => 32 - (intOf v).toNat)
          case atStart => exact ⟨0, by omega, rfl, hg0, hbg⟩
          case round =>
            clear hg0 hbg
            obtain ⟨i, hi, rfl, hg, hbg⟩ := hrel
            by_cases hlt3 : i < 32
            · have hc := (hbg.cell (p := ⟨m, i / 4, none⟩) hsz3).trans (H8.out (i / 4) (by omega))
              have HV := Lib.hid (show hF (outS S) i = .int .u8 ((S.at (i / 4) / 256 ^ (3 - i % 4) % 256 : Nat) : Int) by unfold hF; rw [outS_at S i hlt3, byte_val])
              obtain ⟨u0, hu0, hf0⟩ := hg.cell i hlt3
              unfold rv at hc
              generalize S.at (i / 4) = v at *
              go_wp2_with fail
              rw [byte_shift]
              exact ⟨⟨i + 1, by omega, by go_num, hg.step hlt3 HV.out.symm, hbg.setCell (by simp) _⟩, by simp [intOf]; omega⟩
            · obtain rfl : i = 32 := by omega
              have h1 := hg.done
              have hr4 := Fill.below hr3 hbg (by omega)
              have h2 := hr4.done
              rw [← HS.out] at h1
              have hbw : Below w.heap.size w wr := hb3.trans (hbg.mono (by omega))
              go_wp2_with (first | (refine wpList_load_row rfl 25 (.tmp 7) rfl w1.heap.size rfl 25 (hashV (shaL (flat L))) (0, 0) _ h1 Tryd.underlying25 rfl (by unfold hashV; rw [rowV_size]; exact size_hash) ?_) | (refine wpList_store_row rfl 25 (.tmp 2) (.tmp 47) rfl w.heap.size (hashV (shaL (flat L))) rfl rfl 25 (rowV 32 z8) h2 (by unfold hashV; rw [rowV_size]; exact size_hash) (by unfold hashV; rw [rowV_size, rowV_size]) (rowV_one 32 _ (fun i => rfl)) ?_))
              exact bodyPost_ret (v := .agg (hashV (shaL (flat L)))) (results_cell_row rfl _ _ w.heap.size 25 (hashV (shaL (flat L))) (0, 0) _ rfl (setRow_heap _ _ _ _ _ _ h2) Tryd.underlying25 rfl (by unfold hashV; rw [rowV_size]; exact size_hash)) rfl ⟨rfl, below_setRow hbw (Nat.le_refl _) _⟩
end Go.Proofs.YthjeanjodhafjaaDoor
