/- The walk of NamesLengths. -/
import Derived.Test.YtlfmdnnookkdhaaDoorRsSum
import Derived.Test.YtlfmdnnookkdhaaDoorText
namespace Go.Proofs.YtlfmdnnookkdhaaDoor
open Go.ChangeShapes Go.WideShapes Go.ChangeAt Go.RowKit
set_option linter.unusedVariables false

/-- The bytes so far. -/
def lenL (n : Nat) : List UInt8 := (List.range n).map fun j => UInt8.ofNat (7 * j)
theorem lenL_length (n : Nat) : (lenL n).length = n := by simp [lenL]
/-- The 140 cells, n of them laid. -/
def lnF (n : Nat) : Nat → Value := fun j => if j < n then bv (UInt8.ofNat (7 * j)) else .int .u8 0
theorem lnF_put (n : Nat) (v : Value) (hv : v = .int .u8 ((7 * n % 256 : Nat) : Int)) : ∀ j, j < 140 → lnF (n + 1) j = if j = n then v else lnF n j := by
  intro j _
  unfold lnF
  by_cases e : j = n
  · subst e
    rw [if_pos (by omega), if_pos rfl, hv]
    unfold bv
    rw [UInt8.toNat_ofNat']
  · rw [if_neg e]
    by_cases h : j < n
    · rw [if_pos (by omega), if_pos h]
    · rw [if_neg (by omega), if_neg h]
theorem lnF_rd {wr : World} {g n : Nat} (h : Fill g 5 140 140 (lnF n) wr) (hn : n ≤ 140) : Rd wr 0 wr.heap.size (some ⟨g, 0, none⟩) (lenL n) := fun _ => ⟨g, 0, rfl, Nat.zero_le _, h.lt, fun j x hx => by
  have hj : j < n := by
    rcases Nat.lt_or_ge j n with h | h
    · exact h
    · rw [List.getElem?_eq_none (by rw [lenL_length]; exact h)] at hx; cases hx
  rw [Nat.zero_add, h.at_ j (by omega)]
  unfold lnF
  rw [if_pos hj]
  unfold lenL at hx
  rw [List.getElem?_map, List.getElem?_range hj] at hx
  injection hx with hx
  rw [← hx]⟩

set_option maxRecDepth 100000 in
set_option maxHeartbeats 4000000 in
theorem namesLengths_any (w : World) (ht : Tabs w) :
    Calls Tryd.prog 6 #[] w fun e w' => e = .returned (.bool true) ∧ Below w.heap.size w w' := by
  have hz := zero_begun
  have HT : Hid (∀ u : World, Below w.heap.size w u → Tabs u) := fun u hu => ht.below hu ht.2.2.1 ht.2.2.2
  have hmk : ∀ w : World, (Instr.makeSlice 25 (.int .i64 140) (.int .i64 140)).run Tryd.prog w = .ok (.slice (some ⟨w.heap.size, 0, none⟩) 140 140) (w.alloc (.cells (rowV 140 (lnF 0)) 5)) := fun _ => by kernel_rfl
  clear ht
  go_enter Tryd.func6, Tryd.ntmps6
  go_wp2_with fail
  refine (begin_any w).mono ?_
  rintro e w1 ⟨rfl, b1⟩
  go_wp2_with (refine wpList_store_row rfl 36 (.tmp 1) (.tmp 4) rfl w1.heap.size (rowV 72 bgT) rfl rfl 36 (rowV 72 z32) (heap_alloc_new _ _) (begun_size _) (by rw [rowV_size, rowV_size]) (rowV_one 72 _ (fun i => by unfold bgT rv; split <;> rfl)) ?_; rw [World.setRow_alloc_new])
  have hG : Fill (w1.heap.size + 1) 5 140 140 (lnF 0) ((w1.alloc (.cells (rowV 72 bgT) 36)).alloc (.cells (rowV 140 (lnF 0)) 5)) := Fill.of_row (heap_alloc2_new w1 _ _)
  have hP : Fill w1.heap.size 36 72 72 bgT ((w1.alloc (.cells (rowV 72 bgT) 36)).alloc (.cells (rowV 140 (lnF 0)) 5)) := Fill.of_row (heap_alloc2_old w1 _ _)
  have b2 : Below w.heap.size w ((w1.alloc (.cells (rowV 72 bgT) 36)).alloc (.cells (rowV 140 (lnF 0)) 5)) := (b1.alloc b1.size _).alloc (by simp; have := b1.size; omega) _
  have q1 : w1.heap.size < w1.heap.size + 1 := by omega
  have q0 : w.heap.size ≤ w1.heap.size := b1.size
  clear b1 hz hmk
  generalize (w1.alloc (.cells (rowV 72 bgT) 36)).alloc (.cells (rowV 140 (lnF 0)) 5) = W2 at *
  generalize w1.heap.size + 1 = gb at *
  generalize w1.heap.size = pt at *
  obtain ⟨cs, hcs⟩ : ∃ cs, cs = (List.range 72).map bgT := ⟨_, rfl⟩
  have HCS := Lib.hid hcs
  have hu36 := Tryd.underlying36
  have hi36 : (Tryd.prog.info? 36).map (·.size) = some cs.length := by rw [hcs, List.length_map, List.length_range]; exact size_begun
  clear hcs
  go_loopw [3] (fun v wr => ∃ n : Nat, n ≤ 140 ∧ v = .int .i64 n ∧ Fill gb 5 140 140 (lnF n) wr ∧ Fill pt 36 72 72 bgT wr ∧ Below w.heap.size w wr) (fun v _ => 140 - (intOf v).toNat)
  case atStart => exact ⟨0, by omega, rfl, hG, hP, b2⟩
  case round =>
    obtain ⟨n, hn, rfl, hG, hP, hb⟩ := hrel
    clear b2
    by_cases hlt : n < 140
    · have hd : decide ((n : Int) < 140) = true := by simp; omega
      have hrd := lnF_rd hG (by omega)
      have hgw := hG.lt
      have hpw := hP.lt
      have HR : Hid (∀ u : World, Below wr.heap.size wr u → u.rangeAt pt 0 cs) := fun u hu j v hv => by
        rw [HCS.out, List.getElem?_map] at hv
        rcases Nat.lt_or_ge j 72 with h | h
        · rw [List.getElem?_range h] at hv
          rw [Nat.zero_add]
          exact ((hP.below hu hpw).at_ j h).trans hv
        · rw [List.getElem?_eq_none (by simpa using h)] at hv; cases hv
      have bd := (Below.refl wr.heap.size wr).drew
      have ba := bd.alloc (show wr.heap.size ≤ wr.drew.heap.size from Nat.le_refl _) (.cells #[.slice (some ⟨gb, 0, none⟩) n 140] 25)
      have k0 := HR.out _ bd
      have k1 := HR.out _ ba
      have HS1 := Lib.hid (sum1 (some ⟨gb, 0, none⟩) 140 n (lenL n) wr.drew (lenL_length n).symm hrd (by rw [lenL_length]; omega) (by rw [lenL_length]; omega) (HT.out _ hb.drew))
      have HS2 : Hid (∀ u : World, Below wr.heap.size wr u → Calls Tryd.prog 14 #[.agg cs.toArray, .slice (some ⟨gb, 0, none⟩) n 140] u fun e w' => e = .returned (.agg (hashV (shaL (lenL n)))) ∧ Below wr.heap.size wr w') := fun u hu => by
        have h := begunSum_any (some ⟨gb, 0, none⟩) 140 0 (lenL n) u ((hrd.below hu (Nat.le_refl _)).wide (Nat.le_refl _) hu.size) (by rw [lenL_length]; omega)
        rw [lenL_length] at h
        rw [HCS.out]
        exact h.mono fun e w' ⟨he, hb⟩ => ⟨he, hu.trans (hb.mono hu.size)⟩
      have ge : ∀ u, (Op.equalIn 10000 28 (.agg (hashV (shaL (lenL n)))) (.agg (hashV (shaL (lenL n))))).run Tryd.prog u = .ok true u := fun u => by rw [eq_hash _ _ (shaL_length _) (shaL_length _) u]; simp
      have n140 : (n : Int) ≤ 140 := by omega
      clear hrd
      generalize hashV (shaL (lenL n)) = HV at *
      go_wp2_with fail
      refine wp_region_noPanic ?_
      refine wp_region_held_drew (S := fun u => u.rangeAt pt 0 cs) (by kernel_rfl) k0 (fun hHeld => ?_)
      refine wpAnyH_take (i := 0) (oi := _) (v := .slice (some ⟨gb, 0, none⟩) 140 140) rfl (by kernel_rfl) (by kernel_rfl) (by kernel_rfl) (fun _ _ _ h => h) (Or.inl ⟨by rfl, by intro w hSw; go_simp⟩) hHeld ?_
      refine wpAnyH_take (i := 1) (oi := _) (v := .int .i64 (n : Int)) rfl (by kernel_rfl) (by kernel_rfl) (by kernel_rfl) (fun _ _ _ h => h) (Or.inl ⟨by rfl, by intro w hSw; go_simp⟩) hHeld ?_
      refine wpAnyH_take (i := 2) (oi := _) (v := .slice (some ⟨gb, 0, none⟩) n 140) rfl (by kernel_rfl) (by kernel_rfl) (by kernel_rfl) (fun _ _ _ h => h) (Or.inl ⟨by rfl, by intro w hSw; go_simp⟩) hHeld ?_
      refine wpAnyH_take (i := 6) (oi := _) (v := .slice (some ⟨gb, 0, none⟩) 140 140) rfl (by kernel_rfl) (by kernel_rfl) (by kernel_rfl) (fun _ _ _ h => h) (Or.inl ⟨by rfl, by intro w hSw; go_simp⟩) hHeld ?_
      refine wpAnyH_take (i := 7) (oi := _) (v := .int .i64 (n : Int)) rfl (by kernel_rfl) (by kernel_rfl) (by kernel_rfl) (fun _ _ _ h => h) (Or.inl ⟨by rfl, by intro w hSw; go_simp⟩) hHeld ?_
      refine wpAnyH_take (i := 8) (oi := _) (v := .slice (some ⟨gb, 0, none⟩) n 140) rfl (by kernel_rfl) (by kernel_rfl) (by kernel_rfl) (fun _ _ _ h => h) (Or.inl ⟨by rfl, by intro w hSw; go_simp⟩) hHeld ?_
      refine wpAnyH_take (i := 5) (oi := _) (v := .agg cs.toArray) rfl (by kernel_rfl) (by kernel_rfl) (by kernel_rfl) (fun _ _ _ h => h) (yieldsIf_load_mid (by rfl) _ _ rfl pt 0 rfl cs _ (fun w h => h) hu36 rfl hi36) hHeld ?_
      refine wpAnyH_ready (rs := [3]) (by kernel_rfl) (by simp) ?_
      refine AllReadyH.cons (o := _) rfl (fun K hK => ?_) AllReadyH.nil
      go_simp
      refine hK.out _ _ k1 (fun hHeld => ?_)
      clear hK K
      refine wpAnyH_ready (rs := [4]) (by kernel_rfl) (by simp) ?_
      refine AllReadyH.cons (o := _) rfl (fun K hK => ?_) AllReadyH.nil
      go_simp
      go_at_call 12
      refine HS1.out.mono ?_
      rintro e w5 ⟨rfl, b5⟩
      have B5 := Lib.hid (bd.trans b5)
      clear b5
      go_simp
      refine hK.out _ _ (HR.out _ B5.out) (fun hHeld => ?_)
      clear hK K
      refine wpAnyH_ready (rs := [9]) (by kernel_rfl) (by simp) ?_
      refine AllReadyH.cons (o := _) rfl (fun K hK => ?_) AllReadyH.nil
      go_simp
      go_at_call 14
      refine (HS2.out _ B5.out).mono ?_
      rintro e w6 ⟨rfl, b6⟩
      go_simp
      refine hK.out _ _ (HR.out _ b6) (fun hHeld => ?_)
      clear hK K
      refine wpAnyH_ready (rs := [10]) (by kernel_rfl) (by simp) ?_
      refine AllReadyH.cons (o := _) rfl (fun K hK => ?_) AllReadyH.nil
      go_simp
      refine hK.out _ _ (HR.out _ b6) (fun hHeld => ?_)
      clear hK K
      refine wpAnyH_done (by kernel_rfl) ?_ _
      refine NoPanic.normal ?_
      have hb6 := hb.trans (b6.mono hb.size)
      have hG6 := hG.below b6 hgw
      have hP6 := hP.below b6 hpw
      obtain ⟨u0, hu0, hf0⟩ := hG6.cell n hlt
      clear k0 k1 bd ba B5 b6 hb hG hP hHeld HS1 HS2 HR
      go_wp2_with fail
      exact ⟨⟨n + 1, by omega, by go_num, hG6.put hlt (lnF_put n _ rfl), hP6.keep (heap_setCell_other _ _ _ _ (by simp; omega)), hb6.setCell (by simp; omega) _⟩, by simp [intOf]; omega⟩
    · obtain rfl : n = 140 := by omega
      go_wp2_with fail
      refine (known_any wr (HT.out wr hb)).mono ?_
      rintro e w6 ⟨rfl, b6⟩
      go_wp2_with fail
      go_ret
      exact ⟨rfl, hb.trans (b6.mono hb.size)⟩
end Go.Proofs.YtlfmdnnookkdhaaDoor
