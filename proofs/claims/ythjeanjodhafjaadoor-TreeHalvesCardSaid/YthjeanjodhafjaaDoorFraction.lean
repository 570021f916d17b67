/- Contract: the reference's fraction. -/
import Derived.Test.YthjeanjodhafjaaDoorPrimes
import Derived.Deep.WholeRow
namespace Go.Proofs.YthjeanjodhafjaaDoor
open Go.ChangeShapes Go.WideShapes Go.ChangeAt Go.RowKit
set_option linter.unusedVariables false

theorem root_le (p pw : Nat) : ∀ k, k ≤ 38 → rootTo p pw k + 2 ^ (38 - k) ≤ 2 ^ 38 := by
  intro k
  induction k with
  | zero => intro _; rw [show rootTo p pw 0 = 0 from rfl, Nat.zero_add, Nat.sub_zero]; exact Nat.le_refl _
  | succ k ih =>
    intro hk
    have h := ih (by omega)
    rw [show 38 - k = (37 - k) + 1 by omega, Nat.pow_succ] at h
    rw [show 38 - (k + 1) = 37 - k by omega, rootTo]
    split <;> omega
theorem root_step (p pw m : Nat) (h : m < 38) : rootTo p pw (38 - m) = if (rootTo p pw (38 - (m + 1)) + 2 ^ m) ^ pw ≤ p * 65536 ^ (2 * pw) then rootTo p pw (38 - (m + 1)) + 2 ^ m else rootTo p pw (38 - (m + 1)) := by
  rw [show 38 - m = (37 - m) + 1 by omega, rootTo, show 38 - (m + 1) = 37 - m by omega, show 37 - (37 - m) = m by omega]
theorem root_lt (p pw m : Nat) (h : m < 38) : rootTo p pw (38 - (m + 1)) + 2 ^ m < 274877906944 := by
  have := root_le p pw (38 - (m + 1)) (by omega)
  rw [show 38 - (38 - (m + 1)) = m + 1 by omega, Nat.pow_succ] at this
  have h2 := Nat.two_pow_pos m
  have h3 : (2 : Nat) ^ 38 = 274877906944 := by decide
  omega
/-- The bound: the prime, four or six digits up. -/
def mostF (p pw : Nat) : Nat → Nat := setD (fun _ => 0) (2 * pw) p
theorem mostF_lt (p pw : Nat) (hp : p < 65536) : ∀ j, mostF p pw j < 65536 := setD_lt _ _ _ (fun _ => by omega) hp
theorem mostF_val (p pw : Nat) (h : 2 * pw < 12) : val (mostF p pw) 12 = p * 65536 ^ (2 * pw) := by
  have := val_set (fun _ => 0) (2 * pw) p 12
  rw [if_pos h, if_pos h, val_zero, Nat.zero_mul] at this
  unfold mostF
  omega
theorem mostF_put (p pw : Nat) (v : Value) (hv : v = .int .u64 (p : Int)) : ∀ j, j < 12 → wv (mostF p pw) j = if j = 2 * pw then v else zw j := by
  intro j _
  unfold wv mostF setD zw
  by_cases e : j = 2 * pw
  · rw [if_pos e, if_pos e, hv]
  · rw [if_neg e, if_neg e]
    rfl
theorem pow_small (x i pw : Nat) (hx : x < 274877906944) (hi : i ≤ pw) (hp : pw ≤ 3) : x ^ i < 65536 ^ 12 := by
  have h1 : x ^ i ≤ 274877906944 ^ i := Nat.pow_le_pow_left (by omega) i
  have h2 : 274877906944 ^ i ≤ 274877906944 ^ 3 := Nat.pow_le_pow_right (by omega) (by omega)
  have h3 : 274877906944 ^ 3 < 65536 ^ 12 := by decide
  omega

theorem most_row (p pw : Nat) (h : 2 * pw < 12) : (rowV 12 zw).setIfInBounds (2 * pw) (.int .u64 (p : Int)) = rowV 12 (wv (mostF p pw)) := by
  apply Array.ext_getElem?
  intro j
  rw [Array.getElem?_setIfInBounds, rowV_size]
  by_cases hj : j < 12
  · rw [rowV_at 12 _ j hj, rowV_at 12 _ j hj, mostF_put p pw _ rfl j hj]
    by_cases e : 2 * pw = j
    · rw [if_pos e, if_pos h, if_pos e.symm]
    · rw [if_neg e, if_neg (fun h => e h.symm)]
  · rw [if_neg (by omega), Array.getElem?_eq_none (by rw [rowV_size]; omega), Array.getElem?_eq_none (by rw [rowV_size]; omega)]

theorem setRow_alloc2_new (w : World) (o : Obj) (c c' : Array Value) (t : TypeId) : ((w.alloc o).alloc (.cells c t)).setRow (w.heap.size + 1) c' = (w.alloc o).alloc (.cells c' t) := by
  have := World.setRow_alloc_new (w.alloc o) c c' t
  rwa [heap_sz] at this
theorem wrap_two (m : Nat) (h : m < 64) : IntKind.u64.wrap ((2 : Int) ^ m) = ((2 ^ m : Nat) : Int) := by
  have h2 : 2 ^ m < 2 ^ 64 := Nat.pow_lt_pow_right (by omega) h
  have h3 : (2 : Nat) ^ 64 = 18446744073709551616 := by decide
  have e : (2 : Int) ^ m = ((2 ^ m : Nat) : Int) := by simp
  rw [e]
  generalize 2 ^ m = q at *
  exact u64_in _ (by omega) (by omega)

set_option maxRecDepth 100000 in
set_option maxHeartbeats 2000000 in
theorem fraction_any (p pw : Nat) (w : World) (hp : p < 65536) (h2 : 2 ≤ pw) (h3 : pw ≤ 3) :
    Calls Tryd.prog 31 #[.int .u64 (p : Int), .int .i64 (pw : Int)] w fun e w' => e = .returned (rv (fracN p pw)) ∧ Below w.heap.size w w' := by
  have hz := zero_wide
  go_enter Tryd.func31, Tryd.ntmps31
  have hg0 : Fill w.heap.size 73 12 12 zw (w.alloc (.cells (rowV 12 zw) 73)) := Fill.of_row (heap_alloc_new w _)
  have b0 : Below w.heap.size w (w.alloc (.cells (rowV 12 zw) 73)) := (Below.refl _ _).alloc (Nat.le_refl _) _
  obtain ⟨u0, hu0, hf0⟩ := hg0.cell (2 * pw) (by omega)
  have i0 : (pw : Int) * 2 < 12 := by omega
  go_wp2_with fail
  rw [most_row p pw (by omega)]
  have g0 : Fill w.heap.size 73 12 12 (wv (mostF p pw)) (w.alloc (.cells (rowV 12 (wv (mostF p pw))) 73)) := Fill.of_row (heap_alloc_new w _)
  have b1 : Below w.heap.size w (w.alloc (.cells (rowV 12 (wv (mostF p pw))) 73)) := (Below.refl _ _).alloc (Nat.le_refl _) _
  have HM := Lib.hid (mostF_lt p pw hp)
  have HV := Lib.hid (mostF_val p pw (by omega))
  clear hg0 b0 hu0 hf0 i0
  generalize w.alloc (.cells (rowV 12 (wv (mostF p pw))) 73) = W at *
  generalize mostF p pw = mf at *
  go_loopw [6, 7] (fun r b wr => ∃ m : Nat, m ≤ 38 ∧ b = .int .i64 ((m : Int) - 1) ∧ r = .int .u64 ((rootTo p pw (38 - m) : Nat) : Int) ∧ Fill w.heap.size 73 12 12 (wv mf) wr ∧ Below w.heap.size w wr) (fun _ b _ => (intOf b + 1).toNat)
  case atStart => exact ⟨38, by omega, rfl, rfl, g0, b1⟩
  case round =>
    obtain ⟨m, hm, rfl, rfl, hF, hb⟩ := hrel
    clear g0 b1
    rcases m with _ | m
    · go_wp2_with fail
      go_ret
      exact ⟨rfl, hb⟩
    · rw [show ((m + 1 : Nat) : Int) - 1 = (m : Int) by omega]
      have hlt := root_lt p pw m (by omega)
      have HS := Lib.hid (root_step p pw m (by omega))
      have hq : 2 ^ m ≤ 137438953472 := Nat.le_trans (Nat.pow_le_pow_right (by omega) (show m ≤ 37 by omega)) (by decide)
      have HWQ := Lib.hid (wrap_two m (by omega))
      generalize rootTo p pw (38 - (m + 1)) = r at *
      generalize 2 ^ m = q at *
      have HWR := Lib.hid (show IntKind.u64.wrap ((r : Int) + (q : Int)) = ((r + q : Nat) : Int) by rw [u64_in _ (by omega) (by omega)]; simp)
      go_wp2_with fail
      rw [HWQ.out, HWR.out]
      obtain ⟨x, hx⟩ : ∃ x, x = r + q := ⟨_, rfl⟩
      rw [← hx] at HS hlt ⊢
      have HX := Lib.hid hx
      clear hx
      refine (digits_any x wr (by omega)).mono ?_
      rintro e w1 ⟨rfl, hb1⟩
      have HD1 := Lib.hid (dgs_lt x)
      have HD2 := Lib.hid (show val (dgs x) 12 = x by rw [val_dgs, Nat.mod_eq_of_lt]; have := pow_small x 1 pw hlt (by omega) h3; rwa [Nat.pow_one] at this)
      generalize dgs x = dx at *
      have hF1 := hF.below hb1 hF.lt
      have hb2 := hb.trans (hb1.mono hb.size)
      clear hF hb hb1
      go_wp2_with (first | (refine wpList_store_row rfl 73 (.tmp 8) (.tmp 24) rfl w1.heap.size (rowV 12 (wv dx)) rfl rfl 73 (rowV 12 zw) (heap_alloc_new _ _) (wide_size _) (by rw [rowV_size, rowV_size]) (rowV_one 12 _ (fun i => rfl)) ?_; rw [World.setRow_alloc_new]) | (refine wpList_load_row rfl 73 (.tmp 8) rfl w1.heap.size rfl 73 (rowV 12 (wv dx)) (0, 0) _ (heap_alloc_new _ _) Tryd.underlying73 rfl (wide_size _) ?_) | (refine wpList_store_row rfl 73 (.tmp 9) (.tmp 25) rfl (w1.heap.size + 1) (rowV 12 (wv dx)) rfl rfl 73 (rowV 12 zw) (heap_alloc2_new w1 _ _) (wide_size _) (by rw [rowV_size, rowV_size]) (rowV_one 12 _ (fun i => rfl)) ?_; rw [setRow_alloc2_new]))
      have gx : Fill w1.heap.size 73 12 12 (wv dx) (w1.alloc (.cells (rowV 12 (wv dx)) 73)) := Fill.of_row (heap_alloc_new _ _)
      have hF2 := hF1.below ((Below.refl w1.heap.size w1).alloc (Nat.le_refl _) (.cells (rowV 12 (wv dx)) 73)) hF1.lt
      have hb3 := hb2.alloc hb2.size (.cells (rowV 12 (wv dx)) 73)
      have hs1 := hb2.size
      clear hF1 hb2
      rw [← heap_sz w1 (.cells (rowV 12 (wv dx)) 73)]
      generalize w1.alloc (.cells (rowV 12 (wv dx)) 73) = w2 at *
      generalize w1.heap.size = px at *
      have gy : Fill w2.heap.size 73 12 12 (wv dx) (w2.alloc (.cells (rowV 12 (wv dx)) 73)) := Fill.of_row (heap_alloc_new _ _)
      have ba := (Below.refl w2.heap.size w2).alloc (Nat.le_refl _) (.cells (rowV 12 (wv dx)) 73)
      have hF3 := hF2.below ba hF2.lt
      have gx2 := gx.below ba gx.lt
      have hpx := gx.lt
      have hmw := hF2.lt
      have hb4 := hb3.trans (ba.mono hb3.size)
      have hs3 := hb3.size
      clear hF2 gx hb3 ba
      generalize w2.alloc (.cells (rowV 12 (wv dx)) 73) = w3 at *
      generalize w2.heap.size = py at *
      go_loopw [10] (fun v wr => ∃ (i : Nat) (h : Nat → Nat), 1 ≤ i ∧ i ≤ pw ∧ v = .int .i64 i ∧ Fill py 73 12 12 (wv h) wr ∧ Hid (∀ j, h j < 65536) ∧ Hid (val h 12 = x ^ i) ∧ Below py w3 wr) (fun v _ => pw - (intOf v).toNat)
      case atStart => exact ⟨1, dx, by omega, by omega, rfl, gy, HD1.out, HD2.out.trans (Nat.pow_one x).symm, Below.refl _ _⟩
      case round =>
        clear gy
        obtain ⟨i, h, hi1, hi2, rfl, hy, HB, HV2, hbw⟩ := hrel
        have gx3 := gx2.below hbw hpx
        have hF4 := hF3.below hbw hmw
        have gyd := hy.done
        by_cases hlt2 : i < pw
        · have gxd := gx3.done
          have HT := Lib.hid (times_any h dx wr HB.out HD1.out (by rw [HV2.out, HD2.out, ← Nat.pow_succ]; exact pow_small x (i + 1) pw hlt (by omega) h3))
          go_wp2_with (first | (refine wpList_load_row rfl 73 (.tmp 9) rfl py rfl 73 (rowV 12 (wv h)) (0, 0) _ gyd Tryd.underlying73 rfl (wide_size _) ?_) | (refine wpList_load_row rfl 73 (.tmp 8) rfl px rfl 73 (rowV 12 (wv dx)) (0, 0) _ gxd Tryd.underlying73 rfl (wide_size _) ?_))
          refine HT.out.mono ?_
          rintro e w4 ⟨h', rfl, HB', HV', hb5⟩
          have hy5 := hy.below hb5 hy.lt
          have gyd5 := hy5.done
          have hb6 := hbw.trans (hb5.mono (Nat.le_of_lt hy.lt))
          go_wp2_with (refine wpList_store_row rfl 73 (.tmp 9) (.tmp 33) rfl py (rowV 12 (wv h')) rfl rfl 73 (rowV 12 (wv h)) gyd5 (wide_size _) (by rw [rowV_size, rowV_size]) (rowV_one 12 _ (fun i => rfl)) ?_)
          exact ⟨⟨i + 1, h', by omega, by omega, by go_num, Fill.of_row (setRow_heap _ _ _ _ _ _ gyd5), HB', (show val h' 12 = x ^ (i + 1) by rw [HV', HV2.out, HD2.out, ← Nat.pow_succ]), below_setRow hb6 (Nat.le_refl _) _⟩, by simp [intOf]; omega⟩
        · obtain rfl : i = pw := by omega
          have gmd := hF4.done
          have HA := Lib.hid (above_any h mf wr HB.out HM.out)
          rw [HV2.out, HV.out] at HA
          have hbq := hb4.trans (hbw.mono hs3)
          by_cases hc : x ^ i ≤ p * 65536 ^ (2 * i)
          · have d1 : decide (p * 65536 ^ (2 * i) < x ^ i) = false := by simpa using hc
            rw [d1] at HA
            rw [if_pos hc] at HS
            clear d1 hc
            go_wp2_with (first | (refine wpList_load_row rfl 73 (.tmp 9) rfl py rfl 73 (rowV 12 (wv h)) (0, 0) _ gyd Tryd.underlying73 rfl (wide_size _) ?_) | (refine wpList_load_row rfl 73 (.tmp 5) rfl w.heap.size rfl 73 (rowV 12 (wv mf)) (0, 0) _ gmd Tryd.underlying73 rfl (wide_size _) ?_))
            refine HA.out.mono ?_
            rintro e w4 ⟨rfl, hb5⟩
            have hF5 := hF4.below hb5 hF4.lt
            have hbz := hbq.trans (hb5.mono hbq.size)
            go_wp2_with fail
            rw [HWQ.out, HWR.out]
            exact ⟨⟨m, by omega, rfl, by rw [HS.out, HX.out], hF5, hbz⟩, by simp [intOf]⟩
          · have d1 : decide (p * 65536 ^ (2 * i) < x ^ i) = true := by simp; omega
            rw [d1] at HA
            rw [if_neg hc] at HS
            clear d1 hc
            go_wp2_with (first | (refine wpList_load_row rfl 73 (.tmp 9) rfl py rfl 73 (rowV 12 (wv h)) (0, 0) _ gyd Tryd.underlying73 rfl (wide_size _) ?_) | (refine wpList_load_row rfl 73 (.tmp 5) rfl w.heap.size rfl 73 (rowV 12 (wv mf)) (0, 0) _ gmd Tryd.underlying73 rfl (wide_size _) ?_))
            refine HA.out.mono ?_
            rintro e w4 ⟨rfl, hb5⟩
            have hF5 := hF4.below hb5 hF4.lt
            have hbz := hbq.trans (hb5.mono hbq.size)
            go_wp2_with fail
            exact ⟨⟨m, by omega, rfl, by rw [HS.out], hF5, hbz⟩, by simp [intOf]⟩
end Go.Proofs.YthjeanjodhafjaaDoor
