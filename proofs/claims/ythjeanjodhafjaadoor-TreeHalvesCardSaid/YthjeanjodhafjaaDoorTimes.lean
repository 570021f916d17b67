/- Contract: the reference's times. -/
import Derived.Test.YthjeanjodhafjaaDoorRoot
import Derived.Test.YthjeanjodhafjaaDoorRefGet
namespace Go.Proofs.YthjeanjodhafjaaDoor
open Go.ChangeShapes Go.WideShapes Go.ChangeAt Go.RowKit
set_option linter.unusedVariables false

theorem val_zero (n : Nat) : val (fun _ => 0) n = 0 := by
  induction n with
  | zero => rfl
  | succ n ih => rw [val, ih, Nat.zero_mul]
/-- What times answers: digits of the product. -/
def TimesP (f g : Nat → Nat) (w : World) (e : Ending) (w' : World) : Prop := ∃ h : Nat → Nat, e = .returned (.agg (rowV 12 (wv h))) ∧ (∀ j, h j < 65536) ∧ val h 12 = val f 12 * val g 12 ∧ Below w.heap.size w w'
theorem wv_set (h : Nat → Nat) (m d : Nat) (v : Value) (hv : v = .int .u64 (d : Int)) : ∀ j, j < 12 → wv (setD h m d) j = if j = m then v else wv h j := by
  intro j _
  unfold wv setD
  by_cases e : j = m
  · rw [if_pos e, if_pos e, hv]
  · rw [if_neg e, if_neg e]

set_option maxRecDepth 100000 in
set_option maxHeartbeats 600000 in
theorem times_any (f g : Nat → Nat) (w : World) (hf : ∀ j, f j < 65536) (hg : ∀ j, g j < 65536) (hp : val f 12 * val g 12 < 65536 ^ 12) :
    Calls Tryd.prog 40 #[.agg (rowV 12 (wv f)), .agg (rowV 12 (wv g))] w (TimesP f g w) := by
  have hz := zero_wide
  have HPP := Lib.hid hp
  have HFF := Lib.hid hf
  have HGG := Lib.hid hg
  clear hp hf hg
  go_enter Tryd.func40, Tryd.ntmps40
  go_wp2_with fail
  obtain ⟨a1, a2, a3, a4⟩ := heap4 w (.cells (rowV 12 (wv f)) 73) (.cells (rowV 12 (wv g)) 73) (.cells (rowV 12 zw) 73) (.cells (rowV 12 zw) 73)
  have b0 : Below w.heap.size w ((((w.alloc (.cells (rowV 12 (wv f)) 73)).alloc (.cells (rowV 12 (wv g)) 73)).alloc (.cells (rowV 12 zw) 73)).alloc (.cells (rowV 12 zw) 73)) := ((((Below.refl _ _).alloc (Nat.le_refl _) _).alloc (by simp) _).alloc (by simp; omega) _).alloc (by simp; omega) _
  generalize (((w.alloc (.cells (rowV 12 (wv f)) 73)).alloc (.cells (rowV 12 (wv g)) 73)).alloc (.cells (rowV 12 zw) 73)).alloc (.cells (rowV 12 zw) 73) = W at *
  have g0 : Fill w.heap.size 73 12 12 (wv f) W := Fill.of_row a1
  have g1 : Fill (w.heap.size + 1) 73 12 12 (wv g) W := Fill.of_row a2
  have g2 : Fill (w.heap.size + 1 + 1) 73 12 12 zw W := Fill.of_row a3
  have g3 : Fill (w.heap.size + 1 + 1 + 1) 73 12 12 zw W := Fill.of_row a4
  have q1 : w.heap.size < w.heap.size + 1 := by omega
  have q2 : w.heap.size + 1 < w.heap.size + 1 + 1 := by omega
  have q3 : w.heap.size + 1 + 1 < w.heap.size + 1 + 1 + 1 := by omega
  clear a1 a2 a3 a4 hz
  generalize w.heap.size + 1 + 1 + 1 = p3 at *
  generalize w.heap.size + 1 + 1 = p2 at *
  generalize w.heap.size + 1 = p1 at *
  go_loopw [6] (fun v wr => ∃ (i : Nat) (h : Nat → Nat), i ≤ 12 ∧ v = .int .i64 i ∧ Fill p3 73 12 12 (wv h) wr ∧ Hid (∀ j, h j < 65536) ∧ Hid (val h 12 = val f i * val g 12) ∧ Below p3 W wr) (fun v _ => 12 - (intOf v).toNat)
  case atStart => exact ⟨0, fun _ => 0, by omega, rfl, g3, fun _ => Nat.zero_lt_succ _, (val_zero 12).trans (Nat.zero_mul _).symm, Below.refl _ _⟩
  case round =>
    obtain ⟨i, h, hi, rfl, hF1, HB, HV, hbw⟩ := hrel
    clear g3
    by_cases hlt : i < 12
    · go_wp2_with fail
      obtain ⟨wo, rfl⟩ : ∃ wo : World, wo = wr := ⟨_, rfl⟩
      have HV0 : Hid (val h 12 + 0 * 65536 ^ (i + 0) = val f i * val g 12 + f i * 65536 ^ i * val g 0) := by
        show val h 12 + 0 * 65536 ^ (i + 0) = val f i * val g 12 + f i * 65536 ^ i * 0
        rw [HV.out, Nat.zero_mul, Nat.mul_zero]
      go_loopw [7, 8] (fun vc vk wr => ∃ (k c : Nat) (h : Nat → Nat), i + k ≤ 12 ∧ vk = .int .i64 k ∧ vc = .int .u64 c ∧ c < 65536 ∧ Fill p3 73 12 12 (wv h) wr ∧ Hid (∀ j, h j < 65536) ∧ Hid (val h 12 + c * 65536 ^ (i + k) = val f i * val g 12 + f i * 65536 ^ i * val g k) ∧ Below p3 W wr) (fun _ vk _ => 12 - (intOf vk).toNat)
      case atStart => exact ⟨0, 0, h, by omega, rfl, rfl, by omega, hF1, HB, HV0.out, hbw⟩
      case round =>
        clear hF1 HB HV hbw
        obtain ⟨k, c, h, hik, rfl, rfl, hc, hF1, HB, HI, hbw⟩ := hrel
        by_cases hlt2 : i + k < 12
        · have c0 := (g0.below hbw (by omega)).at_ i hlt
          have c1 := (g1.below hbw (by omega)).at_ k (by omega)
          have c2 := hF1.at_ (i + k) hlt2
          have hfz := hF1.frozen (i + k)
          have l0 := HFF.out i
          have l1 := HGG.out k
          have l2 := HB.out (i + k)
          have HS := Lib.hid (fun s hs => times_step f g h (val f i * val g 12) i k c s hlt2 hs HI.out)
          unfold wv at c0 c1 c2
          have hm : f i * g k ≤ 4294836225 := Nat.mul_le_mul (show f i ≤ 65535 by omega) (show g k ≤ 65535 by omega)
          generalize h (i + k) = z at c2 l2 HS
          have HSS := Lib.hid (HS.out (z + f i * g k + c) rfl)
          generalize f i = x at c0 l0 hm HSS
          generalize g k = y at c1 l1 hm HSS
          clear HS
          have HMC := Lib.hid (show (x : Int) * (y : Int) = ((x * y : Nat) : Int) by simp)
          have m1 : (0 : Int) ≤ (x : Int) * (y : Int) := by rw [HMC.out]; omega
          have m2 : (x : Int) * (y : Int) ≤ 4294836225 := by rw [HMC.out]; omega
          clear hm
          have i1 : (i : Int) < 12 := by omega
          have i2 : (k : Int) < 12 := by omega
          have i3 : (i : Int) + (k : Int) < 12 := by omega
          go_wp2_with fail
          have wA : IntKind.i64.wrap ((i : Int) + (k : Int)) = (i : Int) + (k : Int) := IntWalk.i64_in _ (by omega)
          have wC : IntKind.u64.wrap ((x : Int) * (y : Int)) = (x : Int) * (y : Int) := u64_in _ m1 (by omega)
          have wD : IntKind.u64.wrap ((z : Int) + (x : Int) * (y : Int)) = (z : Int) + (x : Int) * (y : Int) := u64_in _ (by omega) (by omega)
          have wE : IntKind.u64.wrap ((z : Int) + (x : Int) * (y : Int) + (c : Int)) = (z : Int) + (x : Int) * (y : Int) + (c : Int) := u64_in _ (by omega) (by omega)
          go_quiet (fail)
          clear wA wC wD wE
          go_wp2_with fail
          obtain ⟨S, hS⟩ : ∃ S, S = z + x * y + c := ⟨_, rfl⟩
          have hSi : (z : Int) + (x : Int) * (y : Int) + (c : Int) = (S : Int) := by rw [HMC.out, hS]; omega
          have hSb : S ≤ 4294967295 := by have := m2; rw [HMC.out] at this; omega
          rw [hSi]
          rw [← hS] at HSS
          refine ⟨⟨k + 1, S / 65536, setD h (i + k) (S % 65536), by omega, by go_num, rfl, by omega, Fill.put (wr := wr.drewN nq) hF1 hlt2 (wv_set h (i + k) (S % 65536) _ rfl), setD_lt h _ _ HB.out (by omega), HSS.out, (below_drewN hbw nq).setCell (by simp) _⟩, by simp [intOf]; omega⟩
        · obtain rfl : k = 12 - i := by omega
          have HT := Lib.hid (times_row f g i (val h 12) c hlt (val_lt h 12 (fun j _ => HB.out j)) HPP.out (by have := HI.out; rwa [show i + (12 - i) = 12 by omega] at this))
          have d1 : ¬ ((i : Int) + ((12 - i : Nat) : Int) < 12) := by omega
          have d2 : (i : Int) + ((12 - i : Nat) : Int) = 12 := by omega
          go_wp2_with fail
          exact ⟨⟨i + 1, h, by omega, by go_num, hF1, HB, HT.out, hbw⟩, by simp [intOf]; omega⟩
    · obtain rfl : i = 12 := by omega
      have h1 := hF1.done
      have h2 := (g2.below hbw q3).done
      have hb3 := b0.trans (hbw.mono (by omega))
      go_wp2_with (first | (refine wpList_load_row rfl 73 (.tmp 5) rfl p3 rfl 73 (rowV 12 (wv h)) (0, 0) _ h1 Tryd.underlying73 rfl (wide_size _) ?_) | (refine wpList_store_row rfl 73 (.tmp 4) (.tmp 43) rfl p2 (rowV 12 (wv h)) rfl rfl 73 (rowV 12 zw) h2 (wide_size _) (by rw [rowV_size, rowV_size]) (rowV_one 12 _ (fun i => rfl)) ?_))
      exact bodyPost_ret (v := .agg (rowV 12 (wv h))) (results_cell_row rfl _ _ p2 73 (rowV 12 (wv h)) (0, 0) _ rfl (setRow_heap _ _ _ _ _ _ h2) Tryd.underlying73 rfl (wide_size _)) rfl ⟨h, rfl, HB.out, HV.out, below_setRow hb3 (by omega) _⟩
end Go.Proofs.YthjeanjodhafjaaDoor
