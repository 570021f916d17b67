/- Contract: the words of the block that waits. -/
import Derived.Test.YthjeanjodhafjaaDoorRowKit
namespace Go.Proofs.YthjeanjodhafjaaDoor
open Go.ChangeShapes Go.WideShapes Go.ChangeAt Go.RowKit
set_option linter.unusedVariables false

/-- A message at block m: the eight, the bytes that wait, how many came. -/
def Msg (w : World) (m : Nat) (s : St) (l : List UInt8) (n : Nat) : Prop :=
  ∃ cur, w.heap[m]? = some (.cells cur 69 (0, 0)) ∧ cur.size = 73 ∧ (∀ j, j < 8 → cur[j]? = some (rv (s.at j))) ∧ (∀ j, j < l.length → cur[8 + j]? = some (bv (l.getD j 0))) ∧ cur[72]? = some (.int .u64 (n : Int))
theorem Msg.lt {w : World} {m : Nat} {s : St} {l : List UInt8} {n : Nat} (h : Msg w m s l n) : m < w.heap.size := by
  obtain ⟨cur, h1, _⟩ := h
  rcases Nat.lt_or_ge m w.heap.size with h | h
  · exact h
  · rw [Array.getElem?_eq_none h] at h1; cases h1
theorem Msg.keep {w w' : World} {m : Nat} {s : St} {l : List UInt8} {n : Nat} (h : Msg w m s l n) (e : w'.heap[m]? = w.heap[m]?) : Msg w' m s l n := by
  obtain ⟨cur, h1, h2⟩ := h
  exact ⟨cur, e.trans h1, h2⟩
theorem Msg.below {w w' : World} {B m : Nat} {s : St} {l : List UInt8} {n : Nat} (h : Msg w m s l n) (hb : Below B w w') (hm : m < B) : Msg w' m s l n := h.keep (hb.block m hm)
theorem Msg.waits {w : World} {m : Nat} {s : St} {l : List UInt8} {n : Nat} (h : Msg w m s l n) (j : Nat) (hj : j < l.length) : w.cell? ⟨m, 8 + j, none⟩ = some (bv (l.getD j 0)) := by
  obtain ⟨cur, h1, h2, h3, h4, h5⟩ := h
  rw [cell_of_row w m (8 + j) cur _ (0, 0) h1]
  exact h4 j hj

def zW (b : List UInt8) (i k : Nat) : Nat → Value := fun j => if j < i then rv (wd b j) else if j = i then rv k else .int .u32 0
/-- The beginning of a word. -/
def wdTo (l : List UInt8) (i : Nat) : Nat → Nat
  | 0 => 0
  | k + 1 => wdTo l i k * 256 + (l.getD (4 * i + k) 0).toNat
theorem wdTo_four (l : List UInt8) (i : Nat) : wdTo l i 4 = wd l i := by
  simp only [wdTo, wd, Nat.zero_mul, Nat.zero_add, Nat.add_zero]
theorem wdTo_lt (l : List UInt8) (i : Nat) : ∀ k, wdTo l i k < 256 ^ k := by
  intro k
  induction k with
  | zero => exact Nat.one_pos
  | succ k ih =>
    have h0 := (l.getD (4 * i + k) 0).toNat_lt
    rw [wdTo, Nat.pow_succ]
    generalize 256 ^ k = p at *
    have : wdTo l i k + 1 ≤ p := ih
    have := Nat.mul_le_mul_right 256 this
    omega
theorem zW_put (l : List UInt8) (i x y : Nat) (v : Value) (hv : v = rv y) : ∀ j, j < 16 → zW l i y j = if j = i then v else zW l i x j := by
  intro j _
  unfold zW
  by_cases e : j = i
  · subst e
    rw [if_neg (by omega), if_pos rfl, if_pos rfl, hv]
  · rw [if_neg e, if_neg e, if_neg e]
theorem zW_next (l : List UInt8) (i : Nat) : ∀ j, j < 16 → zW l (i + 1) 0 j = zW l i (wd l i) j := by
  intro j _
  unfold zW
  by_cases h : j < i
  · rw [if_pos (by omega), if_pos h]
  · by_cases e : j = i
    · subst e
      rw [if_pos (by omega), if_neg h, if_pos rfl]
    · rw [if_neg (by omega), if_neg h, if_neg e]
      split <;> rfl
theorem zW_zero (l : List UInt8) : ∀ j, j < 16 → zW l 0 0 j = z32 j := by
  intro j _
  unfold zW z32
  rw [if_neg (by omega)]
  split <;> rfl
theorem zW_done (l : List UInt8) : ∀ j, j < 16 → bF (wdsL l) j = zW l 16 0 j := by
  intro j hj
  unfold zW bF
  rw [if_pos hj, wdsL_at l j hj]
theorem word_join (q x : Nat) (hq : q < 16777216) (hx : x < 256) : bits .or .u32 ((q : Int) * 256 % 4294967296) (x : Int) = ((q * 256 + x : Nat) : Int) := by
  have := u32_or_nat (q * 256) x (by omega) (by omega)
  rw [nat_join 8 (q * 256) x (by omega) hx] at this
  rw [← this]
  congr 1
  omega
theorem zero_16 (u : World) : (zeroValue 80).run Tryd.prog u = .ok (.agg (rowV 16 z32)) u := by kernel_rfl
theorem size_16 : (Tryd.prog.info? 80).map (·.size) = some 16 := by kernel_rfl

set_option maxRecDepth 100000 in
set_option maxHeartbeats 2000000 in
theorem words_any (m : Nat) (s : St) (l : List UInt8) (n : Nat) (w : World) (h : Msg w m s l n) (hl : l.length = 64) :
    Calls Tryd.prog 44 #[.pointer (some ⟨m, 0, none⟩)] w fun e w' => e = .returned (.agg (rowV 16 (bF (wdsL l)))) ∧ Below w.heap.size w w' := by
  have hz := zero_16
  have hm := h.lt
  go_enter Tryd.func44, Tryd.ntmps44
  go_wp2_with fail
  go_loopw [8] (fun i wr => ∃ k : Nat, k ≤ 16 ∧ i = .int .i64 k ∧ Fill (w.heap.size + 1) 80 16 16 (zW l k 0) wr ∧ Fill w.heap.size 80 16 16 z32 wr ∧ Below w.heap.size w wr) (fun i _ => 16 - (intOf i).toNat)
  case atStart =>
    refine ⟨0, by omega, rfl, (Fill.of_row (f := z32) (heap_alloc2_new w _ _)).same (zW_zero l), Fill.of_row (heap_alloc2_old w _ _), ((Below.refl _ _).alloc (Nat.le_refl _) _).alloc (by simp) _⟩
  case round =>
    obtain ⟨k, hk, rfl, hF, h0, hb⟩ := hrel
    by_cases hlt : k < 16
    · have i0 : (0 : Int) ≤ 4 * (k : Int) := by omega
      have i1 : 4 * (k : Int) ≤ 4 * (k : Int) + 4 := by omega
      have i3 : 4 * (k : Int) + 4 ≤ 64 := by omega
      have i4 : 4 * (k : Int) ≤ 60 := by omega
      go_wp2_with fail
      rw [show 4 * k + 4 - 4 * k = 4 by omega]
      obtain ⟨wo, rfl⟩ : ∃ wo : World, wo = wr := ⟨_, rfl⟩
      go_loopw [23] (fun i wr => ∃ q : Nat, q ≤ 4 ∧ i = .int .i64 q ∧ Fill (w.heap.size + 1) 80 16 16 (zW l k (wdTo l k q)) wr ∧ Fill w.heap.size 80 16 16 z32 wr ∧ Below w.heap.size w wr) (fun i _ => 4 - (intOf i).toNat)
      case atStart => exact ⟨0, by omega, rfl, hF, h0, hb⟩
      case round =>
        clear hF h0 hb
        obtain ⟨q, hq, rfl, hF, h0, hb⟩ := hrel
        by_cases hlt4 : q < 4
        · have hc := (h.below hb hm).waits (4 * k + q) (by omega)
          rw [show 8 + (4 * k + q) = 8 + 4 * k + q by omega] at hc
          have hc2 := hF.at_ k hlt
          have hf := hF.frozen k
          have hx := (l.getD (4 * k + q) 0).toNat_lt
          have hy := wdTo_lt l k q
          have hp : 256 ^ q ≤ 16777216 := Nat.le_trans (Nat.pow_le_pow_right (by omega) (show q ≤ 3 by omega)) (by decide)
          unfold zW at hc2
          rw [if_neg (by omega), if_pos rfl] at hc2
          unfold rv at hc2
          unfold bv at hc
          have HJ := Lib.hid (word_join (wdTo l k q) (l.getD (4 * k + q) 0).toNat (by omega) hx)
          have HS := Lib.hid (show wdTo l k (q + 1) = wdTo l k q * 256 + (l.getD (4 * k + q) 0).toNat from rfl)
          rw [← HS.out] at HJ
          have HZ := Lib.hid (fun v hv => zW_put l k (wdTo l k q) (wdTo l k (q + 1)) v hv)
          clear HS hy hp
          generalize (l.getD (4 * k + q) 0).toNat = x at *
          go_wp2_with fail
          refine ⟨⟨q + 1, by omega, by go_num, ?_, ?_, ?_⟩, by simp [intOf]; omega⟩
          · rw [HJ.out]; exact hF.put hlt (HZ.out _ rfl)
          · exact h0.keep (heap_setCell_other _ _ _ _ (by simp))
          · exact hb.setCell (by simp) _
        · obtain rfl : q = 4 := by omega
          go_wp2_with fail
          exact ⟨⟨k + 1, by omega, by go_num, hF.same (fun j hj => by rw [zW_next l k j hj, wdTo_four]), h0, hb⟩, by simp [intOf]; omega⟩
    · obtain rfl : k = 16 := by omega
      have h1 := (hF.same (zW_done l)).done
      have h2 := h0.done
      go_wp2_with (first | (refine wpList_load_row rfl 80 (.tmp 3) rfl (w.heap.size + 1) rfl 80 (rowV 16 (bF (wdsL l))) (0, 0) _ h1 Tryd.underlying80 rfl (by rw [rowV_size]; exact size_16) ?_) | (refine wpList_store_row rfl 80 (.tmp 2) (.tmp 38) rfl w.heap.size (rowV 16 (bF (wdsL l))) rfl rfl 80 (rowV 16 z32) h2 (by rw [rowV_size]; exact size_16) (by rw [rowV_size, rowV_size]) (rowV_one 16 _ (fun i => rfl)) ?_))
      refine bodyPost_ret (v := .agg (rowV 16 (bF (wdsL l)))) (results_cell_row rfl _ _ w.heap.size 80 (rowV 16 (bF (wdsL l))) (0, 0) _ rfl (setRow_heap _ _ _ _ _ _ h2) Tryd.underlying80 rfl (by rw [rowV_size]; exact size_16)) rfl ⟨rfl, below_setRow hb (Nat.le_refl _) _⟩
end Go.Proofs.YthjeanjodhafjaaDoor
