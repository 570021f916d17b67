/- Contract: the hash that has a text, of a hash's text. -/
import Derived.Test.YtlfmdnnookkdhaaDoorText
import Derived.WalkMore
namespace Go.Proofs.YtlfmdnnookkdhaaDoor
open Go.ChangeShapes Go.WideShapes Go.ChangeAt Go.RowKit
set_option linter.unusedVariables false

/-- What is known of a hash behind k signs. -/
def oF (l : List UInt8) (k : Nat) : Nat → Value := fun j => if 2 * j + 1 < k then bv (l.getD j 0) else if 2 * j < k then .int .u8 (((l.getD j 0).toNat / 16 : Nat) : Int) else .int .u8 0
theorem oF_put (l : List UInt8) (k : Nat) (v : Value) (hv : v = if k % 2 = 0 then .int .u8 (((l.getD (k / 2) 0).toNat / 16 : Nat) : Int) else bv (l.getD (k / 2) 0)) : ∀ j, j < 32 → oF l (k + 1) j = if j = k / 2 then v else oF l k j := by
  intro j _
  unfold oF
  by_cases e : j = k / 2
  · rw [if_pos e, hv, ← e]
    by_cases h : k % 2 = 0
    · rw [if_pos h, if_neg (by omega), if_pos (by omega)]
    · rw [if_neg h, if_pos (by omega)]
  · rw [if_neg e]
    by_cases h1 : 2 * j + 1 < k
    · rw [if_pos (by omega), if_pos h1]
    · rw [if_neg (by omega), if_neg h1]
      by_cases h2 : 2 * j < k
      · omega
      · rw [if_neg (by omega), if_neg h2]
theorem oF_zero (l : List UInt8) : ∀ j, j < 32 → oF l 0 j = z8 j := by
  intro j _
  unfold oF z8
  rw [if_neg (by omega), if_neg (by omega)]
theorem oF_done (l : List UInt8) : ∀ j, j < 32 → hF l j = oF l 64 j := by
  intro j _
  unfold oF hF
  rw [if_pos (by omega)]
theorem oF_at (l : List UInt8) (k : Nat) : oF l k (k / 2) = if k % 2 = 0 then .int .u8 0 else .int .u8 (((l.getD (k / 2) 0).toNat / 16 : Nat) : Int) := by
  unfold oF
  by_cases h : k % 2 = 0
  · rw [if_pos h, if_neg (by omega), if_neg (by omega)]
  · rw [if_neg h, if_neg (by omega), if_pos (by omega)]
/-- The value of the sign of a number. -/
def dg (l : List UInt8) (k : Nat) : Nat := if k % 2 = 0 then (l.getD (k / 2) 0).toNat / 16 else (l.getD (k / 2) 0).toNat % 16
theorem dg_lt (l : List UInt8) (k : Nat) : dg l k < 16 := by
  unfold dg
  have := (l.getD (k / 2) 0).toNat_lt
  split <;> omega
theorem dg_sign (l : List UInt8) (k : Nat) (h : k < 2 * l.length) : (hexL l)[k]? = some (sg (dg l k)) := by
  obtain ⟨h1, h2⟩ := hexL_even l (k / 2) (by omega)
  have hl := hexL_length l
  unfold dg
  rw [List.getElem?_eq_getElem (by omega)]
  congr 1
  rcases Nat.mod_two_eq_zero_or_one k with h0 | h0
  · rw [if_pos h0, ← h1, show 2 * (k / 2) = k by omega, List.getD_eq_getElem?_getD, List.getElem?_eq_getElem (by omega)]
    rfl
  · rw [if_neg (by omega), ← h2, show 2 * (k / 2) + 1 = k by omega, List.getD_eq_getElem?_getD, List.getElem?_eq_getElem (by omega)]
    rfl
/-- The sign's byte joins what is known. -/
theorem dg_join (l : List UInt8) (k : Nat) : bits .or .u8 ((((if k % 2 = 0 then 0 else (l.getD (k / 2) 0).toNat / 16 : Nat) : Int)) * 16 % 256) ((dg l k : Nat) : Int) = (((if k % 2 = 0 then (l.getD (k / 2) 0).toNat / 16 else (l.getD (k / 2) 0).toNat) : Nat) : Int) := by
  have hx := (l.getD (k / 2) 0).toNat_lt
  unfold dg
  generalize (l.getD (k / 2) 0).toNat = x at *
  rcases Nat.mod_two_eq_zero_or_one k with h0 | h0
  · rw [if_pos h0, if_pos h0, if_pos h0]
    have := u8_or_nat 0 (x / 16) (by omega) (by omega)
    rw [Nat.zero_or] at this
    exact this
  · rw [if_neg (by omega), if_neg (by omega), if_neg (by omega)]
    have := u8_or_nat (x / 16 * 16) (x % 16) (by omega) (by omega)
    rw [nat_join 4 (x / 16 * 16) (x % 16) (by omega) (by omega), show x / 16 * 16 + x % 16 = x by omega] at this
    rw [← this]
    congr 1
    omega

set_option maxRecDepth 100000 in
set_option maxHeartbeats 2000000 in
theorem of_any (l : List UInt8) (w : World) (hl : l.length = 32) :
    Calls Tryd.prog 17 #[strOf (hexL l)] w fun e w' => e = .returned (.tuple #[.agg (hashV l), .int .i64 0]) ∧ Below w.heap.size w w' := by
  have hz := zero_hash
  have hlen : (hexL l).length = 64 := by rw [hexL_length]; omega
  unfold strOf
  have hs : (ByteArray.mk (hexL l).toArray).size = 64 := by show (hexL l).toArray.size = 64; simpa using hlen
  have HD : Hid (∀ k, k < 64 → (ByteArray.mk (hexL l).toArray)[k]? = some (sg (dg l k))) := fun k hk => by
    have := dg_sign l k (by omega)
    rw [← List.getElem?_toArray] at this
    rw [← this]
    rfl
  generalize ByteArray.mk (hexL l).toArray = s at *
  go_enter Tryd.func17, Tryd.ntmps17
  go_wp2_with fail
  go_step3
  go_wp2_with fail
  go_step3
  go_wp2_with fail
  go_loopw [5] (fun v wr => ∃ k : Nat, k ≤ 64 ∧ v = .int .i64 k ∧ Fill (w.heap.size + 1) 28 32 32 (oF l k) wr ∧ Fill w.heap.size 28 32 32 z8 wr ∧ Below w.heap.size w wr) (fun v _ => 64 - (intOf v).toNat)
  case atStart => exact ⟨0, by omega, rfl, (Fill.of_row (heap_alloc2_new w _ _)).same (oF_zero l), Fill.of_row (heap_alloc2_old w _ _), ((Below.refl _ _).alloc (Nat.le_refl _) _).alloc (by simp) _⟩
  case round =>
    obtain ⟨k, hk, rfl, hF1, hr1, hb⟩ := hrel
    by_cases hlt : k < 64
    · have hks : k < s.size := by omega
      have hx : s[k] = sg (dg l k) := by
        have := HD.out k hlt
        rw [getElem?_pos s k hks] at this
        exact Option.some.inj this
      have hd := dg_lt l k
      have hc := hF1.at_ (k / 2) (by omega)
      have hf := hF1.frozen (k / 2)
      have HJ := Lib.hid (dg_join l k)
      have HP := Lib.hid (fun v hv => oF_put l k v hv)
      rw [oF_at] at hc
      obtain ⟨q, hq⟩ : ∃ q : Nat, q = if k % 2 = 0 then 0 else (l.getD (k / 2) 0).toNat / 16 := ⟨_, rfl⟩
      have hc2 : wr.cell? ⟨w.heap.size + 1, k / 2, none⟩ = some (.int .u8 (q : Int)) := by rw [hc, hq]; split <;> rfl
      have hqb : q < 16 := by rw [hq]; have := (l.getD (k / 2) 0).toNat_lt; split <;> omega
      rw [← hq] at HJ
      clear hc hq
      generalize dg l k = d at *
      by_cases h10 : d < 10
      · have hsg : (sg d).toNat = 48 + d := by unfold sg; rw [if_pos h10, UInt8.toNat_ofNat']; omega
        go_wp2_with fail
        rw [show (48 : Int) + (d : Int) - 48 = (d : Int) by omega, show (q : Int) * 16 = (q : Int) * 16 % 256 by omega, HJ.out]
        exact ⟨⟨k + 1, by omega, by go_num, hF1.put (by omega) (HP.out _ (by split <;> rfl)), hr1.keep (heap_setCell_other _ _ _ _ (by simp)), hb.setCell (by simp) _⟩, by simp [intOf]; omega⟩
      · have hsg : (sg d).toNat = 87 + d := by unfold sg; rw [if_neg h10, UInt8.toNat_ofNat']; omega
        go_wp2_with fail
        rw [show (87 : Int) + (d : Int) - 97 + 10 = (d : Int) by omega, show (q : Int) * 16 = (q : Int) * 16 % 256 by omega, HJ.out]
        exact ⟨⟨k + 1, by omega, by go_num, hF1.put (by omega) (HP.out _ (by split <;> rfl)), hr1.keep (heap_setCell_other _ _ _ _ (by simp)), hb.setCell (by simp) _⟩, by simp [intOf]; omega⟩
    · obtain rfl : k = 64 := by omega
      have h1 := (hF1.same (oF_done l)).done
      have h2 := hr1.done
      go_wp2_with (first | (refine wpList_load_row rfl 28 (.tmp 4) rfl (w.heap.size + 1) rfl 28 (hashV l) (0, 0) _ h1 Tryd.underlying28 rfl (by unfold hashV; rw [rowV_size]; exact size_hash) ?_) | (refine wpList_store_row rfl 28 (.tmp 2) (.tmp 51) rfl w.heap.size (hashV l) rfl rfl 28 (rowV 32 z8) h2 (by unfold hashV; rw [rowV_size]; exact size_hash) (by unfold hashV; rw [rowV_size, rowV_size]) (rowV_one 32 _ (fun i => rfl)) ?_))
      have hlv := run_loadVar_row (P := Tryd.prog) (wr.setRow w.heap.size (hashV l)) w.heap.size 28 28 (hashV l) (0, 0) _ (setRow_heap _ _ _ _ _ _ h2) Tryd.underlying28 rfl (by unfold hashV; rw [rowV_size]; exact size_hash)
      rw [Exit.noGoto_ret]
      exact bodyPost_ret (v := .tuple #[.agg (hashV l), .int .i64 0]) (by simp [results, Tryd.results17, asAddr, hlv]) rfl ⟨rfl, below_setRow hb (Nat.le_refl _) _⟩
end Go.Proofs.YtlfmdnnookkdhaaDoor
