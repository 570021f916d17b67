/- Contract: what follows a message goes into it. -/
import Derived.Test.YthjeanjodhafjaaDoorTake
import Derived.Deep.WholeRow
namespace Go.Proofs.YthjeanjodhafjaaDoor
open Go.ChangeShapes Go.WideShapes Go.ChangeAt Go.RowKit
set_option linter.unusedVariables false

def z8 : Nat → Value := fun _ => .int .u8 0
theorem zero_72 (u : World) : (zeroValue 82).run Tryd.prog u = .ok (.agg (rowV 72 z8)) u := by kernel_rfl
theorem size_72 : (Tryd.prog.info? 82).map (·.size) = some 72 := by kernel_rfl
/-- What follows a message, as far as i bytes of its length are laid. -/
def tF (N i : Nat) : Nat → Value := fun j => if j = 0 then .int .u8 128 else if 64 - (N + 8) % 64 ≤ j ∧ j < 64 - (N + 8) % 64 + i then bv (byteAt (8 * N) (7 - (j - (64 - (N + 8) % 64)))) else .int .u8 0
theorem tF_one (N i j : Nat) : (tF N i j).oneCell' = true := by
  unfold tF
  split
  · rfl
  · split <;> rfl
def tF0 : Nat → Value := fun j => if j = 0 then .int .u8 128 else .int .u8 0
theorem set_72 : (rowV 72 z8).setIfInBounds 0 (.int .u8 128) = rowV 72 tF0 := by kernel_rfl
theorem tF_zero (N j : Nat) : tF N 0 j = tF0 j := by
  unfold tF tF0
  by_cases h : j = 0
  · rw [if_pos h, if_pos h]
  · rw [if_neg h, if_neg h, if_neg (by omega)]
theorem tF_put (N i : Nat) (hi : i < 8) (v : Value) (hv : v = bv (byteAt (8 * N) (7 - i))) : ∀ j, j < 72 → tF N (i + 1) j = if j = 64 - (N + 8) % 64 + i then v else tF N i j := by
  intro j _
  have h64 : (N + 8) % 64 < 64 := Nat.mod_lt _ (by omega)
  unfold tF
  by_cases e : j = 64 - (N + 8) % 64 + i
  · rw [if_neg (by omega), if_pos (by omega), if_pos e, hv, show j - (64 - (N + 8) % 64) = i by omega]
  · rw [if_neg e]
    by_cases h : j = 0
    · rw [if_pos h, if_pos h]
    · rw [if_neg h, if_neg h]
      by_cases h2 : 64 - (N + 8) % 64 ≤ j ∧ j < 64 - (N + 8) % 64 + i
      · rw [if_pos h2, if_pos (by omega)]
      · rw [if_neg h2, if_neg (by omega)]
theorem be8_at (n k : Nat) (h : k < 8) : (be8 n)[k]? = some (byteAt n (7 - k)) := by
  match k, h with
  | 0, _ => rfl
  | 1, _ => rfl
  | 2, _ => rfl
  | 3, _ => rfl
  | 4, _ => rfl
  | 5, _ => rfl
  | 6, _ => rfl
  | 7, _ => rfl
theorem tail_at (N j : Nat) (x : UInt8) (h : (tailL N)[j]? = some x) : tF N 8 j = bv x := by
  have h64 : (N + 8) % 64 < 64 := Nat.mod_lt _ (by omega)
  have hl := tailL_length N
  have hj : j < (tailL N).length := by
    rcases Nat.lt_or_ge j (tailL N).length with h' | h'
    · exact h'
    · rw [List.getElem?_eq_none h'] at h; cases h
  unfold tF
  unfold tailL at h
  rcases j with _ | j
  · injection h with h
    subst h
    rfl
  · rw [if_neg (by omega)]
    rw [List.getElem?_cons_succ] at h
    by_cases h2 : j < 63 - (N + 8) % 64
    · rw [List.getElem?_append_left (by simpa using h2), List.getElem?_replicate, if_pos h2] at h
      injection h with h
      subst h
      rw [if_neg (by omega)]
      rfl
    · rw [List.getElem?_append_right (by simpa using h2), List.length_replicate, be8_at _ _ (by omega)] at h
      injection h with h
      subst h
      rw [if_pos (by omega), show 7 - (j + 1 - (64 - (N + 8) % 64)) = 7 - (j - (63 - (N + 8) % 64)) by omega]
theorem byte_val (n k : Nat) : bv (byteAt n k) = .int .u8 ((n / 256 ^ k % 256 : Nat) : Int) := by
  unfold bv byteAt
  rw [UInt8.toNat_ofNat']
  congr 2
  exact Nat.mod_eq_of_lt (Nat.mod_lt _ (by omega))

theorem byte_shift (L k : Nat) : ((L : Int) / 2 ^ (8 * k) % 256) = ((L / 256 ^ k % 256 : Nat) : Int) := by
  have e : (256 : Nat) ^ k = 2 ^ (8 * k) := by rw [Nat.pow_mul]
  have e2 : ((2 ^ (8 * k) : Nat) : Int) = (2 : Int) ^ (8 * k) := by simp
  rw [e, ← e2]
  generalize 2 ^ (8 * k) = p
  rfl
theorem tail_rd (w : World) (g N lo : Nat) (h : Fill g 82 72 72 (tF N 8) w) : Rd w 0 w.heap.size (some ⟨g, 0, none⟩) (tailL N) := fun _ => by
  refine ⟨g, 0, rfl, Nat.zero_le _, h.lt, fun j x hx => ?_⟩
  have hj : j < (tailL N).length := by
    rcases Nat.lt_or_ge j (tailL N).length with h' | h'
    · exact h'
    · rw [List.getElem?_eq_none h'] at hx; cases hx
  rw [tailL_length] at hj
  rw [Nat.zero_add, h.at_ j (by omega), tail_at N j x hx]

set_option maxRecDepth 100000 in
set_option maxHeartbeats 4000000 in
theorem end_any (m : Nat) (all : List UInt8) (w : World) (hMsg : MsgOf w m all) (hn : all.length < 1000000000000) (ht : Tabs w) (htm : 1 < m ∧ 0 < m) :
    Calls Tryd.prog 38 #[.pointer (some ⟨m, 0, none⟩)] w fun e w' => e = .returned (.tuple #[]) ∧ MsgOf w' m (all ++ tailL all.length) ∧ w.grownBy w' (some m) := by
  have hz := zero_72
  have hset := Lib.hid set_72
  have hml := hMsg.lt
  have hcs := (hMsg.below ((Below.refl w.heap.size w).alloc (Nat.le_refl _) (.cells (rowV 72 tF0) 82)) hml).size_
  obtain ⟨N, hN⟩ : ∃ N, N = all.length := ⟨_, rfl⟩
  rw [← hN] at hcs hn
  have HN := Lib.hid hN
  have h64 : (N + 8) % 64 < 64 := Nat.mod_lt _ (by omega)
  clear hN
  go_enter Tryd.func38, Tryd.ntmps38
  go_wp2_with (refine wpList_store_row rfl 82 (.tmp 2) (.tmp 6) rfl w.heap.size ((rowV 72 z8).setIfInBounds 0 (.int .u8 128)) rfl rfl 82 (rowV 72 z8) (heap_alloc_new _ _) (by rw [hset.out, rowV_size]; exact size_72) (by rw [hset.out, rowV_size, rowV_size]) (by rw [hset.out]; exact rowV_one 72 _ (fun i => by unfold tF0; split <;> rfl)) ?_; rw [World.setRow_alloc_new, hset.out])
  obtain ⟨a, ha⟩ : ∃ a, a = 64 - (N + 8) % 64 := ⟨_, rfl⟩
  obtain ⟨L, hL⟩ : ∃ L, L = 8 * N := ⟨_, rfl⟩
  rw [show (64 - ((N : Int) + 8) % 64) = (a : Int) by omega, show 8 * (N : Int) = (L : Int) by omega]
  have ha1 : 1 ≤ a ∧ a ≤ 64 := by omega
  have hLb : L < 18446744073709551616 := by omega
  have HA := Lib.hid ha
  have HL := Lib.hid hL
  have hF0 : Fill w.heap.size 82 72 72 (tF N 0) (w.alloc (.cells (rowV 72 tF0) 82)) := (Fill.of_row (heap_alloc_new _ _)).same (fun j _ => tF_zero N j)
  have hb0 : Below w.heap.size w (w.alloc (.cells (rowV 72 tF0) 82)) := (Below.refl _ _).alloc (Nat.le_refl _) _
  clear ha hL hcs hz
  go_loopw [19] (fun v wr => ∃ i : Nat, i ≤ 8 ∧ v = .int .u64 i ∧ Fill w.heap.size 82 72 72 (tF N i) wr ∧ Below w.heap.size w wr) (fun v _ => 8 - (intOf v).toNat)
  case atStart => exact ⟨0, by omega, rfl, hF0, hb0⟩
  case round =>
    obtain ⟨i, hi, rfl, hF, hb⟩ := hrel
    clear hF0 hb0
    by_cases hlt : i < 8
    · have hput := Lib.hid (tF_put N i hlt _ (byte_val (8 * N) (7 - i)).symm)
      rw [← HA.out, ← HL.out] at hput
      obtain ⟨u0, hu0, hf0⟩ := hF.cell (a + i) (by omega)
      go_wp2_with fail
      refine ⟨⟨i + 1, by omega, by go_num, ?_, hb.setCell (by simp) _⟩, by simp [intOf]; omega⟩
      rw [byte_shift]
      exact hF.put (by omega) hput.out
    · obtain rfl : i = 8 := by omega
      have i1 : (a : Int) + 8 ≤ 72 := by omega
      have i2 : (0 : Int) ≤ (a : Int) + 8 := by omega
      have hM : MsgOf wr m all := Msg.below hMsg hb hml
      have hT := ht.below hb ht.2.2.1 ht.2.2.2
      have HK := Lib.hid (take_any m all (some ⟨w.heap.size, 0, none⟩) (a + 8) (tailL N) wr hM (tail_rd wr w.heap.size N 0 hF) (fun b off e _ => by injection e with e; injection e with e; omega) (by rw [tailL_length]; have := HA.out; omega) (by rw [tailL_length, ← HN.out]; omega) hT htm)
      rw [tailL_length, show 72 - (N + 8) % 64 = a + 8 by have := HA.out; omega] at HK
      go_wp2_with fail
      refine HK.out.mono ?_
      rintro e w1 ⟨rfl, hM1, hg1⟩
      go_wp2_with fail
      go_end0
      rw [HN.out] at hM1
      exact ⟨rfl, hM1, (World.grownBy.refl w (some m)).trans ⟨hb.os.symm ▸ hg1.os, hb.tape.symm ▸ hg1.tape, hb.output.symm ▸ hg1.output, Nat.le_trans hb.size hg1.size, fun k hk hne => (hg1.block k (Nat.lt_of_lt_of_le hk hb.size) hne).trans (hb.block k hk)⟩⟩
end Go.Proofs.YthjeanjodhafjaaDoor
