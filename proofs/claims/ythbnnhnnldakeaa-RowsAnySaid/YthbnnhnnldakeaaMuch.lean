/- Contracts: the reference's Much (at 3000) and Room. -/
import Derived.Test.YthbnnhnnldakeaaPower
namespace Go.Proofs.Ythbnnhnnldakeaa
open Go.ChangeShapes Go.WideShapes Go.ChangeAt Go.RowKit
set_option linter.unusedVariables false

/-- What Much answers: where it says no, there is little. -/
def MuchP (L : List Pc) (w : World) (e : Ending) (w' : World) : Prop := ∃ b : Bool, e = .returned (.bool b) ∧ w = w' ∧ (b = false → L.length + (flat L).length ≤ 3000)

/-- What is left behind k lists. -/
def Lft (L : List Pc) (k : Nat) (z : Int) : Prop := 0 ≤ z → (L.length : Int) + ((flat (L.take k)).length : Int) + z = 3000
theorem Lft.step {L : List Pc} {k : Nat} {z m : Int} (h : Lft L k z) (hk : k < L.length) (h0 : 0 ≤ z) (hz : z ≤ 3000) (hm : m = min (L[k].2.2.length : Int) 3001) : Lft L (k + 1) (z - m) := by
  intro h1
  have := h h0
  rw [flat_take L k hk, List.length_append]
  omega

set_option maxHeartbeats 400000 in
theorem much_any (A : Option Addr) (c : Nat) (L : List Pc) (w : World) (h : RdL w w.heap.size A L) (hL : L.length ≤ 9223372036854775807) :
    Calls Try.prog 15 #[.slice A L.length c, .int .i64 3000] w (MuchP L w) := by
  go_enter Try.func15, Try.ntmps15
  go_wp2
  go_loop [5, 6] (fun s i => ∃ (k : Nat) (z : Int), k ≤ L.length ∧ i = .int .i64 k ∧ s = .int .i64 z ∧ -9223372036854775807 ≤ z ∧ z ≤ 3000 ∧ Lft L k z) (fun _ i => L.length - (intOf i).toNat)
  case atStart => exact ⟨0, 3000 - (L.length : Int), Nat.zero_le _, rfl, rfl, by omega, by omega, fun _ => by simp [flat]; omega⟩
  case round =>
    obtain ⟨k, z, hk, rfl, rfl, hz1, hz2, hz⟩ := hrel
    by_cases hlt : k < L.length
    · by_cases h0 : 0 ≤ z
      · obtain ⟨b, off, rfl, _, hc, hr⟩ := h.at_ hlt
        have d1 : decide (k < L.length) = true := by simpa using hlt
        have d2 : decide (0 ≤ z) = true := by simpa using h0
        have HS := Lib.hid (fun m => hz.step (m := m) hlt h0 hz2)
        obtain ⟨n, hn⟩ : ∃ n, n = L[k].2.2.length := ⟨_, rfl⟩
        rw [← hn] at hc HS
        clear hn hz
        go_wp2
        exact ⟨⟨k + 1, z - (if 3001 < (n : Int) then 3001 else (n : Int)), by omega, by go_num, rfl, by split <;> omega, by split <;> omega, HS.out _ (by split <;> omega)⟩, by simp [intOf]; omega⟩
      · have d1 : decide (k < L.length) = true := by simpa using hlt
        have d2 : decide (0 ≤ z) = false := by simpa using h0
        have d3 : decide (z < 0) = true := by simpa using h0
        go_wp2
        go_ret
        exact ⟨true, rfl, rfl, fun e => by cases e⟩
    · obtain rfl : k = L.length := by omega
      by_cases h0 : 0 ≤ z
      · have d3 : decide (z < 0) = false := by simpa using h0
        have HZ := Lib.hid (hz h0)
        clear hz
        go_wp2
        go_ret
        exact ⟨false, rfl, rfl, fun _ => by have := HZ.out; rw [List.take_length] at this; omega⟩
      · have d3 : decide (z < 0) = true := by simpa using h0
        go_wp2
        go_ret
        exact ⟨true, rfl, rfl, fun e => by cases e⟩

def roomB (n : Nat) (size : Int) : Bool := decide (1 ≤ size ∧ size ≤ 8 ∧ n < 256 ^ size.toNat)

set_option maxHeartbeats 400000 in
theorem room_any (n : Nat) (size : Int) (w : World) (hn : n < 18446744073709551616) :
    Calls Try.prog 32 #[.int .u64 n, .int .i64 size] w fun e w' => e = .returned (.bool (roomB n size)) ∧ w = w' := by
  by_cases h8 : size = 8
  · subst h8
    have HR := Lib.hid (show roomB n 8 = true by unfold roomB; simp only [decide_eq_true_eq]; refine ⟨by omega, by omega, ?_⟩; show n < 256 ^ 8; omega)
    go_enter Try.func32, Try.ntmps32
    go_wp2
    go_ret
    exact ⟨by rw [HR.out]; rfl, rfl⟩
  · have d8 : (size == 8) = false := by simpa using h8
    by_cases h1 : 1 ≤ size
    · have d1 : decide (1 ≤ size) = true := by simpa using h1
      by_cases h7 : size < 8
      · have d7 : decide (size < 8) = true := by simpa using h7
        obtain ⟨k, rfl⟩ := Int.eq_ofNat_of_zero_le (by omega : 0 ≤ size)
        have HP := Lib.hid (power_any k)
        by_cases hr : n < 256 ^ k
        · have HR := Lib.hid (show roomB n (k : Int) = true by unfold roomB; simp only [decide_eq_true_eq]; exact ⟨by omega, by omega, by simpa using hr⟩)
          have HP2 := Lib.hid (HP.out w (by omega))
          clear HP
          generalize 256 ^ k = q at *
          have dq : decide (n < q) = true := by simpa using hr
          go_enter Try.func32, Try.ntmps32
          go_wp2_with (go_at_call 14; refine HP2.out.mono ?_; rintro e w' ⟨rfl, rfl⟩)
          go_ret
          exact ⟨by rw [HR.out]; rfl, rfl⟩
        · have HR := Lib.hid (show roomB n (k : Int) = false by unfold roomB; simp only [decide_eq_false_iff_not]; intro ⟨_, _, h⟩; exact hr (by simpa using h))
          have HP2 := Lib.hid (HP.out w (by omega))
          clear HP
          generalize 256 ^ k = q at *
          have dq : decide (n < q) = false := by simpa using hr
          go_enter Try.func32, Try.ntmps32
          go_wp2_with (go_at_call 14; refine HP2.out.mono ?_; rintro e w' ⟨rfl, rfl⟩)
          go_ret
          exact ⟨by rw [HR.out]; rfl, rfl⟩
      · have d7 : decide (size < 8) = false := by simpa using h7
        have HR := Lib.hid (show roomB n size = false by unfold roomB; simp only [decide_eq_false_iff_not]; omega)
        go_enter Try.func32, Try.ntmps32
        go_wp2
        go_ret
        exact ⟨by rw [HR.out]; rfl, rfl⟩
    · have d1 : decide (1 ≤ size) = false := by simpa using h1
      have HR := Lib.hid (show roomB n size = false by unfold roomB; simp only [decide_eq_false_iff_not]; omega)
      go_enter Try.func32, Try.ntmps32
      go_wp2
      go_ret
      exact ⟨by rw [HR.out]; rfl, rfl⟩
end Go.Proofs.Ythbnnhnnldakeaa
