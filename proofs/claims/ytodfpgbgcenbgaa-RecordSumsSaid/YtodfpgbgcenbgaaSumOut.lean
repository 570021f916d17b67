/- Contract: goOut. -/
import Derived.Test.YtodfpgbgcenbgaaSumIn
import Derived.Deep.WholeRow
namespace Go.Proofs.Ytodfpgbgcenbgaa
open Go.ChangeShapes Go.WideShapes Go.ChangeAt Go.RowKit
set_option linter.unusedVariables false

theorem out_small (q : Nat) (hq : q < 4294967296) : q ^^^ stpN 8 (orgTo 256 (q / 16777216)) < 16777216 := by
  obtain ⟨h1, h2⟩ := org_ok (q / 16777216) (by omega)
  have e : (q ^^^ stpN 8 (orgTo 256 (q / 16777216))) / 16777216 = q / 16777216 ^^^ stpN 8 (orgTo 256 (q / 16777216)) / 16777216 := Nat.xor_div_two_pow (n := 24)
  rw [h2, Nat.xor_self] at e
  omega
theorem out_plain (q x : Nat) (hq : q < 4294967296) (hx : x < 256) :
    (q ^^^ stpN 8 (orgTo 256 (q / 16777216))) * 256 ||| (orgTo 256 (q / 16777216) ^^^ x) = outB q x := by
  have hs := out_small q hq
  obtain ⟨h1, _⟩ := org_ok (q / 16777216) (by omega)
  generalize orgTo 256 (q / 16777216) = p at *
  have hy := xor_lt8 h1 hx
  obtain ⟨a, ha⟩ : ∃ a, a = q ^^^ stpN 8 p := ⟨_, rfl⟩
  rw [← ha] at hs ⊢
  rw [nat_join 8 (a * 256) (p ^^^ x) (by omega) hy]
  have e : a * 256 + (p ^^^ x) = (p ^^^ x) ^^^ 256 * a := by
    have := xor_part 8 (p ^^^ x) a hy
    rw [show (2 : Nat) ^ 8 = 256 by rfl] at this
    omega
  refine outB_of (by omega) hq hx ?_
  rw [e]
  unfold inB
  rw [Nat.xor_assoc, Nat.xor_comm (256 * a) x, ← Nat.xor_assoc, Nat.xor_assoc p x x, Nat.xor_self, Nat.xor_zero, stpN_xor]
  have h8 := stpN_up 8 a
  rw [show (2 : Nat) ^ 8 = 256 by rfl] at h8
  rw [h8, ha, Nat.xor_comm q, ← Nat.xor_assoc, Nat.xor_self, Nat.zero_xor]

/-- The places lie at block p. -/
def PlcAt (w : World) (p : Nat) : Prop := w.heap[p]? = some (.cells plcV 42 (0, 0))
theorem PlcAt.cell {w : World} {p : Nat} (h : PlcAt w p) {i : Nat} (hi : i < 256) : w.cell? ⟨p, i, none⟩ = some (plcF 256 i) := by
  rw [cell_of_row w p i _ _ _ h, plcV_at i hi]
theorem TabAt.below {w w' : World} {p B : Nat} (h : TabAt w p) (hb : Below B w w') (hp : p < B) : TabAt w' p := (hb.block p hp).trans h

set_option maxHeartbeats 2000000 in
set_option maxRecDepth 100000 in
theorem goOut_any (r : Nat) (A : Option Addr) (c : Nat) (l : List UInt8) (w : World) (hr : r < 4294967296) (h : Rd w 0 w.heap.size A l) (hl : l.length ≤ 9223372036854775807) :
    Calls Try.prog 18 #[.int .u32 (r : Int), .slice A l.length c] w fun e w' => e = .returned (rv (outL r l)) ∧ Below w.heap.size w w' := by
  have hz := zero_tab
  have hz8 := zero_places
  go_enter Try.func18, Try.ntmps18
  go_wp2_with fail
  refine (steps_any w).mono ?_
  rintro e w1 ⟨rfl, hb1⟩
  go_wp2_with (refine wpList_store_row rfl 37 (.tmp 5) (.tmp 9) rfl w1.heap.size tabV rfl rfl 37 zero32 (heap_alloc_new _ _) (by rw [tabV_size]; exact size_tab) (by rw [tabV_size, zero32_size]) tabV_one ?_; rw [World.setRow_alloc_new])
  have ht1 : TabAt (w1.alloc (.cells tabV 37)) w1.heap.size := heap_alloc_new _ _
  refine (origins_any _ _ ht1).mono ?_
  rintro e w2 ⟨rfl, hb2⟩
  have hb1' : Below w.heap.size w (w1.alloc (.cells tabV 37)) := hb1.alloc hb1.size _
  have ht2 := ht1.below hb2 (by simp)
  have hlt2 : w1.heap.size < w2.heap.size := by have := hb2.size; simp at this; omega
  have hb3 : Below w.heap.size w w2 := hb1'.trans (hb2.mono (by have := hb1.size; simp; omega))
  clear ht1 hb2 hb1'
  have HT2 := Lib.hid ht2
  clear ht2
  go_wp2_with (refine wpList_store_row rfl 42 (.tmp 6) (.tmp 10) rfl w2.heap.size plcV rfl rfl 42 zero8 (heap_alloc_new _ _) (by rw [plcV_size]; exact size_places) (by rw [plcV_size, zero8_size]) plcV_one ?_; rw [World.setRow_alloc_new])
  have hp : PlcAt (w2.alloc (.cells plcV 42)) w2.heap.size := heap_alloc_new _ _
  have bn := (Below.refl w2.heap.size w2).alloc (Nat.le_refl _) (.cells plcV 42)
  have ht := HT2.out.below bn hlt2
  have hb := hb3.trans (bn.mono hb3.size)
  have hrd := h.below hb (Nat.le_refl _)
  clear bn hb3 HT2 h hb1 hz hz8
  generalize w2.alloc (.cells plcV 42) = W at *
  generalize w2.heap.size = p2 at *
  generalize w1.heap.size = p1 at *
  go_loop [0, 7] (fun t i => ∃ k : Nat, k ≤ l.length ∧ i = .int .i64 ((k : Int) - 1) ∧ t = rv (outL r (l.drop k))) (fun _ i => (intOf i + 1).toNat)
  case atStart => exact ⟨l.length, Nat.le_refl _, rfl, by rw [List.drop_length]; rfl⟩
  case round =>
    obtain ⟨k, hk, rfl, rfl⟩ := hrel
    have hq := outL_lt (l.drop k) hr
    unfold rv
    rcases k with _ | k
    · rw [List.drop_zero]
      go_wp2
      go_ret
      exact ⟨rfl, hb⟩
    · rw [show ((k + 1 : Nat) : Int) - 1 = (k : Int) by omega]
      have hlt : k < l.length := by omega
      obtain ⟨b, off, rfl, _, _, hc⟩ := hrd.at_ hlt
      unfold bv at hc
      have hx : l[k].toNat < 256 := l[k].toNat_lt
      have HT := Lib.hid ((outL_drop r l k hlt).trans (out_plain _ _ hq hx).symm)
      generalize l[k].toNat = x at *
      generalize outL r (l.drop (k + 1)) = q at *
      have hs := out_small q hq
      obtain ⟨hpl, _⟩ := org_ok (q / 16777216) (by omega)
      have hc1 := hp.cell (i := q / 16777216) (by omega)
      unfold plcF at hc1
      generalize orgTo 256 (q / 16777216) = pl at *
      have hc2 := ht.cell hpl
      unfold rv at hc2
      have hz := stpN_lt 8 (r := pl) (by omega)
      have e1 := u32_xor_nat q (stpN 8 pl) hq hz
      have e2 := u8_xor_nat pl x hpl hx
      have hy := xor_lt8 hpl hx
      generalize q ^^^ stpN 8 pl = a at *
      generalize stpN 8 pl = z at *
      generalize pl ^^^ x = y at *
      have e3 := u32_or_nat (a * 256) y (by omega) (by omega)
      rw [← HT.out, show ((a * 256 : Nat) : Int) = (a : Int) * 256 by omega] at e3
      have HE := Lib.hid e3
      clear e3
      go_wp2
      refine ⟨⟨k, by omega, rfl, congrArg (Value.int .u32) HE.out⟩, by simp [intOf]⟩
end Go.Proofs.Ytodfpgbgcenbgaa
