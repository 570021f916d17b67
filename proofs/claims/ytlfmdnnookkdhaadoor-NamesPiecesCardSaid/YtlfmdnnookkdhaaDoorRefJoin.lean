/- Contracts: the reference's Join, Much (at a bound of 2500), Sum. -/
import Derived.Test.YtlfmdnnookkdhaaDoorRsSum
import Derived.Test.YtlfmdnnookkdhaaDoorStr
import Derived.Laws.Concat
namespace Go.Proofs.YtlfmdnnookkdhaaDoor
open Go.ChangeShapes Go.WideShapes Go.ChangeAt Go.RowKit
set_option linter.unusedVariables false

theorem flat_le (L : List Pc) (k : Nat) : (flat (L.take k)).length ≤ (flat L).length := flat_take_le L k
/-- What Join answers: a slice of its own that reads as all pieces. -/
def JoinP (l : List UInt8) (w : World) (e : Ending) (w' : World) : Prop := ∃ A c, e = .returned (.slice A l.length c) ∧ l.length ≤ c ∧ (∃ g, A = some ⟨g, 0, none⟩) ∧ Rd w' w.heap.size w'.heap.size A l ∧ Below w.heap.size w w'

set_option maxRecDepth 100000 in
set_option maxHeartbeats 1000000 in
theorem refJoin_any (A : Option Addr) (c : Nat) (L : List Pc) (w : World) (h : RdL w w.heap.size A L) (hL : L.length ≤ 9223372036854775807) (hl : (flat L).length ≤ 8388608) :
    Calls Tryd.prog 10 #[.slice A L.length c] w (JoinP (flat L) w) := by
  go_enter Tryd.func10, Tryd.ntmps10
  go_wp2_with fail
  go_loop [3, 4] (fun s i => ∃ k : Nat, k ≤ L.length ∧ i = .int .i64 k ∧ s = .string ⟨(flat (L.take k)).toArray⟩) (fun _ i => L.length - (intOf i).toNat)
  case atStart => exact ⟨0, by omega, rfl, rfl⟩
  case round =>
    obtain ⟨k, hk, rfl, rfl⟩ := hrel
    by_cases hlt : k < L.length
    · obtain ⟨b, off, rfl, hb, hc, hr⟩ := h.at_ hlt
      have HS := Lib.hid (flat_take L k hlt)
      have h1 := flat_le L k
      have h2 := flat_le L (k + 1)
      rw [HS.out, List.length_append] at h2
      have kc := run_str (A := L[k].1) (l := L[k].2.2) hr L[k].2.2.length L[k].2.1 rfl
      have ka := fun u => run_string_add_lists (P := Tryd.prog) (w := u) (flat (L.take k)) L[k].2.2 (by omega) (by omega)
      unfold strOf at kc
      rw [← HS.out] at ka
      go_wp2_with fail
      exact ⟨⟨k + 1, by omega, by go_num, rfl⟩, by simp [intOf]; omega⟩
    · obtain rfl : k = L.length := by omega
      rw [List.take_length]
      have kb := run_bytes_of_string (P := Tryd.prog) w 9 25 5 ⟨(flat L).toArray⟩ Tryd.underlying9 Tryd.underlying25 Tryd.underlying5
      have hz : (ByteArray.mk (flat L).toArray).size = (flat L).length := by simp [ByteArray.size]
      rw [hz] at kb
      have hge := grownCap_ge w (flat L).length 0 5
      have HRD : Hid (Rd (w.drew.alloc (.cells (bytesRow ⟨(flat L).toArray⟩ (grownCap w (flat L).length 0 5)) 5 ((bytesRow ⟨(flat L).toArray⟩ (grownCap w (flat L).length 0 5)).size, (bytesRow ⟨(flat L).toArray⟩ (grownCap w (flat L).length 0 5)).size + 1))) w.heap.size (w.heap.size + 1) (some ⟨w.heap.size, 0, none⟩) (flat L)) := by
        intro _
        refine ⟨w.heap.size, 0, rfl, Nat.le_refl _, by omega, fun j x hx => ?_⟩
        rw [Nat.zero_add, cell_of_row _ w.heap.size j _ _ _ (heap_alloc_new w.drew _)]
        have hj : j < (flat L).length := by
          rcases Nat.lt_or_ge j (flat L).length with h | h
          · exact h
          · rw [List.getElem?_eq_none h] at hx; cases hx
        rw [bytesRow_at ⟨(flat L).toArray⟩ _ j (by simpa using hj)]
        rw [List.getElem?_eq_getElem hj] at hx
        injection hx with hx
        rw [← hx]
        rfl
      clear hz
      generalize grownCap w (flat L).length 0 5 = cp at *
      generalize bytesRow ⟨(flat L).toArray⟩ cp = BR at *
      generalize flat L = F at *
      go_wp2_with fail
      go_ret
      exact ⟨_, cp, rfl, hge, ⟨_, rfl⟩, by simp; exact HRD.out, (Below.refl _ _).drew.alloc (Nat.le_refl _) _⟩
/-- What Much answers: where it says no, there is little. -/
def MuchP (B : Nat) (L : List Pc) (w : World) (e : Ending) (w' : World) : Prop := ∃ b : Bool, e = .returned (.bool b) ∧ w = w' ∧ (b = false → L.length + (flat L).length ≤ B)

/-- What is left behind k lists. -/
def Lft (B : Nat) (L : List Pc) (k : Nat) (z : Int) : Prop := 0 ≤ z → (L.length : Int) + ((flat (L.take k)).length : Int) + z = (B : Int)
theorem Lft.step {B : Nat} {L : List Pc} {k : Nat} {z m : Int} (h : Lft B L k z) (hk : k < L.length) (h0 : 0 ≤ z) (hz : z ≤ B) (hm : m = min (L[k].2.2.length : Int) ((B : Int) + 1)) : Lft B L (k + 1) (z - m) := by
  intro h1
  have := h h0
  rw [flat_take L k hk, List.length_append]
  omega

set_option maxHeartbeats 400000 in
theorem much_any (A : Option Addr) (c : Nat) (B : Nat) (hB : B ≤ 1000000) (L : List Pc) (w : World) (h : RdL w w.heap.size A L) (hL : L.length ≤ 9223372036854775807) :
    Calls Tryd.prog 8 #[.slice A L.length c, .int .i64 (B : Int)] w (MuchP B L w) := by
  go_enter Tryd.func8, Tryd.ntmps8
  go_wp2
  go_loop [5, 6] (fun s i => ∃ (k : Nat) (z : Int), k ≤ L.length ∧ i = .int .i64 k ∧ s = .int .i64 z ∧ -9223372036854775807 ≤ z ∧ z ≤ (B : Int) ∧ Lft B L k z) (fun _ i => L.length - (intOf i).toNat)
  case atStart => exact ⟨0, (B : Int) - (L.length : Int), Nat.zero_le _, rfl, rfl, by omega, by omega, fun _ => by simp [flat]; omega⟩
  case round =>
    obtain ⟨k, z, hk, rfl, rfl, hz1, hz2, hz⟩ := hrel
    by_cases hlt : k < L.length
    · by_cases h0 : 0 ≤ z
      · obtain ⟨b, off, rfl, _, hc, hr⟩ := h.at_ hlt
        have d1 : decide (k < L.length) = true := by simpa using hlt
        have d2 : decide (0 ≤ z) = true := by simpa using h0
        have HS := Lib.hid (fun m => hz.step (m := m) hlt h0 hz2)
        obtain ⟨n, hn⟩ : ∃ n, n = L[k].2.2.length := ⟨_, rfl⟩
        rw [← hn] at hc HS
        clear hn hz
        go_wp2
        exact ⟨⟨k + 1, z - (if (B : Int) + 1 < (n : Int) then (B : Int) + 1 else (n : Int)), by omega, by go_num, rfl, by split <;> omega, by split <;> omega, HS.out _ (by split <;> omega)⟩, by simp [intOf]; omega⟩
      · have d1 : decide (k < L.length) = true := by simpa using hlt
        have d2 : decide (0 ≤ z) = false := by simpa using h0
        have d3 : decide (z < 0) = true := by simpa using h0
        go_wp2
        go_ret
        exact ⟨true, rfl, rfl, fun e => by cases e⟩
    · obtain rfl : k = L.length := by omega
      by_cases h0 : 0 ≤ z
      · have d3 : decide (z < 0) = false := by simpa using h0
        have HZ := Lib.hid (hz h0)
        clear hz
        go_wp2
        go_ret
        exact ⟨false, rfl, rfl, fun _ => by have := HZ.out; rw [List.take_length] at this; omega⟩
      · have d3 : decide (z < 0) = true := by simpa using h0
        go_wp2
        go_ret
        exact ⟨true, rfl, rfl, fun e => by cases e⟩


set_option maxRecDepth 100000 in
set_option maxHeartbeats 1000000 in
theorem refSum_any (A : Option Addr) (c lo : Nat) (l : List UInt8) (w : World) (hr : Rd w lo w.heap.size A l) (hl : l.length < 1000000000) :
    Calls Tryd.prog 11 #[.slice A l.length c] w fun e w' => e = .returned (.agg (hashV (shaL l))) ∧ Below w.heap.size w w' := by
  have hz := zero_begun
  have hz2 := zero_hash
  go_enter Tryd.func11, Tryd.ntmps11
  go_wp2_with fail
  have g0 : Fill w.heap.size 28 32 32 z8 (w.alloc (.cells (rowV 32 z8) 28)) := Fill.of_row (heap_alloc_new w _)
  have b0 : Below w.heap.size w (w.alloc (.cells (rowV 32 z8) 28)) := (Below.refl _ _).alloc (Nat.le_refl _) _
  generalize w.alloc (.cells (rowV 32 z8) 28) = W at *
  refine (begin_any W).mono ?_
  rintro e w1 ⟨rfl, b1⟩
  have G1 := g0.below b1 g0.lt
  have B1 := b0.trans (b1.mono b0.size)
  clear g0 b0 b1
  have h1 := heap_at w1 (.cells (rowV 72 bgT) 36)
  have HH := Lib.hid h1
  clear h1
  go_wp2_with (first | (refine wpList_store_row rfl 36 (.tmp 3) (.tmp 4) rfl w1.heap.size (rowV 72 bgT) rfl rfl 36 (rowV 72 z32) (heap_alloc_new _ _) (begun_size _) (by rw [rowV_size, rowV_size]) (rowV_one 72 _ (fun i => by unfold bgT rv; split <;> rfl)) ?_; rw [World.setRow_alloc_new]) | (refine wpList_load_row rfl 36 (.tmp 3) rfl w1.heap.size rfl 36 (rowV 72 bgT) (0, 0) _ HH.out Tryd.underlying36 rfl (begun_size _) ?_))
  have ba := (Below.refl w1.heap.size w1).alloc (Nat.le_refl _) (.cells (rowV 72 bgT) 36)
  have B2 := B1.trans (ba.mono B1.size)
  have G2 := G1.below ba G1.lt
  clear ba HH G1 B1 hz hz2
  generalize w1.alloc (.cells (rowV 72 bgT) 36) = w2 at *
  refine (begunSum_any A c lo l w2 ((hr.below B2 (Nat.le_refl _)).wide (Nat.le_refl _) B2.size) hl).mono ?_
  rintro e w3 ⟨rfl, b3⟩
  have h2 := (G2.below b3 G2.lt).done
  have B3 := B2.trans (b3.mono B2.size)
  clear b3 B2 G2
  go_wp2_with (refine wpList_store_row rfl 28 (.tmp 2) (.tmp 7) rfl w.heap.size (hashV (shaL l)) rfl rfl 28 (rowV 32 z8) h2 (hash_size _) (by unfold hashV; rw [rowV_size, rowV_size]) (rowV_one 32 _ (fun i => rfl)) ?_)
  exact bodyPost_ret (v := .agg (hashV (shaL l))) (results_cell_row rfl _ _ w.heap.size 28 (hashV (shaL l)) (0, 0) _ rfl (setRow_heap _ _ _ _ _ _ h2) Tryd.underlying28 rfl (hash_size _)) rfl ⟨rfl, below_setRow B3 (Nat.le_refl _) _⟩
end Go.Proofs.YtlfmdnnookkdhaaDoor
