/- ClockParts: readings cut in two. -/
import Derived.Test.YtkjlcfffalmgoaaCkRow
import Derived.Test.YtkjlcfffalmgoaaCkNone
namespace Go.Proofs.Ytkjlcfffalmgoaa
open Go.ChangeShapes Go.WideShapes Go.ChangeAt Go.RowKit
set_option linter.unusedVariables false
set_option maxRecDepth 100000

/-- Where a clock stands that took the first k. -/
def st (a : Nat) (L : List Nat) (k : Nat) : Nat := max a (mx (L.take k))
/-- How many of the first k made it later. -/
def cn (a : Nat) (L : List Nat) : Nat → Nat
  | 0 => 0
  | k + 1 => cn a L k + if st a L k < L.getD k 0 then 1 else 0
theorem st_zero (a : Nat) (L : List Nat) : st a L 0 = a := by unfold st; rw [List.take_zero]; simp [mx]
theorem st_succ (a : Nat) (L : List Nat) {k z : Nat} (h : L[k]? = some z) : st a L (k + 1) = max (st a L k) z := by unfold st; rw [mx_take h]; omega
theorem cn_succ (a : Nat) (L : List Nat) {k z : Nat} (h : L[k]? = some z) : cn a L (k + 1) = cn a L k + if st a L k < z then 1 else 0 := by
  show cn a L k + (if st a L k < L.getD k 0 then 1 else 0) = _
  rw [show L.getD k 0 = z by rw [List.getD_eq_getElem?_getD, h]; rfl]
theorem cn_le (a : Nat) (L : List Nat) : ∀ k, cn a L k ≤ k
  | 0 => Nat.le_refl _
  | k + 1 => by
    have := cn_le a L k
    show cn a L k + _ ≤ k + 1
    split <;> omega
theorem cn_mono (a : Nat) (L : List Nat) (k : Nat) : cn a L k ≤ cn a L (k + 1) := Nat.le_add_right _ _
set_option maxHeartbeats 8000000 in
theorem clockParts_main (w : World) (a : Nat) (A : Option Addr) (L : List Nat) (c k : Nat) (ha : a < 18446744073709551616) (hL : ∀ x ∈ L, x < 18446744073709551616) (hr : RU w A L) (h300 : L.length ≤ 300) (hk : k ≤ L.length) :
    Calls Try.prog 7 #[.int .u64 (a : Int), .slice A L.length c, .int .i64 (k : Int)] w fun r w' => r = .returned (.bool true) ∧ Below w.heap.size w w' := by
  have HR := Lib.hid hr
  obtain ⟨n, hn⟩ : ∃ n, n = L.length := ⟨_, rfl⟩
  have HN := Lib.hid hn
  rw [← hn] at h300 hk ⊢
  have d1 : decide ((n : Int) > 300) = false := by simp; omega
  have d1' : decide (300 < (n : Int)) = false := by simp; omega
  have d2 : decide ((k : Int) < 0) = false := by simp
  have d3 : decide ((k : Int) > (n : Int)) = false := by simp; omega
  have d3' : decide ((n : Int) < (k : Int)) = false := by simp; omega
  clear hn hr
  go_enter Try.func7, Try.ntmps7
  go_wp2_with fail
  refine (new_c a _).mono ?_
  rintro r w1 ⟨rfl, k1, b1, z1⟩
  obtain ⟨g, hg⟩ : ∃ g, g = w.heap.size := ⟨_, rfl⟩
  rw [← hg] at k1 ⊢
  have K1 := Lib.hid k1
  have B1 := Lib.hid b1
  have G1 := Lib.hid hg
  clear k1 b1 hg z1
  go_wp2_with fail
  refine (new_c a _).mono ?_
  rintro r w2 ⟨rfl, k2, b2, z2⟩
  obtain ⟨g2, hg2⟩ : ∃ g, g = w1.heap.size := ⟨_, rfl⟩
  rw [← hg2] at k2 ⊢
  have K2 := Lib.hid k2
  have K12 := Lib.hid (K1.out.below b2 K1.out.lt)
  have B2 := Lib.hid (B1.out.trans (b2.mono B1.out.size))
  have GG := Lib.hid (show g < g2 by have := K1.out.lt; omega)
  clear k2 b2 hg2 z2 K1
  go_wp2_with fail
  go_loopw [9] (fun v9 u => ∃ i : Nat, i ≤ n ∧ v9 = .int .i64 (i : Int) ∧ CkB g (st a L i) (cn a L i) u ∧ CkB g2 (st a L (min i k)) (cn a L (min i k)) u ∧ Below w.heap.size w u) (fun v9 _ => n - (intOf v9).toNat)
  case atStart => exact ⟨0, Nat.zero_le _, rfl, by rw [st_zero]; exact K12.out, by rw [Nat.zero_min, st_zero]; exact K2.out, B2.out⟩
  case round =>
    obtain ⟨i, hi, rfl, q1, q2, q3⟩ := hrel
    have Q1 := Lib.hid q1
    have Q2 := Lib.hid q2
    have Q3 := Lib.hid q3
    clear q1 q2 q3
    by_cases hlt : i < n
    · obtain ⟨z, hz⟩ : ∃ z, L[i]? = some z := ⟨_, List.getElem?_eq_getElem (by have := HN.out; omega)⟩
      obtain ⟨xa, rfl, c1⟩ := (HR.out.below Q3.out (Nat.le_refl _)) i z hz
      have S1 := Lib.hid (st_succ a L hz)
      have S2 := Lib.hid (cn_succ a L hz)
      have C0 := Lib.hid (cn_le a L i)
      have HZ := Lib.hid hz
      clear hz
      go_wp2_with fail
      refine (take_c g _ _ z (by have := C0.out; omega) _ Q1.out).mono ?_
      rintro r w3 ⟨rfl, k3, g3, -⟩
      have c2 : w3.cell? (xa.add i) = some (.int .u64 (z : Int)) := by
        obtain ⟨xb, hb, h⟩ := (HR.out.below (Below.of_grown Q3.out g3 Q3.out.size (Nat.le_of_eq G1.out.symm)) (Nat.le_refl _)) i z HZ.out
        injection hb with hb
        subst hb
        exact h
      have K3 : Hid (CkB g (st a L (i + 1)) (cn a L (i + 1)) w3) := Lib.hid (by rw [S1.out, S2.out]; exact k3)
      have B3 := Lib.hid (Below.of_grown Q3.out g3 Q3.out.size (Nat.le_of_eq G1.out.symm))
      have K4 := Lib.hid (Q2.out.grown g3 (by intro h; injection h with h; have := GG.out; omega))
      clear k3 g3 c1
      by_cases hik : i < k
      · have e1 : min i k = i := by omega
        have e2 : min (i + 1) k = i + 1 := by omega
        rw [e1] at K4
        go_wp2_with fail
        refine (take_c g2 _ _ z (by have := C0.out; omega) _ K4.out).mono ?_
        rintro r w5 ⟨rfl, k5, g5, -⟩
        have K5 : Hid (CkB g2 (st a L (min (i + 1) k)) (cn a L (min (i + 1) k)) w5) := Lib.hid (by rw [e2, S1.out, S2.out]; exact k5)
        have K6 := Lib.hid (K3.out.grown g5 (by intro h; injection h with h; have := GG.out; omega))
        have B5 := Lib.hid (Below.of_grown B3.out g5 B3.out.size (by have := GG.out; have := G1.out; omega))
        clear k5 g5
        go_wp2_with fail
        exact ⟨⟨i + 1, by omega, by go_num, K6.out, K5.out, B5.out⟩, by simp [intOf]; omega⟩
      · have e2 : min (i + 1) k = min i k := by omega
        rw [← e2] at K4
        go_wp2_with fail
        exact ⟨⟨i + 1, by omega, by go_num, K3.out, K4.out, B3.out⟩, by simp [intOf]; omega⟩
    · obtain rfl : i = n := by omega
      have e1 : min i k = k := by omega
      rw [e1] at Q2
      obtain ⟨s, hs⟩ : ∃ s, s = st a L k := ⟨_, rfl⟩
      have HS := Lib.hid hs
      rw [← hs] at Q2
      clear hs e1
      go_wp2_with fail
      refine (at_c g2 _ _ _ Q2.out).mono ?_
      rintro r w3 ⟨rfl, rfl⟩
      go_wp2_with fail
      refine (new_c s _).mono ?_
      rintro r w4 ⟨rfl, k4, b4, z4⟩
      obtain ⟨g4, hg4⟩ : ∃ g, g = w3.heap.size := ⟨_, rfl⟩
      rw [← hg4] at k4 ⊢
      have K4 := Lib.hid k4
      have K1 := Lib.hid (Q1.out.below b4 Q1.out.lt)
      have K2' := Lib.hid (Q2.out.below b4 Q2.out.lt)
      have B4 := Lib.hid (Q3.out.trans (b4.mono Q3.out.size))
      have G4 := Lib.hid (show g2 < g4 by have := Q2.out.lt; omega)
      clear k4 b4 hg4 z4
      have SM := Lib.hid (same_gg g4 s 0 g2 s (cn a L k) _ K4.out K2'.out)
      rw [show decide (s = s) = true from decide_eq_true rfl] at SM
      go_wp2_with fail
      refine SM.out.mono ?_
      rintro r w5 ⟨rfl, rfl⟩
      go_wp2_with fail
      go_loopw [11] (fun v11 u => ∃ j m : Nat, k ≤ j ∧ j ≤ i ∧ v11 = .int .i64 (j : Int) ∧ CkB g4 (st a L j) m u ∧ m + cn a L k = cn a L j ∧ CkB g (st a L i) (cn a L i) u ∧ CkB g2 s (cn a L k) u ∧ Below w.heap.size w u) (fun v11 _ => i - (intOf v11).toNat)
      case atStart => exact ⟨k, 0, Nat.le_refl _, hk, rfl, by rw [← HS.out]; exact K4.out, by omega, K1.out, K2'.out, B4.out⟩
      case round =>
        obtain ⟨j, m, hkj, hj, rfl, r1, r2, r3, r4, r5⟩ := hrel
        have R1 := Lib.hid r1
        have R2 := Lib.hid r2
        have R3 := Lib.hid r3
        have R4 := Lib.hid r4
        have R5 := Lib.hid r5
        clear r1 r2 r3 r4 r5
        by_cases hjn : j < i
        · obtain ⟨z, hz⟩ : ∃ z, L[j]? = some z := ⟨_, List.getElem?_eq_getElem (by have := HN.out; omega)⟩
          obtain ⟨xa, rfl, c1⟩ := (HR.out.below R5.out (Nat.le_refl _)) j z hz
          have S1 := Lib.hid (st_succ a L hz)
          have S2 := Lib.hid (cn_succ a L hz)
          have C0 := Lib.hid (cn_le a L j)
          clear hz
          go_wp2_with fail
          refine (take_c g4 _ _ z (by have := C0.out; have := R2.out; omega) _ R1.out).mono ?_
          rintro r w6 ⟨rfl, k6, g6, -⟩
          have K6 : Hid (CkB g4 (st a L (j + 1)) (m + if st a L j < z then 1 else 0) w6) := Lib.hid (by rw [S1.out]; exact k6)
          have E6 : Hid ((m + if st a L j < z then 1 else 0) + cn a L k = cn a L (j + 1)) := Lib.hid (by rw [S2.out, ← R2.out]; omega)
          have R3' := Lib.hid (R3.out.grown g6 (by intro h; injection h with h; have := GG.out; have := G4.out; omega))
          have R4' := Lib.hid (R4.out.grown g6 (by intro h; injection h with h; have := G4.out; omega))
          have B6 := Lib.hid (Below.of_grown R5.out g6 R5.out.size (by have := GG.out; have := G1.out; have := G4.out; omega))
          clear k6 g6
          go_wp2_with fail
          exact ⟨⟨j + 1, _, by omega, by omega, by go_num, K6.out, E6.out, R3'.out, R4'.out, B6.out⟩, by simp [intOf]; omega⟩
        · obtain rfl : j = i := by omega
          have CJ := Lib.hid (cn_le a L j)
          obtain ⟨x, hx⟩ : ∃ x, x = st a L j := ⟨_, rfl⟩
          obtain ⟨y, hy⟩ : ∃ y, y = cn a L j := ⟨_, rfl⟩
          obtain ⟨t, ht⟩ : ∃ t, t = cn a L k := ⟨_, rfl⟩
          rw [← hx] at R1 R3
          rw [← hy] at R2 R3 CJ
          rw [← ht] at R2 R4
          clear hx hy ht
          have SN := Lib.hid (same_gg g4 x m g x y _ R1.out R3.out)
          rw [show decide (x = x) = true from decide_eq_true rfl] at SN
          have sm : (m : Int) + (t : Int) = (y : Int) := by have := R2.out; omega
          have hy3 : y ≤ 300 := by have := CJ.out; omega
          have hm3 : m ≤ 300 := by have := R2.out; omega
          have ht3 : t ≤ 300 := by have := R2.out; omega
          go_wp2_with fail
          refine SN.out.mono ?_
          rintro r w6 ⟨rfl, rfl⟩
          go_wp2_with fail
          refine (taken_c _ _ _ _ R1.out).mono ?_
          rintro r w7 ⟨rfl, rfl⟩
          go_wp2_with fail
          refine (taken_c _ _ _ _ R4.out).mono ?_
          rintro r w8 ⟨rfl, rfl⟩
          go_wp2_with fail
          refine (taken_c _ _ _ _ R3.out).mono ?_
          rintro r w9 ⟨rfl, rfl⟩
          go_wp2_with fail
          refine (known_c _).mono ?_
          rintro r w10 ⟨rfl, b10⟩
          go_wp2_with fail
          go_ret
          exact ⟨rfl, R5.out.trans (b10.mono R5.out.size)⟩
set_option maxHeartbeats 4000000 in
theorem clockParts_big (w : World) (a : Nat) (A : Option Addr) (n c : Nat) (z : Int) (h : 300 < n) : Calls Try.prog 7 #[.int .u64 (a : Int), .slice A n c, .int .i64 z] w fun r w' => r = .returned (.bool true) ∧ Below w.heap.size w w' := by
  have d1 : decide ((n : Int) > 300) = true := by simp; omega
  have d2 : decide (300 < (n : Int)) = true := by simp; omega
  go_enter Try.func7, Try.ntmps7
  go_wp2_with fail
  refine (known_c _).mono ?_
  rintro r w1 ⟨rfl, b1⟩
  go_wp2_with fail
  go_ret
  exact ⟨rfl, b1⟩
set_option maxHeartbeats 4000000 in
theorem clockParts_neg (w : World) (a : Nat) (A : Option Addr) (n c : Nat) (z : Int) (h : n ≤ 300) (h2 : z < 0) : Calls Try.prog 7 #[.int .u64 (a : Int), .slice A n c, .int .i64 z] w fun r w' => r = .returned (.bool true) ∧ Below w.heap.size w w' := by
  have d1 : decide ((n : Int) > 300) = false := by simp; omega
  have d2 : decide (300 < (n : Int)) = false := by simp; omega
  have d3 : decide (z < 0) = true := by simp; omega
  go_enter Try.func7, Try.ntmps7
  go_wp2_with fail
  refine (known_c _).mono ?_
  rintro r w1 ⟨rfl, b1⟩
  go_wp2_with fail
  go_ret
  exact ⟨rfl, b1⟩
set_option maxHeartbeats 4000000 in
theorem clockParts_far (w : World) (a : Nat) (A : Option Addr) (n c : Nat) (z : Int) (h : n ≤ 300) (h2 : ¬ z < 0) (h3 : (n : Int) < z) : Calls Try.prog 7 #[.int .u64 (a : Int), .slice A n c, .int .i64 z] w fun r w' => r = .returned (.bool true) ∧ Below w.heap.size w w' := by
  have d1 : decide ((n : Int) > 300) = false := by simp; omega
  have d2 : decide (300 < (n : Int)) = false := by simp; omega
  have d3 : decide (z < 0) = false := by simp; omega
  have d4 : decide (z > (n : Int)) = true := by simp; omega
  have d5 : decide ((n : Int) < z) = true := by simp; omega
  go_enter Try.func7, Try.ntmps7
  go_wp2_with fail
  refine (known_c _).mono ?_
  rintro r w1 ⟨rfl, b1⟩
  go_wp2_with fail
  go_ret
  exact ⟨rfl, b1⟩
theorem clockParts_any (w : World) (a : Nat) (A : Option Addr) (L : List Nat) (c : Nat) (z : Int) (ha : a < 18446744073709551616) (hL : ∀ x ∈ L, x < 18446744073709551616) (hr : RU w A L) (h1 : -9223372036854775808 ≤ z) (h2 : z ≤ 9223372036854775807) :
    Calls Try.prog 7 #[.int .u64 (a : Int), .slice A L.length c, .int .i64 z] w fun r w' => r = .returned (.bool true) ∧ Below w.heap.size w w' := by
  by_cases c1 : 300 < L.length
  · exact clockParts_big w a A _ c z c1
  · by_cases c2 : z < 0
    · exact clockParts_neg w a A _ c z (by omega) c2
    · by_cases c3 : (L.length : Int) < z
      · exact clockParts_far w a A _ c z (by omega) c2 c3
      · obtain ⟨k, rfl⟩ := Int.eq_ofNat_of_zero_le (show 0 ≤ z by omega)
        exact clockParts_main w a A L c k ha hL hr (by omega) (by omega)
end Go.Proofs.Ytkjlcfffalmgoaa
