/- CertQuorums: every two numbers. -/
import Derived.Test.YtmfkccmccnloaaaCqQuo
namespace Go.Proofs.Ytmfkccmccnloaaa
set_option linter.unusedVariables false
set_option maxRecDepth 100000

set_option maxHeartbeats 8000000 in
theorem certQuorums_any (a b : Nat) (ha : a < 18446744073709551616) (hb : b < 18446744073709551616) (w : World) : Calls Try.prog 4 #[.int .u64 (a : Int), .int .u64 (b : Int)] w fun e w' => e = .returned (.bool true) ∧ w' = w := by
  have P30 := Lib.hid (parts30_c a ha)
  have P31 := Lib.hid (parts31_c a ha)
  have P20 := Lib.hid (parts20_c b hb)
  have P21 := Lib.hid (parts21_c b hb)
  have QC := Lib.hid (quorum_c a b ha hb)
  obtain ⟨h3, e3⟩ : ∃ n, n = 3 * a / 4294967296 := ⟨_, rfl⟩
  obtain ⟨l3, f3⟩ : ∃ n, n = 3 * a % 4294967296 := ⟨_, rfl⟩
  obtain ⟨h2, e2⟩ : ∃ n, n = 2 * b / 4294967296 := ⟨_, rfl⟩
  obtain ⟨l2, f2⟩ : ∃ n, n = 2 * b % 4294967296 := ⟨_, rfl⟩
  rw [← e3] at P30
  rw [← f3] at P31
  rw [← e2] at P20
  rw [← f2] at P21
  have E := Lib.hid (And.intro e3 (And.intro f3 (And.intro e2 f2)))
  clear e3 f3 e2 f2 ha hb
  go_enter Try.func4, Try.ntmps4
  go_wp2_with fail
  refine (P30.out w).mono ?_
  rintro e w1 ⟨rfl, rfl⟩
  go_wp2_with fail
  refine (P20.out w1).mono ?_
  rintro e w2 ⟨rfl, rfl⟩
  by_cases c2 : h2 < h3
  · have d2 : decide ((h3 : Int) > (h2 : Int)) = true := by simp; omega
    have d2' : decide ((h2 : Int) < (h3 : Int)) = true := by simp; omega
    go_wp2_with fail
    refine (QC.out _).mono ?_
    rintro e w1 ⟨rfl, rfl⟩
    rw [show quoN a b = true from decide_eq_true (by have := E.out; omega)]
    go_wp2_with fail
    refine (known_c _).mono ?_
    rintro e w1 ⟨rfl, rfl⟩
    go_wp2_with fail
    go_ret
    exact ⟨rfl, rfl⟩
  · have d2 : decide ((h3 : Int) > (h2 : Int)) = false := by simp; omega
    have d2' : decide ((h2 : Int) < (h3 : Int)) = false := by simp; omega
    by_cases c3 : h3 = h2
    · have d3 : ((h3 : Int) == (h2 : Int)) = true := by rw [beq_iff_eq]; omega
      have d3' : decide ((h3 : Int) = (h2 : Int)) = true := by simp; omega
      by_cases c4 : l2 ≤ l3
      · have d4 : decide ((l3 : Int) ≥ (l2 : Int)) = true := by simp; omega
        have d4' : decide ((l2 : Int) ≤ (l3 : Int)) = true := by simp; omega
        go_wp2_with fail
        refine (P30.out _).mono ?_
        rintro e w1 ⟨rfl, rfl⟩
        go_wp2_with fail
        refine (P20.out _).mono ?_
        rintro e w1 ⟨rfl, rfl⟩
        go_wp2_with fail
        refine (P31.out _).mono ?_
        rintro e w1 ⟨rfl, rfl⟩
        go_wp2_with fail
        refine (P21.out _).mono ?_
        rintro e w1 ⟨rfl, rfl⟩
        go_wp2_with fail
        refine (QC.out _).mono ?_
        rintro e w1 ⟨rfl, rfl⟩
        rw [show quoN a b = true from decide_eq_true (by have := E.out; omega)]
        go_wp2_with fail
        refine (known_c _).mono ?_
        rintro e w1 ⟨rfl, rfl⟩
        go_wp2_with fail
        go_ret
        exact ⟨rfl, rfl⟩
      · have d4 : decide ((l3 : Int) ≥ (l2 : Int)) = false := by simp; omega
        have d4' : decide ((l2 : Int) ≤ (l3 : Int)) = false := by simp; omega
        go_wp2_with fail
        refine (P30.out _).mono ?_
        rintro e w1 ⟨rfl, rfl⟩
        go_wp2_with fail
        refine (P20.out _).mono ?_
        rintro e w1 ⟨rfl, rfl⟩
        go_wp2_with fail
        refine (P31.out _).mono ?_
        rintro e w1 ⟨rfl, rfl⟩
        go_wp2_with fail
        refine (P21.out _).mono ?_
        rintro e w1 ⟨rfl, rfl⟩
        go_wp2_with fail
        refine (QC.out _).mono ?_
        rintro e w1 ⟨rfl, rfl⟩
        rw [show quoN a b = false from decide_eq_false (by have := E.out; omega)]
        go_wp2_with fail
        refine (known_c _).mono ?_
        rintro e w1 ⟨rfl, rfl⟩
        go_wp2_with fail
        go_ret
        exact ⟨rfl, rfl⟩
    · have d3 : ((h3 : Int) == (h2 : Int)) = false := by rw [beq_eq_false_iff_ne]; omega
      have d3' : decide ((h3 : Int) = (h2 : Int)) = false := by simp; omega
      go_wp2_with fail
      refine (P30.out _).mono ?_
      rintro e w1 ⟨rfl, rfl⟩
      go_wp2_with fail
      refine (P20.out _).mono ?_
      rintro e w1 ⟨rfl, rfl⟩
      go_wp2_with fail
      refine (QC.out _).mono ?_
      rintro e w1 ⟨rfl, rfl⟩
      rw [show quoN a b = false from decide_eq_false (by have := E.out; omega)]
      go_wp2_with fail
      refine (known_c _).mono ?_
      rintro e w1 ⟨rfl, rfl⟩
      go_wp2_with fail
      go_ret
      exact ⟨rfl, rfl⟩
end Go.Proofs.Ytmfkccmccnloaaa
