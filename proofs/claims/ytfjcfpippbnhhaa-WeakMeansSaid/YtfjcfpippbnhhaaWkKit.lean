/- Where an anchor's time ends: the contracts. -/
import Derived.Test.YtfjcfpippbnhhaaMem
import Derived.Test.YtfjcfpippbnhhaaWoFill
namespace Go.Proofs.Ytfjcfpippbnhhaa
open Go.ChangeShapes Go.WideShapes Go.ChangeAt Go.RowKit
set_option linter.unusedVariables false
set_option maxRecDepth 100000

/-- Where an anchor's time ends, plainly. -/
def endN (a w : Nat) : Nat := if a + w ≤ 18446744073709551615 then a + w else 18446744073709551615
theorem endN_lt (a w : Nat) : endN a w < 18446744073709551616 := by unfold endN; split <;> omega
theorem wrapI (a : Int) (h0 : 0 ≤ a) (h1 : a < 18446744073709551616) : IntKind.u64.wrap a = a := by rw [IntKind.wrap_u64]; omega
theorem ret_int {a b : Int} (h : a = b) : Ending.returned (.int .u64 a) = Ending.returned (.int .u64 b) := by rw [h]
theorem ret_num {a b : Int} {r : Value} (h : a = b) : Ending.returned (.tuple #[.int .u64 a, r]) = Ending.returned (.tuple #[.int .u64 b, r]) := by rw [h]
set_option maxHeartbeats 4000000 in
theorem window_c (d c : Nat) (hd : d < 18446744073709551616) (hc : c < 18446744073709551616) (h0 : 0 < c) (w : World) : Calls Try.prog 8 #[.int .u64 (d : Int), .int .u64 (c : Int)] w fun e w' => e = .returned (.tuple #[.int .u64 ((d / (2 * c) : Nat) : Int), .int .i64 0]) ∧ w' = w := by
  have d1 : ((c : Int) == 0) = false := by rw [beq_eq_false_iff_ne]; omega
  have d1' : decide ((c : Int) = 0) = false := by simp; omega
  have hne : ¬ (c : Int) = 0 := by omega
  go_enter Try.func8, Try.ntmps8
  go_wp2_with fail
  go_ret2
  refine ⟨ret_num ?_, rfl⟩
  rw [← Nat.div_div_eq_div_mul]
  rfl
theorem window_no (d : Nat) (w : World) : Calls Try.prog 8 #[.int .u64 (d : Int), .int .u64 0] w fun e w' => e = .returned (.tuple #[.int .u64 0, .int .i64 2]) ∧ w' = w := by
  go_enter Try.func8, Try.ntmps8
  go_wp2_with fail
  go_ret2
  exact ⟨rfl, rfl⟩
theorem end_c (a n : Nat) (ha : a < 18446744073709551616) (hn : n < 18446744073709551616) (w : World) : Calls Try.prog 13 #[.int .u64 (a : Int), .int .u64 (n : Int)] w fun e w' => e = .returned (.int .u64 ((endN a n : Nat) : Int)) ∧ w' = w := by
  by_cases hs : a + n ≤ 18446744073709551615
  · have d1 : decide ((n : Int) > 18446744073709551615 - (a : Int)) = false := by simp; omega
    have d1' : decide (18446744073709551615 - (a : Int) < (n : Int)) = false := by simp; omega
    go_enter Try.func13, Try.ntmps13
    go_wp2_with fail
    go_ret
    exact ⟨ret_int (by unfold endN; rw [if_pos hs]; rfl), rfl⟩
  · have d1 : decide ((n : Int) > 18446744073709551615 - (a : Int)) = true := by simp; omega
    have d1' : decide (18446744073709551615 - (a : Int) < (n : Int)) = true := by simp; omega
    go_enter Try.func13, Try.ntmps13
    go_wp2_with fail
    go_ret
    exact ⟨ret_int (by unfold endN; rw [if_neg hs]; rfl), rfl⟩
/-- The closure over the end: how many are left, and is the epoch above. -/
theorem clo_c (n e : Nat) (b : Nat) (hn : n < 18446744073709551616) (he : e < 18446744073709551616) (w : World) (hc : w.cell? ⟨b, 0, none⟩ = some (.int .u64 (n : Int))) :
    Calls Try.prog 20 #[.int .u64 (e : Int), .pointer (some ⟨b, 0, none⟩)] w fun r w' => r = .returned (.tuple #[.int .u64 ((n - e : Nat) : Int), .bool (decide (n < e))]) ∧ w' = w := by
  by_cases hs : n < e
  · have d1 : decide ((e : Int) > (n : Int)) = true := by simp; omega
    have d1' : decide ((n : Int) < (e : Int)) = true := by simp; omega
    go_enter Try.func20, Try.ntmps20
    go_wp2_with fail
    go_ret2
    rw [show decide (n < e) = true from decide_eq_true hs, show n - e = 0 by omega]
    exact ⟨rfl, rfl⟩
  · have d1 : decide ((e : Int) > (n : Int)) = false := by simp; omega
    have d1' : decide ((n : Int) < (e : Int)) = false := by simp; omega
    go_enter Try.func20, Try.ntmps20
    go_wp2_with fail
    go_ret2
    rw [show decide (n < e) = false from decide_eq_false hs, show (n : Int) - (e : Int) = ((n - e : Nat) : Int) by omega]
    exact ⟨rfl, rfl⟩
theorem till_c (a n : Nat) (ha : a < 18446744073709551616) (hn : n < 18446744073709551616) (w : World) : Calls Try.prog 19 #[.int .u64 (a : Int), .int .u64 (n : Int)] w fun r w' => ∃ b, r = .returned (.func (.func 20) #[] #[.pointer (some ⟨b, 0, none⟩)]) ∧ w'.cell? ⟨b, 0, none⟩ = some (.int .u64 ((endN a n : Nat) : Int)) ∧ Below w.heap.size w w' := by
  have EC := Lib.hid (end_c a n ha hn)
  go_enter Try.func19, Try.ntmps19
  go_wp2_with fail
  refine (EC.out w).mono ?_
  rintro e w1 ⟨rfl, rfl⟩
  go_wp2_with fail
  go_ret
  refine ⟨_, rfl, ?_, (Below.refl _ _).alloc (Nat.le_refl _) _⟩
  exact (World.cell?_alloc_at _ _ _ _ rfl).trans rfl
set_option maxHeartbeats 4000000 in
theorem stale_c (a n : Nat) (ha : a < 18446744073709551616) (hn : n < 18446744073709551616) (e : Nat) (he : e < 18446744073709551616) (w : World) : Calls Try.prog 14 #[.int .u64 (a : Int), .int .u64 (n : Int), .int .u64 (e : Int)] w fun r w' => r = .returned (.bool (decide (endN a n < e))) ∧ Below w.heap.size w w' := by
  have TC := Lib.hid (till_c a n ha hn)
  go_enter Try.func14, Try.ntmps14
  go_wp2_with fail
  refine (TC.out w).mono ?_
  rintro r w1 ⟨b, rfl, hc, hb⟩
  have CL := Lib.hid (clo_c (endN a n) e b (endN_lt _ _) he w1 hc)
  clear hc
  go_wp2_with fail
  refine CL.out.mono ?_
  rintro r w2 ⟨rfl, rfl⟩
  go_wp2_with fail
  go_ret
  exact ⟨rfl, hb⟩
set_option maxHeartbeats 4000000 in
theorem left_c (a n : Nat) (ha : a < 18446744073709551616) (hn : n < 18446744073709551616) (e : Nat) (he : e < 18446744073709551616) (w : World) : Calls Try.prog 16 #[.int .u64 (a : Int), .int .u64 (n : Int), .int .u64 (e : Int)] w fun r w' => r = .returned (.int .u64 ((endN a n - e : Nat) : Int)) ∧ Below w.heap.size w w' := by
  have TC := Lib.hid (till_c a n ha hn)
  go_enter Try.func16, Try.ntmps16
  go_wp2_with fail
  refine (TC.out w).mono ?_
  rintro r w1 ⟨b, rfl, hc, hb⟩
  have CL := Lib.hid (clo_c (endN a n) e b (endN_lt _ _) he w1 hc)
  clear hc
  go_wp2_with fail
  refine CL.out.mono ?_
  rintro r w2 ⟨rfl, rfl⟩
  go_wp2_with fail
  go_ret
  exact ⟨rfl, hb⟩
set_option maxHeartbeats 4000000 in
theorem within_c (a n : Nat) (ha : a < 18446744073709551616) (hn : n < 18446744073709551616) (e : Nat) (he : e < 18446744073709551616) (w : World) : Calls Try.prog 15 #[.int .u64 (a : Int), .int .u64 (n : Int), .int .u64 (e : Int)] w fun r w' => r = .returned (.bool (decide (a ≤ e ∧ e ≤ endN a n))) ∧ Below w.heap.size w w' := by
  have SC := Lib.hid (stale_c a n ha hn e he)
  have hnot : ∀ (x : Bool) (w : World), (Op.unary .not (.bool x)).run Try.prog w = .ok (.bool (!x)) w := fun _ _ => rfl
  by_cases hs : a ≤ e
  · have d1 : decide ((e : Int) ≥ (a : Int)) = true := by simp; omega
    have d1' : decide ((a : Int) ≤ (e : Int)) = true := by simp; omega
    go_enter Try.func15, Try.ntmps15
    go_wp2_with fail
    refine (SC.out _).mono ?_
    rintro r w2 ⟨rfl, hb⟩
    go_wp2_with fail
    go_ret
    refine ⟨?_, hb⟩
    have : (!decide (endN a n < e)) = decide (a ≤ e ∧ e ≤ endN a n) := by
      by_cases h : endN a n < e
      · rw [decide_eq_true h, decide_eq_false (by omega)]
        rfl
      · rw [decide_eq_false h, decide_eq_true (by omega)]
        rfl
    rw [← this]
    rfl
  · have d1 : decide ((e : Int) ≥ (a : Int)) = false := by simp; omega
    have d1' : decide ((a : Int) ≤ (e : Int)) = false := by simp; omega
    go_enter Try.func15, Try.ntmps15
    go_wp2_with fail
    go_ret
    refine ⟨?_, Below.refl _ _⟩
    rw [decide_eq_false (by omega)]
    rfl
theorem num_c (n : Int) (w : World) : Calls Try.prog 9 #[.int .i64 n] w fun r w' => r = .returned (.int .i64 n) ∧ w' = w := by
  go_enter Try.func9, Try.ntmps9
  go_wp2_with fail
  go_ret
  exact ⟨rfl, rfl⟩
/-- The chapter's rows. -/
theorem known_c (w : World) : Calls Try.prog 10 #[] w fun r w' => r = .returned (.bool true) ∧ Below w.heap.size w w' := by
  have W1 := Lib.hid (window_c 100 10 (by decide) (by decide) (by decide))
  have W2 := Lib.hid (window_c 9 5 (by decide) (by decide) (by decide))
  have W3 := Lib.hid (window_no 9)
  have EC := Lib.hid (end_c 7 5 (by decide) (by decide))
  have S1 := Lib.hid (stale_c 7 5 (by decide) (by decide) 12 (by decide))
  have S2 := Lib.hid (stale_c 7 5 (by decide) (by decide) 13 (by decide))
  have LC := Lib.hid (left_c 7 5 (by decide) (by decide) 10 (by decide))
  go_enter Try.func10, Try.ntmps10
  go_wp2_with fail
  refine (W1.out _).mono ?_
  rintro r w1 ⟨rfl, rfl⟩
  go_wp2_with fail
  refine (W2.out _).mono ?_
  rintro r w1 ⟨rfl, rfl⟩
  go_wp2_with fail
  refine (W3.out _).mono ?_
  rintro r w1 ⟨rfl, rfl⟩
  go_wp2_with fail
  refine (num_c _ _).mono ?_
  rintro r w1 ⟨rfl, rfl⟩
  go_wp2_with fail
  refine (num_c _ _).mono ?_
  rintro r w1 ⟨rfl, rfl⟩
  go_wp2_with fail
  refine (num_c _ _).mono ?_
  rintro r w1 ⟨rfl, rfl⟩
  go_wp2_with fail
  refine (EC.out _).mono ?_
  rintro r w1 ⟨rfl, rfl⟩
  go_wp2_with fail
  refine (S1.out _).mono ?_
  rintro r w2 ⟨rfl, hb2⟩
  go_wp2_with fail
  refine (S2.out _).mono ?_
  rintro r w3 ⟨rfl, hb3⟩
  go_wp2_with fail
  refine (LC.out _).mono ?_
  rintro r w4 ⟨rfl, hb4⟩
  go_wp2_with fail
  go_ret
  refine ⟨?_, (hb2.trans (hb3.mono hb2.size)).trans (hb4.mono (Nat.le_trans hb2.size hb3.size))⟩
  have e1 : (!decide (endN 7 5 < 12) && ((endN 7 5 - 10 : Nat) : Int) == 2) = true := by decide
  exact congrArg (fun x => Ending.returned (Value.bool x)) e1
end Go.Proofs.Ytfjcfpippbnhhaa
