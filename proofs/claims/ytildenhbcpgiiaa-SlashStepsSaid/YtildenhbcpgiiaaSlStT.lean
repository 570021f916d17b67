/- SlashSteps: what is wanted, plainly and walked. -/
import Derived.Test.YtildenhbcpgiiaaSlStS
namespace Go.Proofs.Ytildenhbcpgiiaa
open Go.ChangeMaps Go.MapKept Go.Maps Go.WideElems Go.RowKit Go.ChangeShapes Go.WideShapes Go.ChangeAt
set_option linter.unusedVariables false
set_option maxRecDepth 100000

/-- What the statement asks of a step a to b and a vote s to t. -/
def brkE (a b s t : Nat) : Bool := (decide (b = t) && !decide (a = s)) || (decide (a < s) && decide (t < b)) || (decide (s < a) && decide (b < t))
theorem ptE_eq {a b : Nat} {ha : a < 18446744073709551616} {hb : b < 18446744073709551616} : ptE a ha = ptE b hb ↔ a = b := by
  constructor
  · intro h; injection h
  · rintro rfl; rfl
theorem brkE_brk (E : List Nat) (m s t : Nat) (hs : s < 18446744073709551616) (ht : t < 18446744073709551616) (he : ∀ e ∈ E, e < 18446744073709551616) : brk (lkS E m) (lkE s t hs ht) = brkE (lkS E m).s.e (lkS E m).t.e s t := by
  obtain ⟨a, ha⟩ : ∃ a, a = E.getD m 0 % 18446744073709551616 := ⟨_, rfl⟩
  obtain ⟨b, hb⟩ : ∃ b, b = E.getD (m + 1) 0 % 18446744073709551616 := ⟨_, rfl⟩
  have la : a < 18446744073709551616 := by rw [ha]; exact Nat.mod_lt _ (by omega)
  have lb : b < 18446744073709551616 := by rw [hb]; exact Nat.mod_lt _ (by omega)
  have e : lkS E m = lkE a b la lb := by subst ha; subst hb; rfl
  rw [e]
  have h1 : decide (lkE a b la lb = lkE s t hs ht) = (decide (a = s) && decide (b = t)) := by
    rw [Bool.eq_iff_iff, decide_eq_true_eq, Bool.and_eq_true, decide_eq_true_eq, decide_eq_true_eq]
    constructor
    · intro h; injection h with h1 h2; exact ⟨ptE_eq.1 h1, ptE_eq.1 h2⟩
    · rintro ⟨rfl, rfl⟩; rfl
  unfold brk
  rw [h1]
  show (!(decide (a = s) && decide (b = t)) && (decide (b = t) || (decide (a < s) && decide (t < b)) || (decide (s < a) && decide (b < t)))) = brkE a b s t
  unfold brkE
  by_cases h2 : a = s
  · subst h2
    by_cases h3 : b = t
    · simp [h3]
    · simp [h3]
  · by_cases h3 : b = t
    · simp [h2, h3]
    · simp [h2, h3]
/-- Steps that rise break no rule with one another. -/
theorem steps_ok {E : List Nat} {j : Nat} (hr : ∀ a b, a < b → b < j + 1 → E.getD a 0 < E.getD b 0) (he : ∀ e ∈ E, e < 18446744073709551616) {a b : Nat} (ha : a < j) (hb : b < j) : brk (lkS E a) (lkS E b) = false := by
  have hg : ∀ k, E.getD k 0 % 18446744073709551616 = E.getD k 0 := fun k => by
    rw [List.getD_eq_getElem?_getD]
    cases h : E[k]? with
    | none => rfl
    | some e => exact Nat.mod_eq_of_lt (he e (List.mem_of_getElem? h))
  rcases Nat.lt_trichotomy a b with h | h | h
  · have h1 := hr a b h (by omega)
    have h2 := hr (a + 1) (b + 1) (by omega) (by omega)
    have q1 : decide ((lkS E a).t.e = (lkS E b).t.e) = false := decide_eq_false (by show ¬ (_ % _ = _ % _); rw [hg, hg]; omega)
    have q2 : decide ((lkS E b).t.e < (lkS E a).t.e) = false := decide_eq_false (by show ¬ (_ % _ < _ % _); rw [hg, hg]; omega)
    have q3 : decide ((lkS E b).s.e < (lkS E a).s.e) = false := decide_eq_false (by show ¬ (_ % _ < _ % _); rw [hg, hg]; omega)
    unfold brk
    rw [q1, q2, q3]
    simp
  · subst h
    exact brk_self _
  · have h1 := hr b a h (by omega)
    have h2 := hr (b + 1) (a + 1) (by omega) (by omega)
    have q1 : decide ((lkS E a).t.e = (lkS E b).t.e) = false := decide_eq_false (by show ¬ (_ % _ = _ % _); rw [hg, hg]; omega)
    have q2 : decide ((lkS E a).t.e < (lkS E b).t.e) = false := decide_eq_false (by show ¬ (_ % _ < _ % _); rw [hg, hg]; omega)
    have q3 : decide ((lkS E a).s.e < (lkS E b).s.e) = false := decide_eq_false (by show ¬ (_ % _ < _ % _); rw [hg, hg]; omega)
    unfold brk
    rw [q1, q2, q3]
    simp
theorem eq_n (a b : Nat) : ((a : Int) == (b : Int)) = decide (a = b) := by rw [Bool.eq_iff_iff, beq_iff_eq, decide_eq_true_eq]; omega
theorem ne_n (a b : Nat) : ((a : Int) != (b : Int)) = !decide (a = b) := by rw [← eq_n]; rfl
noncomputable def ss_r25C : Code := ((Try.f5.body.bind (regionOf 25))).getD .skip
set_option maxRecDepth 1000000 in
set_option maxHeartbeats 8000000 in
theorem ss_r25 (c0 c3 c4 c5 c6 c7 c8 c9 c10 c11 c12 c14 c17 c18 c19 c20 c21 c22 c23 c24 c25 c26 c27 c28 c29 c30 c31 c32 c33 c34 c35 c36 c37 c38 c39 c40 c41 c42 c43 c44 c45 c46 c47 c48 c49 c50 c51 c52 c53 c54 c55 c56 c57 c58 c59 c60 c61 c62 c63 c64 c65 c66 c67 c68 c69 c70 c71 c72 c73 c74 c75 c76 c77 c78 c79 c80 c81 c82 c83 c84 c85 c86 c87 c88 c89 c90 c91 c92 c93 c94 c95 c96 c97 c98 c99 c100 c101 c102 c103 c104 c105 c106 c107 c108 c109 c110 c111 c112 c113 c114 c115 c116 c117 c118 c119 c120 c121 c122 c123 c124 c125 c126 c127 c128 c129 c130 c131 c132 c133 c134 c135 c136 c137 c138 : Value) (w : World) (a b s t : Nat) (sb : Bool)
    (Q : Exit → Act → World → Prop) (hQ : ∀ (u102 u103 u104 u105 u106 u107 u108 u109 u110 u111 u112 u113 u114 u115 u116 u117 u118 u119 u120 u121 u122 u123 u124 u125 u126 u127 u128 u129 u130 u131 u132 : Value) (w' : World), w' = w → Q .normal ⟨#[c0, .int .u64 (s : Int), .int .u64 (t : Int), c3, c4, c5, c6, c7, c8, c9, c10, c11, c12, .bool (sb || brkE a b s t), c14, .int .u64 (a : Int), .int .u64 (b : Int), c17, c18, c19, c20, c21, c22, c23, c24, c25, c26, c27, c28, c29, c30, c31, c32, c33, c34, c35, c36, c37, c38, c39, c40, c41, c42, c43, c44, c45, c46, c47, c48, c49, c50, c51, c52, c53, c54, c55, c56, c57, c58, c59, c60, c61, c62, c63, c64, c65, c66, c67, c68, c69, c70, c71, c72, c73, c74, c75, c76, c77, c78, c79, c80, c81, c82, c83, c84, c85, c86, c87, c88, c89, c90, c91, c92, c93, c94, c95, c96, c97, c98, c99, c100, c101, u102, u103, u104, u105, u106, u107, u108, u109, u110, u111, u112, u113, u114, u115, u116, u117, u118, u119, u120, u121, u122, u123, u124, u125, u126, u127, u128, u129, u130, u131, u132, c133, c134, c135, c136, c137, c138], []⟩ w') :
    Code.wp Try.prog ss_r25C Q ⟨#[c0, .int .u64 (s : Int), .int .u64 (t : Int), c3, c4, c5, c6, c7, c8, c9, c10, c11, c12, .bool sb, c14, .int .u64 (a : Int), .int .u64 (b : Int), c17, c18, c19, c20, c21, c22, c23, c24, c25, c26, c27, c28, c29, c30, c31, c32, c33, c34, c35, c36, c37, c38, c39, c40, c41, c42, c43, c44, c45, c46, c47, c48, c49, c50, c51, c52, c53, c54, c55, c56, c57, c58, c59, c60, c61, c62, c63, c64, c65, c66, c67, c68, c69, c70, c71, c72, c73, c74, c75, c76, c77, c78, c79, c80, c81, c82, c83, c84, c85, c86, c87, c88, c89, c90, c91, c92, c93, c94, c95, c96, c97, c98, c99, c100, c101, c102, c103, c104, c105, c106, c107, c108, c109, c110, c111, c112, c113, c114, c115, c116, c117, c118, c119, c120, c121, c122, c123, c124, c125, c126, c127, c128, c129, c130, c131, c132, c133, c134, c135, c136, c137, c138], []⟩ w := by
  conv => arg 2; whnf
  try dsimp only at hQ ⊢
  cases sb
  · skip
    by_cases hbt : b = t
    · have mbt : ((b : Int) == (t : Int)) = true := by rw [eq_n]; exact decide_eq_true hbt
      have kbt : decide ((b : Int) = (t : Int)) = true := decide_eq_true (by omega)
      by_cases has : a = s
      · have mas : ((a : Int) != (s : Int)) = false := by rw [ne_n, decide_eq_true has]; rfl
        have kas : decide ((a : Int) = (s : Int)) = true := decide_eq_true (by omega)
        by_cases has : a < s
        · have mas : decide ((a : Int) < (s : Int)) = true := by rw [lt_n]; exact decide_eq_true has
          by_cases htb : t < b
          · have mtb : decide ((t : Int) < (b : Int)) = true := by rw [lt_n]; exact decide_eq_true htb
            first
              | (exfalso; omega)
              | (rw [show brkE a b s t = true by unfold brkE; simp; omega, Bool.false_or] at hQ; go_wp2_with fail; first | rfl | exact hQ _ _ _ _ _ _ _ _ _ _ _ _ _ _ _ _ _ _ _ _ _ _ _ _ _ _ _ _ _ _ _ _ rfl)
          · have mtb : decide ((t : Int) < (b : Int)) = false := by rw [lt_n]; exact decide_eq_false htb
            by_cases hsa : s < a
            · have msa : decide ((s : Int) < (a : Int)) = true := by rw [lt_n]; exact decide_eq_true hsa
              by_cases hbt : b < t
              · have mbt : decide ((b : Int) < (t : Int)) = true := by rw [lt_n]; exact decide_eq_true hbt
                first
                  | (exfalso; omega)
                  | (rw [show brkE a b s t = true by unfold brkE; simp; omega, Bool.false_or] at hQ; go_wp2_with fail; first | rfl | exact hQ _ _ _ _ _ _ _ _ _ _ _ _ _ _ _ _ _ _ _ _ _ _ _ _ _ _ _ _ _ _ _ _ rfl)
              · have mbt : decide ((b : Int) < (t : Int)) = false := by rw [lt_n]; exact decide_eq_false hbt
                first
                  | (exfalso; omega)
                  | (rw [show brkE a b s t = false by unfold brkE; simp; omega, Bool.false_or] at hQ; go_wp2_with fail; first | rfl | exact hQ _ _ _ _ _ _ _ _ _ _ _ _ _ _ _ _ _ _ _ _ _ _ _ _ _ _ _ _ _ _ _ _ rfl)
            · have msa : decide ((s : Int) < (a : Int)) = false := by rw [lt_n]; exact decide_eq_false hsa
              first
                | (exfalso; omega)
                | (rw [show brkE a b s t = false by unfold brkE; simp; omega, Bool.false_or] at hQ; go_wp2_with fail; first | rfl | exact hQ _ _ _ _ _ _ _ _ _ _ _ _ _ _ _ _ _ _ _ _ _ _ _ _ _ _ _ _ _ _ _ _ rfl)
        · have mas : decide ((a : Int) < (s : Int)) = false := by rw [lt_n]; exact decide_eq_false has
          by_cases hsa : s < a
          · have msa : decide ((s : Int) < (a : Int)) = true := by rw [lt_n]; exact decide_eq_true hsa
            by_cases hbt : b < t
            · have mbt : decide ((b : Int) < (t : Int)) = true := by rw [lt_n]; exact decide_eq_true hbt
              first
                | (exfalso; omega)
                | (rw [show brkE a b s t = true by unfold brkE; simp; omega, Bool.false_or] at hQ; go_wp2_with fail; first | rfl | exact hQ _ _ _ _ _ _ _ _ _ _ _ _ _ _ _ _ _ _ _ _ _ _ _ _ _ _ _ _ _ _ _ _ rfl)
            · have mbt : decide ((b : Int) < (t : Int)) = false := by rw [lt_n]; exact decide_eq_false hbt
              first
                | (exfalso; omega)
                | (rw [show brkE a b s t = false by unfold brkE; simp; omega, Bool.false_or] at hQ; go_wp2_with fail; first | rfl | exact hQ _ _ _ _ _ _ _ _ _ _ _ _ _ _ _ _ _ _ _ _ _ _ _ _ _ _ _ _ _ _ _ _ rfl)
          · have msa : decide ((s : Int) < (a : Int)) = false := by rw [lt_n]; exact decide_eq_false hsa
            first
              | (exfalso; omega)
              | (rw [show brkE a b s t = false by unfold brkE; simp; omega, Bool.false_or] at hQ; go_wp2_with fail; first | rfl | exact hQ _ _ _ _ _ _ _ _ _ _ _ _ _ _ _ _ _ _ _ _ _ _ _ _ _ _ _ _ _ _ _ _ rfl)
      · have mas : ((a : Int) != (s : Int)) = true := by rw [ne_n, decide_eq_false has]; rfl
        have kas : decide ((a : Int) = (s : Int)) = false := decide_eq_false (by omega)
        first
          | (exfalso; omega)
          | (rw [show brkE a b s t = true by unfold brkE; simp; omega, Bool.false_or] at hQ; go_wp2_with fail; first | rfl | exact hQ _ _ _ _ _ _ _ _ _ _ _ _ _ _ _ _ _ _ _ _ _ _ _ _ _ _ _ _ _ _ _ _ rfl)
    · have mbt : ((b : Int) == (t : Int)) = false := by rw [eq_n]; exact decide_eq_false hbt
      have kbt : decide ((b : Int) = (t : Int)) = false := decide_eq_false (by omega)
      by_cases has : a < s
      · have mas : decide ((a : Int) < (s : Int)) = true := by rw [lt_n]; exact decide_eq_true has
        by_cases htb : t < b
        · have mtb : decide ((t : Int) < (b : Int)) = true := by rw [lt_n]; exact decide_eq_true htb
          first
            | (exfalso; omega)
            | (rw [show brkE a b s t = true by unfold brkE; simp; omega, Bool.false_or] at hQ; go_wp2_with fail; first | rfl | exact hQ _ _ _ _ _ _ _ _ _ _ _ _ _ _ _ _ _ _ _ _ _ _ _ _ _ _ _ _ _ _ _ _ rfl)
        · have mtb : decide ((t : Int) < (b : Int)) = false := by rw [lt_n]; exact decide_eq_false htb
          by_cases hsa : s < a
          · have msa : decide ((s : Int) < (a : Int)) = true := by rw [lt_n]; exact decide_eq_true hsa
            by_cases hbt : b < t
            · have mbt : decide ((b : Int) < (t : Int)) = true := by rw [lt_n]; exact decide_eq_true hbt
              first
                | (exfalso; omega)
                | (rw [show brkE a b s t = true by unfold brkE; simp; omega, Bool.false_or] at hQ; go_wp2_with fail; first | rfl | exact hQ _ _ _ _ _ _ _ _ _ _ _ _ _ _ _ _ _ _ _ _ _ _ _ _ _ _ _ _ _ _ _ _ rfl)
            · have mbt : decide ((b : Int) < (t : Int)) = false := by rw [lt_n]; exact decide_eq_false hbt
              first
                | (exfalso; omega)
                | (rw [show brkE a b s t = false by unfold brkE; simp; omega, Bool.false_or] at hQ; go_wp2_with fail; first | rfl | exact hQ _ _ _ _ _ _ _ _ _ _ _ _ _ _ _ _ _ _ _ _ _ _ _ _ _ _ _ _ _ _ _ _ rfl)
          · have msa : decide ((s : Int) < (a : Int)) = false := by rw [lt_n]; exact decide_eq_false hsa
            first
              | (exfalso; omega)
              | (rw [show brkE a b s t = false by unfold brkE; simp; omega, Bool.false_or] at hQ; go_wp2_with fail; first | rfl | exact hQ _ _ _ _ _ _ _ _ _ _ _ _ _ _ _ _ _ _ _ _ _ _ _ _ _ _ _ _ _ _ _ _ rfl)
      · have mas : decide ((a : Int) < (s : Int)) = false := by rw [lt_n]; exact decide_eq_false has
        by_cases hsa : s < a
        · have msa : decide ((s : Int) < (a : Int)) = true := by rw [lt_n]; exact decide_eq_true hsa
          by_cases hbt : b < t
          · have mbt : decide ((b : Int) < (t : Int)) = true := by rw [lt_n]; exact decide_eq_true hbt
            first
              | (exfalso; omega)
              | (rw [show brkE a b s t = true by unfold brkE; simp; omega, Bool.false_or] at hQ; go_wp2_with fail; first | rfl | exact hQ _ _ _ _ _ _ _ _ _ _ _ _ _ _ _ _ _ _ _ _ _ _ _ _ _ _ _ _ _ _ _ _ rfl)
          · have mbt : decide ((b : Int) < (t : Int)) = false := by rw [lt_n]; exact decide_eq_false hbt
            first
              | (exfalso; omega)
              | (rw [show brkE a b s t = false by unfold brkE; simp; omega, Bool.false_or] at hQ; go_wp2_with fail; first | rfl | exact hQ _ _ _ _ _ _ _ _ _ _ _ _ _ _ _ _ _ _ _ _ _ _ _ _ _ _ _ _ _ _ _ _ rfl)
        · have msa : decide ((s : Int) < (a : Int)) = false := by rw [lt_n]; exact decide_eq_false hsa
          first
            | (exfalso; omega)
            | (rw [show brkE a b s t = false by unfold brkE; simp; omega, Bool.false_or] at hQ; go_wp2_with fail; first | rfl | exact hQ _ _ _ _ _ _ _ _ _ _ _ _ _ _ _ _ _ _ _ _ _ _ _ _ _ _ _ _ _ _ _ _ rfl)
  · simp only [Bool.true_or] at hQ
    go_wp2_with fail
    first
      | rfl
      | exact hQ _ _ _ _ _ _ _ _ _ _ _ _ _ _ _ _ _ _ _ _ _ _ _ _ _ _ _ _ _ _ _ _ rfl
end Go.Proofs.Ytildenhbcpgiiaa
