/- The greatest of some readings, and how many are above all ahead of them: the contracts. -/
import Derived.Test.YtkjlcfffalmgoaaCkKit
import Derived.Deep.QuietTactic
import Derived.BigQuiet
namespace Go.Proofs.Ytkjlcfffalmgoaa
open Go.ChangeShapes Go.WideShapes Go.ChangeAt Go.RowKit
set_option linter.unusedVariables false
set_option maxRecDepth 100000

/-- The slice at A reads as L. -/
def RU (w : World) (A : Option Addr) (L : List Nat) : Prop := ∀ (i z : Nat), L[i]? = some z → ∃ xa, A = some xa ∧ w.cell? (xa.add i) = some (.int .u64 (z : Int))
theorem RU.take {w : World} {A : Option Addr} {L : List Nat} (h : RU w A L) (k : Nat) : RU w A (L.take k) := fun i z hz => by
  rw [List.getElem?_take] at hz
  split at hz
  · exact h i z hz
  · cases hz
/-- The greatest. -/
def mx (L : List Nat) : Nat := L.foldl max 0
theorem mx_snoc (L : List Nat) (x : Nat) : mx (L ++ [x]) = max (mx L) x := by unfold mx; rw [List.foldl_append]; rfl
theorem foldl_max (L : List Nat) : ∀ a, L.foldl max a = max a (L.foldl max 0) := by
  induction L with
  | nil => intro a; simp
  | cons x L ih =>
    intro a
    simp only [List.foldl_cons]
    rw [ih (max a x), ih (max 0 x)]
    omega
theorem mx_cons (x : Nat) (L : List Nat) : mx (x :: L) = max x (mx L) := by
  unfold mx
  rw [List.foldl_cons, foldl_max L (max 0 x)]
  omega
theorem mx_append (L M : List Nat) : mx (L ++ M) = max (mx L) (mx M) := by unfold mx; rw [List.foldl_append, foldl_max]
theorem le_mx {L : List Nat} : ∀ {x : Nat}, x ∈ L → x ≤ mx L := by
  induction L with
  | nil => intro x h; cases h
  | cons y L ih =>
    intro x h
    rw [mx_cons]
    rcases List.mem_cons.1 h with rfl | h
    · omega
    · have := ih h; omega
theorem take_snoc {L : List Nat} {i z : Nat} (h : L[i]? = some z) : L.take (i + 1) = L.take i ++ [z] := by
  rw [List.take_add_one, h]; rfl
theorem mx_take {L : List Nat} {i z : Nat} (h : L[i]? = some z) : mx (L.take (i + 1)) = max (mx (L.take i)) z := by rw [take_snoc h, mx_snoc]
/-- How many of the first k are above all ahead of them, the first one left out. -/
def tkn (L : List Nat) : Nat → Nat
  | 0 => 0
  | k + 1 => tkn L k + if 1 ≤ k ∧ mx (L.take k) < L.getD k 0 then 1 else 0
def tk (L : List Nat) : Nat := tkn L L.length
theorem tkn_le (L : List Nat) : ∀ k, tkn L k ≤ k
  | 0 => Nat.le_refl _
  | k + 1 => by
    have := tkn_le L k
    show tkn L k + _ ≤ k + 1
    split <;> omega
theorem tkn_app (L M : List Nat) : ∀ k, k ≤ L.length → tkn (L ++ M) k = tkn L k
  | 0, _ => rfl
  | k + 1, h => by
    have e1 : (L ++ M).take k = L.take k := by rw [List.take_append_of_le_length (by omega)]
    have e2 : (L ++ M).getD k 0 = L.getD k 0 := by
      rw [List.getD_eq_getElem?_getD, List.getD_eq_getElem?_getD, List.getElem?_append_left (by omega)]
    show tkn (L ++ M) k + (if 1 ≤ k ∧ mx ((L ++ M).take k) < (L ++ M).getD k 0 then 1 else 0) = tkn L k + _
    rw [tkn_app L M k (by omega), e1, e2]
theorem tk_snoc (L : List Nat) (x : Nat) (h : 1 ≤ L.length) : tk (L ++ [x]) = tk L + if mx L < x then 1 else 0 := by
  unfold tk
  rw [List.length_append, List.length_singleton]
  show tkn (L ++ [x]) L.length + (if 1 ≤ L.length ∧ mx ((L ++ [x]).take L.length) < (L ++ [x]).getD L.length 0 then 1 else 0) = _
  rw [tkn_app L [x] _ (Nat.le_refl _)]
  have e1 : (L ++ [x]).take L.length = L := by simp
  have e2 : (L ++ [x]).getD L.length 0 = x := by simp [List.getD_eq_getElem?_getD]
  rw [e1, e2]
  by_cases hs : mx L < x
  · rw [if_pos ⟨h, hs⟩, if_pos hs]
  · rw [if_neg (fun h => hs h.2), if_neg hs]
set_option maxHeartbeats 4000000 in
theorem refAt_c (A : Option Addr) (c : Nat) (L : List Nat) (hL : 1 ≤ L.length) (hl : L.length ≤ 2000000000) (w : World) (h : RU w A L) : Calls Try.prog 13 #[.slice A L.length c] w fun e w' => e = .returned (.int .u64 ((mx L : Nat) : Int)) ∧ w' = w := by
  obtain ⟨l0, hl0⟩ : ∃ z, L[0]? = some z := ⟨_, List.getElem?_eq_getElem (by omega)⟩
  obtain ⟨xa, rfl, c0⟩ := h 0 l0 hl0
  have H := Lib.hid h
  obtain ⟨n, hn⟩ : ∃ n, n = L.length := ⟨_, rfl⟩
  rw [← hn] at hl hL ⊢
  have HN := Lib.hid hn
  have e0 : xa.add 0 = xa := rfl
  rw [e0] at c0
  clear h hn e0
  go_enter Try.func13, Try.ntmps13
  go_wp2_with fail
  go_loopw [3, 4] (fun v3 v4 u => ∃ i : Nat, i ≤ n ∧ v4 = .int .i64 (i : Int) ∧ v3 = .int .u64 ((max l0 (mx (L.take i)) : Nat) : Int) ∧ u = w) (fun _ v4 _ => n - (intOf v4).toNat)
  case atStart => exact ⟨0, Nat.zero_le _, rfl, by rw [List.take_zero, show max l0 (mx []) = l0 by simp [mx]], rfl⟩
  case round =>
    obtain ⟨i, hi, rfl, rfl, rfl⟩ := hrel
    by_cases hlt : i < n
    · obtain ⟨z, hz⟩ : ∃ z, L[i]? = some z := ⟨_, List.getElem?_eq_getElem (by have := HN.out; omega)⟩
      obtain ⟨xb, hb, c1⟩ := H.out i z hz
      injection hb with hb
      subst hb
      obtain ⟨m, hm⟩ : ∃ m, m = max l0 (mx (L.take i)) := ⟨_, rfl⟩
      have hm2 : Hid (max l0 (mx (L.take (i + 1))) = max m z) := Lib.hid (by rw [mx_take hz]; omega)
      rw [← hm]
      clear hm hz c0
      by_cases hs : m < z
      · have d1 : decide ((z : Int) > (m : Int)) = true := by simp; omega
        have d2 : decide ((m : Int) < (z : Int)) = true := by simp; omega
        have E : Hid (max m z = z) := Lib.hid (by omega)
        go_wp2_with fail
        exact ⟨⟨i + 1, by omega, by go_num, by rw [hm2.out, E.out], trivial⟩, by simp [intOf]; omega⟩
      · have d1 : decide ((z : Int) > (m : Int)) = false := by simp; omega
        have d2 : decide ((m : Int) < (z : Int)) = false := by simp; omega
        have E : Hid (max m z = m) := Lib.hid (by omega)
        go_wp2_with fail
        exact ⟨⟨i + 1, by omega, by go_num, by rw [hm2.out, E.out], trivial⟩, by simp [intOf]; omega⟩
    · obtain rfl : i = n := by omega
      go_wp2_with fail
      go_ret
      refine ⟨?_, rfl⟩
      rw [HN.out, List.take_length]
      have : max l0 (mx L) = mx L := by
        have := le_mx (List.mem_of_getElem? hl0)
        omega
      rw [this]
      rfl
set_option maxHeartbeats 4000000 in
theorem refTaken_c (A : Option Addr) (c : Nat) (L : List Nat) (hL : 1 ≤ L.length) (hl : L.length ≤ 2000000000) (hc : L.length ≤ c) (w : World) (h : RU w A L) : Calls Try.prog 17 #[.slice A L.length c] w fun e w' => e = .returned (.int .i64 ((tk L : Nat) : Int)) ∧ ∃ m, w' = w.drewN m := by
  obtain ⟨l0, hl0⟩ : ∃ z, L[0]? = some z := ⟨_, List.getElem?_eq_getElem (by omega)⟩
  obtain ⟨xa, rfl, c0⟩ := h 0 l0 hl0
  have H := Lib.hid h
  obtain ⟨n, hn⟩ : ∃ n, n = L.length := ⟨_, rfl⟩
  rw [← hn] at hl hL hc ⊢
  have HN := Lib.hid hn
  clear h hn c0 hl0
  go_enter Try.func17, Try.ntmps17
  go_wp2_with fail
  go_loopw [3, 4] (fun v3 v4 u => ∃ i : Nat, 1 ≤ i ∧ i ≤ n ∧ v4 = .int .i64 (i : Int) ∧ v3 = .int .i64 ((tkn L i : Nat) : Int) ∧ ∃ q, u = w.drewN q) (fun _ v4 _ => n - (intOf v4).toNat)
  case atStart => exact ⟨1, Nat.le_refl _, hL, rfl, rfl, 0, rfl⟩
  case round =>
    obtain ⟨i, hi1, hi, rfl, rfl, q, hu⟩ := hrel
    have HU := Lib.hid hu
    by_cases hlt : i < n
    · obtain ⟨z, hz⟩ : ∃ z, L[i]? = some z := ⟨_, List.getElem?_eq_getElem (by have := HN.out; omega)⟩
      obtain ⟨xb, hb, c1⟩ := H.out i z hz
      injection hb with hb
      subst hb
      have c1' : wr.cell? (xa.add i) = some (.int .u64 (z : Int)) := by rw [hu]; exact c1
      have RW : RU wr (some xa) (L.take i) := by rw [hu]; exact H.out.take i
      clear c1 hu
      have RA := Lib.hid (fun k => refAt_c (some xa) c (L.take i) (by rw [List.length_take, ← HN.out]; omega) (by rw [List.length_take, ← HN.out]; omega) (wr.drewN k) RW)
      clear RW
      rw [show (L.take i).length = i by rw [List.length_take, ← HN.out]; omega] at RA
      obtain ⟨t, ht⟩ : ∃ t, t = tkn L i := ⟨_, rfl⟩
      have htn : t < 2000000000 := by have := tkn_le L i; omega
      obtain ⟨m, hm⟩ : ∃ m, m = mx (L.take i) := ⟨_, rfl⟩
      have hm2 : Hid (tkn L (i + 1) = t + if m < z then 1 else 0) := Lib.hid (by
        rw [ht, hm]
        show tkn L i + (if 1 ≤ i ∧ mx (L.take i) < L.getD i 0 then 1 else 0) = _
        rw [show L.getD i 0 = z by rw [List.getD_eq_getElem?_getD, hz]; rfl]
        by_cases h : mx (L.take i) < z
        · rw [if_pos ⟨hi1, h⟩, if_pos h]
        · rw [if_neg (fun h2 => h h2.2), if_neg h])
      rw [← ht]
      rw [← hm] at RA
      clear hm hz ht
      by_cases hs : m < z
      · have d1 : decide ((z : Int) > (m : Int)) = true := by simp; omega
        have d2 : decide ((m : Int) < (z : Int)) = true := by simp; omega
        have E : Hid (tkn L (i + 1) = t + 1) := Lib.hid (by rw [hm2.out, if_pos hs])
        go_wp2_with fail
        go_quiet ((go_at_call 13; exact Calls.quiet_of_same (RA.out _)))
        go_wp2_with fail
        exact ⟨⟨i + 1, by omega, by omega, by go_num, by rw [E.out]; go_num, q + nq, by rw [HU.out, World.drewN_drewN]⟩, by simp [intOf]; omega⟩
      · have d1 : decide ((z : Int) > (m : Int)) = false := by simp; omega
        have d2 : decide ((m : Int) < (z : Int)) = false := by simp; omega
        have E : Hid (tkn L (i + 1) = t) := Lib.hid (by rw [hm2.out, if_neg hs]; rfl)
        go_wp2_with fail
        go_quiet ((go_at_call 13; exact Calls.quiet_of_same (RA.out _)))
        go_wp2_with fail
        exact ⟨⟨i + 1, by omega, by omega, by go_num, by rw [E.out], q + nq, by rw [HU.out, World.drewN_drewN]⟩, by simp [intOf]; omega⟩
    · obtain rfl : i = n := by omega
      clear hu
      go_wp2_with fail
      go_ret
      refine ⟨?_, q, HU.out⟩
      rw [HN.out]
      rfl
end Go.Proofs.Ytkjlcfffalmgoaa
