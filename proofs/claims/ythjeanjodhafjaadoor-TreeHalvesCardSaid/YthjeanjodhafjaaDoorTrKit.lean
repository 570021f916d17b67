/- A slice of hashes; heights and numbers of leaves. -/
import Derived.Test.YthjeanjodhafjaaDoorEqRow
import Derived.Test.YthjeanjodhafjaaDoorTrP
namespace Go.Proofs.YthjeanjodhafjaaDoor
open Go.ChangeShapes Go.WideShapes Go.ChangeAt Go.RowKit
set_option linter.unusedVariables false

theorem hash_under : Tryd.prog.underlying 25 = some (.array 32 5) := Tryd.underlying25
theorem hash_info {cs : List Value} (h : cs.length = 32) : (Tryd.prog.info? 25).map (·.size) = some cs.length := by rw [h]; exact size_hashW
/-- A hash's cells. -/
def hC (l : List UInt8) : List Value := (List.range 32).map (hF l)
theorem hC_len (l : List UInt8) : (hC l).length = 32 := by unfold hC; rw [List.length_map, List.length_range]
theorem hC_arr (l : List UInt8) : (hC l).toArray = hashV l := rfl
theorem Fill.whole {g : Nat} {t : TypeId} {l : List UInt8} {u : World} (h : Fill g t 32 32 (hF l) u) : u.rangeAt g 0 (hC l) := h.range 0 32 (hF l) (by omega) (fun j hj => by rw [Nat.zero_add])

/-- A slice of hashes. -/
def RdH (w : World) (hi : Nat) (A : Option Addr) (L : List (List UInt8)) : Prop := 0 < L.length → ∃ bl off, A = some ⟨bl, off, none⟩ ∧ bl < hi ∧ ∀ k, k < L.length → w.rangeAt bl (off + k * 32) (hC (L.getD k []))
theorem RdH.below {w w' : World} {hi B : Nat} {A : Option Addr} {L : List (List UInt8)} (h : RdH w hi A L) (hb : Below B w w') (hB : hi ≤ B) : RdH w' hi A L := fun hn => by
  obtain ⟨bl, off, e, h1, h2⟩ := h hn
  refine ⟨bl, off, e, h1, fun k hk j v hv => ?_⟩
  exact (hb.cell (p := ⟨bl, off + k * 32 + j, none⟩) (Nat.lt_of_lt_of_le h1 hB)).trans (h2 k hk j v hv)
theorem RdH.wide {w : World} {hi hi' : Nat} {A : Option Addr} {L : List (List UInt8)} (h : RdH w hi A L) (hB : hi ≤ hi') : RdH w hi' A L := fun hn => by
  obtain ⟨bl, off, e, h1, h2⟩ := h hn
  exact ⟨bl, off, e, by omega, h2⟩
theorem RdH.nothing (w : World) (hi : Nat) (A : Option Addr) : RdH w hi A [] := fun h => absurd h (by simp)
/-- A slice of hashes that is owned. -/
def hcs (L : List (List UInt8)) : List Value := L.flatMap hC
theorem hcs_len (L : List (List UInt8)) : (hcs L).length = 32 * L.length := by
  induction L with
  | nil => rfl
  | cons x r ih => unfold hcs at *; rw [List.flatMap_cons, List.length_append, hC_len, ih, List.length_cons]; omega
theorem hcs_at (L : List (List UInt8)) (k j : Nat) (hk : k < L.length) (hj : j < 32) : (hcs L)[k * 32 + j]? = (hC (L.getD k []))[j]? := by
  induction L generalizing k with
  | nil => simp at hk
  | cons x r ih =>
    unfold hcs at *
    rw [List.flatMap_cons]
    cases k with
    | zero => rw [Nat.zero_mul, Nat.zero_add, List.getElem?_append_left (by rw [hC_len]; exact hj)]; rfl
    | succ k =>
      rw [List.getElem?_append_right (by rw [hC_len]; omega), hC_len, show (k + 1) * 32 + j - 32 = k * 32 + j by omega, ih k (by simpa using hk)]
      rfl
theorem hcs_one (L : List (List UInt8)) : ∀ v ∈ hcs L, v.oneCell' = true := fun v hv => by
  unfold hcs hC at hv
  obtain ⟨x, _, h⟩ := List.mem_flatMap.1 hv
  obtain ⟨j, _, rfl⟩ := List.mem_map.1 h
  rfl
theorem RdH.of_own {w : World} {base n : Nat} {A : Option Addr} {c : Nat} {L : List (List UInt8)} (h : w.ownsRow base 25 32 (.slice A n c) n (hcs L)) : RdH w w.heap.size A L := fun hn => by
  have hl := h.1
  rw [hcs_len] at hl
  rcases h.2 with ⟨e, h0⟩ | ⟨g, cap, cur, e, h1, h2, h3, h4, h5, h6⟩
  · omega
  · injection e with e1 e2 e3
    subst e1
    refine ⟨g, 0, rfl, (h.lt g rfl).2, fun k hk j v hv => ?_⟩
    have hj : j < 32 := by rw [← hC_len (L.getD k [])]; exact (List.getElem?_eq_some_iff.1 hv).1
    rw [cell_of_row _ g _ _ _ (0, 0) h2, ← Array.getElem?_toList, Nat.zero_add]
    have := hcs_at L k j hk hj
    rw [hv, ← h6, List.getElem?_take, if_pos (by omega)] at this
    exact this
theorem own_count {w : World} {base n : Nat} {v : Value} {L : List (List UInt8)} (h : w.ownsRow base 25 32 v n (hcs L)) : n = L.length := by
  have := h.1
  rw [hcs_len] at this
  omega

/-- Numbers of leaves. -/
theorem isLeaf_c (i : Int) (h : Nat) (hh : h < 64) (w : World) : Calls Tryd.prog 20 #[.int .i64 i, .int .i64 (h : Int)] w fun e w' => e = .returned (.bool (i / 2 ^ h == 0)) ∧ w' = w := by
  go_enter Tryd.func20, Tryd.ntmps20
  go_wp2_with fail
  go_ret
  exact ⟨rfl, rfl⟩
theorem leaf_iff (i : Int) (h : Nat) : (i / 2 ^ h == 0) = true ↔ 0 ≤ i ∧ i < ((2 ^ h : Nat) : Int) := by
  have hp : (0 : Int) < ((2 ^ h : Nat) : Int) := by have := Nat.two_pow_pos h; omega
  have e : ((2 : Int) ^ h) = ((2 ^ h : Nat) : Int) := by simp
  rw [beq_iff_eq, e]
  constructor
  · intro h0
    have := Int.mul_ediv_add_emod i ((2 ^ h : Nat) : Int)
    rw [h0] at this
    have h1 := Int.emod_nonneg i (b := ((2 ^ h : Nat) : Int)) (by omega)
    have h2 := Int.emod_lt_of_pos i hp
    omega
  · rintro ⟨h1, h2⟩
    exact Int.ediv_eq_zero_of_lt h1 h2
theorem and_one (x : Nat) (h : x < 256) : bits .and .i64 (x : Int) 1 = ((x % 2 : Nat) : Int) := by
  have : (List.range 256).all (fun x => decide (bits .and .i64 ((x : Nat) : Int) 1 = ((x % 2 : Nat) : Int))) = true := by decide +kernel
  exact of_decide_eq_true (List.all_eq_true.1 this x (List.mem_range.2 h))
theorem isRight_c (i h : Nat) (hh : h < 64) (hi : i < 256) (w : World) : Calls Tryd.prog 22 #[.int .i64 (i : Int), .int .i64 (h : Int)] w fun e w' => e = .returned (.bool (decide ((i / 2 ^ h) % 2 = 1))) ∧ w' = w := by
  have he : (bits .and .i64 ((i : Int) / 2 ^ h) 1 == 1) = decide ((i / 2 ^ h) % 2 = 1) := by
    have e : ((i : Int) / 2 ^ h) = ((i / 2 ^ h : Nat) : Int) := by simp
    rw [e, and_one _ (Nat.lt_of_le_of_lt (Nat.div_le_self _ _) hi)]
    generalize i / 2 ^ h = c
    rw [Bool.eq_iff_iff, beq_iff_eq, decide_eq_true_iff]
    omega
  go_enter Tryd.func22, Tryd.ntmps22
  go_wp2_with fail
  go_ret
  exact ⟨rfl, rfl⟩
theorem wrap_twoT (k : Nat) (h : k < 9) : wrap64 (2 ^ k) = ((2 ^ k : Nat) : Int) := by
  have : (List.range 9).all (fun k => decide (wrap64 (2 ^ k) = ((2 ^ k : Nat) : Int))) = true := by decide +kernel
  exact of_decide_eq_true (List.all_eq_true.1 this k (List.mem_range.2 h))
/-- How high a tree of so many leaves is. -/
def hgt (n : Nat) : Option Nat := (List.range 9).find? fun h => n == 2 ^ h
theorem hgt_some {n h : Nat} (e : hgt n = some h) : h ≤ 8 ∧ n = 2 ^ h := by
  have h1 := List.find?_some e
  have h2 := List.mem_range.1 (List.mem_of_find?_eq_some e)
  exact ⟨by omega, by simpa using h1⟩
theorem hgt_none {n : Nat} (e : hgt n = none) (h : Nat) (hh : h < 9) : n ≠ 2 ^ h := by
  have := List.find?_eq_none.1 e h (List.mem_range.2 hh)
  simpa using this
theorem two_inj {a b : Nat} (h : 2 ^ a = 2 ^ b) : a = b := by
  rcases Nat.lt_trichotomy a b with h1 | h1 | h1
  · have := Nat.pow_lt_pow_right (a := 2) (by decide) h1; omega
  · exact h1
  · have := Nat.pow_lt_pow_right (a := 2) (by decide) h1; omega
def hgtI (n : Nat) : Int := match hgt n with
  | some h => (h : Int)
  | none => -1
theorem hgtI_some {n h : Nat} (h1 : h ≤ 8) (h2 : n = 2 ^ h) : hgt n = some h ∧ hgtI n = (h : Int) := by
  have key : hgt n = some h := by
    cases e : hgt n with
    | none => exact absurd h2 (hgt_none e h (by omega))
    | some a => rw [two_inj ((hgt_some e).2.symm.trans h2)]
  exact ⟨key, by unfold hgtI; rw [key]⟩
theorem hgtI_none {n : Nat} (h : ∀ k, k < 9 → n ≠ 2 ^ k) : hgt n = none ∧ hgtI n = -1 := by
  have key : hgt n = none := by
    cases e : hgt n with
    | none => rfl
    | some a => exact absurd (hgt_some e).2 (h a (by have := (hgt_some e).1; omega))
  exact ⟨key, by unfold hgtI; rw [key]⟩
theorem heightOf_c (n : Nat) (hn : n < 9223372036854775808) (w : World) : Calls Tryd.prog 19 #[.int .i64 (n : Int)] w fun e w' => e = .returned (.int .i64 (hgtI n)) ∧ w' = w := by
  go_enter Tryd.func19, Tryd.ntmps19
  go_wp2_with fail
  go_loopw [4] (fun v wr => ∃ k : Nat, k ≤ 9 ∧ v = .int .i64 (k : Int) ∧ wr = w ∧ ∀ h, h < k → n ≠ 2 ^ h) (fun v _ => 9 - (intOf v).toNat)
  case atStart => exact ⟨0, by omega, rfl, rfl, fun h hh => absurd hh (by omega)⟩
  case round =>
    obtain ⟨k, hk, rfl, rfl, hne⟩ := hrel
    by_cases hlt : k < 9
    · have q1 : (k : Int) < 9 := by omega
      have hw := wrap_twoT k hlt
      by_cases he : n = 2 ^ k
      · have hd : ((n : Int) == wrap64 (2 ^ k)) = true := by rw [hw, he]; exact beq_self_eq_true _
        have hr := Lib.hid (hgtI_some (by omega) he).2
        clear hw he
        go_wp2_with fail
        go_ret
        exact ⟨by rw [hr.out]; rfl, rfl⟩
      · have hd : ((n : Int) == wrap64 (2 ^ k)) = false := by rw [hw, beq_eq_false_iff_ne]; intro h; exact he (by omega)
        have HN := Lib.hid (show ∀ h, h < k + 1 → n ≠ 2 ^ h from fun h hh => by
          by_cases e : h = k
          · rw [e]; exact he
          · exact hne h (by omega))
        clear hw he hne
        go_wp2_with fail
        exact ⟨⟨k + 1, by omega, by go_num, trivial, HN.out⟩, by simp [intOf]; omega⟩
    · obtain rfl : k = 9 := by omega
      have hr := Lib.hid (hgtI_none hne).2
      clear hne
      go_wp2_with fail
      go_ret
      exact ⟨by rw [hr.out]; rfl, rfl⟩
theorem may_c (n : Nat) (hn : n < 9223372036854775808) (w : World) : Calls Tryd.prog 9 #[.int .i64 (n : Int)] w fun e w' => e = .returned (.bool (hgt n).isSome) ∧ w' = w := by
  have hh := heightOf_c n hn w
  have he : decide (hgtI n ≥ 0) = (hgt n).isSome := by
    unfold hgtI
    cases hgt n with
    | none => rfl
    | some h => simp
  go_enter Tryd.func9, Tryd.ntmps9
  go_wp2_with fail
  refine hh.mono ?_
  rintro e w1 ⟨rfl, rfl⟩
  go_wp2_with fail
  go_ret
  exact ⟨rfl, rfl⟩
theorem two_le (j : Nat) (h : j < 9) : 2 ^ j ≤ 256 ∧ 1 ≤ 2 ^ j ∧ 2 ^ (j + 1) = 2 * 2 ^ j := by
  refine ⟨?_, Nat.two_pow_pos j, by rw [Nat.pow_succ, Nat.mul_comm]⟩
  have := Nat.pow_le_pow_right (n := 2) (by decide) (show j ≤ 8 by omega)
  exact this
theorem refMay_c (n : Nat) (hn : n < 9223372036854775808) (w : World) : Calls Tryd.prog 10 #[.int .i64 (n : Int)] w fun e w' => e = .returned (.bool (hgt n).isSome) ∧ w' = w := by
  go_enter Tryd.func10, Tryd.ntmps10
  go_wp2_with fail
  go_loopw [3] (fun v wr => ∃ j : Nat, j ≤ 9 ∧ v = .int .i64 ((2 ^ j : Nat) : Int) ∧ wr = w ∧ ∀ h, h < j → n ≠ 2 ^ h) (fun v _ => 512 - (intOf v).toNat)
  case atStart => exact ⟨0, by omega, rfl, rfl, fun h hh => absurd hh (by omega)⟩
  case round =>
    obtain ⟨j, hj, rfl, rfl, hne⟩ := hrel
    by_cases hlt : j < 9
    · obtain ⟨h1, h2, h3⟩ := two_le j hlt
      by_cases he : n = 2 ^ j
      · have hr := Lib.hid (show (hgt n).isSome = true by rw [(hgtI_some (by omega) he).1]; rfl)
        generalize 2 ^ j = x at *
        have q1 : (x : Int) ≤ 256 := by omega
        have hd : ((n : Int) == (x : Int)) = true := by rw [beq_iff_eq]; omega
        clear hne h3 he
        go_wp2_with fail
        go_ret
        exact ⟨by rw [hr.out]; rfl, rfl⟩
      · have HN := Lib.hid (show ∀ h, h < j + 1 → n ≠ 2 ^ h from fun h hh => by
          by_cases e : h = j
          · rw [e]; exact he
          · exact hne h (by omega))
        have H3 := Lib.hid h3
        clear h3 hne
        generalize 2 ^ j = x at *
        have q1 : (x : Int) ≤ 256 := by omega
        have hd : ((n : Int) == (x : Int)) = false := by rw [beq_eq_false_iff_ne]; intro h; exact he (by omega)
        clear he
        go_wp2_with fail
        have e3 := H3.out
        refine ⟨⟨j + 1, by omega, ?_, trivial, HN.out⟩, ?_⟩
        · rw [e3]; go_num
        · simp [intOf]; omega
    · obtain rfl : j = 9 := by omega
      have hr := Lib.hid (show (hgt n).isSome = false by rw [(hgtI_none hne).1]; rfl)
      clear hne
      go_wp2_with fail
      go_ret
      exact ⟨by rw [hr.out]; rfl, rfl⟩
theorem rangeAt_below {w w' : World} {B bl off : Nat} {cs : List Value} (hb : Below B w w') (h : bl < B) (hr : w.rangeAt bl off cs) : w'.rangeAt bl off cs := fun j v hv =>
  (hb.cell (p := ⟨bl, off + j, none⟩) h).trans (hr j v hv)
theorem rangeAt_setRow {w : World} {B bl off g : Nat} {cs : List Value} {row : Array Value} (h : bl < B) (hr : w.rangeAt bl off cs) (hg : B ≤ g := by omega) : (w.setRow g row).rangeAt bl off cs :=
  rangeAt_below (below_setRow (Below.refl B w) hg row) h hr
end Go.Proofs.YthjeanjodhafjaaDoor
