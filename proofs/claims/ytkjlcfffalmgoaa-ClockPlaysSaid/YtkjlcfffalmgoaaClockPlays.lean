/- ClockPlays: reading by reading. -/
import Derived.Test.YtkjlcfffalmgoaaCkPlR
import Derived.Test.YtkjlcfffalmgoaaCkNone
namespace Go.Proofs.Ytkjlcfffalmgoaa
open Go.ChangeShapes Go.WideShapes Go.ChangeAt Go.RowKit
set_option linter.unusedVariables false
set_option maxRecDepth 100000

theorem keepD {g a n q : Nat} {u : World} (h : CkB g a n u) : CkB g a n (u.drewN q) := h
theorem hadD {g q : Nat} {L : List Nat} {u : World} (h : HadB g L u) : HadB g L (u.drewN q) := h
theorem belowD {B q : Nat} {a u : World} (h : Below B a u) : Below B a (u.drewN q) := ⟨h.os, h.tape, h.output, h.size, h.block⟩
theorem HadB.one (w : World) (x : Nat) : HadB w.heap.size [x] (w.alloc (.cells #[.int .u64 (x : Int)] 22)) := ⟨by simp, fun i z h => by
  have hb := heap_alloc_new w (.cells #[.int .u64 (x : Int)] 22)
  match i, h with
  | 0, h => injection h with h; subst h; exact cell_of_row _ w.heap.size 0 _ _ (0, 0) hb⟩
set_option maxRecDepth 1000000 in
set_option maxHeartbeats 16000000 in
theorem clockPlays_main (w : World) (a : Nat) (A1 : Option Addr) (L : List Nat) (c1 : Nat) (ha : a < 18446744073709551616) (r1 : RU w A1 L) (n1 : L.length ≤ 300) :
    Calls Try.prog 3 #[.int .u64 (a : Int), .slice A1 L.length c1] w fun r w' => r = .returned (.bool true) ∧ Below w.heap.size w w' := by
  have HR := Lib.hid r1
  obtain ⟨n, hn⟩ : ∃ n, n = L.length := ⟨_, rfl⟩
  have HN := Lib.hid hn
  rw [← hn] at n1 ⊢
  have d1 : decide ((n : Int) > 300) = false := by simp; omega
  have d1' : decide (300 < (n : Int)) = false := by simp; omega
  clear hn r1
  go_enter Try.func3, Try.ntmps3
  go_wp2_with fail
  refine (new_c a _).mono ?_
  rintro r w1 ⟨rfl, k1, b1, z1⟩
  obtain ⟨g, hg⟩ : ∃ g, g = w.heap.size := ⟨_, rfl⟩
  rw [← hg] at k1 ⊢
  have G1 : Hid (w.heap.size ≤ g) := Lib.hid (by omega)
  have bA : Below w1.heap.size w1 (w1.alloc (.cells #[.int .u64 (a : Int)] 22)) := (Below.refl _ _).alloc (Nat.le_refl _) _
  have K1 := Lib.hid (k1.below bA k1.lt)
  have B1 := Lib.hid (b1.trans (bA.mono b1.size))
  have H1 := Lib.hid (HadB.one w1 a)
  have GG : Hid (g < w1.heap.size) := Lib.hid k1.lt
  clear k1 b1 hg z1 bA
  go_wp2_with fail
  obtain ⟨W, hW⟩ : ∃ W, W = w1.alloc (.cells #[.int .u64 (a : Int)] 22) := ⟨_, rfl⟩
  obtain ⟨gh, hgh⟩ : ∃ x, x = w1.heap.size := ⟨_, rfl⟩
  rw [← hW] at K1 B1 H1 ⊢
  rw [← hgh] at H1 GG ⊢
  clear hW hgh
  refine (at_c g a 0 _ K1.out).mono ?_
  rintro r w2 ⟨rfl, rfl⟩
  go_wp2_with fail
  refine (taken_c g a 0 _ K1.out).mono ?_
  rintro r w2 ⟨rfl, rfl⟩
  go_wp2_with fail
  go_loopw [6, 7] (fun v6 v7 u => ∃ i gh ch : Nat, i ≤ n ∧ v7 = .int .i64 (i : Int) ∧ v6 = .slice (some ⟨gh, 0, none⟩) (i + 1) ch ∧ i + 1 ≤ ch ∧ HadB gh (a :: L.take i) u ∧ CkB g (mx (a :: L.take i)) (tk (a :: L.take i)) u ∧ g < gh ∧ Below w.heap.size w u) (fun _ v7 _ => n - (intOf v7).toNat)
  case atStart => exact ⟨0, gh, 1, Nat.zero_le _, rfl, rfl, Nat.le_refl _, H1.out, by rw [List.take_zero, show mx [a] = a by simp [mx], show tk [a] = 0 from rfl]; exact K1.out, GG.out, B1.out⟩
  case round =>
    clear K1 B1 H1 GG
    obtain ⟨i, gh, ch, hi, rfl, rfl, q0, q1, q2, q3, q4⟩ := hrel
    have Q0 := Lib.hid (And.intro q0 q3)
    have Q1 := Lib.hid q1
    have Q2 := Lib.hid q2
    have Q4 := Lib.hid q4
    clear q0 q1 q2 q3 q4
    by_cases hlt : i < n
    · obtain ⟨z, hz⟩ : ∃ z, L[i]? = some z := ⟨_, List.getElem?_eq_getElem (by have := HN.out; omega)⟩
      have HT : Hid (a :: L.take (i + 1) = (a :: L.take i) ++ [z]) := Lib.hid (by rw [take_snoc hz]; rfl)
      have HZ := Lib.hid hz
      obtain ⟨D, hD⟩ : ∃ D, D = a :: L.take i := ⟨_, rfl⟩
      have DL : Hid (D.length = i + 1) := Lib.hid (by rw [hD, List.length_cons, List.length_take, ← HN.out]; omega)
      rw [← hD] at HT Q1 Q2
      obtain ⟨m, hm⟩ : ∃ m, m = mx D := ⟨_, rfl⟩
      obtain ⟨t, ht⟩ : ∃ t, t = tk D := ⟨_, rfl⟩
      have HM : Hid (mx (D ++ [z]) = max m z) := Lib.hid (by rw [mx_snoc, hm])
      have HK : Hid (tk (D ++ [z]) = t + if m < z then 1 else 0) := Lib.hid (by rw [tk_snoc D z (by have := DL.out; omega), hm, ht])
      have T9 : Hid (t ≤ 301) := Lib.hid (by have := tkn_le D D.length; have := DL.out; unfold tk at ht; omega)
      have RA := Lib.hid (fun (u : World) (x : HadB gh D u) => refAt_c (some ⟨gh, 0, none⟩) ch D (by have := DL.out; omega) (by have := DL.out; omega) u x.ru)
      have RT := Lib.hid (fun (u : World) (x : HadB gh D u) => refTaken_c (some ⟨gh, 0, none⟩) ch D (by have := DL.out; omega) (by have := DL.out; omega) (by have := DL.out; have := Q0.out; omega) u x.ru)
      rw [DL.out, ← hm] at RA
      rw [DL.out, ← ht] at RT
      rw [← hm, ← ht] at Q2
      obtain ⟨xa, rfl, e1⟩ := (HR.out.below Q4.out (Nat.le_refl _)) i z hz
      have E1 : Hid (∀ u, Below w.heap.size w u → u.cell? (xa.add i) = some (.int .u64 (z : Int))) := Lib.hid (fun u hu => by
        obtain ⟨xb, hb, h⟩ := (HR.out.below hu (Nat.le_refl _)) i z HZ.out
        injection hb with hb
        subst hb
        exact h)
      clear hz hD hm ht e1
      go_wp2_with fail
      refine (copy_c g m t _ Q2.out).mono ?_
      rintro r w3 ⟨rfl, k3, b3, -⟩
      obtain ⟨go, hgo⟩ : ∃ x, x = wr.heap.size := ⟨_, rfl⟩
      have GO : Hid (g < go ∧ gh < go ∧ w.heap.size ≤ go) := Lib.hid ⟨by have := Q2.out.lt; omega, by have := Q1.out.1; omega, by have := Q4.out.size; omega⟩
      have K3 := Lib.hid (Q2.out.below b3 Q2.out.lt)
      have H3 := Lib.hid (Q1.out.below b3 Q1.out.1)
      have B3 := Lib.hid (Q4.out.trans (b3.mono Q4.out.size))
      have O3 := Lib.hid k3
      rw [← hgo] at O3 ⊢
      clear k3 b3 hgo Q1 Q2 Q4
      have RAQ := Lib.hid (fun q => RA.out (w3.drewN q) (hadD H3.out))
      have e3 := E1.out w3 B3.out
      by_cases hs : m < z
      · have f0 : decide ((z : Int) > (m : Int)) = true := by simp; omega
        have f0' : decide ((m : Int) < (z : Int)) = true := by simp; omega
        go_wp2_with fail
        go_quiet ((go_at_call 13; exact Calls.quiet_of_same (RAQ.out _)))
        obtain ⟨V, hV⟩ : ∃ V, V = w3.drewN nq := ⟨_, rfl⟩
        have K4 : Hid (CkB g m t V) := Lib.hid (by rw [hV]; exact keepD K3.out)
        have H4 : Hid (HadB gh D V) := Lib.hid (by rw [hV]; exact hadD H3.out)
        have B4 : Hid (Below w.heap.size w V) := Lib.hid (by rw [hV]; exact belowD B3.out)
        have O4 : Hid (CkB go m t V) := Lib.hid (by rw [hV]; exact keepD O3.out)
        rw [← hV]
        clear hV e3 RAQ
        have e4 := E1.out V B4.out
        have AS := Lib.hid (asks_c g m t z V K4.out)
        have TA := Lib.hid (take_c g m t z (by have := T9.out; omega) V K4.out)
        rw [decide_eq_true hs] at AS TA
        go_wp2_with fail
        refine AS.out.mono ?_
        rintro r w5 ⟨rfl, rfl⟩
        go_wp2_with fail
        refine TA.out.mono ?_
        rintro r w6 ⟨rfl, k6, g6, z6⟩
        have K6 := Lib.hid k6
        rw [← HK.out] at K6
        obtain ⟨M, hM⟩ : ∃ M, M = max m z := ⟨_, rfl⟩
        obtain ⟨t2, ht2⟩ : ∃ x, x = tk (D ++ [z]) := ⟨_, rfl⟩
        have T2 : Hid (t2 ≤ 302) := Lib.hid (by rw [ht2, HK.out]; have := T9.out; split <;> omega)
        have MZ : Hid (z ≤ M) := Lib.hid (by omega)
        have HM := HM
        have HK := HK
        have HT := HT
        rw [← hM] at K6 HM
        rw [← ht2] at K6
        have HK2 := Lib.hid ht2.symm
        have H6 := Lib.hid (H4.out.grown g6 (by intro h; injection h with h; have := Q0.out; omega))
        have O6 := Lib.hid (O4.out.grown g6 (by intro h; injection h with h; have := GO.out; omega))
        have B6 := Lib.hid (Below.of_grown B4.out g6 B4.out.size G1.out)
        have MM : Hid (M = max m z) := Lib.hid hM
        clear k6 g6 z6 hM ht2 e4
        go_wp2_with fail
        refine (num_c _ _).mono ?_
        rintro r w7 ⟨rfl, rfl⟩
        go_wp2_with fail
        refine (at_c go m t _ O6.out).mono ?_
        rintro r w8 ⟨rfl, rfl⟩
        go_wp2_with fail
        refine (RA.out _ H6.out).mono ?_
        rintro r w9 ⟨rfl, rfl⟩
        go_wp2_with fail
        refine (taken_c go m t _ O6.out).mono ?_
        rintro r w10 ⟨rfl, rfl⟩
        go_wp2_with fail
        refine (RT.out _ H6.out).mono ?_
        rintro r w11 ⟨rfl, q11, hw11⟩
        have K7 : Hid (CkB g M t2 w11) := Lib.hid (by rw [hw11]; exact keepD K6.out)
        have H7 : Hid (HadB gh D w11) := Lib.hid (by rw [hw11]; exact hadD H6.out)
        have O7 : Hid (CkB go m t w11) := Lib.hid (by rw [hw11]; exact keepD O6.out)
        have B7 : Hid (Below w.heap.size w w11) := Lib.hid (by rw [hw11]; exact belowD B6.out)
        have S1 := Lib.hid (same_gg go m t g M t2 w11 O7.out K7.out)
        have S2 := Lib.hid (same_gg g M t2 go m t w11 K7.out O7.out)
        clear hw11
        rw [decide_eq_false (show ¬ m = M by have := MM.out; omega)] at S1
        rw [decide_eq_false (show ¬ M = m by have := MM.out; omega)] at S2
        go_wp2_with fail
        refine S1.out.mono ?_
        rintro r w12 ⟨rfl, rfl⟩
        go_wp2_with fail
        refine S2.out.mono ?_
        rintro r w13 ⟨rfl, rfl⟩
        go_wp2_with fail
        refine cp_r16 _ _ _ _ _ _ _ _ _ _ _ _ _ _ _ _ _ _ _ _ _ _ _ _ _ _ _ _ _ _ _ _ _ _ _ _ _ _ _ _ _ _ _ _ _ _ _ _ _ _ _ _ _ _ _ _ _ _ _ _ _ _ _ _ _ _ _ _ _ _ _ _ _ _ _ _ _ _ _ _ _ _ _ _ _ _ _ _ _ _ _ _ _ _ _ _ _ _ _ _ _ _ _ _ _ _ _ _ _ _ _ _ _ _ _ _ _ _ _ _ _ _ _ _ _ _ _ _ _ _ _ _ _ _ _ _ _ _ _ _ _ _ _ _ _ _ w13 xa gh n c1 (i + 1) ch i z D hlt DL.out.symm (by omega) Q0.out.1 H7.out (E1.out _ B7.out) _ ?_
        intro u1 u2 u3 u4 u5 u6 u7 u8 u9 u10 u11 u12 w14 gk ck hck h14 hgk b14
        have K8 := Lib.hid (K7.out.below b14 K7.out.lt)
        have O8 := Lib.hid (O7.out.below b14 O7.out.lt)
        have B8 := Lib.hid (B7.out.trans (b14.mono B7.out.size))
        have H8 := Lib.hid h14
        have CK : Hid (i + 1 + 1 ≤ ck ∧ g < gk ∧ gk ≠ go) := Lib.hid ⟨hck, by have := K7.out.lt; omega, by have := O7.out.lt; omega⟩
        have DL2 : Hid ((D ++ [z]).length = i + 1 + 1) := Lib.hid (by rw [List.length_append, DL.out]; rfl)
        have RB := Lib.hid (fun (u : World) (x : HadB gk (D ++ [z]) u) => refAt_c (some ⟨gk, 0, none⟩) ck (D ++ [z]) (by have := DL2.out; omega) (by have := DL2.out; omega) u x.ru)
        have RU2 := Lib.hid (fun (u : World) (x : HadB gk (D ++ [z]) u) => refTaken_c (some ⟨gk, 0, none⟩) ck (D ++ [z]) (by have := DL2.out; omega) (by have := DL2.out; omega) (by have := DL2.out; have := CK.out; omega) u x.ru)
        rw [DL2.out, HM.out] at RB
        rw [DL2.out, HK2.out] at RU2
        clear hck h14 hgk b14
        go_wp2_with fail
        refine (at_c g M t2 _ K8.out).mono ?_
        rintro r w15 ⟨rfl, rfl⟩
        go_wp2_with fail
        refine (RB.out _ H8.out).mono ?_
        rintro r w16 ⟨rfl, rfl⟩
        go_wp2_with fail
        refine (taken_c g M t2 _ K8.out).mono ?_
        rintro r w17 ⟨rfl, rfl⟩
        go_wp2_with fail
        refine (RU2.out _ H8.out).mono ?_
        rintro r w18 ⟨rfl, q18, hw18⟩
        have K9 : Hid (CkB g M t2 w18) := Lib.hid (by rw [hw18]; exact keepD K8.out)
        have H9 : Hid (HadB gk (D ++ [z]) w18) := Lib.hid (by rw [hw18]; exact hadD H8.out)
        have O9 : Hid (CkB go m t w18) := Lib.hid (by rw [hw18]; exact keepD O8.out)
        have B9 : Hid (Below w.heap.size w w18) := Lib.hid (by rw [hw18]; exact belowD B8.out)
        have A9 := Lib.hid (asks_c g M t2 z w18 K9.out)
        rw [decide_eq_false (show ¬ M < z by have := MZ.out; omega)] at A9
        have e9 := E1.out w18 B9.out
        clear hw18
        go_wp2_with fail
        refine A9.out.mono ?_
        rintro r w19 ⟨rfl, rfl⟩
        go_wp2_with fail
        refine (take_c go m t 18446744073709551615 (by have := T9.out; omega) _ O9.out).mono ?_
        rintro r w20 ⟨rfl, k20, g20, z20⟩
        have K10 := Lib.hid (K9.out.grown g20 (by intro h; injection h with h; have := GO.out; omega))
        have H10 := Lib.hid (H9.out.grown g20 (by intro h; injection h with h; exact CK.out.2.2 h))
        have B10 := Lib.hid (Below.of_grown B9.out g20 B9.out.size GO.out.2.2)
        clear k20 g20 z20 e9
        go_wp2_with fail
        refine (at_c g M t2 _ K10.out).mono ?_
        rintro r w21 ⟨rfl, rfl⟩
        go_wp2_with fail
        refine (RB.out _ H10.out).mono ?_
        rintro r w22 ⟨rfl, rfl⟩
        go_wp2_with fail
        exact ⟨⟨i + 1, gk, ck, by omega, by go_num, rfl, CK.out.1, by rw [HT.out]; exact H10.out, by rw [HT.out, HM.out, HK2.out]; exact K10.out, CK.out.2.1, B10.out⟩, by simp [intOf]; omega⟩
      · have f0 : decide ((z : Int) > (m : Int)) = false := by simp; omega
        have f0' : decide ((m : Int) < (z : Int)) = false := by simp; omega
        go_wp2_with fail
        go_quiet ((go_at_call 13; exact Calls.quiet_of_same (RAQ.out _)))
        obtain ⟨V, hV⟩ : ∃ V, V = w3.drewN nq := ⟨_, rfl⟩
        have K4 : Hid (CkB g m t V) := Lib.hid (by rw [hV]; exact keepD K3.out)
        have H4 : Hid (HadB gh D V) := Lib.hid (by rw [hV]; exact hadD H3.out)
        have B4 : Hid (Below w.heap.size w V) := Lib.hid (by rw [hV]; exact belowD B3.out)
        have O4 : Hid (CkB go m t V) := Lib.hid (by rw [hV]; exact keepD O3.out)
        rw [← hV]
        clear hV e3 RAQ
        have e4 := E1.out V B4.out
        have AS := Lib.hid (asks_c g m t z V K4.out)
        have TA := Lib.hid (take_c g m t z (by have := T9.out; omega) V K4.out)
        rw [decide_eq_false hs] at AS TA
        go_wp2_with fail
        refine AS.out.mono ?_
        rintro r w5 ⟨rfl, rfl⟩
        go_wp2_with fail
        refine TA.out.mono ?_
        rintro r w6 ⟨rfl, k6, g6, z6⟩
        have K6 := Lib.hid k6
        rw [← HK.out] at K6
        obtain ⟨M, hM⟩ : ∃ M, M = max m z := ⟨_, rfl⟩
        obtain ⟨t2, ht2⟩ : ∃ x, x = tk (D ++ [z]) := ⟨_, rfl⟩
        have T2 : Hid (t2 ≤ 302) := Lib.hid (by rw [ht2, HK.out]; have := T9.out; split <;> omega)
        have MZ : Hid (z ≤ M) := Lib.hid (by omega)
        have HM := HM
        have HK := HK
        have HT := HT
        rw [← hM] at K6 HM
        rw [← ht2] at K6
        have HK2 := Lib.hid ht2.symm
        have H6 := Lib.hid (H4.out.grown g6 (by intro h; injection h with h; have := Q0.out; omega))
        have O6 := Lib.hid (O4.out.grown g6 (by intro h; injection h with h; have := GO.out; omega))
        have B6 := Lib.hid (Below.of_grown B4.out g6 B4.out.size G1.out)
        have MM : Hid (M = max m z) := Lib.hid hM
        clear k6 g6 z6 hM ht2 e4
        go_wp2_with fail
        refine (num_c _ _).mono ?_
        rintro r w7 ⟨rfl, rfl⟩
        go_wp2_with fail
        refine (at_c go m t _ O6.out).mono ?_
        rintro r w8 ⟨rfl, rfl⟩
        go_wp2_with fail
        refine (RA.out _ H6.out).mono ?_
        rintro r w9 ⟨rfl, rfl⟩
        go_wp2_with fail
        refine (taken_c go m t _ O6.out).mono ?_
        rintro r w10 ⟨rfl, rfl⟩
        go_wp2_with fail
        refine (RT.out _ H6.out).mono ?_
        rintro r w11 ⟨rfl, q11, hw11⟩
        have K7 : Hid (CkB g M t2 w11) := Lib.hid (by rw [hw11]; exact keepD K6.out)
        have H7 : Hid (HadB gh D w11) := Lib.hid (by rw [hw11]; exact hadD H6.out)
        have O7 : Hid (CkB go m t w11) := Lib.hid (by rw [hw11]; exact keepD O6.out)
        have B7 : Hid (Below w.heap.size w w11) := Lib.hid (by rw [hw11]; exact belowD B6.out)
        have S1 := Lib.hid (same_gg go m t g M t2 w11 O7.out K7.out)
        have S2 := Lib.hid (same_gg g M t2 go m t w11 K7.out O7.out)
        clear hw11
        rw [decide_eq_true (show m = M by have := MM.out; omega)] at S1
        rw [decide_eq_true (show M = m by have := MM.out; omega)] at S2
        go_wp2_with fail
        refine S1.out.mono ?_
        rintro r w12 ⟨rfl, rfl⟩
        go_wp2_with fail
        refine S2.out.mono ?_
        rintro r w13 ⟨rfl, rfl⟩
        go_wp2_with fail
        refine cp_r16 _ _ _ _ _ _ _ _ _ _ _ _ _ _ _ _ _ _ _ _ _ _ _ _ _ _ _ _ _ _ _ _ _ _ _ _ _ _ _ _ _ _ _ _ _ _ _ _ _ _ _ _ _ _ _ _ _ _ _ _ _ _ _ _ _ _ _ _ _ _ _ _ _ _ _ _ _ _ _ _ _ _ _ _ _ _ _ _ _ _ _ _ _ _ _ _ _ _ _ _ _ _ _ _ _ _ _ _ _ _ _ _ _ _ _ _ _ _ _ _ _ _ _ _ _ _ _ _ _ _ _ _ _ _ _ _ _ _ _ _ _ _ _ _ _ _ w13 xa gh n c1 (i + 1) ch i z D hlt DL.out.symm (by omega) Q0.out.1 H7.out (E1.out _ B7.out) _ ?_
        intro u1 u2 u3 u4 u5 u6 u7 u8 u9 u10 u11 u12 w14 gk ck hck h14 hgk b14
        have K8 := Lib.hid (K7.out.below b14 K7.out.lt)
        have O8 := Lib.hid (O7.out.below b14 O7.out.lt)
        have B8 := Lib.hid (B7.out.trans (b14.mono B7.out.size))
        have H8 := Lib.hid h14
        have CK : Hid (i + 1 + 1 ≤ ck ∧ g < gk ∧ gk ≠ go) := Lib.hid ⟨hck, by have := K7.out.lt; omega, by have := O7.out.lt; omega⟩
        have DL2 : Hid ((D ++ [z]).length = i + 1 + 1) := Lib.hid (by rw [List.length_append, DL.out]; rfl)
        have RB := Lib.hid (fun (u : World) (x : HadB gk (D ++ [z]) u) => refAt_c (some ⟨gk, 0, none⟩) ck (D ++ [z]) (by have := DL2.out; omega) (by have := DL2.out; omega) u x.ru)
        have RU2 := Lib.hid (fun (u : World) (x : HadB gk (D ++ [z]) u) => refTaken_c (some ⟨gk, 0, none⟩) ck (D ++ [z]) (by have := DL2.out; omega) (by have := DL2.out; omega) (by have := DL2.out; have := CK.out; omega) u x.ru)
        rw [DL2.out, HM.out] at RB
        rw [DL2.out, HK2.out] at RU2
        clear hck h14 hgk b14
        go_wp2_with fail
        refine (at_c g M t2 _ K8.out).mono ?_
        rintro r w15 ⟨rfl, rfl⟩
        go_wp2_with fail
        refine (RB.out _ H8.out).mono ?_
        rintro r w16 ⟨rfl, rfl⟩
        go_wp2_with fail
        refine (taken_c g M t2 _ K8.out).mono ?_
        rintro r w17 ⟨rfl, rfl⟩
        go_wp2_with fail
        refine (RU2.out _ H8.out).mono ?_
        rintro r w18 ⟨rfl, q18, hw18⟩
        have K9 : Hid (CkB g M t2 w18) := Lib.hid (by rw [hw18]; exact keepD K8.out)
        have H9 : Hid (HadB gk (D ++ [z]) w18) := Lib.hid (by rw [hw18]; exact hadD H8.out)
        have O9 : Hid (CkB go m t w18) := Lib.hid (by rw [hw18]; exact keepD O8.out)
        have B9 : Hid (Below w.heap.size w w18) := Lib.hid (by rw [hw18]; exact belowD B8.out)
        have A9 := Lib.hid (asks_c g M t2 z w18 K9.out)
        rw [decide_eq_false (show ¬ M < z by have := MZ.out; omega)] at A9
        have e9 := E1.out w18 B9.out
        clear hw18
        go_wp2_with fail
        refine A9.out.mono ?_
        rintro r w19 ⟨rfl, rfl⟩
        go_wp2_with fail
        refine (take_c go m t 18446744073709551615 (by have := T9.out; omega) _ O9.out).mono ?_
        rintro r w20 ⟨rfl, k20, g20, z20⟩
        have K10 := Lib.hid (K9.out.grown g20 (by intro h; injection h with h; have := GO.out; omega))
        have H10 := Lib.hid (H9.out.grown g20 (by intro h; injection h with h; exact CK.out.2.2 h))
        have B10 := Lib.hid (Below.of_grown B9.out g20 B9.out.size GO.out.2.2)
        clear k20 g20 z20 e9
        go_wp2_with fail
        refine (at_c g M t2 _ K10.out).mono ?_
        rintro r w21 ⟨rfl, rfl⟩
        go_wp2_with fail
        refine (RB.out _ H10.out).mono ?_
        rintro r w22 ⟨rfl, rfl⟩
        go_wp2_with fail
        exact ⟨⟨i + 1, gk, ck, by omega, by go_num, rfl, CK.out.1, by rw [HT.out]; exact H10.out, by rw [HT.out, HM.out, HK2.out]; exact K10.out, CK.out.2.1, B10.out⟩, by simp [intOf]; omega⟩
    · obtain rfl : i = n := by omega
      go_wp2_with fail
      refine (known_c _).mono ?_
      rintro r w10 ⟨rfl, b10⟩
      go_wp2_with fail
      go_ret
      exact ⟨rfl, Q4.out.trans (b10.mono Q4.out.size)⟩
set_option maxHeartbeats 4000000 in
theorem clockPlays_big (w : World) (a : Nat) (A1 : Option Addr) (l c1 : Nat) (h : 300 < l) : Calls Try.prog 3 #[.int .u64 (a : Int), .slice A1 l c1] w fun r w' => r = .returned (.bool true) ∧ Below w.heap.size w w' := by
  have d1 : decide ((l : Int) > 300) = true := by simp; omega
  have d1' : decide (300 < (l : Int)) = true := by simp; omega
  go_enter Try.func3, Try.ntmps3
  go_wp2_with fail
  refine (known_c _).mono ?_
  rintro r w1 ⟨rfl, b1⟩
  go_wp2_with fail
  go_ret
  exact ⟨rfl, b1⟩
theorem clockPlays_any (w : World) (a : Nat) (A1 : Option Addr) (L : List Nat) (c1 : Nat) (ha : a < 18446744073709551616) (hL : ∀ x ∈ L, x < 18446744073709551616) (r1 : RU w A1 L) :
    Calls Try.prog 3 #[.int .u64 (a : Int), .slice A1 L.length c1] w fun r w' => r = .returned (.bool true) ∧ Below w.heap.size w w' := by
  by_cases h : 300 < L.length
  · exact clockPlays_big w a A1 _ c1 h
  · exact clockPlays_main w a A1 L c1 ha r1 (by omega)
end Go.Proofs.Ytkjlcfffalmgoaa
