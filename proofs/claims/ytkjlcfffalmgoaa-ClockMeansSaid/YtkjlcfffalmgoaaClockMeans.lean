/- ClockMeans: a clock stands at the greatest of all it took. -/
import Derived.Test.YtkjlcfffalmgoaaClockParts
namespace Go.Proofs.Ytkjlcfffalmgoaa
open Go.ChangeShapes Go.WideShapes Go.ChangeAt Go.RowKit
set_option linter.unusedVariables false
set_option maxRecDepth 100000

theorem mx_le {s : Nat} : ∀ {L : List Nat}, (∀ x ∈ L, x ≤ s) → mx L ≤ s
  | [], _ => Nat.zero_le _
  | y :: L, h => by
    rw [mx_cons]
    have h1 := h y List.mem_cons_self
    have h2 := mx_le (L := L) (fun x hx => h x (List.mem_cons_of_mem _ hx))
    omega
theorem below_drewN {B q : Nat} {a u : World} (h : Below B a u) : Below B a (u.drewN q) := ⟨h.os, h.tape, h.output, h.size, h.block⟩
/-- One of the two clocks has turned. -/
theorem OU.turned {w w' : World} {base g : Nat} {v : Value} {L : List Nat} (h : OU w base v L) (hg : w.grownBy w' (some g)) (hb : g < base) : OU w' base v L :=
  h.kept hg (fun x hx e => by injection e with e; have := (h.lt x hx).1; omega)
set_option maxHeartbeats 16000000 in
theorem clockMeans_main (w : World) (a : Nat) (A1 : Option Addr) (L : List Nat) (c1 : Nat) (A2 : Option Addr) (M : List Nat) (c2 : Nat) (A3 : Option Addr) (R : List Int) (c3 : Nat) (ha : a < 18446744073709551616) (hL : ∀ x ∈ L, x < 18446744073709551616) (hM : ∀ x ∈ M, x < 18446744073709551616) (r1 : RU w A1 L) (r2 : RU w A2 M)
    (r3 : ∀ u, Below w.heap.size w u → ∀ (i : Nat) z, R[i]? = some z → ∃ xa, A3 = some xa ∧ u.cell? (xa.add i) = some (.int .i64 z)) (n1 : L.length ≤ 300) (n2 : M.length ≤ 300) (n3 : R.length ≤ 300) :
    Calls Try.prog 5 #[.int .u64 (a : Int), .slice A1 L.length c1, .slice A2 M.length c2, .slice A3 R.length c3] w fun r w' => r = .returned (.bool true) ∧ Below w.heap.size w w' := by
  have H1 := Lib.hid r1
  have H2 := Lib.hid r2
  have H3 := Lib.hid r3
  obtain ⟨l, hl⟩ : ∃ n, n = L.length := ⟨_, rfl⟩
  obtain ⟨m, hm⟩ : ∃ n, n = M.length := ⟨_, rfl⟩
  obtain ⟨o, ho⟩ : ∃ n, n = R.length := ⟨_, rfl⟩
  have HL := Lib.hid hl
  have HM := Lib.hid hm
  have HO := Lib.hid ho
  rw [← hl] at n1 ⊢
  rw [← hm] at n2 ⊢
  rw [← ho] at n3 ⊢
  have d1 : decide ((l : Int) > 300) = false := by simp; omega
  have d1' : decide (300 < (l : Int)) = false := by simp; omega
  have d2 : decide ((m : Int) > 300) = false := by simp; omega
  have d2' : decide (300 < (m : Int)) = false := by simp; omega
  have d3 : decide ((o : Int) > 300) = false := by simp; omega
  have d3' : decide (300 < (o : Int)) = false := by simp; omega
  clear hl hm ho r1 r2 r3
  go_enter Try.func5, Try.ntmps5
  go_wp2_with fail
  refine (known_c _).mono ?_
  rintro r w0 ⟨rfl, b0⟩
  have B0 := Lib.hid b0
  clear b0
  go_wp2_with fail
  refine (new_c a _).mono ?_
  rintro r w1 ⟨rfl, k1, b1, z1⟩
  obtain ⟨g, hg⟩ : ∃ g, g = w0.heap.size := ⟨_, rfl⟩
  rw [← hg] at k1 ⊢
  have K1 := Lib.hid k1
  have B1 := Lib.hid (B0.out.trans (b1.mono B0.out.size))
  have G1 : Hid (w.heap.size ≤ g) := Lib.hid (by have := B0.out.size; omega)
  clear k1 b1 hg z1
  go_wp2_with fail
  refine (new_c a _).mono ?_
  rintro r w2 ⟨rfl, k2, b2, z2⟩
  obtain ⟨g2, hg2⟩ : ∃ g, g = w1.heap.size := ⟨_, rfl⟩
  rw [← hg2] at k2 ⊢
  have K2 := Lib.hid k2
  have K12 := Lib.hid (K1.out.below b2 K1.out.lt)
  have B2 := Lib.hid (B1.out.trans (b2.mono B1.out.size))
  have GG := Lib.hid (show g < g2 by have := K1.out.lt; omega)
  have Z2 : Hid (g2 < w2.heap.size) := Lib.hid k2.lt
  obtain ⟨base, hbase⟩ : ∃ b, b = w2.heap.size := ⟨_, rfl⟩
  have HB := Lib.hid hbase
  clear k2 b2 hg2 z2 K1 hbase
  go_wp2_with (first
    | (at_builtin; refine wpList_append_ru rfl (.const (Value.slice none 0 0)) (.tmp 43) rfl base (Value.slice none 0 0) [] rfl OU.nil A1 c1 l L HL.out rfl (H1.out.below B2.out (Nat.le_refl _)) (by have := HL.out; simp only [List.length_nil]; omega) (Nat.le_of_eq HB.out) ?_; intro v1 w3 o1 g1 a1)
    | (at_builtin; refine wpList_append_ru rfl (.tmp 44) (.tmp 45) rfl base v1 L rfl o1 A2 c2 m M HM.out rfl (H2.out.below (Below.grown B2.out g1 B2.out.size (by simp [Value.ownBlock])) (Nat.le_refl _)) (by have := HL.out; have := HM.out; omega) (by have := HB.out; have := g1.size; omega) ?_; intro v2 w4 o2 g2' a2))
  rw [List.nil_append] at o1
  have bq : Below base w2 w4 := by
    have x1 : Below base w2 w3 := Below.grown (Below.refl _ _) g1 (Nat.le_of_eq HB.out) (by simp [Value.ownBlock])
    exact Below.grown x1 g2' (by have := HB.out; have := g1.size; omega) (fun k hk => (o1.lt k hk).1)
  have KA := Lib.hid (K12.out.below bq (by have := GG.out; have := Z2.out; have := HB.out; omega))
  have KB := Lib.hid (K2.out.below bq (by have := Z2.out; have := HB.out; omega))
  have B4 := Lib.hid (B2.out.trans (bq.mono (by have := B2.out.size; have := HB.out; omega)))
  have GB : Hid (g2 < base) := Lib.hid (by have := Z2.out; have := HB.out; omega)
  have BW : Hid (w.heap.size ≤ base) := Lib.hid (by have := B2.out.size; have := HB.out; omega)
  have ZW : Hid (base ≤ w4.heap.size) := Lib.hid (by have := HB.out; have := bq.size; omega)
  obtain ⟨All, hAll⟩ : ∃ X, X = L ++ M := ⟨_, rfl⟩
  rw [← hAll] at o2
  obtain ⟨n, hn⟩ : ∃ n, n = All.length := ⟨_, rfl⟩
  have HN := Lib.hid hn
  have n600 : n ≤ 600 := by rw [hn, hAll, List.length_append]; have := HL.out; have := HM.out; omega
  obtain ⟨A4, c4, rfl, hc4⟩ := o2.form
  rw [← hn] at o2 ⊢
  have O2 := Lib.hid o2
  clear o1 g1 a1 g2' a2 bq hAll hn hc4 o2 K2 K12
  go_loopw [12, 13] (fun v12 v13 u => ∃ i : Nat, i ≤ n ∧ v12 = .int .i64 (i : Int) ∧ CkB g (st a All i) (cn a All i) u ∧ CkB g2 a 0 u ∧ OU u base (.slice A4 n c4) All ∧ Below w.heap.size w u ∧ base ≤ u.heap.size) (fun v12 _ _ => n - (intOf v12).toNat)
  case atStart => exact ⟨0, Nat.zero_le _, rfl, by rw [st_zero]; exact KA.out, KB.out, O2.out, B4.out, ZW.out⟩
  case round =>
    clear KA KB O2 B4 ZW
    obtain ⟨i, hi, rfl, q1, q2, q3, q4, q5⟩ := hrel
    have Q1 := Lib.hid q1
    have Q2 := Lib.hid q2
    have Q3 := Lib.hid q3
    have Q4 := Lib.hid q4
    have Q5 := Lib.hid q5
    clear q1 q2 q3 q4 q5
    by_cases hlt : i < n
    · obtain ⟨z, hz⟩ : ∃ z, All[i]? = some z := ⟨_, List.getElem?_eq_getElem (by have := HN.out; omega)⟩
      obtain ⟨xa, rfl, e1⟩ := Q3.out.rd i z hz
      have S1 := Lib.hid (st_succ a All hz)
      have S2 := Lib.hid (cn_succ a All hz)
      have C0 := Lib.hid (cn_le a All i)
      have HZ := Lib.hid hz
      obtain ⟨p, hp⟩ : ∃ p, p = st a All i := ⟨_, rfl⟩
      obtain ⟨t, ht⟩ : ∃ t, t = cn a All i := ⟨_, rfl⟩
      rw [← hp, ← ht] at Q1
      rw [← hp] at S1
      rw [← hp, ← ht] at S2
      rw [← ht] at C0
      clear hz hp ht
      go_wp2_with fail
      refine (at_c g _ _ _ Q1.out).mono ?_
      rintro r w5 ⟨rfl, rfl⟩
      go_wp2_with fail
      refine (take_c g _ _ z (by have := C0.out; omega) _ Q1.out).mono ?_
      rintro r w6 ⟨rfl, k6, g6, z6⟩
      have O6 := Q3.out.turned g6 (by have := GG.out; have := GB.out; omega)
      obtain ⟨xb, hb, e2⟩ := O6.rd i z HZ.out
      injection hb with hb
      subst hb
      have O6 := Lib.hid O6
      have K6 := Lib.hid k6
      have B6 := Lib.hid (Below.of_grown Q4.out g6 Q4.out.size G1.out)
      have Z6 : Hid (base ≤ w6.heap.size) := Lib.hid (by rw [z6]; exact Q5.out)
      have KB := Lib.hid (Q2.out.grown g6 (by intro h; injection h with h; have := GG.out; omega))
      clear e1 k6 g6 z6
      by_cases hpz : p < z
      · have em : max p z = z := by omega
        rw [em] at K6 S1
        rw [if_pos hpz] at S2 K6
        have AC := Lib.hid (fun q => at_c g z (t + 1) (w6.drewN q) K6.out)
        have f1 : decide ((z : Int) < (p : Int)) = false := by simp; omega
        have f2 : decide ((z : Int) < (z : Int)) = false := by simp
        have f3 : decide ((z : Int) ≠ (p : Int)) = true := by simp; omega
        have f4 : ((z : Int) != (p : Int)) = true := by rw [bne_iff_ne]; omega
        have f5 : ¬ z = p := by omega
        have f6 : ¬ z < p := by omega
        go_wp2_with fail
        go_quiet ((go_at_call 10; exact Calls.quiet_of_same (AC.out _)))
        go_wp2_with fail
        exact ⟨⟨i + 1, by omega, by go_num, by rw [S1.out, S2.out]; exact K6.out, KB.out, O6.out, below_drewN B6.out, Z6.out⟩, by simp [intOf]; omega⟩
      · have em : max p z = p := by omega
        rw [em] at K6 S1
        rw [if_neg hpz] at S2 K6
        have AC := Lib.hid (fun q => at_c g p (t + 0) (w6.drewN q) K6.out)
        have f1 : decide ((p : Int) < (z : Int)) = false := by simp; omega
        have f2 : decide ((p : Int) < (p : Int)) = false := by simp
        go_wp2_with fail
        go_quiet ((go_at_call 10; exact Calls.quiet_of_same (AC.out _)))
        go_wp2_with fail
        exact ⟨⟨i + 1, by omega, by go_num, by rw [S1.out, S2.out]; exact K6.out, KB.out, O6.out, below_drewN B6.out, Z6.out⟩, by simp [intOf]; omega⟩
    · obtain rfl : i = n := by omega
      have CN := Lib.hid (cn_le a All i)
      obtain ⟨x, hx⟩ : ∃ x, x = st a All i := ⟨_, rfl⟩
      obtain ⟨y, hy⟩ : ∃ y, y = cn a All i := ⟨_, rfl⟩
      have HX : Hid (x = max a (mx All)) := Lib.hid (by rw [hx]; unfold st; rw [HN.out, List.take_length])
      rw [← hx, ← hy] at Q1
      rw [← hy] at CN
      clear hx hy
      go_wp2_with fail
      go_loopw [14] (fun v14 u => ∃ j s t : Nat, j ≤ o ∧ v14 = .int .i64 (j : Int) ∧ CkB g x y u ∧ CkB g2 s t u ∧ a ≤ s ∧ s ≤ x ∧ t ≤ j ∧ OU u base (.slice A4 i c4) All ∧ Below w.heap.size w u ∧ base ≤ u.heap.size) (fun v14 _ => o - (intOf v14).toNat)
      case atStart => exact ⟨0, a, 0, Nat.zero_le _, rfl, Q1.out, Q2.out, Nat.le_refl _, by have := HX.out; omega, Nat.le_refl _, Q3.out, Q4.out, Q5.out⟩
      case round =>
        clear Q1 Q2 Q3 Q4 Q5
        obtain ⟨j, s, t, hj, rfl, q1, q2, q6, q7, q8, q3, q4, q5⟩ := hrel
        have Q1 := Lib.hid q1
        have Q2 := Lib.hid q2
        have Q3 := Lib.hid q3
        have Q4 := Lib.hid q4
        have Q5 := Lib.hid q5
        have Q6 := Lib.hid (And.intro q6 (And.intro q7 q8))
        clear q1 q2 q3 q4 q5 q6 q7 q8
        by_cases hlt : j < o
        · obtain ⟨oz, hoz⟩ : ∃ z, R[j]? = some z := ⟨_, List.getElem?_eq_getElem (by have := HO.out; omega)⟩
          obtain ⟨xo, rfl, eo⟩ := H3.out _ Q4.out j oz hoz
          clear hoz
          by_cases h0 : oz < 0
          · have f1 : decide (0 ≤ oz) = false := by simp; omega
            have f2 : decide (oz ≥ 0) = false := by simp; omega
            have f3 : ¬ 0 ≤ oz := by omega
            go_wp2_with fail
            exact ⟨⟨j + 1, s, t, by omega, by go_num, Q1.out, Q2.out, Q6.out.1, Q6.out.2.1, by have := Q6.out; omega, Q3.out, Q4.out, Q5.out⟩, by simp [intOf]; omega⟩
          · obtain ⟨k, rfl⟩ := Int.eq_ofNat_of_zero_le (show 0 ≤ oz by omega)
            by_cases hk : k < i
            · obtain ⟨z, hz⟩ : ∃ z, All[k]? = some z := ⟨_, List.getElem?_eq_getElem (by have := HN.out; omega)⟩
              obtain ⟨xa, rfl, e1⟩ := Q3.out.rd k z hz
              have LZ : Hid (z ≤ x) := Lib.hid (by have := le_mx (List.mem_of_getElem? hz); have := HX.out; omega)
              clear hz
              go_wp2_with fail
              refine (take_c g2 _ _ z (by have := Q6.out; omega) _ Q2.out).mono ?_
              rintro r w6 ⟨rfl, k6, g6, z6⟩
              have O6 := Lib.hid (Q3.out.turned g6 GB.out)
              have K6 := Lib.hid k6
              have B6 := Lib.hid (Below.of_grown Q4.out g6 Q4.out.size (by have := G1.out; have := GG.out; omega))
              have Z6 : Hid (base ≤ w6.heap.size) := Lib.hid (by rw [z6]; exact Q5.out)
              have KA := Lib.hid (Q1.out.grown g6 (by intro h; injection h with h; have := GG.out; omega))
              clear e1 k6 g6 z6
              go_wp2_with fail
              exact ⟨⟨j + 1, _, _, by omega, by go_num, KA.out, K6.out, by have := Q6.out; omega, by have := Q6.out; have := LZ.out; omega, by have := Q6.out; split <;> omega, O6.out, B6.out, Z6.out⟩, by simp [intOf]; omega⟩
            · go_wp2_with fail
              exact ⟨⟨j + 1, s, t, by omega, by go_num, Q1.out, Q2.out, Q6.out.1, Q6.out.2.1, by have := Q6.out; omega, Q3.out, Q4.out, Q5.out⟩, by simp [intOf]; omega⟩
        · obtain rfl : j = o := by omega
          go_wp2_with fail
          go_loopw [15] (fun v15 u => ∃ (e : Int) (k s t : Nat), v15 = .int .i64 e ∧ e + 1 = (k : Int) ∧ k ≤ i ∧ CkB g x y u ∧ CkB g2 s t u ∧ a ≤ s ∧ s ≤ x ∧ t + k ≤ 1000 ∧ (∀ q z, k ≤ q → All[q]? = some z → z ≤ s) ∧ OU u base (.slice A4 i c4) All ∧ Below w.heap.size w u ∧ base ≤ u.heap.size) (fun v15 _ => (intOf v15 + 1).toNat)
          case atStart => exact ⟨_, i, s, t, rfl, by omega, Nat.le_refl _, Q1.out, Q2.out, Q6.out.1, Q6.out.2.1, by have := Q6.out; omega, fun q z h1 h2 => by have := (List.getElem?_eq_some_iff.1 h2).1; have := HN.out; omega, Q3.out, Q4.out, Q5.out⟩
          case round =>
            clear Q1 Q2 Q3 Q4 Q5 Q6
            obtain ⟨e, k, s, t, rfl, he, hk, q1, q2, q6, q7, q8, q9, q3, q4, q5⟩ := hrel
            have Q1 := Lib.hid q1
            have Q2 := Lib.hid q2
            have Q3 := Lib.hid q3
            have Q4 := Lib.hid q4
            have Q5 := Lib.hid q5
            have Q6 := Lib.hid (And.intro q6 (And.intro q7 q8))
            have Q9 := Lib.hid q9
            clear q1 q2 q3 q4 q5 q6 q7 q8 q9
            by_cases hk0 : k = 0
            · have h0 : e < 0 := by omega
              have f1 : decide (0 ≤ e) = false := by simp; omega
              have f2 : decide (e ≥ 0) = false := by simp; omega
              have f3 : ¬ 0 ≤ e := by omega
              have es : s = x := by
                have h1 : mx All ≤ s := mx_le (fun z hz => by
                  obtain ⟨q, hq⟩ := List.mem_iff_getElem?.1 hz
                  exact Q9.out q z (by omega) hq)
                have := Q6.out
                have := HX.out
                omega
              rw [es] at Q2
              clear es he hk
              have bA : Below wr.heap.size wr (wr.alloc (.cells #[.int .u64 (a : Int)] 22)) := (Below.refl _ _).alloc (Nat.le_refl _) _
              have OA := Lib.hid (Q3.out.below bA (Nat.le_refl _))
              have RA := Lib.hid (RU.one wr 22 a)
              have ZA : Hid (base ≤ (wr.alloc (.cells #[.int .u64 (a : Int)] 22)).heap.size) := Lib.hid (Nat.le_trans Q5.out bA.size)
              have BA := Lib.hid (Q4.out.trans (bA.mono Q4.out.size))
              have KA := Lib.hid (Q1.out.below bA Q1.out.lt)
              have KB := Lib.hid (Q2.out.below bA Q2.out.lt)
              clear bA
              go_wp2_with (at_builtin; refine wpList_append_ru rfl (.tmp 132) (.tmp 134) rfl base (.slice A4 i c4) All rfl OA.out (some ⟨wr.heap.size, 0, none⟩) 1 1 [a] rfl rfl RA.out (by have := HN.out; simp only [List.length_singleton]; omega) ZA.out ?_; intro v5 w5 o5 g5 a5)
              obtain ⟨A5, c5, rfl, hc5⟩ := o5.form
              have hl5 : (All ++ [a]).length = i + 1 := by rw [List.length_append, List.length_singleton, HN.out]
              have GC := Lib.hid (greatest_c A5 c5 (All ++ [a]) (by rw [hl5]; omega) w5 o5.rd)
              rw [hl5, mx_snoc, show max (mx All) a = x by have := HX.out; omega, decide_eq_true (show 1 ≤ i + 1 by omega)] at GC
              have hb5 : ∀ k, (Value.slice A4 i c4).ownBlock = some k → base ≤ k := fun k hk => (OA.out.lt k hk).1
              have B5 := Lib.hid (Below.grown BA.out g5 BA.out.size (fun k hk => Nat.le_trans BW.out (hb5 k hk)))
              have KA' := Lib.hid (KA.out.grown g5 (by intro h; have := hb5 _ h.symm; have := GG.out; have := GB.out; omega))
              have KB' := Lib.hid (KB.out.grown g5 (by intro h; have := hb5 _ h.symm; have := GB.out; omega))
              have SN := Lib.hid (same_gg g x y g2 x t _ KA'.out KB'.out)
              have SM := Lib.hid (same_gg g2 x t g x y _ KB'.out KA'.out)
              rw [show decide (x = x) = true from decide_eq_true rfl] at SN SM
              rw [hl5]
              clear o5 g5 a5 hc5 hl5 hb5
              rw [show ((i + 1 : Nat)) = i + 1 from rfl]
              refine GC.out.mono ?_
              rintro r w6 ⟨rfl, rfl⟩
              go_wp2_with fail
              refine (at_c _ _ _ _ KA'.out).mono ?_
              rintro r w7 ⟨rfl, rfl⟩
              go_wp2_with fail
              refine (at_c _ _ _ _ KB'.out).mono ?_
              rintro r w8 ⟨rfl, rfl⟩
              go_wp2_with fail
              refine SN.out.mono ?_
              rintro r w9 ⟨rfl, rfl⟩
              go_wp2_with fail
              refine SM.out.mono ?_
              rintro r w10 ⟨rfl, rfl⟩
              go_wp2_with fail
              go_ret
              exact ⟨rfl, B5.out⟩
            · obtain ⟨q, rfl⟩ : ∃ q, k = q + 1 := ⟨k - 1, by omega⟩
              obtain rfl : e = (q : Int) := by omega
              obtain ⟨z, hz⟩ : ∃ z, All[q]? = some z := ⟨_, List.getElem?_eq_getElem (by have := HN.out; omega)⟩
              obtain ⟨xa, rfl, e1⟩ := Q3.out.rd q z hz
              have LZ : Hid (z ≤ x) := Lib.hid (by have := le_mx (List.mem_of_getElem? hz); have := HX.out; omega)
              have HZ := Lib.hid hz
              clear hz he
              go_wp2_with fail
              refine (take_c g2 _ _ z (by have := Q6.out; omega) _ Q2.out).mono ?_
              rintro r w6 ⟨rfl, k6, g6, z6⟩
              have O6 := Lib.hid (Q3.out.turned g6 GB.out)
              have K6 := Lib.hid k6
              have B6 := Lib.hid (Below.of_grown Q4.out g6 Q4.out.size (by have := G1.out; have := GG.out; omega))
              have Z6 : Hid (base ≤ w6.heap.size) := Lib.hid (by rw [z6]; exact Q5.out)
              have KA := Lib.hid (Q1.out.grown g6 (by intro h; injection h with h; have := GG.out; omega))
              clear e1 k6 g6 z6
              go_wp2_with fail
              exact ⟨⟨_, q, _, _, rfl, by omega, by omega, KA.out, K6.out, by have := Q6.out; omega, by have := Q6.out; have := LZ.out; omega, by have := Q6.out; split <;> omega, (fun q2 z2 h1 h2 => by
                rcases Nat.lt_or_ge q q2 with h | h
                · have := Q9.out q2 z2 (by omega) h2; omega
                · obtain rfl : q2 = q := by omega
                  rw [HZ.out] at h2
                  injection h2 with h2
                  omega), O6.out, B6.out, Z6.out⟩, by simp [intOf]⟩
set_option maxHeartbeats 4000000 in
theorem clockMeans_l (w : World) (a : Nat) (A1 A2 A3 : Option Addr) (l c1 m c2 o c3 : Nat) (h : 300 < l) : Calls Try.prog 5 #[.int .u64 (a : Int), .slice A1 l c1, .slice A2 m c2, .slice A3 o c3] w fun r w' => r = .returned (.bool true) ∧ Below w.heap.size w w' := by
  have d1 : decide ((l : Int) > 300) = true := by simp; omega
  have e1 : decide (300 < (l : Int)) = true := by simp; omega
  go_enter Try.func5, Try.ntmps5
  go_wp2_with fail
  refine (known_c _).mono ?_
  rintro r w1 ⟨rfl, b1⟩
  go_wp2_with fail
  go_ret
  exact ⟨rfl, b1⟩
set_option maxHeartbeats 4000000 in
theorem clockMeans_m (w : World) (a : Nat) (A1 A2 A3 : Option Addr) (l c1 m c2 o c3 : Nat) (h : l ≤ 300) (h2 : 300 < m) : Calls Try.prog 5 #[.int .u64 (a : Int), .slice A1 l c1, .slice A2 m c2, .slice A3 o c3] w fun r w' => r = .returned (.bool true) ∧ Below w.heap.size w w' := by
  have d1 : decide ((l : Int) > 300) = false := by simp; omega
  have e1 : decide (300 < (l : Int)) = false := by simp; omega
  have d2 : decide ((m : Int) > 300) = true := by simp; omega
  have e2 : decide (300 < (m : Int)) = true := by simp; omega
  go_enter Try.func5, Try.ntmps5
  go_wp2_with fail
  refine (known_c _).mono ?_
  rintro r w1 ⟨rfl, b1⟩
  go_wp2_with fail
  go_ret
  exact ⟨rfl, b1⟩
set_option maxHeartbeats 4000000 in
theorem clockMeans_o (w : World) (a : Nat) (A1 A2 A3 : Option Addr) (l c1 m c2 o c3 : Nat) (h : l ≤ 300) (h2 : m ≤ 300) (h3 : 300 < o) : Calls Try.prog 5 #[.int .u64 (a : Int), .slice A1 l c1, .slice A2 m c2, .slice A3 o c3] w fun r w' => r = .returned (.bool true) ∧ Below w.heap.size w w' := by
  have d1 : decide ((l : Int) > 300) = false := by simp; omega
  have e1 : decide (300 < (l : Int)) = false := by simp; omega
  have d2 : decide ((m : Int) > 300) = false := by simp; omega
  have e2 : decide (300 < (m : Int)) = false := by simp; omega
  have d3 : decide ((o : Int) > 300) = true := by simp; omega
  have e3 : decide (300 < (o : Int)) = true := by simp; omega
  go_enter Try.func5, Try.ntmps5
  go_wp2_with fail
  refine (known_c _).mono ?_
  rintro r w1 ⟨rfl, b1⟩
  go_wp2_with fail
  go_ret
  exact ⟨rfl, b1⟩
theorem clockMeans_any (w : World) (a : Nat) (A1 : Option Addr) (L : List Nat) (c1 : Nat) (A2 : Option Addr) (M : List Nat) (c2 : Nat) (A3 : Option Addr) (R : List Int) (c3 : Nat) (ha : a < 18446744073709551616) (hL : ∀ x ∈ L, x < 18446744073709551616) (hM : ∀ x ∈ M, x < 18446744073709551616) (hR : ∀ n ∈ R, (Lit.int .i64 n).wf = true) (r1 : RU w A1 L) (r2 : RU w A2 M)
    (r3 : ∀ u, Below w.heap.size w u → ∀ (i : Nat) z, R[i]? = some z → ∃ xa, A3 = some xa ∧ u.cell? (xa.add i) = some (.int .i64 z)) :
    Calls Try.prog 5 #[.int .u64 (a : Int), .slice A1 L.length c1, .slice A2 M.length c2, .slice A3 R.length c3] w fun r w' => r = .returned (.bool true) ∧ Below w.heap.size w w' := by
  by_cases h1 : 300 < L.length
  · exact clockMeans_l w a A1 A2 A3 _ c1 _ c2 _ c3 h1
  · by_cases h2 : 300 < M.length
    · exact clockMeans_m w a A1 A2 A3 _ c1 _ c2 _ c3 (by omega) h2
    · by_cases h3 : 300 < R.length
      · exact clockMeans_o w a A1 A2 A3 _ c1 _ c2 _ c3 (by omega) (by omega) h3
      · exact clockMeans_main w a A1 L c1 A2 M c2 A3 R c3 ha hL hM r1 r2 r3 (by omega) (by omega) (by omega)
end Go.Proofs.Ytkjlcfffalmgoaa
