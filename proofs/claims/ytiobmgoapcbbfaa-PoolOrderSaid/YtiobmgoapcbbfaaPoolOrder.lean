/- PoolOrder: its walk. -/
import Derived.Test.YtiobmgoapcbbfaaPoOrdR
import Derived.Deep.MidRow
namespace Go.Proofs.Ytiobmgoapcbbfaa
open Go.ChangeMaps Go.MapKept Go.Maps Go.RowKit Go.ChangeShapes Go.WideShapes Go.ChangeAt
set_option linter.unusedVariables false
set_option maxRecDepth 100000

/-- Two pools beside one another. -/
structure Two (base ga : Nat) (Fa : Nat → Prop) (Sa : PoS) (gb : Nat) (Fb : Nat → Prop) (Sb : PoS) (w : World) : Prop where
  a : PoM ga Fa Sa w
  b : PoM gb Fb Sb w
  ab : ∀ k, Fa k → ¬ Fb k
  na : ¬ Fa gb
  nb : ¬ Fb ga
  la : ∀ k, Fa k → base ≤ k
  lb : ∀ k, Fb k → base ≤ k
section
variable {base ga gb : Nat} {Fa Fb F' : Nat → Prop} {Sa Sb S' : PoS} {v : Sv} {r q : Nat} {w w' : World}
theorem Two.symm (h : Two base ga Fa Sa gb Fb Sb w) : Two base gb Fb Sb ga Fa Sa w := ⟨h.b, h.a, fun k e e2 => h.ab k e2 e, h.nb, h.na, h.lb, h.la⟩
theorem Two.below (h : Two base ga Fa Sa gb Fb Sb w) (hb : Below w.heap.size w w') : Two base ga Fa Sa gb Fb Sb w' := ⟨h.a.below hb, h.b.below hb, h.ab, h.na, h.nb, h.la, h.lb⟩
theorem Two.add (h : Two base ga Fa Sa gb Fb Sb w) (hw : base ≤ w.heap.size) (e : AddE ga Fa Sa v r q F' S' w w') : Two base ga F' S' gb Fb Sb w' ∧ Below base w w' := by
  obtain ⟨e1, e2, e3, e4, _⟩ := e
  refine ⟨⟨e1, h.b.kept e2 h.na (fun k hk hk2 => h.ab k hk2 hk), fun k hk hk2 => (e3 k hk).elim (fun h2 => h.ab k h2 hk2) (fun h2 => by have := h.b.fin.2 k hk2; omega), fun hk => (e3 gb hk).elim h.na (fun h2 => by have := h.b.fin.1; omega), h.nb, fun k hk => (e3 k hk).elim (h.la k) (fun h2 => by omega), h.lb⟩, e2.below hw h.la⟩
end
theorem tmod_in (z : Int) (j : Nat) (hj : 0 < j) : -(j : Int) < z.tmod (j : Int) ∧ z.tmod (j : Int) < (j : Int) := by
  have h1 : z.tmod (j : Int) < j := Int.tmod_lt_of_pos z (by omega)
  have h2 := Int.tmod_lt_of_pos (-z) (show (0:Int) < j by omega)
  rw [Int.neg_tmod] at h2
  omega
theorem ix_p (r1 : Int) (j : Nat) (h1 : -(j : Int) < r1) (h2 : r1 < (j : Int)) (hj : 0 < j) (h40 : j ≤ 40) : ∃ q : Nat, q < j ∧ (r1 + (j : Int)).tmod (j : Int) = (q : Int) := by
  obtain ⟨y, hy⟩ := Int.eq_ofNat_of_zero_le (show 0 ≤ r1 + (j : Int) by omega)
  rw [hy]
  refine ⟨y % j, Nat.mod_lt _ hj, ?_⟩
  rw [← Int.ofNat_tmod]
/-- A list of numbers that stays in memory. -/
def IntsAt (w : World) (A : Option Addr) (O : List Int) : Prop := ∀ u, Below w.heap.size w u → ∀ (i : Nat) z, O[i]? = some z → ∃ g o, A = some ⟨g, o, none⟩ ∧ u.cell? ⟨g, o + i, none⟩ = some (.int .i64 z)
/-- Of each key there is one stake, among the first i. -/
def OneSt (L : List Sv) (i : Nat) : Prop := ∀ a b v u, a < i → b < a → L[a]? = some v → L[b]? = some u → u.h = v.h → u.st = v.st
theorem OneSt.all {L : List Sv} {n : Nat} (h : OneSt L n) (hn : n = L.length) : ∀ v ∈ L, ∀ u ∈ L, v.h = u.h → v.st = u.st := fun v hv u hu e => by
  obtain ⟨a, ha⟩ := List.getElem?_of_mem hv
  obtain ⟨b, hb⟩ := List.getElem?_of_mem hu
  have la := (List.getElem?_eq_some_iff.1 ha).1
  have lb := (List.getElem?_eq_some_iff.1 hb).1
  rcases Nat.lt_trichotomy a b with hl | rfl | hl
  · exact h b a u v (by omega) hl hb ha e
  · rw [ha] at hb; injection hb with hb; rw [hb]
  · exact (h a b v u (by omega) hl ha hb e.symm).symm
theorem SvsAt.blk {w : World} {g o : Nat} {L : List Sv} (h : SvsAt w (some ⟨g, o, none⟩) L) {j : Nat} {v : Sv} (hv : L[j]? = some v) : g < w.heap.size := by
  obtain ⟨g2, o2, B, cb, e, r, _⟩ := h w (Below.refl _ _) j v hv
  injection e with e
  injection e with e1 e2
  subst e1
  exact World.block_lt_of_cell? w _ (sg_at r 0 (by omega))
set_option maxRecDepth 1000000 in
set_option maxHeartbeats 16000000 in
theorem poolOrder_any (A : Option Addr) (n c : Nat) (L : List Sv) (A1 : Option Addr) (m c1 : Nat) (O : List Int) (W : World) (hn : n = L.length) (hn2 : n ≤ 9223372036854775807) (h : SvsAt W A L) (hm : m = O.length) (hm2 : m ≤ 9223372036854775807) (hO : IntsAt W A1 O) (hOb : ∀ z ∈ O, -9223372036854775808 ≤ z ∧ z ≤ 9223372036854775807) :
    Calls Try.prog 4 #[.slice A n c, .slice A1 m c1] W fun e w' => e = .returned (.bool true) ∧ Below W.heap.size W w' := by
  have FC := Lib.hid (few_c A n c L W hn hn2 h)
  have HA := Lib.hid h
  have HO := Lib.hid hO
  have HN := Lib.hid hn
  have HM := Lib.hid hm
  have HOB := Lib.hid hOb
  obtain ⟨fw, hfw⟩ : ∃ b, b = fewV L := ⟨_, rfl⟩
  rw [← hfw] at FC
  have HFW := Lib.hid hfw
  clear h hO hn hm hOb hfw
  go_enter Try.func4, Try.ntmps4
  go_wp2_with fail
  refine FC.out.mono ?_
  rintro e W ⟨rfl, rfl⟩
  cases fw with
  | false =>
    go_wp2_with fail
    refine (known_c W).mono ?_
    rintro e w1 ⟨rfl, b1⟩
    go_wp2_with fail
    go_ret
    exact ⟨rfl, b1⟩
  | true =>
  by_cases c40 : 40 < n
  · go_wp2_with fail
    refine (known_c W).mono ?_
    rintro e w1 ⟨rfl, b1⟩
    go_wp2_with fail
    go_ret
    exact ⟨rfl, b1⟩
  by_cases c100 : 100 < m
  · go_wp2_with fail
    refine (known_c W).mono ?_
    rintro e w1 ⟨rfl, b1⟩
    go_wp2_with fail
    go_ret
    exact ⟨rfl, b1⟩
  have n40 : n ≤ 40 := by omega
  have m100 : m ≤ 100 := by omega
  clear c40 c100 FC
  go_wp2_with fail
  go_loopw [5] (fun v5 u => ∃ i : Nat, i ≤ n ∧ v5 = .int .i64 (i : Int) ∧ OneSt L i ∧ Below W.heap.size W u) (fun v5 _ => n - (intOf v5).toNat)
  case atStart => exact ⟨0, Nat.zero_le _, rfl, fun a b v u ha => by omega, Below.refl _ _⟩
  case round =>
    obtain ⟨i, hi, rfl, ho, hb⟩ := hrel
    have OS := Lib.hid ho
    have BX := Lib.hid hb
    clear ho hb
    by_cases hin : i < n
    · obtain ⟨y, hy⟩ : ∃ v, L[i]? = some v := ⟨_, List.getElem?_eq_getElem (by have := HN.out; omega)⟩
      have HY := Lib.hid hy
      clear hy
      have q1 : (i : Int) < (n : Int) := by omega
      go_wp2_with fail
      go_loopw [6] (fun v6 u => ∃ k : Nat, k ≤ i ∧ v6 = .int .i64 (k : Int) ∧ (∀ b u, b < k → L[b]? = some u → u.h = y.h → u.st = y.st) ∧ Below W.heap.size W u) (fun v6 _ => i - (intOf v6).toNat)
      case atStart => exact ⟨0, Nat.zero_le _, rfl, fun b u hb => by omega, BX.out⟩
      case round =>
        obtain ⟨k, hk, rfl, hs, hb⟩ := hrel
        have KS := Lib.hid hs
        have BY := Lib.hid hb
        clear hs hb
        by_cases hki : k < i
        · obtain ⟨x, hx⟩ : ∃ v, L[k]? = some v := ⟨_, List.getElem?_eq_getElem (by have := HN.out; omega)⟩
          have HX := Lib.hid hx
          obtain ⟨g, o, B, cb, eA, r1, _⟩ := HA.out _ BY.out i y HY.out
          obtain ⟨g2, o2, B2, cb2, eA2, r2, _⟩ := HA.out _ BY.out k x HX.out
          subst eA
          injection eA2 with eA2
          injection eA2 with e1 e2
          subst e1
          subst e2
          have R1 := Lib.hid r1
          have R2 := Lib.hid r2
          have q2 : (k : Int) < (i : Int) := by omega
          clear hx r1 r2
          go_wp2_with fail
          by_cases hh : x.h = y.h
          · by_cases hst : x.st = y.st
            · have FIN := Lib.hid (show x.h = y.h → x.st = y.st from fun _ => hst)
              refine oo_r9a _ _ _ _ _ _ _ _ _ _ _ _ _ _ _ _ _ _ _ _ _ _ _ _ _ _ _ _ _ _ _ _ _ _ _ _ _ _ _ _ _ _ _ _ _ _ _ _ _ _ _ _ _ _ _ _ _ _ _ _ _ _ _ _ _ _ _ _ _ _ _ _ _ _ _ _ _ _ _ _ _ _ _ _ _ _ _ _ _ _ _ _ _ _ _ _ _ _ _ _ _ _ _ _ _ _ _ _ _ _ _ _ _ _ _ _ _ _ _ _ _ _ _ _ _ _ _ _ _ _ _ _ _ _ _ _ _ _ _ _ _ _ _ _ _ _ _ _ _ _ _ _ _ _ _ _ _ _ _ _ _ _ _ _ _ _ _ _ _ _ _ _ _ _ _ _ _ _ _ _ _ _ _ _ _ _ _ _ _ _ _ _ _ _ _ _ _ _ _ _ _ _ _ _ _ _ _ _ _ _ _ _ _ _ _ _ _ _ _ _ _ _ _ _ _ _ _ _ _ _ _ g o n c k i (x.sg B2 cb2) (y.sg B cb) (by omega) hin false (by show false = decide (¬ x.st = y.st); rw [hst]; simp) hh R2.out R1.out _ ?_
              intro u0 u1 u2 u3 u4 u5 u6 u7 u8 u9 u10 u11 u12 u13 u14 u15 u16 u17 u18 u19 u20 u21 u22 w5 b5
              have BZ := Lib.hid (BY.out.trans (b5.mono BY.out.size))
              clear b5 hh hst
              go_wp2_with fail
              exact ⟨⟨k + 1, by omega, by go_num, fun b u hb hu hh => by
                rcases Nat.lt_or_ge b k with h | h
                · exact KS.out b u h hu hh
                · obtain rfl : b = k := by omega
                  rw [HX.out] at hu
                  injection hu with hu
                  subst hu
                  exact FIN.out hh, BZ.out⟩, by simp [intOf]; omega⟩
            · refine oo_r9a _ _ _ _ _ _ _ _ _ _ _ _ _ _ _ _ _ _ _ _ _ _ _ _ _ _ _ _ _ _ _ _ _ _ _ _ _ _ _ _ _ _ _ _ _ _ _ _ _ _ _ _ _ _ _ _ _ _ _ _ _ _ _ _ _ _ _ _ _ _ _ _ _ _ _ _ _ _ _ _ _ _ _ _ _ _ _ _ _ _ _ _ _ _ _ _ _ _ _ _ _ _ _ _ _ _ _ _ _ _ _ _ _ _ _ _ _ _ _ _ _ _ _ _ _ _ _ _ _ _ _ _ _ _ _ _ _ _ _ _ _ _ _ _ _ _ _ _ _ _ _ _ _ _ _ _ _ _ _ _ _ _ _ _ _ _ _ _ _ _ _ _ _ _ _ _ _ _ _ _ _ _ _ _ _ _ _ _ _ _ _ _ _ _ _ _ _ _ _ _ _ _ _ _ _ _ _ _ _ _ _ _ _ _ _ _ _ _ _ _ _ _ _ _ _ _ _ _ _ _ _ g o n c k i (x.sg B2 cb2) (y.sg B cb) (by omega) hin true (by show true = decide (¬ x.st = y.st); rw [decide_eq_true hst]) hh R2.out R1.out _ ?_
              intro u0 u1 u2 u3 u4 u5 u6 u7 u8 u9 u10 u11 u12 u13 u14 u15 u16 u17 u18 u19 u20 u21 u22 w5 b5
              have BZ := Lib.hid (BY.out.trans (b5.mono BY.out.size))
              clear b5 hh hst
              go_wp2_with fail
              refine (known_c w5).mono ?_
              rintro e w6 ⟨rfl, b6⟩
              have FIN := Lib.hid (BZ.out.trans (b6.mono BZ.out.size))
              clear b6
              go_wp2_with fail
              go_ret
              exact ⟨rfl, FIN.out⟩
          · have FIN := Lib.hid (show x.h = y.h → x.st = y.st from fun e => absurd e hh)
            refine oo_r9b _ _ _ _ _ _ _ _ _ _ _ _ _ _ _ _ _ _ _ _ _ _ _ _ _ _ _ _ _ _ _ _ _ _ _ _ _ _ _ _ _ _ _ _ _ _ _ _ _ _ _ _ _ _ _ _ _ _ _ _ _ _ _ _ _ _ _ _ _ _ _ _ _ _ _ _ _ _ _ _ _ _ _ _ _ _ _ _ _ _ _ _ _ _ _ _ _ _ _ _ _ _ _ _ _ _ _ _ _ _ _ _ _ _ _ _ _ _ _ _ _ _ _ _ _ _ _ _ _ _ _ _ _ _ _ _ _ _ _ _ _ _ _ _ _ _ _ _ _ _ _ _ _ _ _ _ _ _ _ _ _ _ _ _ _ _ _ _ _ _ _ _ _ _ _ _ _ _ _ _ _ _ _ _ _ _ _ _ _ _ _ _ _ _ _ _ _ _ _ _ _ _ _ _ _ _ _ _ _ _ _ _ _ _ _ _ _ _ _ _ _ _ _ _ _ _ _ _ _ _ _ g o n c k i (x.sg B2 cb2) (y.sg B cb) (by omega) hin hh R2.out R1.out _ ?_
            intro u0 u1 u2 u3 u4 u5 u6 u7 u8 u9 u10 u11 u12 u13 u14 u15 u16 u17 u18 u19 u20 u21 u22 w5 b5
            have BZ := Lib.hid (BY.out.trans (b5.mono BY.out.size))
            clear b5 hh
            go_wp2_with fail
            exact ⟨⟨k + 1, by omega, by go_num, fun b u hb hu hh => by
              rcases Nat.lt_or_ge b k with h | h
              · exact KS.out b u h hu hh
              · obtain rfl : b = k := by omega
                rw [HX.out] at hu
                injection hu with hu
                subst hu
                exact FIN.out hh, BZ.out⟩, by simp [intOf]; omega⟩
        · obtain rfl : k = i := by omega
          go_wp2_with fail
          exact ⟨⟨k + 1, by omega, by go_num, fun a b v u ha hb hv hu hh => by
            rcases Nat.lt_or_ge a k with h | h
            · exact OS.out a b v u h hb hv hu hh
            · obtain rfl : a = k := by omega
              rw [HY.out] at hv
              injection hv with hv
              subst hv
              exact KS.out b u hb hu hh, BY.out⟩, by simp [intOf]; omega⟩
    · obtain rfl : i = n := by omega
      have ST := Lib.hid (OS.out.all HN.out)
      clear OS
      go_wp2_with fail
      refine (new_c _).mono ?_
      rintro e w1 ⟨ga, Fa, rfl, pa, b1, ha1, fa1⟩
      have BX1 := Lib.hid (BX.out.trans (b1.mono BX.out.size))
      have PA := Lib.hid pa
      have GA := Lib.hid (And.intro ha1 fa1)
      have BS := Lib.hid BX.out.size
      clear b1 pa ha1 fa1
      go_wp2_with fail
      refine (new_c w1).mono ?_
      rintro e w2 ⟨gb, Fb, rfl, pb, b2, hb1, fb1⟩
      have TW : Hid (Two W.heap.size ga Fa poS0 gb Fb poS0 w2) := by
        have f1 := PA.out.fin
        have s1 := BX1.out.size
        have s2 := BS.out
        refine ⟨PA.out.below b2, pb, fun k e e2 => ?_, fun e => ?_, fun e => ?_, fun k e => ?_, fun k e => ?_⟩
        · have := f1.2 k e; have := fb1 k e2; omega
        · have := f1.2 gb e; omega
        · have := fb1 ga e; omega
        · have := GA.out.2 k e; omega
        · have := fb1 k e; omega
      have BX2 := Lib.hid (BX1.out.trans (b2.mono BX1.out.size))
      clear b2 pb hb1 fb1 PA BX1 BX GA BS
      go_wp2_with fail
      have HS : ∀ v, (∃ j : Nat, L[j]? = some v) → v.s.length ≤ 140737488355328 := fun v hv => by
        obtain ⟨j, hv⟩ := hv
        have := (few_all HFW.out.symm).1 v (List.mem_of_getElem? hv)
        omega
      replace HS : ∀ (v : Sv) {j : Nat}, L[j]? = some v → v.s.length ≤ 140737488355328 := fun v j hv => HS v ⟨j, hv⟩
      replace HS := Lib.hid HS
      go_loopw [9] (fun v9 u => ∃ (j : Nat) (F : Nat → Prop) (S : PoS), j ≤ i ∧ v9 = .int .i64 (j : Int) ∧ Ran S (L.take j) ∧ Two W.heap.size ga F S gb Fb poS0 u ∧ Below W.heap.size W u) (fun v9 _ => i - (intOf v9).toNat)
      case atStart => exact ⟨0, Fa, poS0, Nat.zero_le _, rfl, Ran.start, TW.out, BX2.out⟩
      case round =>
        obtain ⟨j, F, S, hj, rfl, ra, tw, bx⟩ := hrel
        have RA := Lib.hid ra
        have TW := Lib.hid tw
        have BX := Lib.hid bx
        clear ra tw bx
        by_cases hin : j < i
        · obtain ⟨v, hv⟩ : ∃ v, L[j]? = some v := ⟨_, List.getElem?_eq_getElem (by have := HN.out; omega)⟩
          have HV := Lib.hid hv
          obtain ⟨g, o, B, cb, eA, r1, _⟩ := HA.out _ BX.out j v hv
          subst eA
          have GW := Lib.hid (HA.out.blk HV.out)
          have rv : _ := sg_vote r1
          have e9 : ((v.sg B cb).n = v.n ∧ (v.sg B cb).k = v.k ∧ (v.sg B cb).sv = .slice B v.s.length cb) := ⟨rfl, rfl, rfl⟩
          rw [e9.1, e9.2.1, e9.2.2] at rv
          obtain ⟨x0, hx0⟩ : ∃ x0, x0 = S.wt v.k := ⟨_, rfl⟩
          have HX0 := Lib.hid hx0
          have q1 : (j : Int) < (i : Int) := by omega
          clear hv r1 e9 hx0
          go_wp2_with (first
            | (refine wpList_load_mid rfl 40 (.tmp 80) rfl g (o + j * 101) (by go_simp) (vtC v.n v.k (.slice B v.s.length cb)) _ rv Try.underlying40 rfl (by rw [vtC_len]; exact size_vt) ?_; rw [vtC_arr])
            | fail)
          refine (linkOf_c v.n v.k (.slice B v.s.length cb) _).mono ?_
          rintro e w5 ⟨rfl, b5⟩
          replace TW := Lib.hid (TW.out.below b5)
          replace BX := Lib.hid (BX.out.trans (b5.mono BX.out.size))
          clear b5 rv
          go_wp2_with fail
          refine (weight_m TW.out.a v.k).mono ?_
          rw [← HX0.out]
          rintro e w6 ⟨rfl, b6⟩
          replace TW := Lib.hid (TW.out.below b6)
          replace BX := Lib.hid (BX.out.trans (b6.mono BX.out.size))
          clear b6
          go_wp2_with fail
          obtain ⟨g2, o2, B, cb, eA, r1, rd⟩ := HA.out w6 BX.out j v HV.out
          injection eA with eA
          injection eA with e1 e2
          subst e1
          subst e2
          refine oo_r16 _ _ _ _ _ _ _ _ _ _ _ _ _ _ _ _ _ _ _ _ _ _ _ _ _ _ _ _ _ _ _ _ _ _ _ _ _ _ _ _ _ _ _ _ _ _ _ _ _ _ _ _ _ _ _ _ _ _ _ _ _ _ _ _ _ _ _ _ _ _ _ _ _ _ _ _ _ _ _ _ _ _ _ _ _ _ _ _ _ _ _ _ _ _ _ _ _ _ _ _ _ _ _ _ _ _ _ _ _ _ _ _ _ _ _ _ _ _ _ _ _ _ _ _ _ _ _ _ _ _ _ _ _ _ _ _ _ _ _ _ _ _ _ _ _ _ _ _ _ _ _ _ _ _ _ _ _ _ _ _ _ _ _ _ _ _ _ _ _ _ _ _ _ _ _ _ _ _ _ _ _ _ _ _ _ _ _ _ _ _ _ _ _ _ _ _ _ _ _ _ _ _ _ _ _ _ _ _ _ _ _ _ _ _ _ _ _ _ _ _ _ _ _ _ _ _ _ _ _ _ w6 g o i c j ga F S v B cb hin TW.out.a r1 rd (HS.out v HV.out) (by have := BX.out.size; have := GW.out; omega) (fun e => by have := TW.out.la _ e; have := GW.out; omega) _ ?_
          intro u0 u1 u2 u3 u4 u5 u6 u7 u8 u9 u10 u11 u12 u13 u14 u15 u16 u17 u18 u19 w7 r q F' S' ae
          have T7 := TW.out.add BX.out.size ae
          have AE := Lib.hid ae.2.2.2.2
          have BT := Lib.hid (show x0 ≤ 4294967296 * 40 from by
            obtain ⟨_, _, _, _, _, _, _, _, _, _, ok, _⟩ := TW.out.a
            have h1 := ok.wt v.k
            have h2 := RA.out.len
            rw [List.length_take] at h2
            have := HX0.out
            have h3 : S.votes.length ≤ 40 := by omega
            have h4 := Nat.mul_le_mul_left 4294967296 h3
            omega)
          have HT := Lib.hid (show L.take (j + 1) = L.take j ++ [v] by rw [List.take_add_one, HV.out]; rfl)
          have LT := Lib.hid (show (L.take j).length < 65536 by rw [List.length_take]; omega)
          replace TW := Lib.hid T7.1
          replace BX := Lib.hid (BX.out.trans T7.2)
          clear ae T7 r1 rd
          have HST := Lib.hid v.hst
          rcases AE.out with ⟨k1, k2, k3⟩ | ⟨k1, k2, k3, B9, c9, k4⟩
          · subst k3
            have RN := Lib.hid (show Ran S' (L.take (j + 1)) by rw [HT.out]; exact RA.out.no LT.out v k1)
            have WT := Lib.hid (show S'.wt v.k = x0 from HX0.out.symm)
            have hq1 : ¬ (q : Int) = 0 := by omega
            have hq2 : ((q : Int) == 0) = false := by rw [beq_eq_false_iff_ne]; omega
            have hq3 : ¬ q = 0 := k2
            have hx1 : ¬ x0 < x0 := by omega
            clear k1 k2 AE
            obtain ⟨g3, o3, B, cb, eA, r1, _⟩ := HA.out w7 BX.out j v HV.out
            injection eA with eA
            injection eA with e1 e2
            subst e1
            subst e2
            have rv : _ := sg_vote r1
            have e9 : ((v.sg B cb).n = v.n ∧ (v.sg B cb).k = v.k ∧ (v.sg B cb).sv = .slice B v.s.length cb) := ⟨rfl, rfl, rfl⟩
            rw [e9.1, e9.2.1, e9.2.2] at rv
            clear r1 e9
            go_wp2_with (first
              | (refine BigFrame.wpList_want rfl (fun K hK => ?_); refine wp_load_midC 40 (.tmp 122) rfl g (o + j * 101) (by go_simp) (vtC v.n v.k (.slice B v.s.length cb)) (vtw v.n v.k (.slice B v.s.length cb)) rfl _ rv Try.underlying40 rfl (size_vtw _ _ _) ?_; refine hK _ _ ?_; clear hK K)
              | fail)
            refine (linkOf_c v.n v.k (.slice B v.s.length cb) _).mono ?_
            rintro e w8 ⟨rfl, b8⟩
            replace TW := Lib.hid (TW.out.below b8)
            replace BX := Lib.hid (BX.out.trans (b8.mono BX.out.size))
            clear b8 rv
            go_wp2_with fail
            refine (weight_m TW.out.a v.k).mono ?_
            rw [WT.out]
            rintro e w9 ⟨rfl, b9⟩
            replace TW := Lib.hid (TW.out.below b9)
            replace BX := Lib.hid (BX.out.trans (b9.mono BX.out.size))
            clear b9
            go_wp2_with fail
            exact ⟨⟨j + 1, _, _, by omega, by go_num, RN.out, TW.out, BX.out⟩, by simp [intOf]; omega⟩
          · subst k2
            subst k4
            have RN := Lib.hid (show Ran (putS S (v.sg B9 c9)) (L.take (j + 1)) by rw [HT.out]; exact RA.out.yes LT.out v B9 c9 k1)
            obtain ⟨st, hst⟩ : ∃ st, st = v.st := ⟨_, rfl⟩
            have WT := Lib.hid (show (putS S (v.sg B9 c9)).wt v.k = x0 + st by rw [HX0.out, hst]; exact wt_same S (v.sg B9 c9))
            have hst2 : st ≤ 4294967296 := by
              have := ((chk_iff (by have := RA.out.len; have := LT.out; omega)).1 k1).1
              unfold accV at this
              simp at this
              omega
            have hr : r = x0 + st := by rw [k3, HX0.out, hst]
            subst hr
            have hx1 : ¬ x0 + st < x0 := by omega
            have hx2 : x0 + st ≤ 18446744073709551615 := by have := BT.out; omega
            clear k1 k3 AE
            obtain ⟨g3, o3, B, cb, eA, r1, _⟩ := HA.out w7 BX.out j v HV.out
            injection eA with eA
            injection eA with e1 e2
            subst e1
            subst e2
            have rv : _ := sg_vote r1
            have e9 : ((v.sg B cb).n = v.n ∧ (v.sg B cb).k = v.k ∧ (v.sg B cb).sv = .slice B v.s.length cb) := ⟨rfl, rfl, rfl⟩
            rw [e9.1, e9.2.1, e9.2.2] at rv
            clear r1 e9
            obtain ⟨g4, o4, B4, c4, eA4, r4, _⟩ := HA.out w7 BX.out j v HV.out
            injection eA4 with eA4
            injection eA4 with e1 e2
            subst e1
            subst e2
            have rs : w7.cell? ⟨g, o + j * 101 + 100, none⟩ = some (.int .u64 (st : Int)) := by rw [hst]; exact sg_stake r4
            clear r4 hst
            go_wp2_with (first
              | (refine BigFrame.wpList_want rfl (fun K hK => ?_); refine wp_load_midC 40 (.tmp 122) rfl g (o + j * 101) (by go_simp) (vtC v.n v.k (.slice B v.s.length cb)) (vtw v.n v.k (.slice B v.s.length cb)) rfl _ rv Try.underlying40 rfl (size_vtw _ _ _) ?_; refine hK _ _ ?_; clear hK K)
              | fail)
            refine (linkOf_c v.n v.k (.slice B v.s.length cb) _).mono ?_
            rintro e w8 ⟨rfl, b8⟩
            replace TW := Lib.hid (TW.out.below b8)
            replace BX := Lib.hid (BX.out.trans (b8.mono BX.out.size))
            clear b8 rv
            go_wp2_with fail
            refine (weight_m TW.out.a v.k).mono ?_
            rw [WT.out]
            rintro e w9 ⟨rfl, b9⟩
            replace TW := Lib.hid (TW.out.below b9)
            replace BX := Lib.hid (BX.out.trans (b9.mono BX.out.size))
            clear b9
            go_wp2_with fail
            exact ⟨⟨j + 1, _, _, by omega, by go_num, RN.out, TW.out, BX.out⟩, by simp [intOf]; omega⟩
        · obtain rfl : j = i := by omega
          have RS := Lib.hid (show Ran S L by have := RA.out; rwa [HN.out, List.take_length] at this)
          clear RA
          by_cases hj0 : 0 < j
          · go_wp2_with fail
            go_loopw [13] (fun v13 u => ∃ (p : Nat) (G : Nat → Prop) (T : PoS) (M : List Sv), p ≤ m ∧ v13 = .int .i64 (p : Int) ∧ Ran T M ∧ M.length ≤ p ∧ (∀ v ∈ M, v ∈ L) ∧ Two W.heap.size ga F S gb G T u ∧ Below W.heap.size W u) (fun v13 _ => m - (intOf v13).toNat)
            case atStart => exact ⟨0, Fb, poS0, [], Nat.zero_le _, rfl, Ran.start, Nat.le_refl _, fun v h => (nomatch h), TW.out, BX.out⟩
            case round =>
              obtain ⟨p, G, T, M, hp, rfl, rb, hml, hmm, tw, bx⟩ := hrel
              replace TW := Lib.hid tw
              replace BX := Lib.hid bx
              have RB := Lib.hid (And.intro rb (And.intro hml hmm))
              clear tw bx rb hml hmm
              by_cases hpm : p < m
              · obtain ⟨z, hz1⟩ : ∃ z, O[p]? = some z := ⟨_, List.getElem?_eq_getElem (by have := HM.out; omega)⟩
                have hzb := HOB.out z (List.mem_of_getElem? hz1)
                obtain ⟨go1, oo1, eA1, c1z⟩ := HO.out _ BX.out p z hz1
                subst eA1
                obtain ⟨r1, hr1⟩ : ∃ r1, r1 = z.tmod (j : Int) := ⟨_, rfl⟩
                have hb1 : -(j : Int) < r1 ∧ r1 < (j : Int) := by rw [hr1]; exact tmod_in z j hj0
                obtain ⟨q, hq, eq1⟩ := ix_p r1 j hb1.1 hb1.2 hj0 n40
                have eq2 : (wrap64 (r1 + (j : Int))).tmod (j : Int) = (q : Int) := by rw [show wrap64 (r1 + (j : Int)) = r1 + (j : Int) by unfold wrap64; omega]; exact eq1
                have er1 := hr1.symm
                have mnz : (j : Int) ≠ 0 := by omega
                have hq1 : (q : Int) < (j : Int) := by omega
                have q2 : (p : Int) < (m : Int) := by omega
                have q3 : (0 : Int) < (j : Int) := by omega
                obtain ⟨v, hv⟩ : ∃ v, L[q]? = some v := ⟨_, List.getElem?_eq_getElem (by have := HN.out; omega)⟩
                have HV := Lib.hid hv
                obtain ⟨g, o, B, cb, eA, rv, rd⟩ := HA.out _ BX.out q v hv
                subst eA
                obtain ⟨W1, hW1⟩ : ∃ W1, W1 = wr.alloc (.cells (sgv (v.sg B cb)) 42) := ⟨_, rfl⟩
                have b1 : Below wr.heap.size wr W1 := by rw [hW1]; exact (Below.refl _ _).alloc (Nat.le_refl _) _
                have s1 : SgB wr.heap.size (v.sg B cb) W1 := by rw [hW1]; exact SgB.new
                have k1 : W1.rangeAt wr.heap.size 0 (vtC v.n v.k (.slice B v.s.length cb)) := s1.vote
                have k2 : W1.rangeAt wr.heap.size 68 (hhC v.h) := s1.key
                have k3 : W1.cell? ⟨wr.heap.size, 100, none⟩ = some (.int .u64 (v.st : Int)) := s1.stake
                have RD := Lib.hid ((rd.below b1 (Nat.le_refl _)).wide (Nat.le_refl _) b1.size)
                replace TW := Lib.hid (TW.out.below b1)
                replace BX := Lib.hid (BX.out.trans (b1.mono BX.out.size))
                have HW1 := Lib.hid hW1
                have hz := zero_sg
                have AD := Lib.hid (add_e TW.out.b v B cb RD.out (HS.out v HV.out))
                clear hW1 b1 s1 rd hv hz1 hr1 hzb
                go_wp2_with (first
                  | (refine wpList_load_mid rfl 42 (.tmp 154) rfl g (o + q * 101) (by go_simp) (sgC (v.sg B cb)) _ rv Try.underlying42 rfl (by rw [sgC_len]; exact size_sg) ?_; rw [sgC_arr])
                  | (refine wpList_store_row rfl 42 (.tmp 14) (.tmp 155) rfl wr.heap.size (sgv (v.sg B cb)) rfl rfl 42 (sgv sgZ) (heap_alloc_new wr _) (size_sgv _) (by unfold sgv; rw [rowV_size, rowV_size]) (rowV_one 101 _ (sgf_one _ rfl)) ?_; rw [World.setRow_alloc_new]; rw [← HW1.out]; clear rv)
                  | (refine wpList_load_mid rfl 40 (.tmp 157) rfl wr.heap.size 0 (by go_simp) (vtC v.n v.k (.slice B v.s.length cb)) _ k1 Try.underlying40 rfl (by rw [vtC_len]; exact size_vt) ?_; rw [vtC_arr])
                  | (refine wpList_load_mid rfl 24 (.tmp 159) rfl wr.heap.size 68 (by go_simp) (hhC v.h) _ k2 Try.underlying24 rfl (by rw [hhC_len]; exact size_hashW) ?_; rw [hhC_arr])
                  | fail)
                refine AD.out.mono ?_
                rintro e w7 ⟨r7, q7, G7, T7, rfl, ae⟩
                have T8 := TW.out.symm.add BX.out.size ae
                replace TW := Lib.hid T8.1.symm
                replace BX := Lib.hid (BX.out.trans T8.2)
                have LT : M.length < 65536 := by have := RB.out.2.1; omega
                have RN : Hid (Ran T7 (M ++ [v]) ∧ (M ++ [v]).length ≤ p + 1 ∧ ∀ u ∈ M ++ [v], u ∈ L) := by
                  refine ⟨?_, by have := RB.out.2.1; simp; omega, fun u hu => ?_⟩
                  · rcases ae.2.2.2.2 with ⟨k1, _, k3⟩ | ⟨k1, _, _, B9, c9, k4⟩
                    · rw [k3]; exact RB.out.1.no LT v k1
                    · rw [k4]; exact RB.out.1.yes LT v B9 c9 k1
                  · simp only [List.mem_append, List.mem_singleton] at hu
                    rcases hu with hu | rfl
                    · exact RB.out.2.2 u hu
                    · exact List.mem_of_getElem? HV.out
                clear ae T8 LT
                go_wp2_with fail
                exact ⟨⟨p + 1, _, _, _, by omega, by go_num, RN.out.1, RN.out.2.1, RN.out.2.2, TW.out, BX.out⟩, by simp [intOf]; omega⟩
              · obtain rfl : p = m := by omega
                go_wp2_with fail
                go_loopw [15] (fun v15 u => ∃ (t : Nat) (y : Int) (G : Nat → Prop) (T : PoS) (M : List Sv), t ≤ j ∧ y = (t : Int) - 1 ∧ v15 = .int .i64 y ∧ Ran T M ∧ M.length ≤ 100 + (j - t) ∧ (∀ v ∈ M, v ∈ L) ∧ (∀ v ∈ L.drop t, v ∈ M) ∧ Two W.heap.size ga F S gb G T u ∧ Below W.heap.size W u) (fun v15 _ => (intOf v15 + 1).toNat)
                case atStart => exact ⟨j, (j : Int) - 1, G, T, M, Nat.le_refl _, rfl, rfl, RB.out.1, by have := RB.out.2.1; omega, RB.out.2.2, (fun v hv => by rw [HN.out, List.drop_length] at hv; exact (nomatch hv)), TW.out, BX.out⟩
                case round =>
                  clear RB
                  obtain ⟨t, y, G, T, M, ht, hy, rfl, rb, hml, hmm, hmd, tw, bx⟩ := hrel
                  replace TW := Lib.hid tw
                  replace BX := Lib.hid bx
                  have RB := Lib.hid (And.intro rb (And.intro hml (And.intro hmm hmd)))
                  clear tw bx rb hml hmm hmd
                  by_cases ht0 : 0 < t
                  · obtain ⟨t1, ht1⟩ : ∃ t1, t1 + 1 = t := ⟨t - 1, by omega⟩
                    have hy2 : y = (t1 : Int) := by omega
                    subst hy2
                    have HT1 := Lib.hid ht1
                    have hlt : t1 < j := by omega
                    obtain ⟨v, hv⟩ : ∃ v, L[t1]? = some v := ⟨_, List.getElem?_eq_getElem (by have := HN.out; omega)⟩
                    have HV := Lib.hid hv
                    obtain ⟨g, o, B, cb, eA, r1, rd⟩ := HA.out _ BX.out t1 v hv
                    subst eA
                    have GW := Lib.hid (HA.out.blk HV.out)
                    have q0 : (0 : Int) ≤ (t1 : Int) := by omega
                    clear hv hy ht1
                    go_wp2_with fail
                    refine oo_r27 _ _ _ _ _ _ _ _ _ _ _ _ _ _ _ _ _ _ _ _ _ _ _ _ _ _ _ _ _ _ _ _ _ _ _ _ _ _ _ _ _ _ _ _ _ _ _ _ _ _ _ _ _ _ _ _ _ _ _ _ _ _ _ _ _ _ _ _ _ _ _ _ _ _ _ _ _ _ _ _ _ _ _ _ _ _ _ _ _ _ _ _ _ _ _ _ _ _ _ _ _ _ _ _ _ _ _ _ _ _ _ _ _ _ _ _ _ _ _ _ _ _ _ _ _ _ _ _ _ _ _ _ _ _ _ _ _ _ _ _ _ _ _ _ _ _ _ _ _ _ _ _ _ _ _ _ _ _ _ _ _ _ _ _ _ _ _ _ _ _ _ _ _ _ _ _ _ _ _ _ _ _ _ _ _ _ _ _ _ _ _ _ _ _ _ _ _ _ _ _ _ _ _ _ _ _ _ _ _ _ _ _ _ _ _ _ _ _ _ _ _ _ _ _ _ _ _ _ _ _ _ g o j c t1 gb G T v B cb hlt TW.out.b r1 rd (HS.out v HV.out) (by have := BX.out.size; have := GW.out; omega) (fun e => by have := TW.out.lb _ e; have := GW.out; omega) _ ?_
                    intro u0 u1 u2 u3 u4 u5 u6 u7 u8 u9 u10 u11 u12 u13 u14 u15 u16 w7 r7 q7 F7 T7 ae
                    have T8 := TW.out.symm.add BX.out.size ae
                    replace TW := Lib.hid T8.1.symm
                    replace BX := Lib.hid (BX.out.trans T8.2)
                    have LT : M.length < 65536 := by have := RB.out.2.1; omega
                    have RN : Hid (Ran T7 (M ++ [v]) ∧ (M ++ [v]).length ≤ 100 + (j - t1) ∧ (∀ u ∈ M ++ [v], u ∈ L) ∧ ∀ u ∈ L.drop t1, u ∈ M ++ [v]) := by
                      have h1 := HT1.out
                      refine ⟨?_, by have := RB.out.2.1; simp; omega, fun u hu => ?_, fun u hu => ?_⟩
                      · rcases ae.2.2.2.2 with ⟨k1, _, k3⟩ | ⟨k1, _, _, B9, c9, k4⟩
                        · rw [k3]; exact RB.out.1.no LT v k1
                        · rw [k4]; exact RB.out.1.yes LT v B9 c9 k1
                      · simp only [List.mem_append, List.mem_singleton] at hu
                        rcases hu with hu | rfl
                        · exact RB.out.2.2.1 u hu
                        · exact List.mem_of_getElem? HV.out
                      · have hd : L.drop t1 = v :: L.drop (t1 + 1) := by
                          obtain ⟨l1, e1⟩ := List.getElem?_eq_some_iff.1 HV.out
                          rw [← e1]
                          exact List.drop_eq_getElem_cons l1
                        rw [hd] at hu
                        rcases List.mem_cons.1 hu with rfl | hu
                        · simp
                        · rw [h1] at hu
                          exact List.mem_append_left _ (RB.out.2.2.2 u hu)
                    clear ae T8 LT r1 rd
                    go_wp2_with fail
                    exact ⟨⟨t1, (t1 : Int) - 1, _, _, _, by omega, rfl, rfl, RN.out.1, RN.out.2.1, RN.out.2.2.1, RN.out.2.2.2, TW.out, BX.out⟩, by simp [intOf] <;> omega⟩
                  · have hyn : y < 0 := by omega
                    have hy1 : decide (y ≥ 0) = false := by simp; omega
                    have hy2 : decide (0 ≤ y) = false := by simp; omega
                    have hy3 : ¬ 0 ≤ y := by omega
                    obtain rfl : t = 0 := by omega
                    have EQ := Lib.hid (ran_same RS.out RB.out.1 (fun v => ⟨fun hv => RB.out.2.2.2 v hv, fun hv => RB.out.2.2.1 v hv⟩) ST.out)
                    clear RB ht hy
                    go_wp2_with fail
                    go_loopw [16] (fun v16 u => ∃ t : Nat, t ≤ j ∧ v16 = .int .i64 (t : Int) ∧ Two W.heap.size ga F S gb G T u ∧ Below W.heap.size W u) (fun v16 _ => j - (intOf v16).toNat)
                    case atStart => exact ⟨0, Nat.zero_le _, rfl, TW.out, BX.out⟩
                    case round =>
                      obtain ⟨t, ht, rfl, tw, bx⟩ := hrel
                      replace TW := Lib.hid tw
                      replace BX := Lib.hid bx
                      clear tw bx
                      by_cases htj : t < j
                      · obtain ⟨v, hv⟩ : ∃ v, L[t]? = some v := ⟨_, List.getElem?_eq_getElem (by have := HN.out; omega)⟩
                        obtain ⟨g, o, B, cb, eA, r1, _⟩ := HA.out _ BX.out t v hv
                        subst eA
                        have rv : _ := sg_vote r1
                        have e9 : ((v.sg B cb).n = v.n ∧ (v.sg B cb).k = v.k ∧ (v.sg B cb).sv = .slice B v.s.length cb) := ⟨rfl, rfl, rfl⟩
                        rw [e9.1, e9.2.1, e9.2.2] at rv
                        have q1 : (t : Int) < (j : Int) := by omega
                        have hz := zero_lk
                        clear hv r1 e9
                        go_wp2_with (first
                          | (refine wpList_load_mid rfl 40 (.tmp 197) rfl g (o + t * 101) (by go_simp) (vtC v.n v.k (.slice B v.s.length cb)) _ rv Try.underlying40 rfl (by rw [vtC_len]; exact size_vt) ?_; rw [vtC_arr])
                          | fail)
                        refine (linkOf_c v.n v.k (.slice B v.s.length cb) _).mono ?_
                        rintro e w5 ⟨rfl, b5⟩
                        replace TW := Lib.hid (TW.out.below b5)
                        replace BX := Lib.hid (BX.out.trans (b5.mono BX.out.size))
                        obtain ⟨W6, hW6⟩ : ∃ W6, W6 = w5.alloc (.cells (lv v.k) 50) := ⟨_, rfl⟩
                        have b6 : Below w5.heap.size w5 W6 := by rw [hW6]; exact (Below.refl _ _).alloc (Nat.le_refl _) _
                        have l6 : LkB w5.heap.size v.k W6 := by rw [hW6]; exact LkB.new
                        replace TW := Lib.hid (TW.out.below b6)
                        replace BX := Lib.hid (BX.out.trans (b6.mono BX.out.size))
                        have HW6 := Lib.hid hW6
                        have L6 := Lib.hid l6
                        clear b5 rv hW6 b6 l6
                        go_wp2_with (first
                          | (refine wpList_store_row rfl 50 (.tmp 17) (.tmp 199) rfl w5.heap.size (lv v.k) rfl rfl 50 (lv lkZ) (heap_alloc_new w5 _) (size_lv v.k) (by rw [show (lv v.k).size = 66 from rowV_size _ _]; exact rowV_size _ _) (rowV_one 66 _ (lkf_one v.k)) ?_; rw [World.setRow_alloc_new]; rw [← HW6.out])
                          | fail)
                        refine oo_r32 _ _ _ _ _ _ _ _ _ _ _ _ _ _ _ _ _ _ _ _ _ _ _ _ _ _ _ _ _ _ _ _ _ _ _ _ _ _ _ _ _ _ _ _ _ _ _ _ _ _ _ _ _ _ _ _ _ _ _ _ _ _ _ _ _ _ _ _ _ _ _ _ _ _ _ _ _ _ _ _ _ _ _ _ _ _ _ _ _ _ _ _ _ _ _ _ _ _ _ _ _ _ _ _ _ _ _ _ _ _ _ _ _ _ _ _ _ _ _ _ _ _ _ _ _ _ _ _ _ _ _ _ _ _ _ _ _ _ _ _ _ _ _ _ _ _ _ _ _ _ _ _ _ _ _ _ _ _ _ _ _ _ _ _ _ _ _ _ _ _ _ _ _ _ _ _ _ _ _ _ _ _ _ _ _ _ _ _ _ _ _ _ _ _ _ _ _ _ _ _ _ _ _ _ _ _ _ _ _ _ _ _ _ _ _ _ _ _ _ _ _ _ _ _ _ _ _ _ _ _ W6 ga gb w5.heap.size F G S T v.k (T.wt v.k) ((T.pl (.inl v.k)).getD []).length TW.out.a TW.out.b L6.out ⟨EQ.out.1 v.k, rfl⟩ ⟨EQ.out.2.1 v.k, rfl⟩ _ ?_
                        intro u0 u1 u2 u3 u4 u5 u6 u7 u8 u9 u10 u11 u12 u13 u14 w8 b8
                        replace TW := Lib.hid (TW.out.below b8)
                        replace BX := Lib.hid (BX.out.trans (b8.mono BX.out.size))
                        clear b8
                        go_wp2_with fail
                        exact ⟨⟨t + 1, by omega, by go_num, TW.out, BX.out⟩, by simp [intOf]; omega⟩
                      · obtain rfl : t = j := by omega
                        go_wp2_with fail
                        refine (len_m TW.out.a).mono ?_
                        rintro e w7 ⟨rfl, rfl⟩
                        rw [EQ.out.2.2.1]
                        go_wp2_with fail
                        refine (len_m TW.out.b).mono ?_
                        rintro e w7 ⟨rfl, rfl⟩
                        go_wp2_with fail
                        refine (links_m TW.out.a).mono ?_
                        rintro e w8 ⟨A8, c8, rfl, b8⟩
                        rw [EQ.out.2.2.2]
                        replace TW := Lib.hid (TW.out.below b8)
                        replace BX := Lib.hid (BX.out.trans (b8.mono BX.out.size))
                        clear b8
                        go_wp2_with fail
                        refine (links_m TW.out.b).mono ?_
                        rintro e w9 ⟨A9, c9, rfl, b9⟩
                        replace BX := Lib.hid (BX.out.trans (b9.mono BX.out.size))
                        clear b9 TW
                        go_wp2_with fail
                        refine (known_c w9).mono ?_
                        rintro e w10 ⟨rfl, b10⟩
                        replace BX := Lib.hid (BX.out.trans (b10.mono BX.out.size))
                        clear b10
                        go_wp2_with fail
                        go_ret
                        exact ⟨rfl, BX.out⟩
          · obtain rfl : j = 0 := by omega
            have L0 : L = [] := List.eq_nil_of_length_eq_zero HN.out.symm
            have EQ := Lib.hid (ran_same RS.out Ran.start (fun v => by rw [L0]) (fun v hv => by rw [L0] at hv; cases hv))
            clear L0
            rcases Nat.eq_zero_or_pos m with rfl | hm0
            · go_wp2_with fail
              refine wp_loop_rounds 1 ?_
              rw [rounds_succ]
              go_wp2_with fail
              refine wp_loop_rounds 1 ?_
              rw [rounds_succ]
              go_wp2_with fail
              refine wp_loop_rounds 1 ?_
              rw [rounds_succ]
              go_wp2_with fail
              refine (len_m TW.out.a).mono ?_
              rintro e w7 ⟨rfl, rfl⟩
              rw [EQ.out.2.2.1]
              go_wp2_with fail
              refine (len_m TW.out.b).mono ?_
              rintro e w7 ⟨rfl, rfl⟩
              go_wp2_with fail
              refine (links_m TW.out.a).mono ?_
              rintro e w8 ⟨A8, c8, rfl, b8⟩
              rw [EQ.out.2.2.2]
              replace TW := Lib.hid (TW.out.below b8)
              replace BX := Lib.hid (BX.out.trans (b8.mono BX.out.size))
              clear b8
              go_wp2_with fail
              refine (links_m TW.out.b).mono ?_
              rintro e w9 ⟨A9, c9, rfl, b9⟩
              replace BX := Lib.hid (BX.out.trans (b9.mono BX.out.size))
              clear b9 TW
              go_wp2_with fail
              refine (known_c w9).mono ?_
              rintro e w10 ⟨rfl, b10⟩
              replace BX := Lib.hid (BX.out.trans (b10.mono BX.out.size))
              clear b10
              go_wp2_with fail
              go_ret
              exact ⟨rfl, BX.out⟩
            · have q2 : (0 : Int) < (m : Int) := by omega
              have q3 : decide ((0 : Int) < (m : Int)) = true := by simp; omega
              go_wp2_with fail
              refine wp_loop_rounds 1 ?_
              rw [rounds_succ]
              go_wp2_with fail
              refine wp_loop_rounds 1 ?_
              rw [rounds_succ]
              go_wp2_with fail
              refine wp_loop_rounds 1 ?_
              rw [rounds_succ]
              go_wp2_with fail
              refine (len_m TW.out.a).mono ?_
              rintro e w7 ⟨rfl, rfl⟩
              rw [EQ.out.2.2.1]
              go_wp2_with fail
              refine (len_m TW.out.b).mono ?_
              rintro e w7 ⟨rfl, rfl⟩
              go_wp2_with fail
              refine (links_m TW.out.a).mono ?_
              rintro e w8 ⟨A8, c8, rfl, b8⟩
              rw [EQ.out.2.2.2]
              replace TW := Lib.hid (TW.out.below b8)
              replace BX := Lib.hid (BX.out.trans (b8.mono BX.out.size))
              clear b8
              go_wp2_with fail
              refine (links_m TW.out.b).mono ?_
              rintro e w9 ⟨A9, c9, rfl, b9⟩
              replace BX := Lib.hid (BX.out.trans (b9.mono BX.out.size))
              clear b9 TW
              go_wp2_with fail
              refine (known_c w9).mono ?_
              rintro e w10 ⟨rfl, b10⟩
              replace BX := Lib.hid (BX.out.trans (b10.mono BX.out.size))
              clear b10
              go_wp2_with fail
              go_ret
              exact ⟨rfl, BX.out⟩
end Go.Proofs.Ytiobmgoapcbbfaa
