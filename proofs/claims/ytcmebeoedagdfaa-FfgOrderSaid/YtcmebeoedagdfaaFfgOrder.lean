/- FfgOrder: what is justified does not hang on the order. -/
import Derived.Test.YtcmebeoedagdfaaFgOrB
namespace Go.Proofs.Ytcmebeoedagdfaa
open Go.ChangeMaps Go.MapKept Go.Maps Go.WideElems Go.RowKit Go.ChangeShapes Go.WideShapes Go.ChangeAt
set_option linter.unusedVariables false
set_option maxRecDepth 100000

theorem own_row {w : World} {base n : Nat} {A : Option Addr} {c : Nat} {t : TypeId} {sz : Nat} {xs : List Value} (h : w.ownsRow base t sz (.slice A n c) n xs) : ∃ gl, 0 < n → A = some ⟨gl, 0, none⟩ ∧ gl < w.heap.size := by
  rcases h.2 with ⟨e, h0⟩ | ⟨g, cap, cur, e, _⟩
  · exact ⟨0, fun h => by omega⟩
  · injection e with e1 e2 e3
    exact ⟨g, fun _ => ⟨e1, (h.lt g (by rw [e1]; rfl)).2⟩⟩
theorem rangeB {u u' : World} {g o : Nat} {L : List Value} (hb : Below u.heap.size u u') (hg : g < u.heap.size) (h : u.rangeAt g o L) : u'.rangeAt g o L := fun j v hv => (hb.cell (p := ⟨g, o + j, none⟩) hg).trans (h j v hv)
set_option maxRecDepth 1000000 in
set_option maxHeartbeats 8000000 in
theorem ffgOrder_main (w : World) (a : Pt) (AI AO : Option Addr) (nI cI nO cO : Nat) (LI : List Lk) (O : List Int) (hnI : nI = LI.length) (h30 : nI ≤ 30) (hnO : nO = O.length) (h60 : nO ≤ 60) (hP : ∀ u, Below w.heap.size w u → ∀ (k : Nat) x, LI[k]? = some x → ∃ b o, AI = some ⟨b, o, none⟩ ∧ u.rangeAt b (o + k * 66) (lC x)) (hO : ∀ u, Below w.heap.size w u → ∀ (i : Nat) z, O[i]? = some z → ∃ xb, AO = some xb ∧ u.cell? (xb.add i) = some (.int .i64 z)) :
    Calls Try.prog 5 #[.agg (pv a), .slice AI nI cI, .slice AO nO cO] w fun e w' => e = .returned (.bool true) ∧ Below w.heap.size w w' := by
  obtain ⟨W0, hW0⟩ : ∃ W0, W0 = w.alloc (.cells (pv a) 29) := ⟨_, rfl⟩
  have b0 : Below w.heap.size w W0 := by rw [hW0]; exact (Below.refl _ _).alloc (Nat.le_refl _) _
  have p0 : PkB w.heap.size a W0 := by rw [hW0]; exact PkB.new
  have g0 := p0.row
  have HW := Lib.hid hW0
  have B0 := Lib.hid b0
  have P0 := Lib.hid p0
  have HNI := Lib.hid hnI
  have HNO := Lib.hid hnO
  have HPP : Hid (∀ u, Below W0.heap.size W0 u → ∀ (k : Nat) x, LI[k]? = some x → ∃ b o, AI = some ⟨b, o, none⟩ ∧ u.rangeAt b (o + k * 66) (lC x)) := fun u hu => hP u (b0.trans (hu.mono b0.size))
  have HO : Hid (∀ u, Below W0.heap.size W0 u → ∀ (i : Nat) z, O[i]? = some z → ∃ xb, AO = some xb ∧ u.cell? (xb.add i) = some (.int .i64 z)) := fun u hu => hO u (b0.trans (hu.mono b0.size))
  have d1 : decide ((nI : Int) > 30) = false := by simp; omega
  have d1' : decide (30 < (nI : Int)) = false := by simp; omega
  have d2 : decide ((nO : Int) > 60) = false := by simp; omega
  have d2' : decide (60 < (nO : Int)) = false := by simp; omega
  clear hW0 b0 p0 hP hO hnI hnO
  rcases Nat.lt_or_ge 4611686018427387904 a.e with hbig | hsm
  · have CN := Lib.hid (new_no a W0 hbig)
    have d3 : decide ((a.e : Int) > 4611686018427387904) = true := by simp; omega
    have d3' : decide (4611686018427387904 < (a.e : Int)) = true := by simp; omega
    have HB := Lib.hid hbig
    clear hbig
    go_enter Try.func5, Try.ntmps5
    go_upto_region 3 with fail
    rw [← HW.out]
    go_wp2_with (first
      | (refine wpList_load_row rfl 29 (.tmp 3) rfl w.heap.size rfl 29 (pv a) (0, 0) _ g0 Try.underlying29 rfl (size_pv a) ?_)
      | fail)
    refine CN.out.mono ?_
    rintro e w1 ⟨rfl, b1⟩
    have B1 := Lib.hid (B0.out.trans (b1.mono B0.out.size))
    have P1 := Lib.hid (P0.out.below b1 P0.out.lt)
    have g1 := P1.out.row
    have CM := Lib.hid (new_no a w1 HB.out)
    clear b1 g0 CN
    go_wp2_with (first
      | (refine wpList_load_row rfl 29 (.tmp 3) rfl w.heap.size rfl 29 (pv a) (0, 0) _ g1 Try.underlying29 rfl (size_pv a) ?_)
      | fail)
    refine CM.out.mono ?_
    rintro e w2 ⟨rfl, b2⟩
    have B2 := Lib.hid (B1.out.trans (b2.mono B1.out.size))
    have c2 : w2.cell? ⟨w.heap.size, 0, none⟩ = some (.int .u64 (a.e : Int)) := cell_of_row w2 w.heap.size 0 _ _ (0, 0) (P1.out.below b2 P1.out.lt).row
    clear b2 g1 CM
    go_wp2_with fail
    refine (known_c w2).mono ?_
    rintro e w3 ⟨rfl, bk⟩
    go_wp2_with fail
    go_ret
    exact ⟨rfl, B2.out.trans (bk.mono B2.out.size)⟩
  · have CN := Lib.hid (new_ok a W0 hsm)
    have HSM := Lib.hid hsm
    clear hsm
    go_enter Try.func5, Try.ntmps5
    go_upto_region 3 with fail
    rw [← HW.out]
    go_wp2_with (first
      | (refine wpList_load_row rfl 29 (.tmp 3) rfl w.heap.size rfl 29 (pv a) (0, 0) _ g0 Try.underlying29 rfl (size_pv a) ?_)
      | fail)
    refine CN.out.mono ?_
    rintro e w1 ⟨ga, sa, bta, bsa, bwa, Fa, rfl, b1, hFa, hga, hgFa, gaa, fba⟩
    have G1 := Lib.hid (gad_start hgFa gaa fba)
    have F1 : Hid (∀ j, Fa j → W0.heap.size ≤ j) := fun j hj => Nat.le_of_lt (hFa j hj)
    have B1 := Lib.hid b1
    have P1 := Lib.hid (P0.out.below b1 P0.out.lt)
    have g1 := P1.out.row
    have CM := Lib.hid (new_ok a w1 HSM.out)
    clear b1 hFa hga hgFa gaa fba g0 CN
    go_wp2_with (first
      | (refine wpList_load_row rfl 29 (.tmp 3) rfl w.heap.size rfl 29 (pv a) (0, 0) _ g1 Try.underlying29 rfl (size_pv a) ?_)
      | fail)
    refine CM.out.mono ?_
    rintro e w2 ⟨gb, sb, btb, bsb, bwb, Fb, rfl, b2, hFb, hgb, hgFb, gab, fbb⟩
    have T2 : Hid (Two a ga gb W0 Fa Fb (S0 a) (S0 a) w2) := {
      A := G1.out.below b2
      B := gad_start hgFb gab fbb
      dis := fun k h1 h2 => by have := G1.out.fin.2 k h1; have := hFb k h2; omega
      na := fun h => by have := G1.out.fin.1; have := hFb _ h; omega
      nb := fun h => by have := G1.out.fin.2 _ h; omega
      lo := fun k hk => hk.elim (F1.out k) (fun h => by have := hFb k h; have := B1.out.size; omega)
      bel := B1.out.trans (b2.mono B1.out.size) }
    clear b2 hFb hgb hgFb gab fbb g1 CM G1 F1 B1
    go_upto_block 0 with fail
    refine or_b0 _ _ _ _ _ _ _ _ _ _ _ _ _ _ _ _ _ _ _ _ _ _ _ _ _ _ _ _ _ _ _ _ _ _ _ _ _ _ _ _ _ _ _ _ _ _ _ _ _ _ _ _ _ _ _ _ _ _ _ _ _ _ _ _ _ _ _ _ _ _ _ _ _ _ _ _ _ _ _ _ _ _ _ _ _ _ _ _ _ _ _ _ _ _ _ _ _ _ _ _ _ _ _ _ _ _ _ _ _ _ _ _ _ _ _ _ _ _ _ _ _ _ _ _ _ _ _ _ _ w2 W0 a ga gb cI nI AI LI Fa Fb (S0 a) (S0 a) T2.out HNI.out h30 HPP.out rfl _ ?_
    rintro t6 t11 t12 t13 t47 t48 t49 t50 t51 t52 t53 t54 t55 t56 t57 t58 t59 t60 t61 t62 t63 t64 t65 t66 t67 t68 t69 t70 t71 t72 t73 t74 t75 w3 ⟨Fa3, Sa3, q1, q2⟩
    have T3 := Lib.hid q1
    have MA := Lib.hid q2
    clear q1 q2 T2
    go_upto_block 2 with fail
    refine or_b2 _ _ _ _ _ _ _ _ _ _ _ _ _ _ _ _ _ _ _ _ _ _ _ _ _ _ _ _ _ _ _ _ _ _ _ _ _ _ _ _ _ _ _ _ _ _ _ _ _ _ _ _ _ _ _ _ _ _ _ _ _ _ _ _ _ _ _ _ _ _ _ _ _ _ _ _ _ _ _ _ _ _ _ _ _ _ _ _ _ _ _ _ _ _ _ _ _ _ _ _ _ _ _ _ _ _ _ _ _ _ _ _ _ _ _ _ _ _ _ _ _ _ _ _ _ _ _ _ _ w3 W0 a ga gb cI nI AI LI Fa3 Fb Sa3 (S0 a) T3.out HNI.out h30 HPP.out nO cO AO O HNO.out h60 HO.out (fun y hy => by cases hy) _ ?_
    rintro t14 t76 t77 t78 t79 t80 t81 t82 t83 t84 t85 t86 t87 t88 t89 t90 t91 t92 t93 t94 t95 t96 t97 t98 t99 t100 t101 t102 t103 t104 w4 ⟨Fb4, Sb4, q1, q2⟩
    have T4 := Lib.hid q1
    have MB := Lib.hid q2
    clear q1 q2 T3
    have wn : IntKind.i64.wrap ((nI : Int) - 1) = (nI : Int) - 1 := by simp [IntKind.wrap, IntKind.bits, IntKind.signed]; omega
    go_upto_block 4 with fail
    refine or_b4 _ _ _ _ _ _ _ _ _ _ _ _ _ _ _ _ _ _ _ _ _ _ _ _ _ _ _ _ _ _ _ _ _ _ _ _ _ _ _ _ _ _ _ _ _ _ _ _ _ _ _ _ _ _ _ _ _ _ _ _ _ _ _ _ _ _ _ _ _ _ _ _ _ _ _ _ _ _ _ _ _ _ _ _ _ _ _ _ _ _ _ _ _ _ _ _ _ _ _ _ _ _ _ _ _ _ _ _ _ _ _ _ _ _ _ _ _ _ _ _ _ _ _ _ _ _ _ _ _ _ w4 W0 a ga gb cI nI AI LI Fa3 Fb4 Sa3 Sb4 T4.out HNI.out h30 HPP.out MB.out _ ?_
    rintro t15 t108 t109 t110 t111 t112 t113 t114 t115 t116 t117 w5 ⟨Fb5, Sb5, q1, q2, q3⟩
    have T5 := Lib.hid q1
    have TO : Hid (∀ y, y ∈ Sa3.told ↔ y ∈ Sb5.told) := fun y => by
      rw [MA.out y]
      constructor
      · rintro ⟨e1, i, _, e2⟩
        exact q3 i y e2 e1
      · intro h
        obtain ⟨e1, e2⟩ := q2 y h
        obtain ⟨i, hi⟩ := List.getElem?_of_mem e2
        exact ⟨e1, i, by have := (List.getElem?_eq_some_iff.1 hi).1; have := HNI.out; omega, hi⟩
    have LA : Hid (Sa3.told.length ≤ 59) := Nat.le_trans (told_le T5.out.A.inv (LI := LI) (fun y hy => by obtain ⟨_, i, _, h⟩ := (MA.out y).1 hy; exact List.mem_of_getElem? h)) (by have := HNI.out; omega)
    have LB : Hid (Sb5.told.length ≤ 59) := Nat.le_trans (told_le T5.out.B.inv (LI := LI) (fun y hy => (q2 y hy).2)) (by have := HNI.out; omega)
    clear q1 q2 q3 T4 MA MB wn
    have CA5 := Lib.hid (allJustifiedN_c T5.out.A LA.out)
    go_wp2_with fail
    refine CA5.out.mono ?_
    rintro e w6 ⟨A6, c6, L6, rfl, m6, o6, b6, l6, r6⟩
    obtain ⟨h6, hh6⟩ := own_row o6
    have T6 := Lib.hid (T5.out.below b6)
    have K6 : Hid (∀ u, Below w6.heap.size w6 u → ∀ (k : Nat) p, L6[k]? = some p → ∃ gp, A6 = some ⟨gp, 0, none⟩ ∧ u.rangeAt gp (k * 33) (pC p)) := fun u hu k p hk => by
      have hlt := (List.getElem?_eq_some_iff.1 hk).1
      obtain ⟨rfl, hg⟩ := hh6 (by omega)
      exact ⟨h6, rfl, rangeB hu hg (point_cells o6 hk)⟩
    have M6 := Lib.hid m6
    have R6 := Lib.hid r6
    have N6 := Lib.hid l6
    clear m6 o6 b6 l6 r6 hh6 CA5
    have CB5 := Lib.hid (allJustifiedN_c T6.out.B LB.out)
    go_wp2_with fail
    refine CB5.out.mono ?_
    rintro e w7 ⟨A7, c7, L7, rfl, m7, o7, b7, l7, r7⟩
    obtain rfl : L7 = L6 := rise_ext r7 R6.out (fun p => (m7 p).trans ((inv_stands T6.out.B.inv T6.out.A.inv (fun y => (TO.out y).symm) p).trans (M6.out p).symm))
    obtain ⟨h7, hh7⟩ := own_row o7
    have T7 := Lib.hid (T6.out.below b7)
    have X6 : Hid (∀ u, Below w7.heap.size w7 u → ∀ (k : Nat) p, L7[k]? = some p → ∃ gp, A6 = some ⟨gp, 0, none⟩ ∧ u.rangeAt gp (k * 33) (pC p)) := fun u hu => K6.out u (b7.trans (hu.mono b7.size))
    have K7 : Hid (∀ u, Below w7.heap.size w7 u → ∀ (k : Nat) p, L7[k]? = some p → ∃ gp, A7 = some ⟨gp, 0, none⟩ ∧ u.rangeAt gp (k * 33) (pC p)) := fun u hu k p hk => by
      have hlt := (List.getElem?_eq_some_iff.1 hk).1
      obtain ⟨rfl, hg⟩ := hh7 (by omega)
      exact ⟨h7, rfl, rangeB hu hg (point_cells o7 hk)⟩
    have CE5 := Lib.hid (same_c w7 A6 A7 L7.length c6 c7 L7 rfl (by have := N6.out; omega) X6.out K7.out)
    clear m7 o7 b7 l7 r7 hh7 CB5
    go_wp2_with fail
    refine CE5.out.mono ?_
    rintro e w8 ⟨rfl, b8⟩
    have T8 := Lib.hid (T7.out.below b8)
    clear b8 CE5
    have CA8 := Lib.hid (allFinalN_c T8.out.A LA.out)
    go_wp2_with fail
    refine CA8.out.mono ?_
    rintro e w9 ⟨A9, c9, L9, rfl, m9, o9, b9, l9, r9⟩
    obtain ⟨h9, hh9⟩ := own_row o9
    have T9 := Lib.hid (T8.out.below b9)
    have K9 : Hid (∀ u, Below w9.heap.size w9 u → ∀ (k : Nat) p, L9[k]? = some p → ∃ gp, A9 = some ⟨gp, 0, none⟩ ∧ u.rangeAt gp (k * 33) (pC p)) := fun u hu k p hk => by
      have hlt := (List.getElem?_eq_some_iff.1 hk).1
      obtain ⟨rfl, hg⟩ := hh9 (by omega)
      exact ⟨h9, rfl, rangeB hu hg (point_cells o9 hk)⟩
    have M9 := Lib.hid m9
    have R9 := Lib.hid r9
    have N9 := Lib.hid l9
    clear m9 o9 b9 l9 r9 hh9 CA8
    have CB8 := Lib.hid (allFinalN_c T9.out.B LB.out)
    go_wp2_with fail
    refine CB8.out.mono ?_
    rintro e w10 ⟨A10, c10, L10, rfl, m10, o10, b10, l10, r10⟩
    obtain rfl : L10 = L9 := rise_ext r10 R9.out (fun p => (m10 p).trans ((inv_final T9.out.B.inv T9.out.A.inv (fun y => (TO.out y).symm) p).trans (M9.out p).symm))
    obtain ⟨h10, hh10⟩ := own_row o10
    have T10 := Lib.hid (T9.out.below b10)
    have X9 : Hid (∀ u, Below w10.heap.size w10 u → ∀ (k : Nat) p, L10[k]? = some p → ∃ gp, A9 = some ⟨gp, 0, none⟩ ∧ u.rangeAt gp (k * 33) (pC p)) := fun u hu => K9.out u (b10.trans (hu.mono b10.size))
    have K10 : Hid (∀ u, Below w10.heap.size w10 u → ∀ (k : Nat) p, L10[k]? = some p → ∃ gp, A10 = some ⟨gp, 0, none⟩ ∧ u.rangeAt gp (k * 33) (pC p)) := fun u hu k p hk => by
      have hlt := (List.getElem?_eq_some_iff.1 hk).1
      obtain ⟨rfl, hg⟩ := hh10 (by omega)
      exact ⟨h10, rfl, rangeB hu hg (point_cells o10 hk)⟩
    have CE8 := Lib.hid (same_c w10 A9 A10 L10.length c9 c10 L10 rfl (by have := N9.out; omega) X9.out K10.out)
    clear m10 o10 b10 l10 r10 hh10 CB8
    go_wp2_with fail
    refine CE8.out.mono ?_
    rintro e w11 ⟨rfl, b11⟩
    have T11 := Lib.hid (T10.out.below b11)
    clear b11 CE8
    go_wp2_with fail
    refine (known_c w11).mono ?_
    rintro e w12 ⟨rfl, bk⟩
    go_wp2_with fail
    go_ret
    exact ⟨rfl, (B0.out.trans (T11.out.bel.mono B0.out.size)).trans (bk.mono (Nat.le_trans B0.out.size T11.out.bel.size))⟩
end Go.Proofs.Ytcmebeoedagdfaa
