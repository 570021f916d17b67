/- FfgLeast: what is justified holds what must be, and has its ways back. -/
import Derived.Test.YtcmebeoedagdfaaFgLeC
import Derived.Test.YtcmebeoedagdfaaFgLeD
namespace Go.Proofs.Ytcmebeoedagdfaa
open Go.ChangeMaps Go.MapKept Go.Maps Go.WideElems Go.RowKit Go.ChangeShapes Go.WideShapes Go.ChangeAt
set_option linter.unusedVariables false
set_option maxRecDepth 100000

theorem own_row {w : World} {base n : Nat} {A : Option Addr} {c : Nat} {t : TypeId} {sz : Nat} {xs : List Value} (h : w.ownsRow base t sz (.slice A n c) n xs) : ∃ gl, 0 < n → A = some ⟨gl, 0, none⟩ ∧ gl < w.heap.size := by
  rcases h.2 with ⟨e, h0⟩ | ⟨g, cap, cur, e, _⟩
  · exact ⟨0, fun h => by omega⟩
  · injection e with e1 e2 e3
    exact ⟨g, fun _ => ⟨e1, (h.lt g (by rw [e1]; rfl)).2⟩⟩
set_option maxRecDepth 1000000 in
set_option maxHeartbeats 8000000 in
theorem ffgLeast_main (w : World) (a : Pt) (AI : Option Addr) (nI cI : Nat) (LI : List Lk) (hnI : nI = LI.length) (h40 : nI ≤ 40) (hP : ∀ u, Below w.heap.size w u → ∀ (k : Nat) x, LI[k]? = some x → ∃ b o, AI = some ⟨b, o, none⟩ ∧ u.rangeAt b (o + k * 66) (lC x)) :
    Calls Try.prog 7 #[.agg (pv a), .slice AI nI cI] w fun e w' => e = .returned (.bool true) ∧ Below w.heap.size w w' := by
  obtain ⟨W0, hW0⟩ : ∃ W0, W0 = w.alloc (.cells (pv a) 29) := ⟨_, rfl⟩
  have b0 : Below w.heap.size w W0 := by rw [hW0]; exact (Below.refl _ _).alloc (Nat.le_refl _) _
  have p0 : PkB w.heap.size a W0 := by rw [hW0]; exact PkB.new
  have g0 := p0.row
  have HW := Lib.hid hW0
  have B0 := Lib.hid b0
  have P0 := Lib.hid p0
  have HNI := Lib.hid hnI
  have HPP : Hid (∀ u, Below W0.heap.size W0 u → ∀ (k : Nat) x, LI[k]? = some x → ∃ b o, AI = some ⟨b, o, none⟩ ∧ u.rangeAt b (o + k * 66) (lC x)) := fun u hu => hP u (b0.trans (hu.mono b0.size))
  have d1 : decide ((nI : Int) > 40) = false := by simp; omega
  have d1' : decide (40 < (nI : Int)) = false := by simp; omega
  clear hW0 b0 p0 hP hnI
  rcases Nat.lt_or_ge 4611686018427387904 a.e with hbig | hsm
  · have CN := Lib.hid (new_no a W0 hbig)
    have d2 : decide ((a.e : Int) > 4611686018427387904) = true := by simp; omega
    have d2' : decide (4611686018427387904 < (a.e : Int)) = true := by simp; omega
    clear hbig
    go_enter Try.func7, Try.ntmps7
    go_upto_region 1 with fail
    rw [← HW.out]
    go_wp2_with (first
      | (refine wpList_load_row rfl 29 (.tmp 2) rfl w.heap.size rfl 29 (pv a) (0, 0) _ g0 Try.underlying29 rfl (size_pv a) ?_)
      | fail)
    refine CN.out.mono ?_
    rintro e w1 ⟨rfl, b1⟩
    have B1 := Lib.hid (B0.out.trans (b1.mono B0.out.size))
    have c1 : w1.cell? ⟨w.heap.size, 0, none⟩ = some (.int .u64 (a.e : Int)) := cell_of_row w1 w.heap.size 0 _ _ (0, 0) (P0.out.below b1 P0.out.lt).row
    clear b1 g0
    go_wp2_with fail
    refine (known_c w1).mono ?_
    rintro e w2 ⟨rfl, bk⟩
    go_wp2_with fail
    go_ret
    exact ⟨rfl, B1.out.trans (bk.mono B1.out.size)⟩
  · have CN := Lib.hid (new_ok a W0 hsm)
    clear hsm
    go_enter Try.func7, Try.ntmps7
    go_upto_region 1 with fail
    rw [← HW.out]
    go_wp2_with (first
      | (refine wpList_load_row rfl 29 (.tmp 2) rfl w.heap.size rfl 29 (pv a) (0, 0) _ g0 Try.underlying29 rfl (size_pv a) ?_)
      | fail)
    refine CN.out.mono ?_
    rintro e w1 ⟨g, s, bt, bs, bw, F, rfl, b1, hF, hg, hgF, ga, fb⟩
    have G1 := Lib.hid (gad_start hgF ga fb)
    have F1 : Hid (∀ j, F j → W0.heap.size ≤ j) := fun j hj => Nat.le_of_lt (hF j hj)
    have B1 := Lib.hid b1
    clear b1 hF hg hgF ga fb g0 CN
    go_upto_block 0 with fail
    refine le_b0 _ _ _ _ _ _ _ _ _ _ _ _ _ _ _ _ _ _ _ _ _ _ _ _ _ _ _ _ _ _ _ _ _ _ _ _ _ _ _ _ _ _ _ _ _ _ _ _ _ _ _ _ _ _ _ _ _ _ _ _ _ _ _ _ _ _ _ _ _ _ _ _ _ _ _ _ _ _ _ _ _ _ _ _ _ _ _ _ _ _ _ _ _ _ _ _ _ _ _ _ _ _ _ _ _ _ _ _ _ _ _ _ _ _ _ _ _ _ _ _ _ _ _ _ _ _ _ _ _ _ _ _ _ _ _ _ _ _ _ _ _ _ _ _ _ _ _ _ _ _ _ w1 W0 a g cI nI W0.heap.size AI LI F HNI.out h40 HPP.out G1.out F1.out B1.out.size B1.out _ ?_
    rintro t7 t35 t36 t37 t38 t39 t40 t41 t42 t43 t44 t45 t46 w2 ⟨F2, S2, l2, g2, f2, z2, b2⟩
    have G2 := Lib.hid g2
    have L2 := Lib.hid l2
    have B2 := Lib.hid b2
    clear g2 l2 b2 f2 z2 G1 F1 B1
    have CL := Lib.hid (links_c G2.out (by have := L2.out; omega))
    go_upto_region 10 with fail
    go_wp2_with fail
    refine CL.out.mono ?_
    rintro e w3 ⟨A8, c8, rfl, o3, b3⟩
    obtain ⟨gl, hgl⟩ := own_row o3
    have T3 : Hid (LeT a g w.heap.size gl F2 S2 w3) := {
      gad := G2.out.below b3
      pk := (P0.out.below B2.out P0.out.lt).below b3 (Nat.lt_of_lt_of_le P0.out.lt B2.out.size)
      len := by have := L2.out; omega
      lks := fun k x hk => by
        have hlt := (List.getElem?_eq_some_iff.1 hk).1
        obtain ⟨rfl, hg⟩ := hgl (by omega)
        exact ⟨hg, link_cells o3 hk⟩ }
    obtain ⟨nL, hnL⟩ : ∃ nL, nL = S2.told.length := ⟨_, rfl⟩
    rw [← hnL]
    have HNL := Lib.hid hnL
    have HA : Hid (0 < nL → A8 = some ⟨gl, 0, none⟩) := fun h => (hgl (by omega)).1
    have B3 := Lib.hid ((B0.out.trans (B2.out.mono B0.out.size)).trans (b3.mono (B0.out.trans (B2.out.mono B0.out.size)).size))
    clear o3 b3 hgl hnL CL
    have ANC := Lib.hid T3.out.gad.inv.pend.anc
    have r3 := T3.out.pk.row
    go_wp2_with (first
      | (refine wpList_load_row rfl 29 (.tmp 2) rfl w.heap.size rfl 29 (pv a) (0, 0) _ r3 Try.underlying29 rfl (size_pv a) ?_)
      | fail)
    refine (justified_c g _ S2 _ a w3 T3.out.gad.mem.toM).mono ?_
    rintro e w4 ⟨rfl, b4⟩
    rw [show decide (1 ≤ stN S2.stands a) = true by rw [ANC.out]; rfl]
    have B4 := Lib.hid b4
    have T4 := Lib.hid (T3.out.below b4)
    have r4 := T4.out.pk.row
    clear b4 r3
    go_wp2_with (first
      | (refine BigFrame.wpList_want rfl (fun K hK => ?_); refine wp_load_row 29 (.tmp 2) rfl w.heap.size rfl 29 (pv a) (0, 0) _ r4 Try.underlying29 rfl (size_pv a) ?_; refine hK _ _ ?_; clear hK K)
      | fail)
    refine (final_c g _ S2 _ a w4 T4.out.gad.mem.toM).mono ?_
    rintro e w5 ⟨rfl, b5⟩
    rw [show decide (stN S2.stands a = 2) = true by rw [ANC.out]; rfl]
    have B5 := Lib.hid (B4.out.trans (b5.mono B4.out.size))
    clear b5 r4
    go_upto_block 2 with fail
    refine le_b2 _ _ _ _ _ _ _ _ _ _ _ _ _ _ _ _ _ _ _ _ _ _ _ _ _ _ _ _ _ _ _ _ _ _ _ _ _ _ _ _ _ _ _ _ _ _ _ _ _ _ _ _ _ _ _ _ _ _ _ _ _ _ _ _ _ _ _ _ _ _ _ _ _ _ _ _ _ _ _ _ _ _ _ _ _ _ _ _ _ _ _ _ _ _ _ _ _ _ _ _ _ _ _ _ _ _ _ _ _ _ _ _ _ _ _ _ _ _ _ _ _ _ _ _ _ _ _ _ _ _ _ _ _ _ _ _ _ _ _ _ _ _ _ _ _ _ _ _ _ _ _ w5 w3 a g w.heap.size gl c8 nL A8 F2 S2 T3.out HA.out HNL.out B5.out _ ?_
    intro t4 t9 t59 t60 t61 t62 t63 t64 t65 t66 t67 t68 t69 t70 t71 t72 t73 t74 t75 t76 t77 t78 t79 t80 t81 w6 b6
    have B6 := Lib.hid b6
    have T6 := Lib.hid (T3.out.below b6)
    clear b6
    have CJ := Lib.hid (allJustified_c T6.out.gad T6.out.len)
    go_wp2_with fail
    refine CJ.out.mono ?_
    rintro e w7 ⟨A10, c10, Lp, rfl, m7, o7, b7, l7⟩
    obtain ⟨gp, hgp⟩ := own_row o7
    have T7 := Lib.hid (T6.out.below b7)
    have B7 := Lib.hid (B6.out.trans (b7.mono B6.out.size))
    obtain ⟨nP, hnP⟩ : ∃ nP, nP = Lp.length := ⟨_, rfl⟩
    have K7 : Hid (∀ u, Below w7.heap.size w7 u → ∀ (k : Nat) p, Lp[k]? = some p → ∃ gp, A10 = some ⟨gp, 0, none⟩ ∧ u.rangeAt gp (k * 33) (pC p)) := fun u hu k p hk => by
      have hlt := (List.getElem?_eq_some_iff.1 hk).1
      obtain ⟨rfl, hg⟩ := hgp (by omega)
      exact ⟨gp, rfl, rangeB hu hg (point_cells o7 hk)⟩
    have M7 : Hid (∀ p ∈ Lp, 1 ≤ stN S2.stands p) := fun p hp => (m7 p).1 hp
    rw [← hnP]
    have HNP := Lib.hid hnP
    have L7 : Hid (nP ≤ 800000) := by rw [hnP]; exact l7
    clear m7 o7 b7 l7 hgp hnP CJ
    go_upto_block 4 with fail
    refine le_b4 _ _ _ _ _ _ _ _ _ _ _ _ _ _ _ _ _ _ _ _ _ _ _ _ _ _ _ _ _ _ _ _ _ _ _ _ _ _ _ _ _ _ _ _ _ _ _ _ _ _ _ _ _ _ _ _ _ _ _ _ _ _ _ _ _ _ _ _ _ _ _ _ _ _ _ _ _ _ _ _ _ _ _ _ _ _ _ _ _ _ _ _ _ _ _ _ _ _ _ _ _ _ _ _ _ _ _ _ _ _ _ _ _ _ _ _ _ _ _ _ _ _ _ _ _ _ _ _ _ _ _ _ _ _ _ _ _ _ _ _ _ _ _ _ _ _ _ _ _ w7 w7 a g w.heap.size gl c8 nL A8 F2 S2 T7.out HA.out HNL.out (Below.refl _ _) c10 nP A10 Lp HNP.out L7.out K7.out M7.out _ ?_
    intro u4 u11 u12 u13 u14 u15 t84 t85 t86 t87 t88 t89 t90 t91 t92 t93 t94 t95 t96 t97 t98 t99 t100 t101 t102 t103 t104 t105 t106 t107 t108 t109 t110 t111 t112 t113 t114 t115 t116 t117 t118 t119 t120 t121 t122 t123 t124 t125 t126 t127 t128 t129 t130 t131 t132 t133 t134 t135 t136 t137 w8 b8
    have B8 := Lib.hid (B7.out.trans (b8.mono B7.out.size))
    have T8 := Lib.hid (T7.out.below b8)
    clear b8
    have CF := Lib.hid (allFinal_c T8.out.gad T8.out.len)
    go_wp2_with fail
    refine CF.out.mono ?_
    rintro e w9 ⟨A16, c16, Lf, rfl, m9, o9, b9, l9⟩
    obtain ⟨gf, hgf⟩ := own_row o9
    have T9 := Lib.hid (T8.out.below b9)
    have B9 := Lib.hid (B8.out.trans (b9.mono B8.out.size))
    obtain ⟨nF, hnF⟩ : ∃ nF, nF = Lf.length := ⟨_, rfl⟩
    have K9 : Hid (∀ u, Below w9.heap.size w9 u → ∀ (k : Nat) p, Lf[k]? = some p → ∃ gp, A16 = some ⟨gp, 0, none⟩ ∧ u.rangeAt gp (k * 33) (pC p)) := fun u hu k p hk => by
      have hlt := (List.getElem?_eq_some_iff.1 hk).1
      obtain ⟨rfl, hg⟩ := hgf (by omega)
      exact ⟨gf, rfl, rangeB hu hg (point_cells o9 hk)⟩
    have M9 : Hid (∀ p ∈ Lf, 1 ≤ stN S2.stands p) := fun p hp => by have := (m9 p).1 hp; omega
    rw [← hnF]
    have HNF := Lib.hid hnF
    have L9 : Hid (nF ≤ 800000) := by rw [hnF]; exact l9
    clear m9 o9 b9 l9 hgf hnF CF
    go_upto_block 10 with fail
    refine le_b10 _ _ _ _ _ _ _ _ _ _ _ _ _ _ _ _ _ _ _ _ _ _ _ _ _ _ _ _ _ _ _ _ _ _ _ _ _ _ _ _ _ _ _ _ _ _ _ _ _ _ _ _ _ _ _ _ _ _ _ _ _ _ _ _ _ _ _ _ _ _ _ _ _ _ _ _ _ _ _ _ _ _ _ _ _ _ _ _ _ _ _ _ _ _ _ _ _ _ _ _ _ _ _ _ _ _ _ _ _ _ _ _ _ _ _ _ _ _ _ _ _ _ _ _ _ _ _ _ _ _ _ _ _ _ _ _ _ _ _ _ _ _ _ _ _ _ _ _ _ _ _ w9 w9 a g w.heap.size gl c8 nL A8 F2 S2 T9.out HA.out HNL.out (Below.refl _ _) c16 nF A16 Lf HNF.out L9.out K9.out M9.out _ ?_
    intro v4 v17 t140 t141 t142 t143 t144 t145 t146 t147 t148 t149 t150 t151 t152 w10 b10
    have B10 := Lib.hid (B3.out.trans ((B9.out.trans (b10.mono B9.out.size)).mono B3.out.size))
    clear b10
    go_wp2_with fail
    refine (known_c w10).mono ?_
    rintro e w11 ⟨rfl, bk⟩
    go_wp2_with fail
    go_ret
    exact ⟨rfl, B10.out.trans (bk.mono B10.out.size)⟩
end Go.Proofs.Ytcmebeoedagdfaa
