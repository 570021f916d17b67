/- FfgPlays: link by link, what is justified, and final; lists of any length. -/
import Derived.Test.YthlbpjkopkicbaaFgPlH
namespace Go.Proofs.Ythlbpjkopkicbaa
open Go.ChangeMaps Go.MapKept Go.Maps Go.WideElems Go.RowKit Go.ChangeShapes Go.WideShapes Go.ChangeAt
set_option linter.unusedVariables false
set_option maxRecDepth 100000

set_option maxRecDepth 1000000 in
set_option maxHeartbeats 8000000 in
theorem ffgPlays_main (w : World) (a : Pt) (AI : Option Addr) (nI cI : Nat) (LI : List Lk) (hnI : nI = LI.length) (h40 : nI ≤ 40) (hP : ∀ u, Below w.heap.size w u → ∀ (k : Nat) x, LI[k]? = some x → ∃ b o, AI = some ⟨b, o, none⟩ ∧ u.rangeAt b (o + k * 66) (lC x)) :
    Calls Try.prog 4 #[.agg (pv a), .slice AI nI cI] w fun e w' => e = .returned (.bool true) ∧ Below w.heap.size w w' := by
  obtain ⟨W0, hW0⟩ : ∃ W0, W0 = w.alloc (.cells (pv a) 29) := ⟨_, rfl⟩
  have b0 : Below w.heap.size w W0 := by rw [hW0]; exact (Below.refl _ _).alloc (Nat.le_refl _) _
  have p0 : PkB w.heap.size a W0 := by rw [hW0]; exact PkB.new
  have g0 := p0.row
  have HW := Lib.hid hW0
  have B0 := Lib.hid b0
  have P0 := Lib.hid p0
  have HNI := Lib.hid hnI
  have HPP : Hid (∀ u, Below W0.heap.size W0 u → ∀ (k : Nat) x, LI[k]? = some x → ∃ b o, AI = some ⟨b, o, none⟩ ∧ u.rangeAt b (o + k * 66) (lC x)) := fun u hu => hP u (b0.trans (hu.mono b0.size))
  have d1 : decide ((nI : Int) > 40) = false := by simp; omega
  have d1' : decide (40 < (nI : Int)) = false := by simp; omega
  clear hW0 b0 p0 hP hnI
  rcases Nat.lt_or_ge 4611686018427387904 a.e with hbig | hsm
  · have CN := Lib.hid (new_no a W0 hbig)
    have d3 : decide ((a.e : Int) > 4611686018427387904) = true := by simp; omega
    have d3' : decide (4611686018427387904 < (a.e : Int)) = true := by simp; omega
    clear hbig
    go_enter Try.func4, Try.ntmps4
    go_upto_region 3 with fail
    rw [← HW.out]
    go_wp2_with (first
      | (refine wpList_load_row rfl 29 (.tmp 2) rfl w.heap.size rfl 29 (pv a) (0, 0) _ g0 Try.underlying29 rfl (size_pv a) ?_)
      | fail)
    refine CN.out.mono ?_
    rintro e w1 ⟨rfl, b1⟩
    have B1 := Lib.hid (B0.out.trans (b1.mono B0.out.size))
    have c2 : w1.cell? ⟨w.heap.size, 0, none⟩ = some (.int .u64 (a.e : Int)) := cell_of_row w1 w.heap.size 0 _ _ (0, 0) (P0.out.below b1 P0.out.lt).row
    clear b1 g0 CN
    go_wp2_with fail
    refine (known_c w1).mono ?_
    rintro e w3 ⟨rfl, bk⟩
    go_wp2_with fail
    go_ret
    exact ⟨rfl, B1.out.trans (bk.mono B1.out.size)⟩
  · have CN := Lib.hid (new_ok a W0 hsm)
    have d3 : decide ((a.e : Int) > 4611686018427387904) = false := by simp; omega
    have d3' : decide (4611686018427387904 < (a.e : Int)) = false := by simp; omega
    clear hsm
    go_enter Try.func4, Try.ntmps4
    go_upto_region 3 with fail
    rw [← HW.out]
    go_wp2_with (first
      | (refine wpList_load_row rfl 29 (.tmp 2) rfl w.heap.size rfl 29 (pv a) (0, 0) _ g0 Try.underlying29 rfl (size_pv a) ?_)
      | fail)
    refine CN.out.mono ?_
    rintro e w1 ⟨ga, sa, bta, bsa, bwa, Fa, rfl, b1, hFa, hga, hgFa, gaa, fba⟩
    have G1 := gad_start hgFa gaa fba
    have PS : Hid (Pl a ga W0 Fa (S0 a) none 0 0 w1) := { G := G1, lo := fun j hj => Nat.le_of_lt (hFa j hj), bel := b1, len := rfl, row := ⟨rfl, .inl ⟨rfl, rfl⟩⟩, off := fun gl h => by cases h }
    have c2 : w1.cell? ⟨w.heap.size, 0, none⟩ = some (.int .u64 (a.e : Int)) := cell_of_row w1 w.heap.size 0 _ _ (0, 0) (P0.out.below b1 P0.out.lt).row
    clear b1 hFa hga hgFa gaa fba g0 CN G1
    go_wp2_with fail
    clear c2
    go_loopw [7, 8] (fun v7 v8 u => ∃ (k : Nat) (A : Option Addr) (n c : Nat) (F : Nat → Prop) (S : FgS), k ≤ nI ∧ v8 = .int .i64 (k : Int) ∧ v7 = .slice A n c ∧ n ≤ k ∧ Pl a ga W0 F S A n c u) (fun _ v8 _ => nI - (intOf v8).toNat)
    case atStart => exact ⟨0, none, 0, 0, Fa, S0 a, Nat.zero_le _, rfl, rfl, Nat.le_refl _, PS.out⟩
    case round =>
      clear PS
      obtain ⟨k, A, n, c, F, S, hk, rfl, rfl, hnk, q1⟩ := hrel
      have P1 := Lib.hid q1
      clear q1
      by_cases hkn : k < nI
      · obtain ⟨x, hx⟩ : ∃ x, LI[k]? = some x := ⟨_, List.getElem?_eq_getElem (by have := HNI.out; omega)⟩
        have HX := Lib.hid hx
        clear hx
        go_upto_block 1 with fail
        refine pl_b1 _ _ _ _ _ _ _ _ _ _ _ _ _ _ _ _ _ _ _ _ _ _ _ _ _ _ _ _ _ _ _ _ _ _ _ _ _ _ _ _ _ _ _ _ _ _ _ _ _ _ _ _ _ _ _ _ _ _ _ _ _ _ _ _ _ _ _ _ _ _ _ _ _ _ _ _ _ _ _ _ _ _ _ _ _ _ _ _ _ _ _ _ _ _ _ _ _ _ _ _ _ _ _ _ _ _ _ _ _ _ _ _ _ _ _ _ _ _ _ _ _ _ _ _ _ _ _ _ _ _ _ _ _ _ _ _ _ _ _ _ _ _ _ _ _ _ _ _ _ _ _ _ _ _ _ _ _ _ _ _ _ _ _ _ _ _ _ _ _ _ _ _ _ _ _ _ _ _ _ _ _ _ _ _ _ _ _ _ _ _ _ _ _ _ _ _ _ _ _ _ _ _ _ _ _ _ _ _ _ _ _ _ _ _ _ _ _ _ _ _ wr W0 a ga w.heap.size nI cI k n c AI A x F S P1.out P0.out (fun u hu => HPP.out u hu k x HX.out) hkn (by omega) _ ?_
        rintro t4 t7 t9 t10 t11 t12 t13 t14 t15 t16 t17 t18 t19 t20 t21 t22 t52 t53 t54 t55 t56 t57 t58 t59 t60 t61 t62 t63 t64 t65 t66 t67 t68 t69 t70 t71 t72 t73 t74 t75 t76 t77 t78 t79 t80 t81 t82 t83 t84 t85 t86 t87 t88 t89 t90 t91 t92 t93 t94 t95 t96 t97 t98 t99 t100 t101 t102 t103 t104 t105 t106 t107 t108 t109 t110 t111 t112 t113 t114 t115 t116 t117 t118 t119 t120 t121 t122 t123 t124 t125 t126 t127 t128 t129 t130 t131 t132 t133 t134 t135 t136 t137 t138 t139 t140 t141 t142 t143 t144 t145 t146 t147 t148 t149 t150 t151 t152 t153 t154 t155 t156 t157 t158 t159 t160 t161 t162 t163 t164 t165 t166 t167 t168 t169 t170 t171 t172 t173 t174 t175 t176 t177 t178 t179 t180 t181 t182 t183 t184 t185 t186 t187 t188 t189 t190 t191 t192 t193 t194 t195 t196 t197 t198 t199 t200 t201 t202 t203 t204 t205 t206 t207 t208 t209 t210 t211 t212 t213 t214 t215 t216 t217 t218 t219 t220 t221 t222 t223 w2 ⟨A2, n2, c2, F2, S2, rfl, p2, h2⟩
        have P2 := Lib.hid p2
        clear p2
        go_wp2_with fail
        exact ⟨⟨k + 1, A2, n2, c2, F2, S2, by omega, by go_num, rfl, by omega, P2.out⟩, by simp [intOf]; omega⟩
      · obtain rfl : k = nI := by omega
        go_wp2_with fail
        refine (known_c wr).mono ?_
        rintro e w3 ⟨rfl, bk⟩
        go_wp2_with fail
        go_ret
        exact ⟨rfl, (B0.out.trans (P1.out.bel.mono B0.out.size)).trans (bk.mono (Nat.le_trans B0.out.size P1.out.bel.size))⟩
end Go.Proofs.Ythlbpjkopkicbaa
namespace Go.Proofs.Ythlbpjkopkicbaa
open Go.ChangeMaps Go.MapKept Go.Maps Go.WideElems Go.RowKit Go.ChangeShapes Go.WideShapes Go.ChangeAt
set_option linter.unusedVariables false
set_option maxRecDepth 100000

set_option maxHeartbeats 4000000 in
theorem ffgPlays_out (w : World) (a : Pt) (A : Option Addr) (nI cI : Nat) (h1 : 40 < nI) :
    Calls Try.prog 4 #[.agg (pv a), .slice A nI cI] w fun e w' => e = .returned (.bool true) ∧ Below w.heap.size w w' := by
  obtain ⟨W0, hW0⟩ : ∃ W0, W0 = w.alloc (.cells (pv a) 29) := ⟨_, rfl⟩
  have b0 : Below w.heap.size w W0 := by rw [hW0]; exact (Below.refl _ _).alloc (Nat.le_refl _) _
  have HW := Lib.hid hW0
  have B0 := Lib.hid b0
  clear hW0 b0
  have d1 : decide ((nI : Int) > 40) = true := by simp; omega
  have d1' : decide (40 < (nI : Int)) = true := by simp; omega
  go_enter Try.func4, Try.ntmps4
  go_upto_region 1 with fail
  rw [← HW.out]
  go_wp2_with fail
  refine (known_c W0).mono ?_
  rintro e w3 ⟨rfl, bk⟩
  go_wp2_with fail
  go_ret
  exact ⟨rfl, B0.out.trans (bk.mono B0.out.size)⟩
theorem ffgPlays_any (w : World) (a : Pt) (A : Option Addr) (L : List Lk) (cI : Nat) (hP : ∀ u, Below w.heap.size w u → ∀ (k : Nat) x, L[k]? = some x → ∃ b o, A = some ⟨b, o, none⟩ ∧ u.rangeAt b (o + k * 66) (lC x)) :
    Calls Try.prog 4 #[.agg (pv a), .slice A L.length cI] w fun e w' => e = .returned (.bool true) ∧ Below w.heap.size w w' := by
  by_cases h : 40 < L.length
  · exact ffgPlays_out w a A _ cI h
  · exact ffgPlays_main w a A _ cI L rfl (by omega) hP
end Go.Proofs.Ythlbpjkopkicbaa
