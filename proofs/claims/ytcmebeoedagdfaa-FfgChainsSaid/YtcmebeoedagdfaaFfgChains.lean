/- FfgChains: any rising epochs, linked in any order. -/
import Derived.Test.YtcmebeoedagdfaaFgChY
import Derived.Test.YtcmebeoedagdfaaFgChZ
import Derived.Test.YtcmebeoedagdfaaFgChU
import Derived.Test.YtcmebeoedagdfaaFgChS
import Derived.Test.YtcmebeoedagdfaaFgChT
import Derived.Test.YtcmebeoedagdfaaFgChV
import Derived.Test.YtcmebeoedagdfaaFgChG
namespace Go.Proofs.Ytcmebeoedagdfaa
open Go.ChangeMaps Go.MapKept Go.Maps Go.WideElems Go.RowKit Go.ChangeShapes Go.WideShapes Go.ChangeAt
set_option linter.unusedVariables false
set_option maxRecDepth 100000

/-- How the epochs come in. -/
def EpIn (xa : Addr) (E : List Nat) (u : World) : Prop := ∀ (i e : Nat), E[i]? = some e → u.cell? (xa.add i) = some (.int .u64 (e : Int))
set_option maxRecDepth 1000000 in
set_option maxHeartbeats 8000000 in
theorem ffgChains_main (w : World) (xa : Addr) (B : Option Addr) (E : List Nat) (O : List Int) (cE cO : Nat) (h1 : 1 ≤ E.length) (h60 : E.length ≤ 60) (hO : O.length ≤ 200) (hE : ∀ e ∈ E, e < 18446744073709551616)
    (KE : ∀ u, Below w.heap.size w u → EpIn xa E u) (KO : ∀ u, Below w.heap.size w u → ∀ (i : Nat) z, O[i]? = some z → ∃ xb, B = some xb ∧ u.cell? (xb.add i) = some (.int .i64 z)) :
    Calls Try.prog 8 #[.slice (some xa) E.length cE, .slice B O.length cO] w fun e w' => e = .returned (.bool true) ∧ Below w.heap.size w w' := by
  obtain ⟨nE, hnE⟩ : ∃ nE, nE = E.length := ⟨_, rfl⟩
  obtain ⟨nO, hnO⟩ : ∃ nO, nO = O.length := ⟨_, rfl⟩
  rw [← hnE] at h1 h60
  rw [← hnO] at hO
  have d1 : decide ((nE : Int) < 1) = false := by simp; omega
  have d2 : decide ((nE : Int) > 60) = false := by simp; omega
  have d2' : decide (60 < (nE : Int)) = false := by simp; omega
  have d3 : decide ((nO : Int) > 200) = false := by simp; omega
  have d3' : decide (200 < (nO : Int)) = false := by simp; omega
  have HN := Lib.hid (And.intro hnE hnO)
  have H1 := Lib.hid h1
  rw [← hnE, ← hnO]
  have KEh := Lib.hid KE
  have KOh := Lib.hid KO
  have HE := Lib.hid hE
  clear hnE hnO KE KO hE h1
  go_enter Try.func8, Try.ntmps8
  go_wp2_with fail
  go_loopw [5, 6] (fun v5 v6 u => ∃ i A c, i ≤ nE ∧ v6 = .int .i64 (i : Int) ∧ v5 = .slice A i c ∧ u.ownsRow w.heap.size 29 33 v5 i (pts (rowL E i)) ∧ Below w.heap.size w u ∧ (∀ a b, a < b → b < i → E.getD a 0 < E.getD b 0) ∧ ∀ a, a < i → E.getD a 0 ≤ 4611686018427387904) (fun _ v6 _ => nE - (intOf v6).toNat)
  case atStart => exact ⟨0, none, 0, Nat.zero_le _, rfl, rfl, ⟨rfl, .inl ⟨rfl, rfl⟩⟩, Below.refl _ _, fun a b h1 h2 => by omega, fun a h1 => by omega⟩
  case round =>
    obtain ⟨i, A5, c5, hi, rfl, rfl, q1, q2, q3, q4⟩ := hrel
    have Q1 := Lib.hid q1
    have Q2 := Lib.hid q2
    have Q3 := Lib.hid q3
    have Q4 := Lib.hid q4
    clear q1 q2 q3 q4
    by_cases hlt : i < nE
    · obtain ⟨e1, he1⟩ : ∃ e1, E[i]? = some e1 := ⟨_, List.getElem?_eq_getElem (by have := HN.out.1; omega)⟩
      have c1 := KEh.out wr Q2.out i e1 he1
      have e64 := Lib.hid (HE.out e1 (List.mem_of_getElem? he1))
      have HE1 := Lib.hid he1
      have G1 : Hid (E.getD i 0 = e1) := by rw [List.getD_eq_getElem?_getD, he1]; rfl
      clear he1
      go_wp2_with fail
      rcases Nat.lt_or_ge 4611686018427387904 e1 with hbig | hbig
      · refine ch_r7a _ _ _ _ _ _ _ _ _ _ _ _ _ _ _ _ _ _ _ _ _ _ _ _ _ _ _ _ _ _ _ _ _ _ _ _ _ _ _ _ _ _ _ _ _ _ _ _ _ _ _ _ _ _ _ _ _ _ _ _ _ _ _ _ _ _ _ _ _ _ _ _ _ _ _ _ _ _ _ _ _ _ _ _ _ _ _ _ _ _ _ _ _ _ _ _ _ _ _ _ _ _ _ _ _ _ _ _ _ _ _ _ _ _ _ _ _ _ _ _ _ _ _ _ _ _ _ _ _ _ _ _ _ _ _ _ _ _ _ _ _ _ _ _ _ _ _ _ _ _ _ _ _ _ _ _ _ _ _ _ _ _ _ _ _ _ _ _ _ _ _ _ _ _ _ _ _ _ _ _ _ _ _ _ _ _ _ _ _ wr xa nE cE e1 i hlt hbig h60 c1 _ ?_
        intro t33 t34 t35 t36 t37 t38 t39 t40 t41 t42 t43 t44 t45 t46 t47 t48 t49 t50 t51 t52 w2 b2
        have B2 := Lib.hid (Q2.out.trans (b2.mono Q2.out.size))
        clear b2
        go_wp2_with fail
        refine (known_c _).mono ?_
        rintro e w3 ⟨rfl, bk⟩
        go_wp2_with fail
        go_ret
        exact ⟨rfl, B2.out.trans (bk.mono B2.out.size)⟩
      · rcases Nat.eq_zero_or_pos i with h0 | h0
        · subst h0
          refine ch_r7b _ _ _ _ _ _ _ _ _ _ _ _ _ _ _ _ _ _ _ _ _ _ _ _ _ _ _ _ _ _ _ _ _ _ _ _ _ _ _ _ _ _ _ _ _ _ _ _ _ _ _ _ _ _ _ _ _ _ _ _ _ _ _ _ _ _ _ _ _ _ _ _ _ _ _ _ _ _ _ _ _ _ _ _ _ _ _ _ _ _ _ _ _ _ _ _ _ _ _ _ _ _ _ _ _ _ _ _ _ _ _ _ _ _ _ _ _ _ _ _ _ _ _ _ _ _ _ _ _ _ _ _ _ _ _ _ _ _ _ _ _ _ _ _ _ _ _ _ _ _ _ _ _ _ _ _ _ _ _ _ _ _ _ _ _ _ _ _ _ _ _ _ _ _ _ _ _ _ _ _ _ _ _ _ _ _ _ _ _ wr xa nE cE e1 hlt hbig h60 c1 _ ?_
          intro t33 t34 t35 t36 t37 t38 t39 t40 t41 t42 t43 t44 t45 t46 t47 t48 t49 t50 t51 t52 w2 b2
          have Q2b := Lib.hid (Q2.out.trans (b2.mono Q2.out.size))
          have O2 := ownKeep Q1.out (fun g hg => b2.block g (Q1.out.lt g hg).2)
          clear b2
          go_upto_region 9 with fail
          refine ch_r9 _ _ _ _ _ _ _ _ _ _ _ _ _ _ _ _ _ _ _ _ _ _ _ _ _ _ _ _ _ _ _ _ _ _ _ _ _ _ _ _ _ _ _ _ _ _ _ _ _ _ _ _ _ _ _ _ _ _ _ _ _ _ _ _ _ _ _ _ _ _ _ _ _ _ _ _ _ _ _ _ _ _ _ _ _ _ _ _ _ _ _ _ _ _ _ _ _ _ _ _ _ _ _ _ _ _ _ _ _ _ _ _ _ _ _ _ _ _ _ _ _ _ _ _ _ _ _ _ _ _ _ _ _ _ _ _ _ _ _ _ _ _ _ _ _ _ _ _ _ _ _ _ _ _ _ _ _ _ _ _ _ _ _ _ _ _ _ _ _ _ _ _ _ _ _ _ _ _ _ _ _ _ _ _ _ _ _ _ w2 xa A5 nE cE c5 w.heap.size e1 E 0 hlt h60 HE1.out e64.out (KEh.out w2 Q2b.out 0 e1 HE1.out) Q2b.out.size O2 _ ?_
          rintro t5 t55 t56 t57 t58 t59 t60 t61 t62 t63 t64 t65 w3 ⟨A', c', rfl, o3, b3⟩
          have O3 := Lib.hid o3
          have B3 := Lib.hid (Q2b.out.trans b3)
          clear o3 b3 O2
          go_wp2_with fail
          exact ⟨⟨0 + 1, A', c', by omega, by go_num, rfl, O3.out, B3.out, fun a b h1 h2 => by omega, fun a ha => by
            rcases Nat.lt_or_ge a 0 with h | h
            · exact Q4.out a h
            · obtain rfl : a = 0 := by omega
              rw [G1.out]; exact hbig⟩, by simp [intOf]; omega⟩
        · obtain ⟨j, hj⟩ : ∃ j, j + 1 = i := ⟨i - 1, by omega⟩
          obtain ⟨e0, he0⟩ : ∃ e0, E[j]? = some e0 := ⟨_, List.getElem?_eq_getElem (by have := HN.out.1; omega)⟩
          have c0 := KEh.out wr Q2.out j e0 he0
          have G0 : Hid (E.getD j 0 = e0) := by rw [List.getD_eq_getElem?_getD, he0]; rfl
          clear he0
          refine ch_r7c _ _ _ _ _ _ _ _ _ _ _ _ _ _ _ _ _ _ _ _ _ _ _ _ _ _ _ _ _ _ _ _ _ _ _ _ _ _ _ _ _ _ _ _ _ _ _ _ _ _ _ _ _ _ _ _ _ _ _ _ _ _ _ _ _ _ _ _ _ _ _ _ _ _ _ _ _ _ _ _ _ _ _ _ _ _ _ _ _ _ _ _ _ _ _ _ _ _ _ _ _ _ _ _ _ _ _ _ _ _ _ _ _ _ _ _ _ _ _ _ _ _ _ _ _ _ _ _ _ _ _ _ _ _ _ _ _ _ _ _ _ _ _ _ _ _ _ _ _ _ _ _ _ _ _ _ _ _ _ _ _ _ _ _ _ _ _ _ _ _ _ _ _ _ _ _ _ _ _ _ _ _ _ _ _ _ _ _ _ wr xa nE cE e1 i j e0 hj hlt hbig h60 c1 c0 _ ?_
          intro t33 t34 t35 t36 t37 t38 t39 t40 t41 t42 t43 t44 t45 t46 t47 t48 t49 t50 t51 t52 w2 b2
          by_cases hle : e1 ≤ e0
          · rw [decide_eq_true hle]
            have B2 := Lib.hid (Q2.out.trans (b2.mono Q2.out.size))
            clear b2
            go_wp2_with fail
            refine (known_c _).mono ?_
            rintro e w3 ⟨rfl, bk⟩
            go_wp2_with fail
            go_ret
            exact ⟨rfl, B2.out.trans (bk.mono B2.out.size)⟩
          · rw [decide_eq_false hle]
            have G2 := Lib.hid (And.intro hj hle)
            clear hle hj c0
            have Q2b := Lib.hid (Q2.out.trans (b2.mono Q2.out.size))
            have O2 := ownKeep Q1.out (fun g hg => b2.block g (Q1.out.lt g hg).2)
            clear b2
            go_upto_region 9 with fail
            refine ch_r9 _ _ _ _ _ _ _ _ _ _ _ _ _ _ _ _ _ _ _ _ _ _ _ _ _ _ _ _ _ _ _ _ _ _ _ _ _ _ _ _ _ _ _ _ _ _ _ _ _ _ _ _ _ _ _ _ _ _ _ _ _ _ _ _ _ _ _ _ _ _ _ _ _ _ _ _ _ _ _ _ _ _ _ _ _ _ _ _ _ _ _ _ _ _ _ _ _ _ _ _ _ _ _ _ _ _ _ _ _ _ _ _ _ _ _ _ _ _ _ _ _ _ _ _ _ _ _ _ _ _ _ _ _ _ _ _ _ _ _ _ _ _ _ _ _ _ _ _ _ _ _ _ _ _ _ _ _ _ _ _ _ _ _ _ _ _ _ _ _ _ _ _ _ _ _ _ _ _ _ _ _ _ _ _ _ _ _ _ w2 xa A5 nE cE c5 w.heap.size e1 E i hlt h60 HE1.out e64.out (KEh.out w2 Q2b.out i e1 HE1.out) Q2b.out.size O2 _ ?_
            rintro t5 t55 t56 t57 t58 t59 t60 t61 t62 t63 t64 t65 w3 ⟨A', c', rfl, o3, b3⟩
            have O3 := Lib.hid o3
            have B3 := Lib.hid (Q2b.out.trans b3)
            clear o3 b3 O2
            go_wp2_with fail
            exact ⟨⟨i + 1, A', c', by omega, by go_num, rfl, O3.out, B3.out, fun a b h1 h2 => by
              have := G2.out
              rcases Nat.lt_or_ge b i with h | h
              · exact Q3.out a b h1 h
              · obtain rfl : b = i := by omega
                rw [G1.out]
                rcases Nat.lt_or_ge a j with h3 | h3
                · have := Q3.out a j h3 (by omega)
                  rw [G0.out] at this; omega
                · obtain rfl : a = j := by omega
                  rw [G0.out]; omega, fun a ha => by
              rcases Nat.lt_or_ge a i with h | h
              · exact Q4.out a h
              · obtain rfl : a = i := by omega
                rw [G1.out]; exact hbig⟩, by simp [intOf]; omega⟩
    · obtain rfl : i = nE := by omega
      obtain ⟨gA, rfl⟩ : ∃ gA, A5 = some ⟨gA, 0, none⟩ := by
        have h1 := H1.out
        rcases Q1.out.2 with ⟨e, h0⟩ | ⟨g, cap, cur, e, _⟩
        · omega
        · injection e with e1 e2 e3
          exact ⟨g, e1⟩
      have gA0 := Lib.hid (Q1.out.lt gA rfl)
      have cells : Hid (∀ u : World, Below wr.heap.size wr u → ∀ k, k < i → u.rangeAt gA (k * 33) (pC (pk E k))) := fun u hu k hk j v hv => (hu.cell (p := ⟨gA, k * 33 + j, none⟩) gA0.out.2).trans (point_cells (LL := rowL E i) (base := w.heap.size) (c := c5) (by rw [rowL_len]; exact Q1.out) (rowL_at E i k hk) j v hv)
      have k0 := cells.out wr (Below.refl _ _) 0 (by have := H1.out; omega)
      rw [Nat.zero_mul] at k0
      have hp0 : (pk E 0).e ≤ 4611686018427387904 := Nat.le_trans (Nat.mod_le _ _) (Q4.out 0 (by have := H1.out; omega))
      have CN := Lib.hid (new_ok (pk E 0) wr hp0)
      have hi1 : (0 : Int) < (i : Int) := by have := H1.out; omega
      clear hp0
      go_wp2_with (first
        | (refine wpList_load_mid rfl 29 (.tmp 68) rfl gA 0 (by go_simp) (pC (pk E 0)) _ k0 Try.underlying29 rfl (by rw [size_pv]; rfl) ?_; rw [pC_arr])
        | fail)
      refine CN.out.mono ?_
      rintro e w1 ⟨g, s, bt, bs, bw, F, rfl, b1, hF, hg, hgF, ga, fb⟩
      obtain ⟨M, hM⟩ : ∃ M, M + 1 = i := ⟨i - 1, by have := H1.out; omega⟩
      have INJ := Lib.hid (pk_inj Q3.out Q4.out hM)
      have RIS := Lib.hid (pk_rise Q3.out Q4.out hM)
      have MAY : Hid (∀ k, k < M → mayL (lkk (pk E) k) = true) := fun k hk => pk_may Q3.out Q4.out (by omega)
      have EPS : Hid (∀ k, k < i → (pk E k).e = E.getD k 0 ∧ (pk E k).e ≤ 4611686018427387904) := fun k hk => pk_e Q4.out hk
      obtain ⟨hz, hhz⟩ : ∃ hz, hz = wr.heap.size := ⟨_, rfl⟩
      have C0 : Hid (ChS E M i g gA hz w F (S0 (pk E 0)) w1) := { row := rowG_start INJ.out hgF ga fb, foot := fun j hj => by have := hF j hj; omega, lo := by have := gA0.out.2; omega, size := by have := b1.size; omega, base := by have := Q2.out.size; omega, bel := Q2.out.trans (b1.mono Q2.out.size), cells := fun k hk => cells.out w1 b1 k hk }
      have HM := Lib.hid hM
      clear b1 hF hg hgF ga fb k0 CN cells gA0 Q1 Q2 Q3 Q4 hM hhz
      go_upto_block 2 with fail
      refine ch_b2 _ _ _ _ _ _ _ _ _ _ _ _ _ _ _ _ _ _ _ _ _ _ _ _ _ _ _ _ _ _ _ _ _ _ _ _ _ _ _ _ _ _ _ _ _ _ _ _ _ _ _ _ _ _ _ _ _ _ _ _ _ _ _ _ _ _ _ _ _ _ _ _ _ _ _ _ _ _ _ _ _ _ _ _ _ _ _ _ _ _ _ _ _ _ _ _ _ _ _ _ _ _ _ _ _ _ _ _ _ _ _ _ _ _ _ _ _ _ _ _ _ _ _ _ _ _ _ _ _ _ _ _ _ _ _ _ _ _ _ _ _ _ _ _ _ _ _ _ _ _ _ _ _ _ _ _ _ _ _ _ _ _ _ _ _ _ _ _ _ _ _ _ _ _ _ _ _ _ _ _ _ _ _ _ _ _ _ w1 w g gA c5 i nO cO M hz B E O F (S0 (pk E 0)) C0.out INJ.out MAY.out HM.out h60 hO HN.out.2 KOh.out _ ?_
      rintro t9 t10 t75 t76 t77 t78 t79 t80 t81 t82 t83 t84 t85 t86 t87 t88 t89 t90 t91 t92 t93 t94 t95 t96 t97 t98 t99 t100 t101 t102 t103 t104 t105 t106 t107 t108 t109 t110 t111 t112 t113 w2 ⟨F2, S2, c2⟩
      have C2 := Lib.hid c2
      clear c2 C0
      have wi : IntKind.i64.wrap ((i : Int) - 1) = (M : Int) := by have := HM.out; simp [IntKind.wrap, IntKind.bits, IntKind.signed]; omega
      go_upto_block 4 with fail
      refine ch_b4 _ _ _ _ _ _ _ _ _ _ _ _ _ _ _ _ _ _ _ _ _ _ _ _ _ _ _ _ _ _ _ _ _ _ _ _ _ _ _ _ _ _ _ _ _ _ _ _ _ _ _ _ _ _ _ _ _ _ _ _ _ _ _ _ _ _ _ _ _ _ _ _ _ _ _ _ _ _ _ _ _ _ _ _ _ _ _ _ _ _ _ _ _ _ _ _ _ _ _ _ _ _ _ _ _ _ _ _ _ _ _ _ _ _ _ _ _ _ _ _ _ _ _ _ _ _ _ _ _ _ _ _ _ _ _ _ _ _ _ _ _ _ _ _ _ _ _ _ _ _ _ _ _ _ _ _ _ _ _ _ _ _ _ _ _ _ _ _ _ _ _ _ _ _ _ _ _ _ _ _ _ _ _ _ _ _ _ _ w2 w g gA c5 i M hz E F2 S2 C2.out INJ.out MAY.out HM.out h60 _ ?_
      rintro t11 t117 t118 t119 t120 t121 t122 t123 t124 t125 t126 t127 t128 t129 t130 t131 t132 w3 ⟨F3, S3, c3, m3⟩
      have C3 := Lib.hid c3
      have T3 := Lib.hid m3
      clear c3 m3 C2
      obtain ⟨st1, st2⟩ := rowG_all C3.out.row (T3.out)
      obtain ⟨la1, la2⟩ := rowG_last C3.out.row (T3.out) RIS.out
      have ST := Lib.hid st1
      have LA := Lib.hid (And.intro la1 la2)
      clear st1 st2 la1 la2
      go_wp2_with fail
      go_loopw [12] (fun v12 u => ∃ k, k ≤ i ∧ v12 = .int .i64 (k : Int) ∧ ChS E M i g gA hz w F3 S3 u) (fun v12 _ => i - (intOf v12).toNat)
      case atStart => exact ⟨0, Nat.zero_le _, rfl, C3.out⟩
      case round =>
        clear C3
        obtain ⟨k, hk, rfl, q1⟩ := hrel
        have C4 := Lib.hid q1
        clear q1
        have hM4 : FgM g (fun k => F3 k ∨ k = g) S3 (nS S3.told.length) wr := C4.out.row.mem.toM
        obtain ⟨p1, p2, p3, p4⟩ := C4.out.row.pre (by have := HM.out; omega)
        have P3 := Lib.hid p3
        clear p1 p2 p3 p4
        by_cases hki : k < i
        · have hgA4 := Nat.lt_of_lt_of_le C4.out.lo C4.out.size
          have s1 : stN S3.stands (pk E k) = if k = 0 ∨ (k < M ∧ near (lkk (pk E) k) = true) then 2 else 1 := ST.out k (by have := HM.out; omega)
          have s2 : 1 ≤ stN S3.stands (pk E k) := by rw [s1]; split <;> omega
          rcases Nat.eq_zero_or_pos k with h0 | h0
          · have s3 : decide (stN S3.stands (pk E k) = 2) = true := by rw [s1, if_pos (.inl h0)]; rfl
            clear s1
            go_wp2_with fail
            refine ch_r25a _ _ _ _ _ _ _ _ _ _ _ _ _ _ _ _ _ _ _ _ _ _ _ _ _ _ _ _ _ _ _ _ _ _ _ _ _ _ _ _ _ _ _ _ _ _ _ _ _ _ _ _ _ _ _ _ _ _ _ _ _ _ _ _ _ _ _ _ _ _ _ _ _ _ _ _ _ _ _ _ _ _ _ _ _ _ _ _ _ _ _ _ _ _ _ _ _ _ _ _ _ _ _ _ _ _ _ _ _ _ _ _ _ _ _ _ _ _ _ _ _ _ _ _ _ _ _ _ _ _ _ _ _ _ _ _ _ _ _ _ _ _ _ _ _ _ _ _ _ _ _ _ _ _ _ _ _ _ _ _ _ _ _ _ _ _ _ _ _ _ _ _ _ _ _ _ _ _ _ _ _ _ _ _ _ _ _ _ wr g gA c5 k i (nS S3.told.length) _ S3 (pk E k) hM4 (C4.out.cells k hki) hgA4 hki h60 s2 h0 s3 _ ?_
            intro t139 t140 t141 t142 t143 t144 t145 t146 t147 t148 t149 t150 t151 t152 t153 t154 t155 t156 t157 t158 t159 t160 t161 t162 t163 t164 t165 t166 t167 t168 t169 t170 t171 t172 t173 t174 t175 t176 t177 w2 b2
            have C5 := Lib.hid (C4.out.below b2)
            clear b2 hM4 h0 s2 s3
            go_wp2_with fail
            exact ⟨⟨k + 1, by omega, by go_num, C5.out⟩, by simp [intOf]; omega⟩
          · rcases Nat.lt_or_ge (k + 1) i with h1 | h1
            · have s3 : decide (stN S3.stands (pk E k) = 2) = decide ((pk E (k + 1)).e = (pk E k).e + 1) := by
                have hn : near (lkk (pk E) k) = decide ((pk E (k + 1)).e = (pk E k).e + 1) := by
                  have q := (EPS.out k hki).2
                  show decide ((pk E (k + 1)).e = ((pk E k).e + 1) % 18446744073709551616) = _
                  rw [Nat.mod_eq_of_lt (show (pk E k).e + 1 < 18446744073709551616 by omega)]
                rw [s1, hn]
                by_cases hh : (pk E (k + 1)).e = (pk E k).e + 1
                · rw [decide_eq_true hh, if_pos (.inr ⟨by have := HM.out; omega, rfl⟩)]; rfl
                · rw [decide_eq_false hh, if_neg (by rintro (h | ⟨_, h⟩); omega; cases h)]; rfl
              clear s1
              go_wp2_with fail
              refine ch_r25c _ _ _ _ _ _ _ _ _ _ _ _ _ _ _ _ _ _ _ _ _ _ _ _ _ _ _ _ _ _ _ _ _ _ _ _ _ _ _ _ _ _ _ _ _ _ _ _ _ _ _ _ _ _ _ _ _ _ _ _ _ _ _ _ _ _ _ _ _ _ _ _ _ _ _ _ _ _ _ _ _ _ _ _ _ _ _ _ _ _ _ _ _ _ _ _ _ _ _ _ _ _ _ _ _ _ _ _ _ _ _ _ _ _ _ _ _ _ _ _ _ _ _ _ _ _ _ _ _ _ _ _ _ _ _ _ _ _ _ _ _ _ _ _ _ _ _ _ _ _ _ _ _ _ _ _ _ _ _ _ _ _ _ _ _ _ _ _ _ _ _ _ _ _ _ _ _ _ _ _ _ _ _ _ _ _ _ _ wr g gA c5 k i (nS S3.told.length) _ S3 (pk E k) hM4 (C4.out.cells k hki) hgA4 hki h60 s2 h0 (pk E (k + 1)) h1 (C4.out.cells (k + 1) h1) (EPS.out k hki).2 s3 _ ?_
              intro t139 t140 t141 t142 t143 t144 t145 t146 t147 t148 t149 t150 t151 t152 t153 t154 t155 t156 t157 t158 t159 t160 t161 t162 t163 t164 t165 t166 t167 t168 t169 t170 t171 t172 t173 t174 t175 t176 t177 w2 b2
              have C5 := Lib.hid (C4.out.below b2)
              clear b2 hM4 h0 s2 s3
              go_wp2_with fail
              exact ⟨⟨k + 1, by omega, by go_num, C5.out⟩, by simp [intOf]; omega⟩
            · have s3 : decide (stN S3.stands (pk E k) = 2) = false := by
                rw [s1, if_neg (by rintro (h | ⟨h, _⟩); omega; have := HM.out; omega)]; rfl
              clear s1
              go_wp2_with fail
              refine ch_r25b _ _ _ _ _ _ _ _ _ _ _ _ _ _ _ _ _ _ _ _ _ _ _ _ _ _ _ _ _ _ _ _ _ _ _ _ _ _ _ _ _ _ _ _ _ _ _ _ _ _ _ _ _ _ _ _ _ _ _ _ _ _ _ _ _ _ _ _ _ _ _ _ _ _ _ _ _ _ _ _ _ _ _ _ _ _ _ _ _ _ _ _ _ _ _ _ _ _ _ _ _ _ _ _ _ _ _ _ _ _ _ _ _ _ _ _ _ _ _ _ _ _ _ _ _ _ _ _ _ _ _ _ _ _ _ _ _ _ _ _ _ _ _ _ _ _ _ _ _ _ _ _ _ _ _ _ _ _ _ _ _ _ _ _ _ _ _ _ _ _ _ _ _ _ _ _ _ _ _ _ _ _ _ _ _ _ _ _ wr g gA c5 k i (nS S3.told.length) _ S3 (pk E k) hM4 (C4.out.cells k hki) hgA4 hki h60 s2 h0 h1 s3 _ ?_
              intro t139 t140 t141 t142 t143 t144 t145 t146 t147 t148 t149 t150 t151 t152 t153 t154 t155 t156 t157 t158 t159 t160 t161 t162 t163 t164 t165 t166 t167 t168 t169 t170 t171 t172 t173 t174 t175 t176 t177 w2 b2
              have C5 := Lib.hid (C4.out.below b2)
              clear b2 hM4 h0 s2 s3
              go_wp2_with fail
              exact ⟨⟨k + 1, by omega, by go_num, C5.out⟩, by simp [intOf]; omega⟩
        · have hkk : k = i := by omega
          subst hkk
          go_wp2_with fail
          have hMM := HM.out
          subst hMM
          refine ch_r27 _ _ _ _ _ _ _ _ _ _ _ _ _ _ _ _ _ _ _ _ _ _ _ _ _ _ _ _ _ _ _ _ _ _ _ _ _ _ _ _ _ _ _ _ _ _ _ _ _ _ _ _ _ _ _ _ _ _ _ _ _ _ _ _ _ _ _ _ _ _ _ _ _ _ _ _ _ _ _ _ _ _ _ _ _ _ _ _ _ _ _ _ _ _ _ _ _ _ _ _ _ _ _ _ _ _ _ _ _ _ _ _ _ _ _ _ _ _ _ _ _ _ _ _ _ _ _ _ _ _ _ _ _ _ _ _ _ _ _ _ _ _ _ _ _ _ _ _ _ _ _ _ _ _ _ _ _ _ _ _ _ _ _ _ _ _ _ _ _ _ _ _ _ _ _ _ _ _ _ _ _ _ _ _ _ _ _ _ _ wr g gA c5 M (nS S3.told.length) _ S3 (pk E M) hM4 (C4.out.cells M (by omega)) (Nat.lt_of_lt_of_le C4.out.lo C4.out.size) (by omega) (by have := P3.out; omega) LA.out.1 LA.out.2 _ ?_
          intro t179 t180 t181 t182 t183 t184 t185 t186 t187 t188 t189 t190 w2 b2
          have B2 := Lib.hid (C4.out.bel.trans (b2.mono C4.out.bel.size))
          clear b2 hM4
          go_wp2_with fail
          go_ret
          exact ⟨rfl, B2.out⟩
end Go.Proofs.Ytcmebeoedagdfaa
