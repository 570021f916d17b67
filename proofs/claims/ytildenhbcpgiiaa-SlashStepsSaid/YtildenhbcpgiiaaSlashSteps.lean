/- SlashSteps: rising epochs, and one vote more. -/
import Derived.Test.YtildenhbcpgiiaaSlStT
import Derived.Test.YtildenhbcpgiiaaLiftE
namespace Go.Proofs.Ytildenhbcpgiiaa
open Go.ChangeMaps Go.MapKept Go.Maps Go.WideElems Go.RowKit Go.ChangeShapes Go.WideShapes Go.ChangeAt
set_option linter.unusedVariables false
set_option maxRecDepth 100000

/-- The steps' votes, in memory. -/
def RowOK (E : List Nat) (j gA : Nat) (w0 u : World) : Prop := Below w0.heap.size w0 u ∧ w0.heap.size ≤ u.heap.size ∧ (0 < j → gA < u.heap.size) ∧ ∀ k, k < j → u.rangeAt gA (k * 68) (vc (lkS E k))
theorem RowOK.below {E : List Nat} {j gA : Nat} {w0 u u' : World} (h : RowOK E j gA w0 u) (hb : Below u.heap.size u u') : RowOK E j gA w0 u' :=
  ⟨h.1.trans (hb.mono h.2.1), Nat.le_trans h.2.1 hb.size, fun hj => Nat.lt_of_lt_of_le (h.2.2.1 hj) hb.size, fun k hk => rangeBelow hb (h.2.2.1 (by omega)) (h.2.2.2 k hk)⟩
set_option maxRecDepth 1000000 in
set_option maxHeartbeats 8000000 in
theorem slashSteps_main (w : World) (A0 : Option Addr) (E : List Nat) (cE s t : Nat) (h40 : E.length ≤ 40) (hE : ∀ e ∈ E, e < 18446744073709551616) (hs : s < 18446744073709551616) (ht : t < 18446744073709551616)
    (KE : ∀ u, Below w.heap.size w u → ∀ (i e : Nat), E[i]? = some e → ∃ xa, A0 = some xa ∧ xa.block < w.heap.size ∧ u.cell? (xa.add i) = some (.int .u64 (e : Int))) :
    Calls Try.prog 5 #[.slice A0 E.length cE, .int .u64 (s : Int), .int .u64 (t : Int)] w fun e w' => e = .returned (.bool true) ∧ Below w.heap.size w w' := by
  obtain ⟨nE, hnE⟩ : ∃ nE, nE = E.length := ⟨_, rfl⟩
  rw [← hnE] at h40
  have d1 : decide ((nE : Int) > 40) = false := by simp; omega
  have d1' : decide (40 < (nE : Int)) = false := by simp; omega
  have hzv := zero_vt
  have HN := Lib.hid hnE
  rw [← hnE]
  have KEh := Lib.hid KE
  have HE := Lib.hid hE
  have HST := Lib.hid (And.intro hs ht)
  clear hnE KE hE hs ht
  go_enter Try.func5, Try.ntmps5
  go_wp2_with fail
  go_loopw [7, 8] (fun v7 v8 u => ∃ i j A c, j + 1 = i ∧ (i ≤ nE ∨ j = 0) ∧ v8 = .int .i64 (i : Int) ∧ v7 = .slice A j c ∧ u.ownsRow w.heap.size 29 68 v7 j (rws vc (rowS E j)) ∧ Below w.heap.size w u ∧ ∀ a b, a < b → b < i → E.getD a 0 < E.getD b 0) (fun _ v8 _ => nE - (intOf v8).toNat)
  case atStart => exact ⟨1, 0, none, 0, rfl, .inr rfl, rfl, rfl, ⟨rfl, .inl ⟨rfl, rfl⟩⟩, Below.refl _ _, fun a b h1 h2 => by omega⟩
  case round =>
    obtain ⟨i, j, A5, c5, hij, hi, rfl, rfl, q1, q2, q3⟩ := hrel
    have Q1 := Lib.hid q1
    have Q2 := Lib.hid q2
    have Q3 := Lib.hid q3
    clear q1 q2 q3
    by_cases hlt : i < nE
    · obtain ⟨e1, he1⟩ : ∃ e1, E[i]? = some e1 := ⟨_, List.getElem?_eq_getElem (by have := HN.out; omega)⟩
      obtain ⟨e0, he0⟩ : ∃ e0, E[j]? = some e0 := ⟨_, List.getElem?_eq_getElem (by have := HN.out; omega)⟩
      obtain ⟨xa, rfl, hxa, c1⟩ := KEh.out wr Q2.out i e1 he1
      obtain ⟨xb, hxb, _, c0⟩ := KEh.out wr Q2.out j e0 he0
      injection hxb with hxb
      subst hxb
      have A1 := Lib.hid (HE.out e1 (List.mem_of_getElem? he1))
      have A0' := Lib.hid (HE.out e0 (List.mem_of_getElem? he0))
      have HE1 := Lib.hid he1
      have HE0 := Lib.hid he0
      have G1 : Hid (E.getD i 0 = e1) := by rw [List.getD_eq_getElem?_getD, he1]; rfl
      have G0 : Hid (E.getD j 0 = e0) := by rw [List.getD_eq_getElem?_getD, he0]; rfl
      have XA := Lib.hid hxa
      clear he1 he0 hxa
      go_wp2_with fail
      refine ss_r7 _ _ _ _ _ _ _ _ _ _ _ _ _ _ _ _ _ _ _ _ _ _ _ _ _ _ _ _ _ _ _ _ _ _ _ _ _ _ _ _ _ _ _ _ _ _ _ _ _ _ _ _ _ _ _ _ _ _ _ _ _ _ _ _ _ _ _ _ _ _ _ _ _ _ _ _ _ _ _ _ _ _ _ _ _ _ _ _ _ _ _ _ _ _ _ _ _ _ _ _ _ _ _ _ _ _ _ _ _ _ _ _ _ _ _ _ _ _ _ _ _ _ _ _ _ _ _ _ _ _ _ _ _ _ _ _ _ wr xa nE cE e1 e0 i j hij hlt h40 c1 c0 _ ?_
      intro t27 t28 t29 t30 t31 t32 t33 t34 t35 w2 b2
      have B2 := Lib.hid (Q2.out.trans (b2.mono Q2.out.size))
      have O2 := ownKeep Q1.out (fun g hg => b2.block g (Q1.out.lt g hg).2)
      clear b2 c1 c0
      by_cases hle : e1 ≤ e0
      · rw [decide_eq_true hle]
        clear hle
        go_wp2_with fail
        refine (known_c _).mono ?_
        rintro e w3 ⟨rfl, bk⟩
        go_wp2_with fail
        go_ret
        exact ⟨rfl, B2.out.trans (bk.mono B2.out.size)⟩
      · rw [decide_eq_false hle]
        have HLE := Lib.hid hle
        have HIJ := Lib.hid hij
        clear hle
        go_wp2_with fail
        obtain ⟨x1, hx1, _, c1⟩ := KEh.out w2 B2.out i e1 HE1.out
        injection hx1 with hx1
        subst hx1
        obtain ⟨x2, hx2, _, c0⟩ := KEh.out w2 B2.out j e0 HE0.out
        injection hx2 with hx2
        subst hx2
        refine ss_r9 _ _ _ _ _ _ _ _ _ _ _ _ _ _ _ _ _ _ _ _ _ _ _ _ _ _ _ _ _ _ _ _ _ _ _ _ _ _ _ _ _ _ _ _ _ _ _ _ _ _ _ _ _ _ _ _ _ _ _ _ _ _ _ _ _ _ _ _ _ _ _ _ _ _ _ _ _ _ _ _ _ _ _ _ _ _ _ _ _ _ _ _ _ _ _ _ _ _ _ _ _ _ _ _ _ _ _ _ _ _ _ _ _ _ _ _ _ _ _ _ _ _ _ _ _ _ _ _ _ _ _ _ _ _ _ _ w2 xa A5 nE cE c5 w.heap.size e1 e0 i j E hij hlt h40 HE1.out HE0.out A0'.out A1.out XA.out c1 c0 B2.out.size O2 _ ?_
        rintro t7 t38 t39 t40 t41 t42 t43 t44 t45 t46 t47 t48 t49 t50 w3 ⟨A', c', rfl, o3, b3⟩
        have O3 := Lib.hid o3
        have B3 := Lib.hid (B2.out.trans b3)
        clear o3 b3 O2 c1 c0
        go_wp2_with fail
        exact ⟨⟨i + 1, j + 1, A', c', by omega, by omega, by go_num, rfl, O3.out, B3.out, fun a b h1 h2 => by
          have := HLE.out
          rcases Nat.lt_or_ge b i with h | h
          · exact Q3.out a b h1 h
          · obtain rfl : b = i := by omega
            rw [G1.out]
            rcases Nat.lt_or_ge a j with h3 | h3
            · have := Q3.out a j h3 (by omega)
              rw [G0.out] at this; omega
            · obtain rfl : a = j := by omega
              rw [G0.out]; omega⟩, by simp [intOf]; omega⟩
    · have hj40 : j ≤ 40 := by omega
      obtain ⟨gA, hgA⟩ : ∃ gA, 0 < j → A5 = some ⟨gA, 0, none⟩ ∧ gA < wr.heap.size := by
        rcases Q1.out.2 with ⟨e, h0⟩ | ⟨g, cap, cur, e, _⟩
        · exact ⟨0, fun h => by omega⟩
        · injection e with e1 e2 e3
          exact ⟨g, fun _ => ⟨e1, (Q1.out.lt g (by rw [e1]; rfl)).2⟩⟩
      have RO : Hid (RowOK E j gA w wr) := ⟨Q2.out, Q2.out.size, fun h => (hgA h).2, fun k hk => by
        obtain ⟨rfl, _⟩ := hgA (by omega)
        exact rws_cells (n := 68) (c := vc) (LL := rowS E j) (base := w.heap.size) (cap := c5) vc_len (by rw [rowS_len]; exact Q1.out) (rowS_at E j k hk)⟩
      have HA : Hid (0 < j → A5 = some ⟨gA, 0, none⟩) := fun h => (hgA h).1
      have OK : Hid (∀ a b, a < j → b < j → brk (lkS E a) (lkS E b) = false) := fun a b ha hb => steps_ok (fun x y h1 h2 => Q3.out x y h1 (by omega)) HE.out ha hb
      clear hgA Q1 Q2 Q3 hi
      go_wp2_with fail
      go_loopw [9] (fun v9 u => ∃ a, a ≤ j ∧ v9 = .int .i64 (a : Int) ∧ RowOK E j gA w u) (fun v9 _ => j - (intOf v9).toNat)
      case atStart => exact ⟨0, Nat.zero_le _, rfl, RO.out⟩
      case round =>
        clear RO
        obtain ⟨a, ha, rfl, q1⟩ := hrel
        have RO := Lib.hid q1
        clear q1
        by_cases haj : a < j
        · go_wp2_with fail
          go_loopw [10] (fun v10 u => ∃ b, b ≤ j ∧ v10 = .int .i64 (b : Int) ∧ RowOK E j gA w u) (fun v10 _ => j - (intOf v10).toNat)
          case atStart => exact ⟨0, Nat.zero_le _, rfl, RO.out⟩
          case round =>
            clear RO
            obtain ⟨b, hb, rfl, q1⟩ := hrel
            have RO := Lib.hid q1
            clear q1
            by_cases hbj : b < j
            · obtain rfl := HA.out (by omega)
              go_wp2_with fail
              refine ss_r16 _ _ _ _ _ _ _ _ _ _ _ _ _ _ _ _ _ _ _ _ _ _ _ _ _ _ _ _ _ _ _ _ _ _ _ _ _ _ _ _ _ _ _ _ _ _ _ _ _ _ _ _ _ _ _ _ _ _ _ _ _ _ _ _ _ _ _ _ _ _ _ _ _ _ _ _ _ _ _ _ _ _ _ _ _ _ _ _ _ _ _ _ _ _ _ _ _ _ _ _ _ _ _ _ _ _ _ _ _ _ _ _ _ _ _ _ _ _ _ _ _ _ _ _ _ _ _ _ _ _ _ _ _ _ _ _ wr gA c5 j a b (lkS E a) (lkS E b) haj hbj hj40 (RO.out.2.2.1 (by omega)) (RO.out.2.2.2 a haj) (RO.out.2.2.2 b hbj) _ ?_
              intro t63 t64 t65 t66 t67 t68 t69 t70 w2 b2
              rw [OK.out a b haj hbj]
              have R2 := Lib.hid (RO.out.below b2)
              clear b2
              go_wp2_with fail
              exact ⟨⟨b + 1, by omega, by go_num, R2.out⟩, by simp [intOf]; omega⟩
            · obtain rfl : b = j := by omega
              go_wp2_with fail
              exact ⟨⟨a + 1, by omega, by go_num, RO.out⟩, by simp [intOf]; omega⟩
        · obtain rfl : a = j := by omega
          go_wp2_with fail
          refine (vote_c s t HST.out.1 HST.out.2 wr).mono ?_
          rintro e w1 ⟨rfl, b1⟩
          obtain ⟨q, hq⟩ : ∃ q, q = lkE s t HST.out.1 HST.out.2 := ⟨_, rfl⟩
          rw [← hq]
          have BQ : Hid (∀ m, brk (lkS E m) q = brkE (lkS E m).s.e (lkS E m).t.e s t) := fun m => by rw [hq]; exact brkE_brk E m s t HST.out.1 HST.out.2 HE.out
          obtain ⟨w2, hw2⟩ : ∃ w2, w2 = w1.alloc (.cells (vtw 1 q noSig) 29) := ⟨_, rfl⟩
          have b2 : Below w1.heap.size w1 w2 := by rw [hw2]; exact (Below.refl _ _).alloc (Nat.le_refl _) _
          have VQ : Hid (VtK w1.heap.size 1 q noSig w2) := by rw [hw2]; exact VtK.new
          have R2 := Lib.hid ((RO.out.below b1).below b2)
          have HW2 := Lib.hid hw2
          clear b1 b2 hw2 hq RO
          go_wp2_with (first
            | (refine wpList_store_row rfl 29 (.tmp 11) (.tmp 74) rfl w1.heap.size (vtw 1 q noSig) rfl rfl 29 (vtw 0 lkZ noSig) (heap_alloc_new w1 _) (size_vtw 1 q noSig) (by rw [show (vtw 1 q noSig).size = 68 from rowV_size _ _]; exact rowV_size _ _) (rowV_one 68 _ (vtf_one 1 q noSig rfl)) ?_; rw [World.setRow_alloc_new, ← HW2.out])
            | fail)
          obtain ⟨gx, hgx⟩ : ∃ gx, gx = w1.heap.size := ⟨_, rfl⟩
          rw [← hgx] at VQ ⊢
          clear hgx HW2
          go_loopw [12, 13, 14] (fun v12 v13 v14 u => ∃ (k : Nat) (sb : Bool), k ≤ a ∧ v14 = .int .i64 (k : Int) ∧ v12 = .bool sb ∧ v13 = .bool sb ∧ RowOK E a gA w u ∧ VtK gx 1 q noSig u) (fun _ _ v14 _ => a - (intOf v14).toNat)
          case atStart => exact ⟨0, false, Nat.zero_le _, rfl, rfl, rfl, R2.out, VQ.out⟩
          case round =>
            clear R2 VQ
            obtain ⟨k, sb, hk, rfl, rfl, rfl, q1, q2⟩ := hrel
            have RO := Lib.hid q1
            have VQ := Lib.hid q2
            clear q1 q2
            by_cases hkj : k < a
            · obtain rfl := HA.out (by omega)
              have key : ∀ (w3 : World), Below wr.heap.size wr w3 → RowOK E a gA w w3 ∧ VtK gx 1 q noSig w3 := fun w3 b => ⟨RO.out.below b, VQ.out.below b VQ.out.lt⟩
              have KY := Lib.hid key
              clear key
              cases sb
              · go_wp2_with fail
                refine ss_r23f _ _ _ _ _ _ _ _ _ _ _ _ _ _ _ _ _ _ _ _ _ _ _ _ _ _ _ _ _ _ _ _ _ _ _ _ _ _ _ _ _ _ _ _ _ _ _ _ _ _ _ _ _ _ _ _ _ _ _ _ _ _ _ _ _ _ _ _ _ _ _ _ _ _ _ _ _ _ _ _ _ _ _ _ _ _ _ _ _ _ _ _ _ _ _ _ _ _ _ _ _ _ _ _ _ _ _ _ _ _ _ _ _ _ _ _ _ _ _ _ _ _ _ _ _ _ _ _ _ _ _ _ _ _ _ wr gA c5 a k gx (lkS E k) q hkj hj40 (RO.out.2.2.1 (by omega)) (RO.out.2.2.2 k hkj) VQ.out _ ?_
                intro t81 t82 t83 t84 t85 t86 t87 t88 t89 w2 b2
                have R2 := Lib.hid (RO.out.below b2)
                have V2 := Lib.hid (VQ.out.below b2 VQ.out.lt)
                clear b2 KY
                go_wp2_with fail
                refine ss_r24 _ _ _ _ _ _ _ _ _ _ _ _ _ _ _ _ _ _ _ _ _ _ _ _ _ _ _ _ _ _ _ _ _ _ _ _ _ _ _ _ _ _ _ _ _ _ _ _ _ _ _ _ _ _ _ _ _ _ _ _ _ _ _ _ _ _ _ _ _ _ _ _ _ _ _ _ _ _ _ _ _ _ _ _ _ _ _ _ _ _ _ _ _ _ _ _ _ _ _ _ _ _ _ _ _ _ _ _ _ _ _ _ _ _ _ _ _ _ _ _ _ _ _ _ _ _ _ _ _ _ _ _ _ _ _ _ _ w2 gA c5 a k (lkS E k) hkj hj40 (R2.out.2.2.1 (by omega)) (R2.out.2.2.2 k hkj) _ ?_
                intro t90 t91 t92 t93 t94 t95 t96 t97 t98 t99 t100 t101 w3 b3
                have R3 := Lib.hid (R2.out.below b3)
                have V3 := Lib.hid (V2.out.below b3 V2.out.lt)
                clear b3
                go_upto_region 25 with fail
                refine ss_r25 _ _ _ _ _ _ _ _ _ _ _ _ _ _ _ _ _ _ _ _ _ _ _ _ _ _ _ _ _ _ _ _ _ _ _ _ _ _ _ _ _ _ _ _ _ _ _ _ _ _ _ _ _ _ _ _ _ _ _ _ _ _ _ _ _ _ _ _ _ _ _ _ _ _ _ _ _ _ _ _ _ _ _ _ _ _ _ _ _ _ _ _ _ _ _ _ _ _ _ _ _ _ _ _ _ _ _ _ _ _ _ _ _ _ _ _ _ _ _ _ _ _ _ _ _ _ _ _ _ _ _ _ _ _ w3 (lkS E k).s.e (lkS E k).t.e s t false _ ?_
                rintro t102 t103 t104 t105 t106 t107 t108 t109 t110 t111 t112 t113 t114 t115 t116 t117 t118 t119 t120 t121 t122 t123 t124 t125 t126 t127 t128 t129 t130 t131 t132 w4 rfl
                rw [Bool.false_or, ← BQ.out k]
                go_wp2_with fail
                exact ⟨⟨k + 1, _, by omega, by go_num, rfl, rfl, R3.out, V3.out⟩, by simp [intOf]; omega⟩
              · go_wp2_with fail
                refine ss_r23t _ _ _ _ _ _ _ _ _ _ _ _ _ _ _ _ _ _ _ _ _ _ _ _ _ _ _ _ _ _ _ _ _ _ _ _ _ _ _ _ _ _ _ _ _ _ _ _ _ _ _ _ _ _ _ _ _ _ _ _ _ _ _ _ _ _ _ _ _ _ _ _ _ _ _ _ _ _ _ _ _ _ _ _ _ _ _ _ _ _ _ _ _ _ _ _ _ _ _ _ _ _ _ _ _ _ _ _ _ _ _ _ _ _ _ _ _ _ _ _ _ _ _ _ _ _ _ _ _ _ _ _ _ _ _ wr gA c5 a k gx (lkS E k) q hkj hj40 (RO.out.2.2.1 (by omega)) (RO.out.2.2.2 k hkj) VQ.out _ ?_
                intro t81 t82 t83 t84 t85 t86 t87 t88 t89 w2 b2
                have R2 := Lib.hid (RO.out.below b2)
                have V2 := Lib.hid (VQ.out.below b2 VQ.out.lt)
                clear b2 KY
                go_wp2_with fail
                refine ss_r24 _ _ _ _ _ _ _ _ _ _ _ _ _ _ _ _ _ _ _ _ _ _ _ _ _ _ _ _ _ _ _ _ _ _ _ _ _ _ _ _ _ _ _ _ _ _ _ _ _ _ _ _ _ _ _ _ _ _ _ _ _ _ _ _ _ _ _ _ _ _ _ _ _ _ _ _ _ _ _ _ _ _ _ _ _ _ _ _ _ _ _ _ _ _ _ _ _ _ _ _ _ _ _ _ _ _ _ _ _ _ _ _ _ _ _ _ _ _ _ _ _ _ _ _ _ _ _ _ _ _ _ _ _ _ _ _ _ w2 gA c5 a k (lkS E k) hkj hj40 (R2.out.2.2.1 (by omega)) (R2.out.2.2.2 k hkj) _ ?_
                intro t90 t91 t92 t93 t94 t95 t96 t97 t98 t99 t100 t101 w3 b3
                have R3 := Lib.hid (R2.out.below b3)
                have V3 := Lib.hid (V2.out.below b3 V2.out.lt)
                clear b3
                go_upto_region 25 with fail
                refine ss_r25 _ _ _ _ _ _ _ _ _ _ _ _ _ _ _ _ _ _ _ _ _ _ _ _ _ _ _ _ _ _ _ _ _ _ _ _ _ _ _ _ _ _ _ _ _ _ _ _ _ _ _ _ _ _ _ _ _ _ _ _ _ _ _ _ _ _ _ _ _ _ _ _ _ _ _ _ _ _ _ _ _ _ _ _ _ _ _ _ _ _ _ _ _ _ _ _ _ _ _ _ _ _ _ _ _ _ _ _ _ _ _ _ _ _ _ _ _ _ _ _ _ _ _ _ _ _ _ _ _ _ _ _ _ _ w3 (lkS E k).s.e (lkS E k).t.e s t true _ ?_
                rintro t102 t103 t104 t105 t106 t107 t108 t109 t110 t111 t112 t113 t114 t115 t116 t117 t118 t119 t120 t121 t122 t123 t124 t125 t126 t127 t128 t129 t130 t131 t132 w4 rfl
                rw [Bool.true_or]
                go_wp2_with fail
                exact ⟨⟨k + 1, true, by omega, by go_num, rfl, rfl, R3.out, V3.out⟩, by simp [intOf]; omega⟩
            · obtain rfl : k = a := by omega
              have d9 : (sb == sb) = true := beq_self_eq_true _
              go_wp2_with fail
              refine (known_c wr).mono ?_
              rintro e w3 ⟨rfl, bk⟩
              go_wp2_with fail
              go_ret
              exact ⟨rfl, RO.out.1.trans (bk.mono RO.out.2.1)⟩
end Go.Proofs.Ytildenhbcpgiiaa
