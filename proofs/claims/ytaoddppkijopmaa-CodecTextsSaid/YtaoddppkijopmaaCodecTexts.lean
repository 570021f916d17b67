/- CodecTexts: its walk. -/
import Derived.Test.YtaoddppkijopmaaCtxR
import Derived.Test.YtaoddppkijopmaaHoMuch
namespace Go.Proofs.Ytaoddppkijopmaa
open Go.ChangeShapes Go.WideShapes Go.ChangeAt Go.RowKit
set_option linter.unusedVariables false
set_option maxRecDepth 100000

theorem VtB.all68 {g : Nat} {n : Int} {e1 e2 : Nat} {l1 l2 : List UInt8} {sv : Value} {w : World} (h : VtB g n e1 l1 e2 l2 sv w) : w.rangeAt g 0 ((List.range 68).map (vtF n e1 l1 e2 l2 sv)) := fun j v hv => by
  have hj : j < 68 := by
    rcases Nat.lt_or_ge j 68 with h | h
    · exact h
    · rw [List.getElem?_eq_none (by simp; omega)] at hv; cases hv
  rw [List.getElem?_map, List.getElem?_range hj] at hv
  rw [Nat.zero_add, Fill.at_ h j (by omega), ← hv]
  rfl
set_option maxRecDepth 1000000 in
set_option maxHeartbeats 16000000 in
theorem codecTexts_any (a b : Ve) (BA BB : Option Addr) (ca cb : Nat) (h : Hd) (A : Option Addr) (c : Nat) (w : World) (hA : HosAt w A h.ops) :
    Calls Try.prog 4 #[.agg (a.v BA ca), .agg (b.v BB cb), .agg (h.v A c)] w fun e w' => e = .returned (.bool true) ∧ Below w.heap.size w w' := by
  obtain ⟨HX, hHX⟩ : ∃ V, V = h.v A c := ⟨_, rfl⟩
  obtain ⟨la, hla⟩ : ∃ n, n = a.s.length := ⟨_, rfl⟩
  obtain ⟨lb, hlb⟩ : ∃ n, n = b.s.length := ⟨_, rfl⟩
  obtain ⟨VX, hVX⟩ : ∃ V, V = vtV a.n a.e1 a.l1 a.e2 a.l2 (.slice BA la ca) := ⟨_, rfl⟩
  obtain ⟨OX, hOX⟩ : ∃ V, V = vtV b.n b.e1 b.l1 b.e2 b.l2 (.slice BB lb cb) := ⟨_, rfl⟩
  have EV := Lib.hid (show a.v BA ca = VX by rw [hVX, hla]; rfl)
  have EO := Lib.hid (show b.v BB cb = OX by rw [hOX, hlb]; rfl)
  obtain ⟨W0, hW0⟩ : ∃ W, W = w.alloc (.cells VX 32) := ⟨_, rfl⟩
  obtain ⟨W1, hW1⟩ : ∃ W, W = W0.alloc (.cells OX 32) := ⟨_, rfl⟩
  obtain ⟨W, hW⟩ : ∃ W, W = W1.alloc (.cells HX 27) := ⟨_, rfl⟩
  have b0 : Below w.heap.size w W0 := by rw [hW0]; exact (Below.refl _ _).alloc (Nat.le_refl _) _
  have b1 : Below W0.heap.size W0 W1 := by rw [hW1]; exact (Below.refl _ _).alloc (Nat.le_refl _) _
  have b2 : Below W1.heap.size W1 W := by rw [hW]; exact (Below.refl _ _).alloc (Nat.le_refl _) _
  have z0 : W0.heap.size = w.heap.size + 1 := by rw [hW0]; simp
  have z1 : W1.heap.size = w.heap.size + 2 := by rw [hW1]; simp [z0]
  have va0 : VtB w.heap.size a.n a.e1 a.l1 a.e2 a.l2 (.slice BA la ca) W0 := by rw [hW0, hVX]; exact VtB.new
  have vb0 : VtB (w.heap.size + 1) b.n b.e1 b.l1 b.e2 b.l2 (.slice BB lb cb) W1 := by rw [← z0, hW1, hOX]; exact VtB.new
  have hr0 : W.heap[w.heap.size + 2]? = some (.cells HX 27 (0, 0)) := by rw [← z1, hW]; exact heap_alloc_new W1 _
  have va := (va0.below b1 va0.lt).below b2 (Nat.lt_of_lt_of_le va0.lt b1.size)
  have vb := vb0.below b2 vb0.lt
  have HBW := Lib.hid (b0.trans ((b1.trans (b2.mono b1.size)).mono b0.size))
  have HW : Hid (W = ((w.alloc (.cells VX 32)).alloc (.cells OX 32)).alloc (.cells HX 27)) := by show _ = _; rw [hW, hW1, hW0]
  obtain ⟨x, hx⟩ : ∃ x, x = w.heap.size := ⟨_, rfl⟩
  rw [← hx] at va vb hr0
  have k1 := va.sig
  have k2 := vb.sig
  have VA := Lib.hid va
  have VB := Lib.hid vb
  have HR := Lib.hid hr0
  have HX9 := Lib.hid hx
  have RH : Hid (∀ u, Below W.heap.size W u → u.rangeAt (x + 1 + 1) 0 HX.toList) := fun u hu j v hv => by
    rw [Nat.zero_add, cell_of_row u (x + 1 + 1) j _ _ (0, 0) ((hu.block (x + 1 + 1) (by
      rcases Nat.lt_or_ge (x + 1 + 1) W.heap.size with h | h
      · exact h
      · have := HR.out; rw [Array.getElem?_eq_none h] at this; cases this)).trans HR.out)]
    simpa using hv
  have HSZ := Lib.hid (show (Try.prog.info? 27).map (·.size) = some HX.size by rw [hHX]; exact h.size A c)
  have HA := Lib.hid (hA.below HBW.out)
  have HM := Lib.hid (show ∀ u, Below W.heap.size W u → Calls Try.prog 7 #[.agg HX] u fun e w' => ∃ b, e = .returned (.bool b) ∧ (b = false → h.Few) ∧ Below u.heap.size u w' from fun u hu => by rw [hHX]; exact refMuch_c h A c u (HA.out.below hu))
  have HMH := Lib.hid (show ∀ u, Below W.heap.size W u → Calls Try.prog 17 #[.agg HX] u fun e w' => e = .returned (.bool h.may) ∧ Below u.heap.size u w' from fun u hu => by rw [hHX]; exact refMayHeader_c h A c u (HA.out.below hu))
  have HNT := Lib.hid (show h.may = true → ∀ u, Below W.heap.size W u → Calls Try.prog 18 #[.agg HX] u (RNewP u (headSignL ++ h.b)) from fun hm u hu => by rw [hHX]; exact refNameText_c h A c u (HA.out.below hu) hm)
  have TXA := Lib.hid (show ∀ u, Calls Try.prog 16 #[.agg VX] u fun e w' => ∃ X en, e = .returned (.tuple #[X, .int .i64 en]) ∧ ToldV (mayVt a.n a.e1 a.e2 la) X en (txL a.n.toNat a.e1 a.l1 a.e2 a.l2) w' ∧ Below u.heap.size u w' from fun u => by rw [hVX]; exact text_any a.n a.e1 a.l1 a.e2 a.l2 la BA ca u a.h1 a.h2)
  have TXB := Lib.hid (show ∀ u, Calls Try.prog 16 #[.agg OX] u fun e w' => ∃ X en, e = .returned (.tuple #[X, .int .i64 en]) ∧ ToldV (mayVt b.n b.e1 b.e2 lb) X en (txL b.n.toNat b.e1 b.l1 b.e2 b.l2) w' ∧ Below u.heap.size u w' from fun u => by rw [hOX]; exact text_any b.n b.e1 b.l1 b.e2 b.l2 lb BB cb u b.h1 b.h2)
  have SZA := Lib.hid (show (Try.prog.info? 32).map (·.size) = some VX.size by rw [hVX]; exact size_vtV _ _ _ _ _ _)
  have SZB := Lib.hid (show (Try.prog.info? 32).map (·.size) = some OX.size by rw [hOX]; exact size_vtV _ _ _ _ _ _)
  have RA : Hid (∀ u, Below W.heap.size W u → u.rangeAt x 0 VX.toList) := fun u hu => by
    have := (VA.out.below hu VA.out.lt).all68
    rw [hVX]
    unfold vtV
    rw [rowV_list]
    exact this
  have RB : Hid (∀ u, Below W.heap.size W u → u.rangeAt (x + 1) 0 OX.toList) := fun u hu => by
    have := (VB.out.below hu VB.out.lt).all68
    rw [hOX]
    unfold vtV
    rw [rowV_list]
    exact this
  rw [EV.out, EO.out, ← hHX]
  clear hla hlb hHX hVX hOX hW0 hW1 hW b0 b1 b2 z0 z1 va0 vb0 va vb hr0 hA
  go_enter Try.func4, Try.ntmps4
  go_upto_region 1 with fail
  rw [← HW.out, ← hx]
  clear hx
  by_cases p1 : 9000 < la
  · have g1 : decide ((9000 : Int) < (la : Int)) = true := by simp; omega
    go_wp2_with fail
    refine (known_c W).mono ?_
    rintro e w1 ⟨rfl, b1⟩
    go_wp2_with fail
    go_ret
    exact ⟨rfl, HBW.out.trans (b1.mono HBW.out.size)⟩
  have g1 : decide ((9000 : Int) < (la : Int)) = false := by simp; omega
  by_cases p2 : 9000 < lb
  · have g2 : decide ((9000 : Int) < (lb : Int)) = true := by simp; omega
    go_wp2_with fail
    refine (known_c W).mono ?_
    rintro e w1 ⟨rfl, b1⟩
    go_wp2_with fail
    go_ret
    exact ⟨rfl, HBW.out.trans (b1.mono HBW.out.size)⟩
  have g2 : decide ((9000 : Int) < (lb : Int)) = false := by simp; omega
  go_wp2_with (first
    | (refine BigFrame.wpList_want rfl (fun K hK => ?_); refine wp_load_midC 27 (.tmp 5) rfl (x + 1 + 1) 0 (by go_simp) HX.toList HX (by simp) _ (RH.out W (Below.refl _ _)) Try.underlying27 rfl HSZ.out ?_; refine hK _ _ ?_; clear hK K)
    | fail)
  refine (HM.out W (Below.refl _ _)).mono ?_
  rintro e w1 ⟨mu, rfl, -, b1⟩
  have B1 := Lib.hid b1
  clear b1 g1 g2 p1 p2 k1 k2
  cases mu
  rotate_left
  · go_wp2_with fail
    refine (known_c w1).mono ?_
    rintro e w2 ⟨rfl, b2⟩
    go_wp2_with fail
    go_ret
    exact ⟨rfl, HBW.out.trans ((B1.out.trans (b2.mono B1.out.size)).mono HBW.out.size)⟩
  go_wp2_with (first
    | (refine wpList_load_mid rfl 32 (.tmp 3) rfl x 0 (by go_simp) VX.toList _ (RA.out w1 B1.out) Try.underlying32 rfl (by simpa using SZA.out) ?_; rw [Array.toArray_toList])
    | fail)
  refine (TXA.out w1).mono ?_
  rintro e w2 ⟨X7, en, rfl, t7, b2⟩
  have T7 := Lib.hid t7
  have B2 := Lib.hid (B1.out.trans (b2.mono B1.out.size))
  clear t7 b2
  go_wp2_with (first
    | (refine wpList_load_mid rfl 32 (.tmp 4) rfl (x + 1) 0 (by go_simp) OX.toList _ (RB.out w2 B2.out) Try.underlying32 rfl (by simpa using SZB.out) ?_; rw [Array.toArray_toList])
    | fail)
  refine (TXB.out w2).mono ?_
  rintro e w3 ⟨X9, eg, rfl, t9, b3⟩
  have T9 := Lib.hid t9
  have T7' := Lib.hid (T7.out.below b3)
  have B3 := Lib.hid (B2.out.trans (b3.mono B2.out.size))
  clear t9 b3
  rcases T7'.out with ⟨ma, rfl, A7, c7, rfl, r7⟩ | ⟨ma, rfl, rfl⟩
  rotate_left
  · rcases T9.out with ⟨mb, rfl, A9, c9, rfl, r9⟩ | ⟨mb, rfl, rfl⟩
    all_goals
      go_wp2_with (go_at_call 9; refine (num_c _ _).mono ?_; rintro e w9 ⟨rfl, rfl⟩)
      refine (known_c _).mono ?_
      rintro e w4 ⟨rfl, b4⟩
      go_wp2_with fail
      go_ret
      exact ⟨rfl, HBW.out.trans ((B3.out.trans (b4.mono B3.out.size)).mono HBW.out.size)⟩
  rcases T9.out with ⟨mb, rfl, A9, c9, rfl, r9⟩ | ⟨mb, rfl, rfl⟩
  rotate_left
  · go_wp2_with (go_at_call 9; refine (num_c _ _).mono ?_; rintro e w9 ⟨rfl, rfl⟩)
    refine (known_c _).mono ?_
    rintro e w4 ⟨rfl, b4⟩
    go_wp2_with fail
    go_ret
    exact ⟨rfl, HBW.out.trans ((B3.out.trans (b4.mono B3.out.size)).mono HBW.out.size)⟩
  have R7 := Lib.hid r7
  have R9 := Lib.hid r9
  have MA := Lib.hid ma
  have MB := Lib.hid mb
  clear r7 r9 ma mb
  obtain ⟨na, ena, hna⟩ := mayVt_nat MA.out
  obtain ⟨nb, enb, hnb⟩ := mayVt_nat MB.out
  obtain ⟨q, hq⟩ : ∃ q, q = (decide (a.n = b.n) && (a.e1 == b.e1 && a.l1 == b.l1) && (a.e2 == b.e2 && a.l2 == b.l2)) := ⟨_, rfl⟩
  obtain ⟨LA, hLA⟩ : ∃ L, L = txL a.n.toNat a.e1 a.l1 a.e2 a.l2 := ⟨_, rfl⟩
  obtain ⟨LB, hLB⟩ : ∃ L, L = txL b.n.toNat b.e1 b.l1 b.e2 b.l2 := ⟨_, rfl⟩
  have lenA : LA.length = 85 := by rw [hLA]; unfold txL; rw [List.length_append, lkL_length _ _ _ _ _ a.h1 a.h2]; rfl
  have lenB : LB.length = 85 := by rw [hLB]; unfold txL; rw [List.length_append, lkL_length _ _ _ _ _ b.h1 b.h2]; rfl
  have hqL : q = decide (LA = LB) := by
    rw [hq, Bool.eq_iff_iff, decide_eq_true_eq]
    simp only [Bool.and_eq_true, decide_eq_true_eq, beq_iff_eq]
    constructor
    · rintro ⟨⟨h1, h2, h3⟩, h4, h5⟩
      rw [hLA, hLB, h1, h2, h3, h4, h5]
    · intro e
      rw [hLA, hLB] at e
      have := txL_inj (by rw [ena]; simpa using hna) (by rw [enb]; simpa using hnb) a.b1 b.b1 a.b2 b.b2 a.h1 b.h1 e
      exact ⟨⟨by rw [ena, enb] at this ⊢; exact congrArg (fun k : Nat => (k : Int)) (by simpa using this.1), this.2.1⟩, this.2.2⟩
  have HNE : Hid (∀ L, LA ≠ headSignL ++ L) := fun L e => by
    rw [hLA] at e
    injection e with e
    exact absurd e (by decide)
  rw [← hLA] at R7 ⊢
  rw [← hLB] at R9 ⊢
  rw [lenA, lenB]
  have HLA := Lib.hid lenA
  have HLB := Lib.hid lenB
  have HQL := Lib.hid hqL
  have HQQ := Lib.hid hq
  clear ena hna enb hnb hLA hLB lenA lenB hqL hq
  go_upto_region 7 with (go_at_call 9; refine (num_c _ _).mono ?_; rintro e w9 ⟨rfl, rfl⟩)
  refine ctx_r7 _ _ _ _ _ _ _ _ _ _ _ _ _ _ _ _ _ _ _ _ _ _ _ _ _ _ _ _ _ _ _ _ _ _ _ _ _ _ _ _ _ _ _ _ _ _ _ _ _ _ _ _ _ _ _ _ _ _ _ _ _ _ _ _ _ _ _ _ _ _ _ _ _ _ _ _ _ _ _ _ _ _ _ _ _ _ _ w3 x (x + 1) a.n b.n a.e1 a.e2 b.e1 b.e2 a.l1 a.l2 b.l1 b.l2 _ _ (VA.out.below B3.out VA.out.lt) (VB.out.below B3.out VB.out.lt) a.h1 a.h2 b.h1 b.h2 _ ?_
  intro t0 t1 t2 t3 t4 t5 t6 t7 t8 t9 t10 t11 t12 t13 t14 t15 t16 t17 t18 w4 e4
  obtain rfl : w4 = w3 := e4
  dsimp only
  rw [← HQQ.out]
  have h1 := run_str R7.out 85 c7 HLA.out.symm
  have h2 := run_str R9.out 85 c9 HLB.out.symm
  unfold strOf at h1 h2
  obtain ⟨sa, hsa⟩ : ∃ s : ByteArray, s = ⟨LA.toArray⟩ := ⟨_, rfl⟩
  obtain ⟨sb, hsb⟩ : ∃ s : ByteArray, s = ⟨LB.toArray⟩ := ⟨_, rfl⟩
  rw [← hsa] at h1
  rw [← hsb] at h2
  have h3 : (sa.toList == sb.toList) = q := by
    rw [hsa, hsb, ByteArray.toList_eq, ByteArray.toList_eq, HQL.out, Bool.eq_iff_iff, beq_iff_eq, decide_eq_true_eq]
  clear hsa hsb
  have CK := Lib.hid (show ∀ u, Below w4.heap.size w4 u → u.rangeAt (x + 1 + 1) 0 HX.toList ∧ Rd u 0 w4.heap.size A7 LA from fun u hu => ⟨RH.out u (B3.out.trans (hu.mono B3.out.size)), R7.out.below hu (Nat.le_refl _)⟩)
  cases q
  all_goals
    go_upto_region 10 with fail
    clear h1 h2 h3
    cases hm : h.may
    · refine ctx_r10f _ _ _ _ _ _ _ _ _ _ _ _ _ _ _ _ _ _ _ _ _ _ _ _ _ _ _ _ _ _ _ _ _ _ _ _ _ _ _ _ _ _ _ _ _ _ _ _ _ _ _ _ _ _ _ _ _ _ _ _ _ _ _ _ _ _ _ _ _ _ _ _ _ _ _ _ _ _ _ _ _ _ _ _ _ _ _ w4 (x + 1 + 1) w4.heap.size c7 85 HX.toList HX A7 LA HLA.out.symm (Array.toArray_toList) HSZ.out CK.out (fun u hu => by have := HMH.out u (B3.out.trans (hu.mono B3.out.size)); rw [hm] at this; exact this) _ ?_
      intro t0 t1 t2 t3 t4 t5 t6 t7 t8 t9 t10 t11 t12 t13 w5 b5
      have B5 := Lib.hid (B3.out.trans (b5.mono B3.out.size))
      clear b5
      go_wp2_with fail
      go_ret
      exact ⟨rfl, HBW.out.trans (B5.out.mono HBW.out.size)⟩
    · refine ctx_r10t _ _ _ _ _ _ _ _ _ _ _ _ _ _ _ _ _ _ _ _ _ _ _ _ _ _ _ _ _ _ _ _ _ _ _ _ _ _ _ _ _ _ _ _ _ _ _ _ _ _ _ _ _ _ _ _ _ _ _ _ _ _ _ _ _ _ _ _ _ _ _ _ _ _ _ _ _ _ _ _ _ _ _ _ _ _ _ w4 (x + 1 + 1) w4.heap.size c7 85 HX.toList HX A7 LA HLA.out.symm (Array.toArray_toList) HSZ.out CK.out (fun u hu => by have := HMH.out u (B3.out.trans (hu.mono B3.out.size)); rw [hm] at this; exact this) (headSignL ++ h.b) (HNE.out _) (fun u hu => HNT.out hm u (B3.out.trans (hu.mono B3.out.size))) _ ?_
      intro t0 t1 t2 t3 t4 t5 t6 t7 t8 t9 t10 t11 t12 t13 w5 b5
      have B5 := Lib.hid (B3.out.trans (b5.mono B3.out.size))
      clear b5
      go_wp2_with fail
      go_ret
      exact ⟨rfl, HBW.out.trans (B5.out.mono HBW.out.size)⟩
end Go.Proofs.Ytaoddppkijopmaa
