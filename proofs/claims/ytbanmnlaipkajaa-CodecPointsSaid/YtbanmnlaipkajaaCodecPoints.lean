/- The walk of CodecPoints. -/
import Derived.Test.YtbanmnlaipkajaaCdPtsR
namespace Go.Proofs.Ytbanmnlaipkajaa
open Go.ChangeShapes Go.WideShapes Go.ChangeAt Go.RowKit
set_option linter.unusedVariables false
set_option maxRecDepth 100000

theorem pofV_pt (l : List UInt8) : ∃ (e : Nat) (x : List UInt8), pofV l = ptV e x ∧ x.length = 32 := by
  unfold pofV
  split
  · exact ⟨_, _, rfl, hashR_len _⟩
  · exact ⟨0, zeros, rfl, zeros_len⟩
theorem points_long (e0 e1 : Nat) (l0 l1 : List UInt8) (A : Option Addr) (c n : Nat) (w : World) (hn : 9000 < n) :
    Calls Try.prog 3 #[.agg (ptV e0 l0), .agg (ptV e1 l1), .slice A n c] w fun e w' => e = .returned (.bool true) ∧ Below w.heap.size w w' := by
  have d1 : decide ((n : Int) > 9000) = true := by simp; omega
  have d1' : decide (9000 < n) = true := by simpa using hn
  have d2 : decide ((9000 : Int) < (n : Int)) = true := by simp; omega
  clear hn
  have b0 : ∀ o1 o2, Below w.heap.size w ((w.alloc o1).alloc o2) := fun o1 o2 => ((Below.refl _ _).alloc (Nat.le_refl _) _).alloc (by simp) _
  go_enter Try.func3, Try.ntmps3
  go_wp2_with (go_at_call 10; refine (known_c _).mono ?_; rintro e w4 ⟨rfl, b4⟩)
  go_ret
  exact ⟨rfl, (b0 _ _).trans (b4.mono (b0 _ _).size)⟩
/-- What PointBytes answers, in either case. -/
def PbQ (w : World) (e : Nat) (l : List UInt8) (x : Ending) (w' : World) : Prop :=
  (e ≤ 4611686018427387904 ∧ RowP w (ptL e l) x w') ∨ (4611686018427387904 < e ∧ NoP w x w')
theorem pointBytes_anyQ (e : Nat) (l : List UInt8) (w : World) (hl : l.length = 32) : Calls Try.prog 11 #[.agg (ptV e l)] w (PbQ w e l) := by
  by_cases h : e ≤ 4611686018427387904
  · exact (pointBytes_ok e l w h hl).mono fun _ _ hp => .inl ⟨h, hp⟩
  · exact (pointBytes_no e l w (by omega)).mono fun _ _ hp => .inr ⟨by omega, hp⟩
set_option maxHeartbeats 4000000 in
theorem codecPoints_any (e0 e1 : Nat) (l0 l1 l : List UInt8) (A : Option Addr) (c : Nat) (w : World) (he0 : e0 < 18446744073709551616) (he1 : e1 < 18446744073709551616) (hl0 : l0.length = 32) (hl1 : l1.length = 32) (h : Rd w 0 w.heap.size A l) (hl : l.length ≤ 9000) (hc : l.length ≤ c) :
    Calls Try.prog 3 #[.agg (ptV e0 l0), .agg (ptV e1 l1), .slice A l.length c] w fun e w' => e = .returned (.bool true) ∧ Below w.heap.size w w' := by
  have hz := zero_pt0
  obtain ⟨W, hW⟩ : ∃ W, W = (w.alloc (.cells (ptV e0 l0) 26)).alloc (.cells (ptV e1 l1) 26) := ⟨_, rfl⟩
  have hb : Below w.heap.size w W := by rw [hW]; exact ((Below.refl _ _).alloc (Nat.le_refl _) _).alloc (by simp) _
  have p0 : PtB w.heap.size e0 l0 W := by rw [hW]; exact PtB.new.alloc _
  have p1 : PtB (w.heap.size + 1) e1 l1 W := by
    rw [hW]
    have := PtB.new (w := w.alloc (.cells (ptV e0 l0) 26)) (e := e1) (l := l1)
    rwa [heap_sz] at this
  have g0 : ((w.alloc (.cells (ptV e0 l0) 26)).alloc (.cells (ptV e1 l1) 26)).heap[w.heap.size]? = some (.cells (ptV e0 l0) 26 (0, 0)) := heap_alloc2_old w _ _
  have d1 : decide ((l.length : Int) > 9000) = false := by simp; omega
  have d1' : decide (9000 < l.length) = false := by simp; omega
  have d2 : decide ((9000 : Int) < (l.length : Int)) = false := by simp; omega
  have hrd := h.below hb (Nat.le_refl _)
  have HRD := Lib.hid hrd
  have HW := Lib.hid hW
  have HB := Lib.hid hb
  have HP0 := Lib.hid p0
  have HP1 := Lib.hid p1
  have HE0 := Lib.hid he0
  have HL0 := Lib.hid hl0
  have HL1 := Lib.hid hl1
  have HL := Lib.hid hl
  have HCC := Lib.hid hc
  obtain ⟨e2, x2, hV, hx2⟩ := pofV_pt l
  have HX2 := Lib.hid hx2
  have HN : Hid ((pofOk l = true ∧ pofN l = 0) ∨ (pofOk l = false ∧ pofN l = 4)) := by
    unfold pofN
    cases pofOk l
    · exact .inr ⟨rfl, rfl⟩
    · exact .inl ⟨rfl, rfl⟩
  have CPO := Lib.hid (fun u (hu : Rd u 0 u.heap.size A l) => pointOf_c A c l u hu (by omega))
  have CRO := Lib.hid (fun u (hu : Rd u 0 u.heap.size A l) => refPointOf_c A c l u hu (by omega) hc)
  unfold PofP at CPO
  unfold RPofP at CRO
  rw [hV] at CPO CRO
  have HSZ := Lib.hid (size_ptV e2 x2)
  have HON : Hid ((ptV e2 x2).all (·.oneCell') = true) := rowV_one 33 _ (ptF_one _ _)
  have HSI : Hid (pt0.size = (ptV e2 x2).size) := (rowV_size _ _).trans (rowV_size _ _).symm
  clear hW hb p0 p1 he0 he1 hl0 hl1 hl hc h hrd hV hx2
  generalize pofOk l = ok at *
  generalize pofN l = pn at *
  go_enter Try.func3, Try.ntmps3
  go_wp2_with (refine wpList_load_row rfl 26 (.tmp 3) rfl w.heap.size rfl 26 (ptV e0 l0) (0, 0) _ g0 Try.underlying26 rfl (size_ptV _ _) ?_)
  rw [← HW.out]
  clear g0
  refine (pointBytes_anyQ e0 l0 _ HL0.out).mono ?_
  rintro y w2 (⟨ho0, A0, k0, rfl, hk0, r0, b2⟩ | ⟨ho0, rfl, b2⟩)
  · have HB2 := Lib.hid (HB.out.trans (b2.mono HB.out.size))
    have HQ0 := Lib.hid (HP0.out.below b2 HP0.out.lt)
    have HQ1 := Lib.hid (HP1.out.below b2 HP1.out.lt)
    have HRD2 := Lib.hid ((HRD.out.below b2 HB.out.size).wide (Nat.le_refl _) HB2.out.size)
    have HA0 := Lib.hid r0
    clear b2 HP0 HP1 HB HW HRD r0 hk0
    go_wp2_with fail
    refine (CPO.out _ HRD2.out).mono ?_
    rintro y w3 ⟨rfl, b3⟩
    have HB3 := Lib.hid (HB2.out.trans (b3.mono HB2.out.size))
    have hbn := (Below.refl w3.heap.size w3).alloc (Nat.le_refl _) (.cells (ptV e2 x2) 26)
    have b4 := b3.trans (hbn.mono b3.size)
    have HB4 := Lib.hid (HB2.out.trans (b4.mono HB2.out.size))
    have HR0 := Lib.hid (HQ0.out.below b4 HQ0.out.lt)
    have HR1 := Lib.hid (HQ1.out.below b4 HQ1.out.lt)
    have HRD4 := Lib.hid ((HRD2.out.below b4 (Nat.le_refl _)).wide (Nat.le_refl _) b4.size)
    have HY : Hid (PtB w3.heap.size e2 x2 (w3.alloc (.cells (ptV e2 x2) 26))) := PtB.new
    have HA1 := Lib.hid (HA0.out.below b4 (Nat.le_refl _))
    clear b3 b4 hbn HB2 HQ0 HQ1 HRD2 HB3
    go_wp2_with (refine wpList_store_row rfl 26 (.tmp 9) (.tmp 25) rfl w3.heap.size (ptV e2 x2) rfl rfl 26 pt0 (heap_alloc_new _ _) HSZ.out HSI.out HON.out ?_; rw [World.setRow_alloc_new])
    refine (CRO.out _ HRD4.out).mono ?_
    rintro y w5 ⟨rfl, b5⟩
    have hbn := (Below.refl w5.heap.size w5).alloc (Nat.le_refl _) (.cells (ptV e2 x2) 26)
    have b6 := b5.trans (hbn.mono b5.size)
    obtain ⟨W6, hW6⟩ : ∃ W6, W6 = w5.alloc (.cells (ptV e2 x2) 26) := ⟨_, rfl⟩
    have HZ : Hid (PtB w5.heap.size e2 x2 W6) := by rw [hW6]; exact PtB.new
    rw [← hW6] at b6
    have HB6 := Lib.hid (HB4.out.trans (b6.mono HB4.out.size))
    have HS0 := Lib.hid (HR0.out.below b6 HR0.out.lt)
    have HS1 := Lib.hid (HR1.out.below b6 HR1.out.lt)
    have HY6 := Lib.hid (HY.out.below b6 HY.out.lt)
    have HA2 := Lib.hid (HA1.out.below b6 (Nat.le_refl _))
    have HW6 := Lib.hid hW6
    clear b5 b6 hbn HB4 HR0 HR1 HRD4 HY hW6
    go_wp2_with (refine wpList_store_row rfl 26 (.tmp 11) (.tmp 30) rfl w5.heap.size (ptV e2 x2) rfl rfl 26 pt0 (heap_alloc_new _ _) HSZ.out HSI.out HON.out ?_; rw [World.setRow_alloc_new])
    rw [← HW6.out]
    refine points_r6 _ _ _ _ _ _ _ _ _ _ _ _ _ _ _ _ _ _ _ _ _ _ _ _ _ _ _ _ _ _ _ _ _ _ _ _ _ _ _ _ _ _ _ _ _ _ _ _ _ _ _ _ _ _ _ _ _ _ _ _ _ _ _ _ _ w.heap.size w3.heap.size w5.heap.size e0 e1 e2 l0 l1 x2 (.slice A0 (ptL e0 l0).length k0) 0 pn ok W6 HE0.out HL0.out HL1.out HX2.out HS0.out HS1.out HY6.out HZ.out HN.out (fun u hu A3 c3 h3 => ?_) _ ?_
    · rw [decide_eq_true ho0]
      exact told_yes _ _ _ _ _ _ _ _ _ _ _ u ((show Ow W6.drew _ _ _ from HA2.out).below hu (Nat.le_refl _)).rd h3 rfl rfl
    · intro u0 u1 u2 u3 u4 u5 u6 u7 u8 u9 u10 u11 u12 u13 u14 u15 u16 u17 u18 u19 u20 u21 u22 u23 u24 u25 u26 u27 u28 u29 u30 u31 u32 u33 u34 u35 u36 u37 u38 u39 u40 w7 b7
      go_wp2_with fail
      go_ret
      exact ⟨rfl, hdBelow' HB6.out b7⟩
  · have HB2 := Lib.hid (HB.out.trans (b2.mono HB.out.size))
    have HQ0 := Lib.hid (HP0.out.below b2 HP0.out.lt)
    have HQ1 := Lib.hid (HP1.out.below b2 HP1.out.lt)
    have HRD2 := Lib.hid ((HRD.out.below b2 HB.out.size).wide (Nat.le_refl _) HB2.out.size)
    clear b2 HP0 HP1 HB HW HRD
    go_wp2_with fail
    refine (CPO.out _ HRD2.out).mono ?_
    rintro y w3 ⟨rfl, b3⟩
    have HB3 := Lib.hid (HB2.out.trans (b3.mono HB2.out.size))
    have hbn := (Below.refl w3.heap.size w3).alloc (Nat.le_refl _) (.cells (ptV e2 x2) 26)
    have b4 := b3.trans (hbn.mono b3.size)
    have HB4 := Lib.hid (HB2.out.trans (b4.mono HB2.out.size))
    have HR0 := Lib.hid (HQ0.out.below b4 HQ0.out.lt)
    have HR1 := Lib.hid (HQ1.out.below b4 HQ1.out.lt)
    have HRD4 := Lib.hid ((HRD2.out.below b4 (Nat.le_refl _)).wide (Nat.le_refl _) b4.size)
    have HY : Hid (PtB w3.heap.size e2 x2 (w3.alloc (.cells (ptV e2 x2) 26))) := PtB.new
    clear b3 b4 hbn HB2 HQ0 HQ1 HRD2 HB3
    go_wp2_with (refine wpList_store_row rfl 26 (.tmp 9) (.tmp 25) rfl w3.heap.size (ptV e2 x2) rfl rfl 26 pt0 (heap_alloc_new _ _) HSZ.out HSI.out HON.out ?_; rw [World.setRow_alloc_new])
    refine (CRO.out _ HRD4.out).mono ?_
    rintro y w5 ⟨rfl, b5⟩
    have hbn := (Below.refl w5.heap.size w5).alloc (Nat.le_refl _) (.cells (ptV e2 x2) 26)
    have b6 := b5.trans (hbn.mono b5.size)
    obtain ⟨W6, hW6⟩ : ∃ W6, W6 = w5.alloc (.cells (ptV e2 x2) 26) := ⟨_, rfl⟩
    have HZ : Hid (PtB w5.heap.size e2 x2 W6) := by rw [hW6]; exact PtB.new
    rw [← hW6] at b6
    have HB6 := Lib.hid (HB4.out.trans (b6.mono HB4.out.size))
    have HS0 := Lib.hid (HR0.out.below b6 HR0.out.lt)
    have HS1 := Lib.hid (HR1.out.below b6 HR1.out.lt)
    have HY6 := Lib.hid (HY.out.below b6 HY.out.lt)
    have HW6 := Lib.hid hW6
    clear b5 b6 hbn HB4 HR0 HR1 HRD4 HY hW6
    go_wp2_with (refine wpList_store_row rfl 26 (.tmp 11) (.tmp 30) rfl w5.heap.size (ptV e2 x2) rfl rfl 26 pt0 (heap_alloc_new _ _) HSZ.out HSI.out HON.out ?_; rw [World.setRow_alloc_new])
    rw [← HW6.out]
    refine points_r6 _ _ _ _ _ _ _ _ _ _ _ _ _ _ _ _ _ _ _ _ _ _ _ _ _ _ _ _ _ _ _ _ _ _ _ _ _ _ _ _ _ _ _ _ _ _ _ _ _ _ _ _ _ _ _ _ _ _ _ _ _ _ _ _ _ w.heap.size w3.heap.size w5.heap.size e0 e1 e2 l0 l1 x2 (.slice none 0 0) 2 pn ok W6 HE0.out HL0.out HL1.out HX2.out HS0.out HS1.out HY6.out HZ.out HN.out (fun u hu A3 c3 h3 => ?_) _ ?_
    · rw [show decide (e0 ≤ 4611686018427387904) = false by simp; omega]
      exact told_no _ u
    · intro u0 u1 u2 u3 u4 u5 u6 u7 u8 u9 u10 u11 u12 u13 u14 u15 u16 u17 u18 u19 u20 u21 u22 u23 u24 u25 u26 u27 u28 u29 u30 u31 u32 u33 u34 u35 u36 u37 u38 u39 u40 w7 b7
      go_wp2_with fail
      go_ret
      exact ⟨rfl, hdBelow' HB6.out b7⟩
end Go.Proofs.Ytbanmnlaipkajaa
