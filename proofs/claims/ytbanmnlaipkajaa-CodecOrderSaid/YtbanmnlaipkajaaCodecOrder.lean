/- The walk of CodecOrder. -/
import Derived.Test.YtbanmnlaipkajaaCdOrdS
namespace Go.Proofs.Ytbanmnlaipkajaa
open Go.ChangeShapes Go.WideShapes Go.ChangeAt Go.RowKit
set_option linter.unusedVariables false
set_option maxRecDepth 100000

/-- What PointBytes answers, in either case. -/
def PbP (w : World) (e : Nat) (l : List UInt8) (x : Ending) (w' : World) : Prop :=
  (e ≤ 4611686018427387904 ∧ RowP w (ptL e l) x w') ∨ (4611686018427387904 < e ∧ NoP w x w')
theorem pointBytes_any (e : Nat) (l : List UInt8) (w : World) (hl : l.length = 32) : Calls Try.prog 11 #[.agg (ptV e l)] w (PbP w e l) := by
  by_cases h : e ≤ 4611686018427387904
  · exact (pointBytes_ok e l w h hl).mono fun _ _ hp => .inl ⟨h, hp⟩
  · exact (pointBytes_no e l w (by omega)).mono fun _ _ hp => .inr ⟨by omega, hp⟩
theorem hdBelow' {B : Nat} {w W u : World} (h : Below B w W) (hu : Below W.heap.size W.drew u) (hB : B ≤ w.heap.size := by exact Nat.le_refl _) : Below B w u := h.drew.trans (hu.mono (Nat.le_trans hB h.size))

set_option maxHeartbeats 4000000 in
theorem codecOrder_any (e0 e1 e2 : Nat) (l0 l1 l2 : List UInt8) (w : World) (he0 : e0 < 18446744073709551616) (he1 : e1 < 18446744073709551616) (he2 : e2 < 18446744073709551616) (hl0 : l0.length = 32) (hl1 : l1.length = 32) (hl2 : l2.length = 32) :
    Calls Try.prog 8 #[.agg (ptV e0 l0), .agg (ptV e1 l1), .agg (ptV e2 l2)] w fun e w' => e = .returned (.bool true) ∧ Below w.heap.size w w' := by
  obtain ⟨W, hW⟩ : ∃ W, W = ((w.alloc (.cells (ptV e0 l0) 26)).alloc (.cells (ptV e1 l1) 26)).alloc (.cells (ptV e2 l2) 26) := ⟨_, rfl⟩
  have hb : Below w.heap.size w W := by rw [hW]; exact (((Below.refl _ _).alloc (Nat.le_refl _) _).alloc (by simp) _).alloc (by simp; omega) _
  have p0 : PtB w.heap.size e0 l0 W := by rw [hW]; exact (PtB.new.alloc _).alloc _
  have p1 : PtB (w.heap.size + 1) e1 l1 W := by
    rw [hW]
    have := (PtB.new (w := w.alloc (.cells (ptV e0 l0) 26)) (e := e1) (l := l1)).alloc (.cells (ptV e2 l2) 26)
    rwa [heap_sz] at this
  have p2 : PtB (w.heap.size + 1 + 1) e2 l2 W := by
    rw [hW]
    have := PtB.new (w := (w.alloc (.cells (ptV e0 l0) 26)).alloc (.cells (ptV e1 l1) 26)) (e := e2) (l := l2)
    rwa [heap_sz, heap_sz] at this
  have HW := Lib.hid hW
  have HB := Lib.hid hb
  have HP0 := Lib.hid p0
  have HP1 := Lib.hid p1
  have HP2 := Lib.hid p2
  have HE0 := Lib.hid he0
  have HE1 := Lib.hid he1
  have HE2 := Lib.hid he2
  have HL0 := Lib.hid hl0
  have HL1 := Lib.hid hl1
  have HL2 := Lib.hid hl2
  clear hW hb p0 p1 p2 he0 he1 he2 hl0 hl1 hl2
  go_enter Try.func8, Try.ntmps8
  go_wp2_with fail
  rw [← HW.out]
  refine order_r1 _ _ _ _ _ _ _ _ _ _ _ _ _ _ _ _ _ _ _ _ _ _ _ _ _ _ _ _ _ _ _ _ _ _ _ _ _ _ _ _ _ _ _ _ _ _ _ _ _ _ _ _ _ _ _ _ _ _ _ _ _ _ _ _ _ _ _ _ _ _ _ _ _ _ _ w.heap.size e0 e1 e2 l0 l1 l2 W HE0.out HE1.out HE2.out HL0.out HL1.out HL2.out HP0.out HP1.out HP2.out _ ?_
  intro u0 u1 u2 u3 u4 u5 u6 u7 u8 u9 u10 u11 u12 u13 u14 u15 u16 u17 u18 u19 u20 u21 u22 u23 u24 u25 u26 u27 u28 u29 u30 u31 u32 u33 u34 u35 u36 w1 b1
  have HB1 := Lib.hid (hdBelow HB.out b1)
  have HQ0 := Lib.hid ((show PtB _ _ _ W.drew from HP0.out).below b1 HP0.out.lt)
  have HQ1 := Lib.hid ((show PtB _ _ _ W.drew from HP1.out).below b1 HP1.out.lt)
  have g0 := HQ0.out.row
  clear b1 HP0 HP1 HP2 HB HW HE2 HL2
  go_wp2_with (refine wpList_load_row rfl 26 (.tmp 3) rfl w.heap.size rfl 26 (ptV e0 l0) (0, 0) _ g0 Try.underlying26 rfl (size_ptV _ _) ?_)
  refine (pointBytes_any e0 l0 _ HL0.out).mono ?_
  rintro x w2 (⟨ho0, A0, k0, rfl, hk0, r0, b2⟩ | ⟨ho0, rfl, b2⟩)
  · have HB2 := Lib.hid (HB1.out.trans (b2.mono HB1.out.size))
    have HR0 := Lib.hid (HQ0.out.below b2 HQ0.out.lt)
    have HR1 := Lib.hid (HQ1.out.below b2 HQ1.out.lt)
    have g1 := HR1.out.row
    have HA0 := Lib.hid r0
    have HO0 := Lib.hid ho0
    clear b2 HQ0 HQ1 HB1 g0 r0 ho0 hk0
    go_wp2_with (refine wpList_load_row rfl 26 (.tmp 4) rfl (w.heap.size + 1) rfl 26 (ptV e1 l1) (0, 0) _ g1 Try.underlying26 rfl (size_ptV _ _) ?_)
    refine (pointBytes_any e1 l1 _ HL1.out).mono ?_
    rintro x w3 (⟨ho1, A1, k1, rfl, hk1, r1, b3⟩ | ⟨ho1, rfl, b3⟩)
    · have HB3 := Lib.hid (HB2.out.trans (b3.mono HB2.out.size))
      have HS0 := Lib.hid (HR0.out.below b3 HR0.out.lt)
      have HS1 := Lib.hid (HR1.out.below b3 HR1.out.lt)
      have HT0 : Hid (Rd w3 0 w3.heap.size A0 (ptL e0 l0)) := ((HA0.out.below b3 (Nat.le_refl _)).rd.wide (Nat.zero_le _) (Nat.le_refl _))
      have HT1 : Hid (Rd w3 0 w3.heap.size A1 (ptL e1 l1)) := r1.rd.wide (Nat.zero_le _) (Nat.le_refl _)
      clear b3 HB2 g1 ho1 hk1 r1 HA0 HR0 HR1
      go_wp2_with (go_at_call 18; refine (num_c _ _).mono ?_; rintro e w9 ⟨rfl, rfl⟩)
      refine order_r7 _ _ _ _ _ _ _ _ _ _ _ _ _ _ _ _ _ _ _ _ _ _ _ _ _ _ _ _ _ _ _ _ _ _ _ _ _ _ _ _ _ _ _ _ _ _ _ _ _ _ _ _ _ _ _ _ _ _ _ _ _ _ _ _ _ _ _ _ _ _ _ _ _ _ w.heap.size e0 e1 (ptL e0 l0).length (ptL e1 l1).length k0 k1 l0 l1 A0 A1 w3 HE0.out HE1.out HL0.out HL1.out rfl rfl HS0.out HS1.out HT0.out HT1.out _ ?_
      intro u0 u1 u2 u3 u4 u5 u6 u7 u8 u9 u10 u11 w4 b4
      go_wp2_with fail
      go_ret
      exact ⟨rfl, hdBelow' HB3.out b4⟩
    · have HB3 := Lib.hid (HB2.out.trans (b3.mono HB2.out.size))
      clear b3 HB2 g1 ho1
      go_wp2_with (first
        | (go_at_call 18; refine (num_c _ _).mono ?_; rintro e w9 ⟨rfl, rfl⟩)
        | (go_at_call 10; refine (known_c _).mono ?_; rintro e w4 ⟨rfl, b4⟩))
      go_ret
      exact ⟨rfl, HB3.out.trans (b4.mono HB3.out.size)⟩
  · have HB2 := Lib.hid (HB1.out.trans (b2.mono HB1.out.size))
    have HR0 := Lib.hid (HQ0.out.below b2 HQ0.out.lt)
    have HR1 := Lib.hid (HQ1.out.below b2 HQ1.out.lt)
    have g1 := HR1.out.row
    clear b2 HQ0 HQ1 HB1 g0 ho0
    go_wp2_with (refine wpList_load_row rfl 26 (.tmp 4) rfl (w.heap.size + 1) rfl 26 (ptV e1 l1) (0, 0) _ g1 Try.underlying26 rfl (size_ptV _ _) ?_)
    refine (pointBytes_any e1 l1 _ HL1.out).mono ?_
    rintro x w3 (⟨ho1, A1, k1, rfl, hk1, r1, b3⟩ | ⟨ho1, rfl, b3⟩)
    · have HB3 := Lib.hid (HB2.out.trans (b3.mono HB2.out.size))
      clear b3 HB2 g1 ho1 hk1 r1
      go_wp2_with (first
        | (go_at_call 18; refine (num_c _ _).mono ?_; rintro e w9 ⟨rfl, rfl⟩)
        | (go_at_call 10; refine (known_c _).mono ?_; rintro e w4 ⟨rfl, b4⟩))
      go_ret
      exact ⟨rfl, HB3.out.trans (b4.mono HB3.out.size)⟩
    · have HB3 := Lib.hid (HB2.out.trans (b3.mono HB2.out.size))
      clear b3 HB2 g1 ho1
      go_wp2_with (first
        | (go_at_call 18; refine (num_c _ _).mono ?_; rintro e w9 ⟨rfl, rfl⟩)
        | (go_at_call 10; refine (known_c _).mono ?_; rintro e w4 ⟨rfl, b4⟩))
      go_ret
      exact ⟨rfl, HB3.out.trans (b4.mono HB3.out.size)⟩
end Go.Proofs.Ytbanmnlaipkajaa
