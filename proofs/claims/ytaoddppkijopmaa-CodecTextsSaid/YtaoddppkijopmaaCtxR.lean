/- CodecTexts: two of its regions. -/
import Derived.Test.YtaoddppkijopmaaCdAny
import Derived.Test.YtaoddppkijopmaaHoRef
import Derived.Test.YtaoddppkijopmaaCdEq
import Derived.Test.YtaoddppkijopmaaCdKnown
import Derived.Test.YtaoddppkijopmaaPlain
namespace Go.Proofs.Ytaoddppkijopmaa
open Go.ChangeShapes Go.WideShapes Go.ChangeAt Go.RowKit
set_option linter.unusedVariables false
set_option maxRecDepth 100000

theorem txL_inj {n n' e1 e1' e2 e2' : Nat} {l1 l1' l2 l2' : List UInt8} (hn : n < 256) (hn' : n' < 256) (h1 : e1 < 18446744073709551616) (h1' : e1' < 18446744073709551616) (h2 : e2 < 18446744073709551616) (h2' : e2' < 18446744073709551616) (hl1 : l1.length = 32) (hl1' : l1'.length = 32) (h : txL n e1 l1 e2 l2 = txL n' e1' l1' e2' l2') : n = n' ∧ (e1 = e1' ∧ l1 = l1') ∧ (e2 = e2' ∧ l2 = l2') := by
  have inj : ∀ (k a b : Nat), a < 256 ^ k → b < 256 ^ k → putL a k = putL b k → a = b := fun k a b ha hb h => by
    have := congrArg num h
    rwa [num_put a k ha, num_put b k hb] at this
  have pin : ∀ (e e' : Nat) (l l' : List UInt8), e < 18446744073709551616 → e' < 18446744073709551616 → ptL e l = ptL e' l' → e = e' ∧ l = l' := fun e e' l l' he he' h => by
    obtain ⟨h1, h2⟩ := List.append_inj h (by rw [putL_length, putL_length])
    exact ⟨inj 8 e e' (by omega) (by omega) h1, h2⟩
  unfold txL lkL at h
  have h := List.append_cancel_left h
  obtain ⟨ha, h⟩ := List.append_inj h (by rw [putL_length, putL_length])
  obtain ⟨hb, hc⟩ := List.append_inj h (by rw [ptL_length _ _ hl1, ptL_length _ _ hl1'])
  exact ⟨inj 1 n n' (by omega) (by omega) ha, pin _ _ _ _ h1 h1' hb, pin _ _ _ _ h2 h2' hc⟩
noncomputable def ctx_r7C : Code := ((Try.f4.body.bind (regionOf 7))).getD .skip
set_option maxRecDepth 1000000 in
set_option maxHeartbeats 16000000 in
theorem ctx_r7 (sl0 sl1 sl2 sl5 sl6 sl7 sl8 sl9 sl10 sl11 sl12 sl13 sl14 sl15 sl16 sl17 sl18 sl19 sl20 sl21 sl22 sl23 sl24 sl25 sl26 sl27 sl28 sl29 sl30 sl31 sl32 sl33 sl34 sl35 sl36 sl37 sl38 sl39 sl40 sl41 sl42 sl43 sl44 sl45 sl46 sl47 sl48 sl49 sl50 sl51 sl52 sl53 sl54 sl55 sl56 sl57 sl58 sl59 sl60 sl61 sl62 sl63 sl64 sl65 sl66 sl67 sl68 sl69 sl70 sl71 sl72 sl73 sl74 sl75 sl76 sl77 sl78 sl79 sl80 sl81 sl82 sl83 sl84 sl85 sl86 sl87 sl88 : Value) (w : World) (x y : Nat) (n n' : Int) (e1 e2 e1' e2' : Nat) (l1 l2 l1' l2' : List UInt8) (sv sv' : Value) (v0 : VtB x n e1 l1 e2 l2 sv w) (v1 : VtB y n' e1' l1' e2' l2' sv' w) (hl1 : l1.length = 32) (hl2 : l2.length = 32) (hl1' : l1'.length = 32) (hl2' : l2'.length = 32)
    (Q : Exit → Act → World → Prop) (hQ : ∀ (u44 u45 u46 u47 u48 u49 u50 u51 u52 u53 u54 u55 u56 u57 u58 u59 u60 u61 u62 : Value) (w' : World), w' = w → Q .normal ⟨#[sl0, sl1, sl2, .pointer (some ⟨x, 0, none⟩), .pointer (some ⟨y, 0, none⟩), sl5, sl6, sl7, sl8, sl9, sl10, (.bool (decide (n = n') && (e1 == e1' && l1 == l1') && (e2 == e2' && l2 == l2'))), sl12, sl13, sl14, sl15, sl16, sl17, sl18, sl19, sl20, sl21, sl22, sl23, sl24, sl25, sl26, sl27, sl28, sl29, sl30, sl31, sl32, sl33, sl34, sl35, sl36, sl37, sl38, sl39, sl40, sl41, sl42, sl43, u44, u45, u46, u47, u48, u49, u50, u51, u52, u53, u54, u55, u56, u57, u58, u59, u60, u61, u62, sl63, sl64, sl65, sl66, sl67, sl68, sl69, sl70, sl71, sl72, sl73, sl74, sl75, sl76, sl77, sl78, sl79, sl80, sl81, sl82, sl83, sl84, sl85, sl86, sl87, sl88], []⟩ w') :
    Code.wp Try.prog ctx_r7C Q ⟨#[sl0, sl1, sl2, .pointer (some ⟨x, 0, none⟩), .pointer (some ⟨y, 0, none⟩), sl5, sl6, sl7, sl8, sl9, sl10, sl11, sl12, sl13, sl14, sl15, sl16, sl17, sl18, sl19, sl20, sl21, sl22, sl23, sl24, sl25, sl26, sl27, sl28, sl29, sl30, sl31, sl32, sl33, sl34, sl35, sl36, sl37, sl38, sl39, sl40, sl41, sl42, sl43, sl44, sl45, sl46, sl47, sl48, sl49, sl50, sl51, sl52, sl53, sl54, sl55, sl56, sl57, sl58, sl59, sl60, sl61, sl62, sl63, sl64, sl65, sl66, sl67, sl68, sl69, sl70, sl71, sl72, sl73, sl74, sl75, sl76, sl77, sl78, sl79, sl80, sl81, sl82, sl83, sl84, sl85, sl86, sl87, sl88], []⟩ w := by
  conv => arg 2; whnf
  try dsimp only at hQ ⊢
  have HQ := Lib.hid hQ
  have S0 := Lib.hid v0.src
  have S1 := Lib.hid v1.src
  have T0 := Lib.hid v0.tgt
  have T1 := Lib.hid v1.tgt
  have k0 := v0.num
  have k1 := v1.num
  have hq1 := fun u => eq_point e1 e1' l1 l1' hl1 hl1' u
  have hq2 := fun u => eq_point e2 e2' l2 l2' hl2 hl2' u
  obtain ⟨q1, h1⟩ : ∃ q, q = (e1 == e1' && l1 == l1') := ⟨_, rfl⟩
  obtain ⟨q2, h2⟩ : ∃ q, q = (e2 == e2' && l2 == l2') := ⟨_, rfl⟩
  rw [← h1] at hq1 HQ
  rw [← h2] at hq2 HQ
  clear hQ v0 v1 h1 h2 hl1 hl2 hl1' hl2'
  by_cases hn : n = n'
  · subst hn
    have HQ' := HQ
    rw [show decide (n = n) = true by simp, Bool.true_and] at HQ
    cases q1
    · rw [Bool.false_and] at HQ
      go_wp2_with (first
      | (refine BigFrame.wpList_want rfl (fun K hK => ?_); refine wp_load_midC 29 (.tmp 50) rfl x 1 rfl (ptC e1 l1) (ptV e1 l1) rfl _ S0.out Try.underlying29 rfl (size_ptV _ _) ?_; refine hK _ _ ?_; clear hK K)
      | (refine BigFrame.wpList_want rfl (fun K hK => ?_); refine wp_load_midC 29 (.tmp 52) rfl y 1 rfl (ptC e1' l1') (ptV e1' l1') rfl _ S1.out Try.underlying29 rfl (size_ptV _ _) ?_; refine hK _ _ ?_; clear hK K)
      | (refine BigFrame.wpList_want rfl (fun K hK => ?_); refine wp_load_midC 29 (.tmp 57) rfl x 34 rfl (ptC e2 l2) (ptV e2 l2) rfl _ T0.out Try.underlying29 rfl (size_ptV _ _) ?_; refine hK _ _ ?_; clear hK K)
      | (refine BigFrame.wpList_want rfl (fun K hK => ?_); refine wp_load_midC 29 (.tmp 59) rfl y 34 rfl (ptC e2' l2') (ptV e2' l2') rfl _ T1.out Try.underlying29 rfl (size_ptV _ _) ?_; refine hK _ _ ?_; clear hK K)
      | fail)
      exact HQ.out _ _ _ _ _ _ _ _ _ _ _ _ _ _ _ _ _ _ _ _ rfl
    · rw [Bool.true_and] at HQ
      go_wp2_with (first
      | (refine BigFrame.wpList_want rfl (fun K hK => ?_); refine wp_load_midC 29 (.tmp 50) rfl x 1 rfl (ptC e1 l1) (ptV e1 l1) rfl _ S0.out Try.underlying29 rfl (size_ptV _ _) ?_; refine hK _ _ ?_; clear hK K)
      | (refine BigFrame.wpList_want rfl (fun K hK => ?_); refine wp_load_midC 29 (.tmp 52) rfl y 1 rfl (ptC e1' l1') (ptV e1' l1') rfl _ S1.out Try.underlying29 rfl (size_ptV _ _) ?_; refine hK _ _ ?_; clear hK K)
      | (refine BigFrame.wpList_want rfl (fun K hK => ?_); refine wp_load_midC 29 (.tmp 57) rfl x 34 rfl (ptC e2 l2) (ptV e2 l2) rfl _ T0.out Try.underlying29 rfl (size_ptV _ _) ?_; refine hK _ _ ?_; clear hK K)
      | (refine BigFrame.wpList_want rfl (fun K hK => ?_); refine wp_load_midC 29 (.tmp 59) rfl y 34 rfl (ptC e2' l2') (ptV e2' l2') rfl _ T1.out Try.underlying29 rfl (size_ptV _ _) ?_; refine hK _ _ ?_; clear hK K)
      | fail)
      exact HQ.out _ _ _ _ _ _ _ _ _ _ _ _ _ _ _ _ _ _ _ _ rfl
  · have d0 : (n == n') = false := by rw [beq_eq_false_iff_ne]; exact hn
    rw [show decide (n = n') = false by simpa using hn, Bool.false_and, Bool.false_and] at HQ
    clear hn
    go_wp2_with (first
      | (refine BigFrame.wpList_want rfl (fun K hK => ?_); refine wp_load_midC 29 (.tmp 50) rfl x 1 rfl (ptC e1 l1) (ptV e1 l1) rfl _ S0.out Try.underlying29 rfl (size_ptV _ _) ?_; refine hK _ _ ?_; clear hK K)
      | (refine BigFrame.wpList_want rfl (fun K hK => ?_); refine wp_load_midC 29 (.tmp 52) rfl y 1 rfl (ptC e1' l1') (ptV e1' l1') rfl _ S1.out Try.underlying29 rfl (size_ptV _ _) ?_; refine hK _ _ ?_; clear hK K)
      | (refine BigFrame.wpList_want rfl (fun K hK => ?_); refine wp_load_midC 29 (.tmp 57) rfl x 34 rfl (ptC e2 l2) (ptV e2 l2) rfl _ T0.out Try.underlying29 rfl (size_ptV _ _) ?_; refine hK _ _ ?_; clear hK K)
      | (refine BigFrame.wpList_want rfl (fun K hK => ?_); refine wp_load_midC 29 (.tmp 59) rfl y 34 rfl (ptC e2' l2') (ptV e2' l2') rfl _ T1.out Try.underlying29 rfl (size_ptV _ _) ?_; refine hK _ _ ?_; clear hK K)
      | fail)
    exact HQ.out _ _ _ _ _ _ _ _ _ _ _ _ _ _ _ _ _ _ _ _ rfl
noncomputable def ctx_r10fC : Code := ((Try.f4.body.bind (regionOf 10))).getD .skip
set_option maxRecDepth 1000000 in
set_option maxHeartbeats 16000000 in
theorem ctx_r10f (sl0 sl1 sl2 sl3 sl4 sl6 sl8 sl9 sl10 sl11 sl12 sl13 sl14 sl15 sl16 sl17 sl18 sl19 sl20 sl21 sl22 sl23 sl24 sl25 sl26 sl27 sl28 sl29 sl30 sl31 sl32 sl33 sl34 sl35 sl36 sl37 sl38 sl39 sl40 sl41 sl42 sl43 sl44 sl45 sl46 sl47 sl48 sl49 sl50 sl51 sl52 sl53 sl54 sl55 sl56 sl57 sl58 sl59 sl60 sl61 sl62 sl63 sl64 sl65 sl66 sl67 sl68 sl69 sl70 sl71 sl72 sl73 sl74 sl75 sl76 sl77 sl78 sl79 sl80 sl81 sl82 sl83 sl84 sl85 sl86 sl87 sl88 : Value) (w : World) (g b0 c7 n7 : Nat) (HC : List Value) (HX : Array Value) (A7 : Option Addr) (LA : List UInt8) (h7 : n7 = LA.length) (hHC : HC.toArray = HX) (hz : (Try.prog.info? 27).map (·.size) = some HX.size) (hS : ∀ u, Below w.heap.size w u → u.rangeAt g 0 HC ∧ Rd u 0 b0 A7 LA) (cM : ∀ u, Below w.heap.size w u → Calls Try.prog 17 #[.agg HX] u fun e w' => e = .returned (.bool false) ∧ Below u.heap.size u w')
    (Q : Exit → Act → World → Prop) (hQ : ∀ (u75 u76 u77 u78 u79 u80 u81 u82 u83 u84 u85 u86 u87 u88 : Value) (w' : World), Below w.heap.size w w' → Q .normal ⟨#[sl0, sl1, sl2, sl3, sl4, .pointer (some ⟨g, 0, none⟩), .bool true, .slice A7 n7 c7, sl8, sl9, sl10, sl11, sl12, sl13, sl14, sl15, sl16, sl17, sl18, sl19, sl20, sl21, sl22, sl23, sl24, sl25, sl26, sl27, sl28, sl29, sl30, sl31, sl32, sl33, sl34, sl35, sl36, sl37, sl38, sl39, sl40, sl41, sl42, sl43, sl44, sl45, sl46, sl47, sl48, sl49, sl50, sl51, sl52, sl53, sl54, sl55, sl56, sl57, sl58, sl59, sl60, sl61, sl62, sl63, sl64, sl65, sl66, sl67, sl68, sl69, sl70, sl71, sl72, sl73, sl74, u75, u76, u77, u78, u79, u80, u81, u82, u83, u84, u85, u86, u87, u88], []⟩ w') :
    Code.wp Try.prog ctx_r10fC Q ⟨#[sl0, sl1, sl2, sl3, sl4, .pointer (some ⟨g, 0, none⟩), sl6, .slice A7 n7 c7, sl8, sl9, sl10, sl11, sl12, sl13, sl14, sl15, sl16, sl17, sl18, sl19, sl20, sl21, sl22, sl23, sl24, sl25, sl26, sl27, sl28, sl29, sl30, sl31, sl32, sl33, sl34, sl35, sl36, sl37, sl38, sl39, sl40, sl41, sl42, sl43, sl44, sl45, sl46, sl47, sl48, sl49, sl50, sl51, sl52, sl53, sl54, sl55, sl56, sl57, sl58, sl59, sl60, sl61, sl62, sl63, sl64, sl65, sl66, sl67, sl68, sl69, sl70, sl71, sl72, sl73, sl74, sl75, sl76, sl77, sl78, sl79, sl80, sl81, sl82, sl83, sl84, sl85, sl86, sl87, sl88], []⟩ w := by
  conv => arg 2; whnf
  try dsimp only at hQ ⊢
  have HQ := Lib.hid hQ
  have HHC := Lib.hid hHC
  have H7 := Lib.hid h7
  have HZ := Lib.hid hz
  obtain ⟨w2, hw2⟩ : ∃ w2, w2 = w.drew := ⟨_, rfl⟩
  have DB : Hid (Below w.heap.size w w2) := by rw [hw2]; exact (Below.refl _ _).drew
  have BX : Hid (Below w2.heap.size w2 w2) := Below.refl _ _
  have KP : Hid (∀ u : World, Below w2.heap.size w2 u → u.rangeAt g 0 HC ∧ Rd u 0 b0 A7 LA) := fun u hu => hS u (DB.out.trans (hu.mono DB.out.size))
  have CM : Hid (∀ u, Below w2.heap.size w2 u → Calls Try.prog 17 #[.agg HX] u fun e w' => e = .returned (.bool false) ∧ Below u.heap.size u w') := fun u hu => cM u (DB.out.trans (hu.mono DB.out.size))
  clear hQ hHC hz hS cM h7
  refine wp_region_noPanic ?_
  refine wp_region_held_drew (S := (fun u => u.rangeAt g 0 HC ∧ Rd u 0 b0 A7 LA)) (by kernel_rfl) (by rw [← hw2]; exact KP.out _ BX.out) (fun hHeld => ?_)
  rw [← hw2]
  rw [← hw2] at hHeld
  clear hw2
  refine takeH (i := 0) (d := 75) (oi := _) (v := .agg (HX)) rfl (by kernel_rfl) (by kernel_rfl) (by kernel_rfl) (by kernel_rfl) (fun _ _ _ h => h) (yieldsIf_load_midC (by kernel_rfl) _ _ rfl (g) 0 rfl (HC) (HX) (HHC.out) _ (fun u hSw => hSw.1) Try.underlying27 rfl (HZ.out)) hHeld ?_
  try simp only [List.setIfInBounds_toArray, List.set_cons_zero, List.set_cons_succ]
  refine wpAnyH_ready (rs := [1]) (by kernel_rfl) (by simp) ?_
  refine AllReadyH.cons (o := _) rfl (fun K hK => ?_) (AllReadyH.nil)
  go_simp
  go_at_call 17
  refine (CM.out _ BX.out).mono ?_
  rintro y w2 ⟨rfl, b1⟩
  have BX := Lib.hid (BX.out.trans (b1.mono BX.out.size))
  clear b1
  go_simp
  refine hK.out _ _ (KP.out _ BX.out) (fun hHeld => ?_)
  clear hK K
  try simp only [Act.put, List.setIfInBounds_toArray, List.set_cons_zero, List.set_cons_succ]
  refine takeH (i := 2) (d := 77) (oi := _) (v := .bool true) rfl (by kernel_rfl) (by kernel_rfl) (by kernel_rfl) (by kernel_rfl) (fun _ _ _ h => h) (Or.inl ⟨by kernel_rfl, by intro u hSw; clear hSw; go_simp⟩) hHeld ?_
  try simp only [List.setIfInBounds_toArray, List.set_cons_zero, List.set_cons_succ]
  refine takeH (i := 3) (d := 78) (oi := _) (v := .bool true) rfl (by kernel_rfl) (by kernel_rfl) (by kernel_rfl) (by kernel_rfl) (fun _ _ _ h => h) (Or.inl ⟨by kernel_rfl, by intro u hSw; clear hSw; go_simp⟩) hHeld ?_
  try simp only [List.setIfInBounds_toArray, List.set_cons_zero, List.set_cons_succ]
  refine takeH (i := 4) (d := 79) (oi := _) (v := undef) rfl (by kernel_rfl) (by kernel_rfl) (by kernel_rfl) (by kernel_rfl) (fun _ _ _ h => h) (Or.inr ⟨by kernel_rfl, rfl⟩) hHeld ?_
  try simp only [List.setIfInBounds_toArray, List.set_cons_zero, List.set_cons_succ]
  refine takeH (i := 5) (d := 80) (oi := _) (v := undef) rfl (by kernel_rfl) (by kernel_rfl) (by kernel_rfl) (by kernel_rfl) (fun _ _ _ h => h) (Or.inr ⟨by kernel_rfl, rfl⟩) hHeld ?_
  try simp only [List.setIfInBounds_toArray, List.set_cons_zero, List.set_cons_succ]
  refine takeH (i := 6) (d := 81) (oi := _) (v := undef) rfl (by kernel_rfl) (by kernel_rfl) (by kernel_rfl) (by kernel_rfl) (fun _ _ _ h => h) (Or.inr ⟨by kernel_rfl, rfl⟩) hHeld ?_
  try simp only [List.setIfInBounds_toArray, List.set_cons_zero, List.set_cons_succ]
  refine takeH (i := 7) (d := 82) (oi := _) (v := undef) rfl (by kernel_rfl) (by kernel_rfl) (by kernel_rfl) (by kernel_rfl) (fun _ _ _ h => h) (Or.inr ⟨by kernel_rfl, rfl⟩) hHeld ?_
  try simp only [List.setIfInBounds_toArray, List.set_cons_zero, List.set_cons_succ]
  refine takeH (i := 8) (d := 83) (oi := _) (v := undef) rfl (by kernel_rfl) (by kernel_rfl) (by kernel_rfl) (by kernel_rfl) (fun _ _ _ h => h) (Or.inr ⟨by kernel_rfl, rfl⟩) hHeld ?_
  try simp only [List.setIfInBounds_toArray, List.set_cons_zero, List.set_cons_succ]
  refine takeH (i := 9) (d := 84) (oi := _) (v := undef) rfl (by kernel_rfl) (by kernel_rfl) (by kernel_rfl) (by kernel_rfl) (fun _ _ _ h => h) (Or.inr ⟨by kernel_rfl, rfl⟩) hHeld ?_
  try simp only [List.setIfInBounds_toArray, List.set_cons_zero, List.set_cons_succ]
  refine takeH (i := 10) (d := 85) (oi := _) (v := .bool true) rfl (by kernel_rfl) (by kernel_rfl) (by kernel_rfl) (by kernel_rfl) (fun _ _ _ h => h) (Or.inl ⟨by kernel_rfl, by intro u hSw; clear hSw; go_simp⟩) hHeld ?_
  try simp only [List.setIfInBounds_toArray, List.set_cons_zero, List.set_cons_succ]
  refine takeH (i := 11) (d := 86) (oi := _) (v := .bool true) rfl (by kernel_rfl) (by kernel_rfl) (by kernel_rfl) (by kernel_rfl) (fun _ _ _ h => h) (Or.inl ⟨by kernel_rfl, by intro u hSw; clear hSw; go_simp⟩) hHeld ?_
  try simp only [List.setIfInBounds_toArray, List.set_cons_zero, List.set_cons_succ]
  refine wpAnyH_ready (rs := [12]) (by kernel_rfl) (by simp) ?_
  refine AllReadyH.cons (o := _) rfl (fun K hK => ?_) (AllReadyH.nil)
  go_simp
  go_at_call 6
  refine (known_c _).mono ?_
  rintro y w2 ⟨rfl, b1⟩
  have BX := Lib.hid (BX.out.trans (b1.mono BX.out.size))
  clear b1
  go_simp
  refine hK.out _ _ (KP.out _ BX.out) (fun hHeld => ?_)
  clear hK K
  try simp only [Act.put, List.setIfInBounds_toArray, List.set_cons_zero, List.set_cons_succ]
  refine takeH (i := 13) (d := 88) (oi := _) (v := .bool true) rfl (by kernel_rfl) (by kernel_rfl) (by kernel_rfl) (by kernel_rfl) (fun _ _ _ h => h) (Or.inl ⟨by kernel_rfl, by intro u hSw; clear hSw; go_simp⟩) hHeld ?_
  try simp only [List.setIfInBounds_toArray, List.set_cons_zero, List.set_cons_succ]
  refine takeH (i := 14) (d := 6) (oi := _) (v := .bool true) rfl (by kernel_rfl) (by kernel_rfl) (by kernel_rfl) (by kernel_rfl) (fun _ _ _ h => h) (Or.inl ⟨by kernel_rfl, by intro u hSw; clear hSw; go_simp⟩) hHeld ?_
  try simp only [List.setIfInBounds_toArray, List.set_cons_zero, List.set_cons_succ]
  refine wpAnyH_done (by kernel_rfl) ?_ _
  refine NoPanic.normal ?_
  exact HQ.out _ _ _ _ _ _ _ _ _ _ _ _ _ _ _ (DB.out.trans (BX.out.mono DB.out.size))
noncomputable def ctx_r10tC : Code := ((Try.f4.body.bind (regionOf 10))).getD .skip
set_option maxRecDepth 1000000 in
set_option maxHeartbeats 16000000 in
theorem ctx_r10t (sl0 sl1 sl2 sl3 sl4 sl6 sl8 sl9 sl10 sl11 sl12 sl13 sl14 sl15 sl16 sl17 sl18 sl19 sl20 sl21 sl22 sl23 sl24 sl25 sl26 sl27 sl28 sl29 sl30 sl31 sl32 sl33 sl34 sl35 sl36 sl37 sl38 sl39 sl40 sl41 sl42 sl43 sl44 sl45 sl46 sl47 sl48 sl49 sl50 sl51 sl52 sl53 sl54 sl55 sl56 sl57 sl58 sl59 sl60 sl61 sl62 sl63 sl64 sl65 sl66 sl67 sl68 sl69 sl70 sl71 sl72 sl73 sl74 sl75 sl76 sl77 sl78 sl79 sl80 sl81 sl82 sl83 sl84 sl85 sl86 sl87 sl88 : Value) (w : World) (g b0 c7 n7 : Nat) (HC : List Value) (HX : Array Value) (A7 : Option Addr) (LA : List UInt8) (h7 : n7 = LA.length) (hHC : HC.toArray = HX) (hz : (Try.prog.info? 27).map (·.size) = some HX.size) (hS : ∀ u, Below w.heap.size w u → u.rangeAt g 0 HC ∧ Rd u 0 b0 A7 LA) (cM : ∀ u, Below w.heap.size w u → Calls Try.prog 17 #[.agg HX] u fun e w' => e = .returned (.bool true) ∧ Below u.heap.size u w') (LB : List UInt8) (hne : LA ≠ LB) (cN : ∀ u, Below w.heap.size w u → Calls Try.prog 18 #[.agg HX] u (RNewP u LB))
    (Q : Exit → Act → World → Prop) (hQ : ∀ (u75 u76 u77 u78 u79 u80 u81 u82 u83 u84 u85 u86 u87 u88 : Value) (w' : World), Below w.heap.size w w' → Q .normal ⟨#[sl0, sl1, sl2, sl3, sl4, .pointer (some ⟨g, 0, none⟩), .bool true, .slice A7 n7 c7, sl8, sl9, sl10, sl11, sl12, sl13, sl14, sl15, sl16, sl17, sl18, sl19, sl20, sl21, sl22, sl23, sl24, sl25, sl26, sl27, sl28, sl29, sl30, sl31, sl32, sl33, sl34, sl35, sl36, sl37, sl38, sl39, sl40, sl41, sl42, sl43, sl44, sl45, sl46, sl47, sl48, sl49, sl50, sl51, sl52, sl53, sl54, sl55, sl56, sl57, sl58, sl59, sl60, sl61, sl62, sl63, sl64, sl65, sl66, sl67, sl68, sl69, sl70, sl71, sl72, sl73, sl74, u75, u76, u77, u78, u79, u80, u81, u82, u83, u84, u85, u86, u87, u88], []⟩ w') :
    Code.wp Try.prog ctx_r10tC Q ⟨#[sl0, sl1, sl2, sl3, sl4, .pointer (some ⟨g, 0, none⟩), sl6, .slice A7 n7 c7, sl8, sl9, sl10, sl11, sl12, sl13, sl14, sl15, sl16, sl17, sl18, sl19, sl20, sl21, sl22, sl23, sl24, sl25, sl26, sl27, sl28, sl29, sl30, sl31, sl32, sl33, sl34, sl35, sl36, sl37, sl38, sl39, sl40, sl41, sl42, sl43, sl44, sl45, sl46, sl47, sl48, sl49, sl50, sl51, sl52, sl53, sl54, sl55, sl56, sl57, sl58, sl59, sl60, sl61, sl62, sl63, sl64, sl65, sl66, sl67, sl68, sl69, sl70, sl71, sl72, sl73, sl74, sl75, sl76, sl77, sl78, sl79, sl80, sl81, sl82, sl83, sl84, sl85, sl86, sl87, sl88], []⟩ w := by
  conv => arg 2; whnf
  try dsimp only at hQ ⊢
  have HQ := Lib.hid hQ
  have HHC := Lib.hid hHC
  have H7 := Lib.hid h7
  have HZ := Lib.hid hz
  obtain ⟨w2, hw2⟩ : ∃ w2, w2 = w.drew := ⟨_, rfl⟩
  have DB : Hid (Below w.heap.size w w2) := by rw [hw2]; exact (Below.refl _ _).drew
  have BX : Hid (Below w2.heap.size w2 w2) := Below.refl _ _
  have KP : Hid (∀ u : World, Below w2.heap.size w2 u → u.rangeAt g 0 HC ∧ Rd u 0 b0 A7 LA) := fun u hu => hS u (DB.out.trans (hu.mono DB.out.size))
  have CM : Hid (∀ u, Below w2.heap.size w2 u → Calls Try.prog 17 #[.agg HX] u fun e w' => e = .returned (.bool true) ∧ Below u.heap.size u w') := fun u hu => cM u (DB.out.trans (hu.mono DB.out.size))
  have CN : Hid (∀ u, Below w2.heap.size w2 u → Calls Try.prog 18 #[.agg HX] u (RNewP u LB)) := fun u hu => cN u (DB.out.trans (hu.mono DB.out.size))
  obtain ⟨sa, hsa⟩ : ∃ s : ByteArray, s = ⟨LA.toArray⟩ := ⟨_, rfl⟩
  obtain ⟨sb, hsb⟩ : ∃ s : ByteArray, s = ⟨LB.toArray⟩ := ⟨_, rfl⟩
  have HSA := Lib.hid hsa.symm
  have HSB := Lib.hid hsb.symm
  have hne1 : ¬ sa = sb := fun e => by
    rw [hsa, hsb] at e
    injection e with e
    exact hne (by simpa using e)
  have hne4 : (sa.toList == sb.toList) = false := by
    rw [hsa, hsb, ByteArray.toList_eq, ByteArray.toList_eq, beq_eq_false_iff_ne]
    simpa using hne
  clear cN hsa hsb hne
  clear hQ hHC hz hS cM h7
  refine wp_region_noPanic ?_
  refine wp_region_held_drew (S := (fun u => u.rangeAt g 0 HC ∧ Rd u 0 b0 A7 LA)) (by kernel_rfl) (by rw [← hw2]; exact KP.out _ BX.out) (fun hHeld => ?_)
  rw [← hw2]
  rw [← hw2] at hHeld
  clear hw2
  refine takeH (i := 0) (d := 75) (oi := _) (v := .agg (HX)) rfl (by kernel_rfl) (by kernel_rfl) (by kernel_rfl) (by kernel_rfl) (fun _ _ _ h => h) (yieldsIf_load_midC (by kernel_rfl) _ _ rfl (g) 0 rfl (HC) (HX) (HHC.out) _ (fun u hSw => hSw.1) Try.underlying27 rfl (HZ.out)) hHeld ?_
  try simp only [List.setIfInBounds_toArray, List.set_cons_zero, List.set_cons_succ]
  refine wpAnyH_ready (rs := [1]) (by kernel_rfl) (by simp) ?_
  refine AllReadyH.cons (o := _) rfl (fun K hK => ?_) (AllReadyH.nil)
  go_simp
  go_at_call 17
  refine (CM.out _ BX.out).mono ?_
  rintro y w2 ⟨rfl, b1⟩
  have BX := Lib.hid (BX.out.trans (b1.mono BX.out.size))
  clear b1
  go_simp
  refine hK.out _ _ (KP.out _ BX.out) (fun hHeld => ?_)
  clear hK K
  try simp only [Act.put, List.setIfInBounds_toArray, List.set_cons_zero, List.set_cons_succ]
  refine takeH (i := 2) (d := 77) (oi := _) (v := .bool false) rfl (by kernel_rfl) (by kernel_rfl) (by kernel_rfl) (by kernel_rfl) (fun _ _ _ h => h) (Or.inl ⟨by kernel_rfl, by intro u hSw; clear hSw; go_simp⟩) hHeld ?_
  try simp only [List.setIfInBounds_toArray, List.set_cons_zero, List.set_cons_succ]
  refine takeH (i := 3) (d := 78) (oi := _) (v := .bool false) rfl (by kernel_rfl) (by kernel_rfl) (by kernel_rfl) (by kernel_rfl) (fun _ _ _ h => h) (Or.inl ⟨by kernel_rfl, by intro u hSw; clear hSw; go_simp⟩) hHeld ?_
  try simp only [List.setIfInBounds_toArray, List.set_cons_zero, List.set_cons_succ]
  refine takeH (i := 4) (d := 79) (oi := _) (v := .slice A7 n7 c7) rfl (by kernel_rfl) (by kernel_rfl) (by kernel_rfl) (by kernel_rfl) (fun _ _ _ h => h) (Or.inl ⟨by kernel_rfl, by intro u hSw; clear hSw; go_simp⟩) hHeld ?_
  try simp only [List.setIfInBounds_toArray, List.set_cons_zero, List.set_cons_succ]
  refine takeH (i := 5) (d := 80) (oi := _) (v := .string sa) rfl (by kernel_rfl) (by kernel_rfl) (by kernel_rfl) (by kernel_rfl) (fun _ _ _ h => h) (Or.inl ⟨by kernel_rfl, by intro u hSw; (have hc := run_str hSw.2 _ c7 H7.out; unfold strOf at hc; rw [HSA.out] at hc; clear hSw; go_simp)⟩) hHeld ?_
  try simp only [List.setIfInBounds_toArray, List.set_cons_zero, List.set_cons_succ]
  refine takeH (i := 6) (d := 81) (oi := _) (v := .agg (HX)) rfl (by kernel_rfl) (by kernel_rfl) (by kernel_rfl) (by kernel_rfl) (fun _ _ _ h => h) (yieldsIf_load_midC (by kernel_rfl) _ _ rfl (g) 0 rfl (HC) (HX) (HHC.out) _ (fun u hSw => hSw.1) Try.underlying27 rfl (HZ.out)) hHeld ?_
  try simp only [List.setIfInBounds_toArray, List.set_cons_zero, List.set_cons_succ]
  refine wpAnyH_ready (rs := [7]) (by kernel_rfl) (by simp) ?_
  refine AllReadyH.cons (o := _) rfl (fun K hK => ?_) (AllReadyH.nil)
  go_simp
  go_at_call 18
  refine (CN.out _ BX.out).mono ?_
  rintro y w2 ⟨A8, c8, rfl, hc8, r8, b1⟩
  have R8 := Lib.hid r8
  clear r8 hc8
  have BX := Lib.hid (BX.out.trans (b1.mono BX.out.size))
  clear b1
  go_simp
  refine hK.out _ _ (KP.out _ BX.out) (fun hHeld => ?_)
  clear hK K
  try simp only [Act.put, List.setIfInBounds_toArray, List.set_cons_zero, List.set_cons_succ]
  refine wpAnyH_ready (rs := [8]) (by kernel_rfl) (by simp) ?_
  refine AllReadyH.cons (o := _) rfl (fun K hK => ?_) (AllReadyH.nil)
  have hc := run_str R8.out _ c8 rfl
  unfold strOf at hc
  rw [HSB.out] at hc
  go_simp
  clear hc
  try go_simp
  refine hK.out _ _ (KP.out _ BX.out) (fun hHeld => ?_)
  clear hK K
  try simp only [Act.put, List.setIfInBounds_toArray, List.set_cons_zero, List.set_cons_succ]
  refine takeH (i := 9) (d := 84) (oi := _) (v := .bool true) rfl (by kernel_rfl) (by kernel_rfl) (by kernel_rfl) (by kernel_rfl) (fun _ _ _ h => h) (Or.inl ⟨by kernel_rfl, by intro u hSw; clear hSw; go_simp⟩) hHeld ?_
  try simp only [List.setIfInBounds_toArray, List.set_cons_zero, List.set_cons_succ]
  refine takeH (i := 10) (d := 85) (oi := _) (v := .bool true) rfl (by kernel_rfl) (by kernel_rfl) (by kernel_rfl) (by kernel_rfl) (fun _ _ _ h => h) (Or.inl ⟨by kernel_rfl, by intro u hSw; clear hSw; go_simp⟩) hHeld ?_
  try simp only [List.setIfInBounds_toArray, List.set_cons_zero, List.set_cons_succ]
  refine takeH (i := 11) (d := 86) (oi := _) (v := .bool true) rfl (by kernel_rfl) (by kernel_rfl) (by kernel_rfl) (by kernel_rfl) (fun _ _ _ h => h) (Or.inl ⟨by kernel_rfl, by intro u hSw; clear hSw; go_simp⟩) hHeld ?_
  try simp only [List.setIfInBounds_toArray, List.set_cons_zero, List.set_cons_succ]
  refine wpAnyH_ready (rs := [12]) (by kernel_rfl) (by simp) ?_
  refine AllReadyH.cons (o := _) rfl (fun K hK => ?_) (AllReadyH.nil)
  go_simp
  go_at_call 6
  refine (known_c _).mono ?_
  rintro y w2 ⟨rfl, b1⟩
  have BX := Lib.hid (BX.out.trans (b1.mono BX.out.size))
  clear b1
  go_simp
  refine hK.out _ _ (KP.out _ BX.out) (fun hHeld => ?_)
  clear hK K
  try simp only [Act.put, List.setIfInBounds_toArray, List.set_cons_zero, List.set_cons_succ]
  refine takeH (i := 13) (d := 88) (oi := _) (v := .bool true) rfl (by kernel_rfl) (by kernel_rfl) (by kernel_rfl) (by kernel_rfl) (fun _ _ _ h => h) (Or.inl ⟨by kernel_rfl, by intro u hSw; clear hSw; go_simp⟩) hHeld ?_
  try simp only [List.setIfInBounds_toArray, List.set_cons_zero, List.set_cons_succ]
  refine takeH (i := 14) (d := 6) (oi := _) (v := .bool true) rfl (by kernel_rfl) (by kernel_rfl) (by kernel_rfl) (by kernel_rfl) (fun _ _ _ h => h) (Or.inl ⟨by kernel_rfl, by intro u hSw; clear hSw; go_simp⟩) hHeld ?_
  try simp only [List.setIfInBounds_toArray, List.set_cons_zero, List.set_cons_succ]
  refine wpAnyH_done (by kernel_rfl) ?_ _
  refine NoPanic.normal ?_
  exact HQ.out _ _ _ _ _ _ _ _ _ _ _ _ _ _ _ (DB.out.trans (BX.out.mono DB.out.size))
end Go.Proofs.Ytaoddppkijopmaa
