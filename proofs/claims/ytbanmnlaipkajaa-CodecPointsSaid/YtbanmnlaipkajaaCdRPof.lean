/- Contract: the reference's PointOf, of any bytes. -/
import Derived.Test.YtbanmnlaipkajaaCdRefH
import Derived.Test.YtbanmnlaipkajaaCdPof
import Derived.Test.YtbanmnlaipkajaaCdTake
namespace Go.Proofs.Ytbanmnlaipkajaa
open Go.ChangeShapes Go.WideShapes Go.ChangeAt Go.RowKit
set_option linter.unusedVariables false
set_option maxRecDepth 100000

theorem hdBelow' {B : Nat} {w W u : World} (h : Below B w W) (hu : Below W.heap.size W.drew u) (hB : B ≤ w.heap.size := by exact Nat.le_refl _) : Below B w u := h.drew.trans (hu.mono (Nat.le_trans hB h.size))
theorem built_pt0 : Try.prog.built 26 [] = some pt0 := by kernel_rfl
def RPofP (w : World) (b : List UInt8) (e : Ending) (w' : World) : Prop := e = .returned (.tuple #[.agg (pofV b), .bool (pofOk b)]) ∧ Below w.heap.size w w'

set_option maxHeartbeats 8000000 in
theorem refPointOf_c (A : Option Addr) (c : Nat) (l : List UInt8) (w : World) (h : Rd w 0 w.heap.size A l) (hl : l.length ≤ 100000) (hc : l.length ≤ c) :
    Calls Try.prog 13 #[.slice A l.length c] w (RPofP w l) := by
  have hz := zero_pt0
  obtain ⟨W, hW⟩ : ∃ W, W = (w.alloc (.cells pt0 26)).alloc (.cells #[.slice A l.length c, .int .i64 0, .bool false] 91) := ⟨_, rfl⟩
  have hb : Below w.heap.size w W := by rw [hW]; exact ((Below.refl _ _).alloc (Nat.le_refl _) _).alloc (by simp) _
  have hsz : W.heap.size = w.heap.size + 2 := by rw [hW]; simp
  have f0 : W.heap[w.heap.size]? = some (.cells pt0 26 (0, 0)) := by rw [hW, heap_lt _ _ (by simp)]; exact heap_alloc_new w _
  have f1 : W.heap[w.heap.size + 1]? = some (.cells #[.slice A l.length c, .int .i64 0, .bool false] 91 (0, 0)) := by
    rw [hW]
    have := heap_alloc_new (w.alloc (.cells pt0 26)) (.cells #[.slice A l.length c, .int .i64 0, .bool false] 91)
    simpa using this
  have hrr : RR W (w.heap.size + 1) A c l (some l) := ⟨0, Nat.zero_le _, f1, fun m hm => by injection hm with hm; rw [← hm]; rfl⟩
  have hrd := h.below hb (Nat.le_refl _)
  have HC := Lib.hid (refPoint_c (w.heap.size + 1) A c 0 w.heap.size l (some l) W hl hc hrr hrd (by omega) (by omega))
  have HRD := Lib.hid hrd
  have HW := Lib.hid hW
  have HB := Lib.hid hb
  have F0 := Lib.hid f0
  have HS := Lib.hid hsz
  clear hW hb f0 f1 hrr hsz h hrd
  go_enter Try.func13, Try.ntmps13
  go_wp2_with fail
  rw [← HW.out]
  refine HC.out.mono ?_
  rintro e w2 ⟨rfl, r2, g2⟩
  have HB2 : Hid (Below w.heap.size w w2) := ⟨g2.os.trans HB.out.os, g2.tape.trans HB.out.tape, g2.output.trans HB.out.output, Nat.le_trans HB.out.size g2.size, fun k hk => (g2.block k (by have := HS.out; omega) (fun e => by injection e with e; omega)).trans (HB.out.block k hk)⟩
  have HL2 := Lib.hid (show w.heap.size < w2.heap.size by have := g2.size; have := HS.out; omega)
  have F2 := Lib.hid ((g2.block w.heap.size (by have := HS.out; omega) (fun e => by injection e with e; omega)).trans F0.out)
  have HRD2 := Lib.hid (HRD.out.grown g2 (by have := HS.out; omega) (fun g hg => by injection hg with hg; omega))
  clear r2 g2 HC F0 HRD
  have he := num8_lt (some l)
  have hlen := hashR_len (numS (some l) 8).2
  have HOK := Lib.hid (show pofOk l = (decide ((ptR (some l)).1 ≤ 4611686018427387904) && (ptL (ptR (some l)).1 (ptR (some l)).2 == l)) from rfl)
  have HV := Lib.hid (show pofV l = if pofOk l = true then ptV (ptR (some l)).1 (ptR (some l)).2 else pt0 from rfl)
  change (ptR (some l)).1 < _ at he
  change (ptR (some l)).2.length = 32 at hlen
  generalize (ptR (some l)).1 = e at *
  generalize (ptR (some l)).2 = x at *
  have HSZ := Lib.hid (size_ptV e x)
  have HON : Hid ((ptV e x).all (·.oneCell') = true) := rowV_one 33 _ (ptF_one _ _)
  have HSI : Hid (pt0.size = (ptV e x).size) := (rowV_size _ _).trans (rowV_size _ _).symm
  obtain ⟨V0, hV0⟩ : ∃ V0, V0 = w2.alloc (.cells (ptV e x) 26) := ⟨_, rfl⟩
  have bn : Below w2.heap.size w2 V0 := by rw [hV0]; exact (Below.refl _ _).alloc (Nat.le_refl _) _
  have k2 : PtB w2.heap.size e x V0 := by rw [hV0]; exact PtB.new
  have HB3 := Lib.hid (HB2.out.trans (bn.mono HB2.out.size))
  have hrd3 := HRD2.out.below bn (Nat.le_of_lt HL2.out)
  have f3 : V0.heap[w.heap.size]? = some (.cells pt0 26 (0, 0)) := (bn.block _ HL2.out).trans F2.out
  have KP : Hid (∀ u : World, Below V0.heap.size V0.drew u →  u.rangeAt w2.heap.size 0 (ptC e x) ∧ Rd u 0 w.heap.size A l) := fun u hu =>
    ⟨ptC0 ((show PtB _ _ _ V0.drew from k2).below hu k2.lt), (show Rd V0.drew _ _ _ _ from hrd3).below hu (Nat.le_trans (Nat.le_of_lt HL2.out) bn.size)⟩
  have HF : Hid (∀ u : World, Below V0.heap.size V0.drew u → u.heap[w.heap.size]? = some (.cells pt0 26 (0, 0))) := fun u hu => (hu.block _ (Nat.lt_of_lt_of_le HL2.out bn.size)).trans f3
  have HG : Hid (∀ u : World, Below V0.heap.size V0.drew u → u.heap[w2.heap.size]? = some (.cells (ptV e x) 26 (0, 0))) := fun u hu => ((show PtB _ _ _ V0.drew from k2).below hu k2.lt).row
  have BX : Hid (Below V0.heap.size V0.drew V0.drew) := Below.refl _ _
  have CM := Lib.hid (fun u => refMayPoint_c e x u)
  have CP := Lib.hid (fun u => refPointB_c e x u he hlen)
  obtain ⟨sl, hsl⟩ : ∃ sl : ByteArray, sl = ⟨l.toArray⟩ := ⟨_, rfl⟩
  obtain ⟨sx, hsx⟩ : ∃ sx : ByteArray, sx = ⟨(ptL e x).toArray⟩ := ⟨_, rfl⟩
  have hne : (sx.toList == sl.toList) = (ptL e x == l) := by rw [hsx, hsl, str_toListD, str_toListD]
  have HSL := Lib.hid hsl
  have HSX := Lib.hid hsx
  have HV0 := Lib.hid hV0
  clear he hlen bn k2 hrd3 f3 HB2 HL2 F2 HRD2 hV0 hsl hsx
  go_wp2_with (refine wpList_store_row rfl 26 (.tmp 4) (.tmp 8) rfl w2.heap.size (ptV e x) rfl rfl 26 pt0 (heap_alloc_new _ _) HSZ.out HSI.out HON.out ?_; rw [World.setRow_alloc_new])
  rw [← HV0.out]
  by_cases hm : e ≤ 4611686018427387904
  · rw [decide_eq_true hm] at CM HOK
    rw [Bool.true_and, ← hne] at HOK
    clear hm
    cases hq : (sx.toList == sl.toList)
    · rw [hq] at HOK
      rw [HOK.out, if_neg (by decide)] at HV
      have HN := HOK
      clear hne
      rename_i K1 hK1
      refine wp_region_noPanic ?_
      refine wp_region_held_drew (S := (fun u => u.rangeAt w2.heap.size 0 (ptC e x) ∧ Rd u 0 w.heap.size A l)) (by kernel_rfl) (KP.out _ BX.out) (fun hHeld => ?_)
      refine takeH (i := 0) (d := 9) (oi := _) (v := .agg (ptV e x)) rfl (by kernel_rfl) (by kernel_rfl) (by kernel_rfl) (by kernel_rfl) (fun _ _ _ h => h) (yieldsIf_load_midC (by rfl) _ _ rfl w2.heap.size 0 rfl (ptC e x) (ptV e x) rfl _ (fun w h => h.1) Try.underlying26 rfl (size_ptV _ _)) hHeld ?_
      try simp only [List.setIfInBounds_toArray, List.set_cons_zero, List.set_cons_succ]
      refine wpAnyH_ready (rs := [1]) (by kernel_rfl) (by simp) ?_
      refine AllReadyH.cons (o := _) rfl (fun K hK => ?_) AllReadyH.nil
      go_simp
      go_at_call 16
      refine (CM.out _).mono ?_
      rintro y w3 ⟨rfl, b3⟩
      have BX := Lib.hid (BX.out.trans (b3.mono BX.out.size))
      clear b3
      go_simp
      refine hK.out _ _ (KP.out _ BX.out) (fun hHeld => ?_)
      clear hK K
      try simp only [Act.put, List.setIfInBounds_toArray, List.set_cons_zero, List.set_cons_succ]
      refine takeH (i := 2) (d := 11) (oi := _) (v := .bool false) rfl (by kernel_rfl) (by kernel_rfl) (by kernel_rfl) (by kernel_rfl) (fun _ _ _ h => h) (Or.inl ⟨by rfl, by intro u hSw; go_simp⟩) hHeld ?_
      try simp only [List.setIfInBounds_toArray, List.set_cons_zero, List.set_cons_succ]
      refine takeH (i := 3) (d := 12) (oi := _) (v := .bool false) rfl (by kernel_rfl) (by kernel_rfl) (by kernel_rfl) (by kernel_rfl) (fun _ _ _ h => h) (Or.inl ⟨by rfl, by intro u hSw; go_simp⟩) hHeld ?_
      try simp only [List.setIfInBounds_toArray, List.set_cons_zero, List.set_cons_succ]
      refine takeH (i := 4) (d := 13) (oi := _) (v := .agg (ptV e x)) rfl (by kernel_rfl) (by kernel_rfl) (by kernel_rfl) (by kernel_rfl) (fun _ _ _ h => h) (yieldsIf_load_midC (by rfl) _ _ rfl w2.heap.size 0 rfl (ptC e x) (ptV e x) rfl _ (fun w h => h.1) Try.underlying26 rfl (size_ptV _ _)) hHeld ?_
      try simp only [List.setIfInBounds_toArray, List.set_cons_zero, List.set_cons_succ]
      refine takeH (i := 7) (d := 16) (oi := _) (v := .slice A l.length c) rfl (by kernel_rfl) (by kernel_rfl) (by kernel_rfl) (by kernel_rfl) (fun _ _ _ h => h) (Or.inl ⟨by rfl, by intro u hSw; go_simp⟩) hHeld ?_
      try simp only [List.setIfInBounds_toArray, List.set_cons_zero, List.set_cons_succ]
      refine takeH (i := 8) (d := 17) (oi := _) (v := .string sl) rfl (by kernel_rfl) (by kernel_rfl) (by kernel_rfl) (by kernel_rfl) (fun _ _ _ h => h) (Or.inl ⟨by rfl, by intro u hSw; (have hst := run_str hSw.2 l.length c rfl; unfold strOf at hst; rw [← HSL.out] at hst; clear hSw; go_simp)⟩) hHeld ?_
      try simp only [List.setIfInBounds_toArray, List.set_cons_zero, List.set_cons_succ]
      refine wpAnyH_ready (rs := [5]) (by kernel_rfl) (by simp) ?_
      refine AllReadyH.cons (o := _) rfl (fun K hK => ?_) AllReadyH.nil
      go_simp
      go_at_call 17
      refine (CP.out _).mono ?_
      rintro y w3 ⟨A3, c3, rfl, hc3, o3, b3⟩
      have BX := Lib.hid (BX.out.trans (b3.mono BX.out.size))
      have hst := run_str o3.rd (ptL e x).length c3 rfl
      unfold strOf at hst
      rw [← HSX.out] at hst
      have HST := Lib.hid hst
      clear hst o3
      clear b3
      go_simp
      refine hK.out _ _ (KP.out _ BX.out) (fun hHeld => ?_)
      clear hK K
      try simp only [Act.put, List.setIfInBounds_toArray, List.set_cons_zero, List.set_cons_succ]
      refine wpAnyH_ready (rs := [6]) (by kernel_rfl) (by simp) ?_
      refine AllReadyH.cons (o := _) rfl (fun K hK => ?_) AllReadyH.nil
      have hst := HST.out
      go_simp
      refine hK.out _ _ (KP.out _ BX.out) (fun hHeld => ?_)
      clear hK K
      try simp only [Act.put, List.setIfInBounds_toArray, List.set_cons_zero, List.set_cons_succ]
      refine takeH (i := 9) (d := 18) (oi := _) (v := .bool true) rfl (by kernel_rfl) (by kernel_rfl) (by kernel_rfl) (by kernel_rfl) (fun _ _ _ h => h) (Or.inl ⟨by rfl, by intro u hSw; go_simp⟩) hHeld ?_
      try simp only [List.setIfInBounds_toArray, List.set_cons_zero, List.set_cons_succ]
      refine takeH (i := 10) (d := 19) (oi := _) (v := .bool true) rfl (by kernel_rfl) (by kernel_rfl) (by kernel_rfl) (by kernel_rfl) (fun _ _ _ h => h) (Or.inl ⟨by rfl, by intro u hSw; go_simp⟩) hHeld ?_
      try simp only [List.setIfInBounds_toArray, List.set_cons_zero, List.set_cons_succ]
      refine wpAnyH_done (by kernel_rfl) ?_ _
      refine NoPanic.normal ?_
      apply hK1
      clear hK1 K1
      have h6 := HF.out _ BX.out
      have HB9 := Lib.hid (hdBelow' HB3.out BX.out)
      clear BX
      go_wp2_with (first
        | (refine wpList_build_as rfl 26 #[] rfl _ _ built_pt0 (by kernel_rfl) ?_)
        | (refine wpList_store_row rfl 26 (.tmp 2) (.tmp 20) rfl w.heap.size pt0 rfl rfl 26 pt0 h6 size_pt0 rfl one_pt0 ?_))
      exact bodyPost_ret (v := .tuple #[.agg pt0, .bool false]) (results_cell_row_tmp rfl _ _ w.heap.size 26 pt0 (0, 0) _ rfl (setRow_heap _ _ _ _ _ _ h6) Try.underlying26 rfl size_pt0 _ rfl) rfl ⟨by rw [HV.out, HN.out], below_setRow HB9.out (Nat.le_refl _) _⟩
    · rw [hq] at HOK
      rw [HOK.out, if_pos rfl] at HV
      have HN := HOK
      clear hne
      rename_i K1 hK1
      refine wp_region_noPanic ?_
      refine wp_region_held_drew (S := (fun u => u.rangeAt w2.heap.size 0 (ptC e x) ∧ Rd u 0 w.heap.size A l)) (by kernel_rfl) (KP.out _ BX.out) (fun hHeld => ?_)
      refine takeH (i := 0) (d := 9) (oi := _) (v := .agg (ptV e x)) rfl (by kernel_rfl) (by kernel_rfl) (by kernel_rfl) (by kernel_rfl) (fun _ _ _ h => h) (yieldsIf_load_midC (by rfl) _ _ rfl w2.heap.size 0 rfl (ptC e x) (ptV e x) rfl _ (fun w h => h.1) Try.underlying26 rfl (size_ptV _ _)) hHeld ?_
      try simp only [List.setIfInBounds_toArray, List.set_cons_zero, List.set_cons_succ]
      refine wpAnyH_ready (rs := [1]) (by kernel_rfl) (by simp) ?_
      refine AllReadyH.cons (o := _) rfl (fun K hK => ?_) AllReadyH.nil
      go_simp
      go_at_call 16
      refine (CM.out _).mono ?_
      rintro y w3 ⟨rfl, b3⟩
      have BX := Lib.hid (BX.out.trans (b3.mono BX.out.size))
      clear b3
      go_simp
      refine hK.out _ _ (KP.out _ BX.out) (fun hHeld => ?_)
      clear hK K
      try simp only [Act.put, List.setIfInBounds_toArray, List.set_cons_zero, List.set_cons_succ]
      refine takeH (i := 2) (d := 11) (oi := _) (v := .bool false) rfl (by kernel_rfl) (by kernel_rfl) (by kernel_rfl) (by kernel_rfl) (fun _ _ _ h => h) (Or.inl ⟨by rfl, by intro u hSw; go_simp⟩) hHeld ?_
      try simp only [List.setIfInBounds_toArray, List.set_cons_zero, List.set_cons_succ]
      refine takeH (i := 3) (d := 12) (oi := _) (v := .bool false) rfl (by kernel_rfl) (by kernel_rfl) (by kernel_rfl) (by kernel_rfl) (fun _ _ _ h => h) (Or.inl ⟨by rfl, by intro u hSw; go_simp⟩) hHeld ?_
      try simp only [List.setIfInBounds_toArray, List.set_cons_zero, List.set_cons_succ]
      refine takeH (i := 4) (d := 13) (oi := _) (v := .agg (ptV e x)) rfl (by kernel_rfl) (by kernel_rfl) (by kernel_rfl) (by kernel_rfl) (fun _ _ _ h => h) (yieldsIf_load_midC (by rfl) _ _ rfl w2.heap.size 0 rfl (ptC e x) (ptV e x) rfl _ (fun w h => h.1) Try.underlying26 rfl (size_ptV _ _)) hHeld ?_
      try simp only [List.setIfInBounds_toArray, List.set_cons_zero, List.set_cons_succ]
      refine takeH (i := 7) (d := 16) (oi := _) (v := .slice A l.length c) rfl (by kernel_rfl) (by kernel_rfl) (by kernel_rfl) (by kernel_rfl) (fun _ _ _ h => h) (Or.inl ⟨by rfl, by intro u hSw; go_simp⟩) hHeld ?_
      try simp only [List.setIfInBounds_toArray, List.set_cons_zero, List.set_cons_succ]
      refine takeH (i := 8) (d := 17) (oi := _) (v := .string sl) rfl (by kernel_rfl) (by kernel_rfl) (by kernel_rfl) (by kernel_rfl) (fun _ _ _ h => h) (Or.inl ⟨by rfl, by intro u hSw; (have hst := run_str hSw.2 l.length c rfl; unfold strOf at hst; rw [← HSL.out] at hst; clear hSw; go_simp)⟩) hHeld ?_
      try simp only [List.setIfInBounds_toArray, List.set_cons_zero, List.set_cons_succ]
      refine wpAnyH_ready (rs := [5]) (by kernel_rfl) (by simp) ?_
      refine AllReadyH.cons (o := _) rfl (fun K hK => ?_) AllReadyH.nil
      go_simp
      go_at_call 17
      refine (CP.out _).mono ?_
      rintro y w3 ⟨A3, c3, rfl, hc3, o3, b3⟩
      have BX := Lib.hid (BX.out.trans (b3.mono BX.out.size))
      have hst := run_str o3.rd (ptL e x).length c3 rfl
      unfold strOf at hst
      rw [← HSX.out] at hst
      have HST := Lib.hid hst
      clear hst o3
      clear b3
      go_simp
      refine hK.out _ _ (KP.out _ BX.out) (fun hHeld => ?_)
      clear hK K
      try simp only [Act.put, List.setIfInBounds_toArray, List.set_cons_zero, List.set_cons_succ]
      refine wpAnyH_ready (rs := [6]) (by kernel_rfl) (by simp) ?_
      refine AllReadyH.cons (o := _) rfl (fun K hK => ?_) AllReadyH.nil
      have hst := HST.out
      go_simp
      refine hK.out _ _ (KP.out _ BX.out) (fun hHeld => ?_)
      clear hK K
      try simp only [Act.put, List.setIfInBounds_toArray, List.set_cons_zero, List.set_cons_succ]
      refine takeH (i := 9) (d := 18) (oi := _) (v := .bool false) rfl (by kernel_rfl) (by kernel_rfl) (by kernel_rfl) (by kernel_rfl) (fun _ _ _ h => h) (Or.inl ⟨by rfl, by intro u hSw; go_simp⟩) hHeld ?_
      try simp only [List.setIfInBounds_toArray, List.set_cons_zero, List.set_cons_succ]
      refine takeH (i := 10) (d := 19) (oi := _) (v := .bool false) rfl (by kernel_rfl) (by kernel_rfl) (by kernel_rfl) (by kernel_rfl) (fun _ _ _ h => h) (Or.inl ⟨by rfl, by intro u hSw; go_simp⟩) hHeld ?_
      try simp only [List.setIfInBounds_toArray, List.set_cons_zero, List.set_cons_succ]
      refine wpAnyH_done (by kernel_rfl) ?_ _
      refine NoPanic.normal ?_
      apply hK1
      clear hK1 K1
      have h6 := HF.out _ BX.out
      have h7 := HG.out _ BX.out
      have HB9 := Lib.hid (hdBelow' HB3.out BX.out)
      clear BX
      go_wp2_with (first
        | (refine wpList_load_row rfl 26 (.tmp 4) rfl w2.heap.size rfl 26 (ptV e x) (0, 0) _ h7 Try.underlying26 rfl HSZ.out ?_)
        | (refine wpList_store_row rfl 26 (.tmp 2) (.tmp 21) rfl w.heap.size (ptV e x) rfl rfl 26 pt0 h6 HSZ.out HSI.out HON.out ?_))
      exact bodyPost_ret (v := .tuple #[.agg (ptV e x), .bool true]) (results_cell_row_tmp rfl _ _ w.heap.size 26 (ptV e x) (0, 0) _ rfl (setRow_heap _ _ _ _ _ _ h6) Try.underlying26 rfl HSZ.out _ rfl) rfl ⟨by rw [HV.out, HN.out], below_setRow HB9.out (Nat.le_refl _) _⟩
  · rw [show decide (e ≤ 4611686018427387904) = false by simpa using hm] at CM HOK
    rw [Bool.false_and] at HOK
    rw [HOK.out, if_neg (by decide)] at HV
    have HN := HOK
    clear hm hne
    rename_i K1 hK1
    refine wp_region_noPanic ?_
    refine wp_region_held_drew (S := (fun u => u.rangeAt w2.heap.size 0 (ptC e x) ∧ Rd u 0 w.heap.size A l)) (by kernel_rfl) (KP.out _ BX.out) (fun hHeld => ?_)
    refine takeH (i := 0) (d := 9) (oi := _) (v := .agg (ptV e x)) rfl (by kernel_rfl) (by kernel_rfl) (by kernel_rfl) (by kernel_rfl) (fun _ _ _ h => h) (yieldsIf_load_midC (by rfl) _ _ rfl w2.heap.size 0 rfl (ptC e x) (ptV e x) rfl _ (fun w h => h.1) Try.underlying26 rfl (size_ptV _ _)) hHeld ?_
    try simp only [List.setIfInBounds_toArray, List.set_cons_zero, List.set_cons_succ]
    refine wpAnyH_ready (rs := [1]) (by kernel_rfl) (by simp) ?_
    refine AllReadyH.cons (o := _) rfl (fun K hK => ?_) AllReadyH.nil
    go_simp
    go_at_call 16
    refine (CM.out _).mono ?_
    rintro y w3 ⟨rfl, b3⟩
    have BX := Lib.hid (BX.out.trans (b3.mono BX.out.size))
    clear b3
    go_simp
    refine hK.out _ _ (KP.out _ BX.out) (fun hHeld => ?_)
    clear hK K
    try simp only [Act.put, List.setIfInBounds_toArray, List.set_cons_zero, List.set_cons_succ]
    refine takeH (i := 2) (d := 11) (oi := _) (v := .bool true) rfl (by kernel_rfl) (by kernel_rfl) (by kernel_rfl) (by kernel_rfl) (fun _ _ _ h => h) (Or.inl ⟨by rfl, by intro u hSw; go_simp⟩) hHeld ?_
    try simp only [List.setIfInBounds_toArray, List.set_cons_zero, List.set_cons_succ]
    refine takeH (i := 3) (d := 12) (oi := _) (v := .bool true) rfl (by kernel_rfl) (by kernel_rfl) (by kernel_rfl) (by kernel_rfl) (fun _ _ _ h => h) (Or.inl ⟨by rfl, by intro u hSw; go_simp⟩) hHeld ?_
    try simp only [List.setIfInBounds_toArray, List.set_cons_zero, List.set_cons_succ]
    refine takeH (i := 4) (d := 13) (oi := _) (v := undef) rfl (by kernel_rfl) (by kernel_rfl) (by kernel_rfl) (by kernel_rfl) (fun _ _ _ h => h) (Or.inr ⟨by rfl, rfl⟩) hHeld ?_
    try simp only [List.setIfInBounds_toArray, List.set_cons_zero, List.set_cons_succ]
    refine takeH (i := 5) (d := 14) (oi := _) (v := undef) rfl (by kernel_rfl) (by kernel_rfl) (by kernel_rfl) (by kernel_rfl) (fun _ _ _ h => h) (Or.inr ⟨by rfl, rfl⟩) hHeld ?_
    try simp only [List.setIfInBounds_toArray, List.set_cons_zero, List.set_cons_succ]
    refine takeH (i := 6) (d := 15) (oi := _) (v := undef) rfl (by kernel_rfl) (by kernel_rfl) (by kernel_rfl) (by kernel_rfl) (fun _ _ _ h => h) (Or.inr ⟨by rfl, rfl⟩) hHeld ?_
    try simp only [List.setIfInBounds_toArray, List.set_cons_zero, List.set_cons_succ]
    refine takeH (i := 7) (d := 16) (oi := _) (v := undef) rfl (by kernel_rfl) (by kernel_rfl) (by kernel_rfl) (by kernel_rfl) (fun _ _ _ h => h) (Or.inr ⟨by rfl, rfl⟩) hHeld ?_
    try simp only [List.setIfInBounds_toArray, List.set_cons_zero, List.set_cons_succ]
    refine takeH (i := 8) (d := 17) (oi := _) (v := undef) rfl (by kernel_rfl) (by kernel_rfl) (by kernel_rfl) (by kernel_rfl) (fun _ _ _ h => h) (Or.inr ⟨by rfl, rfl⟩) hHeld ?_
    try simp only [List.setIfInBounds_toArray, List.set_cons_zero, List.set_cons_succ]
    refine takeH (i := 9) (d := 18) (oi := _) (v := undef) rfl (by kernel_rfl) (by kernel_rfl) (by kernel_rfl) (by kernel_rfl) (fun _ _ _ h => h) (Or.inr ⟨by rfl, rfl⟩) hHeld ?_
    try simp only [List.setIfInBounds_toArray, List.set_cons_zero, List.set_cons_succ]
    refine takeH (i := 10) (d := 19) (oi := _) (v := .bool true) rfl (by kernel_rfl) (by kernel_rfl) (by kernel_rfl) (by kernel_rfl) (fun _ _ _ h => h) (Or.inl ⟨by rfl, by intro u hSw; go_simp⟩) hHeld ?_
    try simp only [List.setIfInBounds_toArray, List.set_cons_zero, List.set_cons_succ]
    refine wpAnyH_done (by kernel_rfl) ?_ _
    refine NoPanic.normal ?_
    apply hK1
    clear hK1 K1
    have h6 := HF.out _ BX.out
    have HB9 := Lib.hid (hdBelow' HB3.out BX.out)
    clear BX
    go_wp2_with (first
      | (refine wpList_build_as rfl 26 #[] rfl _ _ built_pt0 (by kernel_rfl) ?_)
      | (refine wpList_store_row rfl 26 (.tmp 2) (.tmp 20) rfl w.heap.size pt0 rfl rfl 26 pt0 h6 size_pt0 rfl one_pt0 ?_))
    exact bodyPost_ret (v := .tuple #[.agg pt0, .bool false]) (results_cell_row_tmp rfl _ _ w.heap.size 26 pt0 (0, 0) _ rfl (setRow_heap _ _ _ _ _ _ h6) Try.underlying26 rfl size_pt0 _ rfl) rfl ⟨by rw [HV.out, HN.out], below_setRow HB9.out (Nat.le_refl _) _⟩
end Go.Proofs.Ytbanmnlaipkajaa
