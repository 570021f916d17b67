/- May a vote be added? -/
import Derived.Test.YtomfgopmgfoecaaPoLook
import Derived.BigFrame
namespace Go.Proofs.Ytomfgopmgfoecaa
open Go.ChangeMaps Go.MapKept Go.Maps Go.RowKit Go.ChangeShapes Go.WideShapes Go.ChangeAt
set_option linter.unusedVariables false
set_option maxRecDepth 100000

/-- What Check tells. -/
def chk (S : PoS) (nv : Int) (k : Lk) (m : Nat) (kh : Hh) (st : Nat) : Nat := if mayVt nv k.s.e k.t.e m && decide (1 ≤ st) && decide (st ≤ 4294967296) then (if ⟨kh, k⟩ ∈ S.bal then 11 else if 65536 ≤ S.votes.length then 5 else 0) else 2
section
variable {s bt bk bb : Nat} {vv vl : Value} {hd : Lk ⊕ Hh → Option Value} {F : Nat → Prop} {S : PoS} {n : Nat} {w w' : World}
set_option maxHeartbeats 8000000 in
theorem check_c {g : Nat} (hg : PlB g s w) (h : PoB s bt bk bb vv vl hd F S n w) (nv : Int) (k : Lk) (A : Option Addr) (m c : Nat) (kh : Hh) (st : Nat) : Calls Try.prog 24 #[.pointer (some ⟨g, 0, none⟩), .agg (vtw nv k (.slice A m c)), .agg (hhv kh), .int .u64 (st : Int)] w fun e w' => e = .returned (.int .i64 (chk S nv k m kh st : Nat)) ∧ Below w.heap.size w w' := by
  obtain ⟨W0, hW0⟩ : ∃ W0, W0 = w.alloc (.cells (vtw nv k (.slice A m c)) 40) := ⟨_, rfl⟩
  obtain ⟨W, hW⟩ : ∃ W, W = W0.alloc (.cells (hhv kh) 24) := ⟨_, rfl⟩
  have b0 : Below w.heap.size w W0 := by rw [hW0]; exact (Below.refl _ _).alloc (Nat.le_refl _) _
  have b1 : Below W0.heap.size W0 W := by rw [hW]; exact (Below.refl _ _).alloc (Nat.le_refl _) _
  have z0 : W0.heap.size = w.heap.size + 1 := by rw [hW0]; simp
  have v0 : VtK w.heap.size nv k (.slice A m c) W0 := by rw [hW0]; exact VtK.new
  have v1 := v0.below b1 v0.lt
  have h1 : HhB (w.heap.size + 1) kh W := by rw [← z0, hW]; exact Fill.of_row (heap_alloc_new W0 _)
  have bb1 := b0.trans (b1.mono b0.size)
  have hF := h.below bb1
  have hg1 : PlB g s W := (bb1.block g (blk_lt hg)).trans hg
  have KP : Hid (∀ u : World, Below W.heap.size W u → PlB g s u ∧ PoB s bt bk bb vv vl hd F S n u ∧ VtK w.heap.size nv k (.slice A m c) u ∧ HhB (w.heap.size + 1) kh u) := fun u hu => ⟨(hu.block g (blk_lt hg1)).trans hg1, hF.below hu, v1.below hu v1.lt, Fill.below h1 hu (Fill.lt h1)⟩
  have HW0 := Lib.hid hW0
  have HW := Lib.hid hW
  have HB := Lib.hid bb1
  have HG1 := Lib.hid hg1
  have k1 := v1.row
  have HM := Lib.hid (fun u => mayVote_c nv k A m c u)
  obtain ⟨mv, hmv⟩ : ∃ b, b = mayVt nv k.s.e k.t.e m := ⟨_, rfl⟩
  rw [← hmv] at HM
  have HC := Lib.hid (show chk S nv k m kh st = if mv && decide (1 ≤ st) && decide (st ≤ 4294967296) then (if ⟨kh, k⟩ ∈ S.bal then 11 else if 65536 ≤ S.votes.length then 5 else 0) else 2 by rw [hmv]; rfl)
  have hnot : ∀ (x : Bool) (w : World), (Op.unary .not (.bool x)).run Try.prog w = .ok (.bool (!x)) w := fun _ _ => rfl
  clear hW0 hW b0 b1 z0 v0 v1 h1 bb1 hF hg1 hmv h hg
  go_enter Try.func24, Try.ntmps24
  go_upto_region 1 with fail
  rw [← HW0.out, ← HW.out]
  go_wp2_with fail
  refine (isNone_c g s W HG1.out).mono ?_
  rintro e W ⟨rfl, rfl⟩
  go_wp2_with (first
    | (refine wpList_load_row rfl 40 (.tmp 5) rfl w.heap.size rfl 40 (vtw nv k (.slice A m c)) (0, 0) _ k1 Try.underlying40 rfl (size_vtw _ _ _) ?_)
    | fail)
  refine (HM.out _).mono ?_
  rintro e w3 ⟨rfl, b3⟩
  have BX := Lib.hid b3
  clear b3 k1
  cases mv with
  | false =>
    go_wp2_with fail
    go_ret
    refine ⟨?_, HB.out.trans (BX.out.mono HB.out.size)⟩
    rw [HC.out]
    rfl
  | true =>
    by_cases c1 : 1 ≤ st
    · have d1 : ¬ (st < 1) := by omega
      have d1' : decide ((st : Int) < 1) = false := by simp; omega
      by_cases c2 : st ≤ 4294967296
      · have d2 : ¬ (4294967296 < st) := by omega
        have d2' : decide ((4294967296 : Int) < (st : Int)) = false := by simp; omega
        go_wp2_with fail
        obtain ⟨w2, hw2⟩ : ∃ w2, w2 = w3.drew := ⟨_, rfl⟩
        replace BX := Lib.hid (show Below W.heap.size W w2 by rw [hw2]; exact BX.out.drew)
        rename_i K1 hK1
        refine wp_region_noPanic ?_
        refine wp_region_held_drew (S := (fun u => PlB g s u ∧ PoB s bt bk bb vv vl hd F S n u ∧ VtK w.heap.size nv k (.slice A m c) u ∧ HhB (w.heap.size + 1) kh u)) (by kernel_rfl) (by rw [← hw2]; exact KP.out _ BX.out) (fun hHeld => ?_)
        rw [← hw2]
        rw [← hw2] at hHeld
        clear hw2
        refine takeH (i := 0) (d := 25) (oi := _) (v := .pointer (some ⟨g, 0, none⟩)) rfl (by kernel_rfl) (by kernel_rfl) (by kernel_rfl) (by kernel_rfl) (fun _ _ _ h => h) (Or.inl ⟨by kernel_rfl, by intro u hSw; clear hSw; go_simp⟩) hHeld ?_
        try simp only [List.setIfInBounds_toArray, List.set_cons_zero, List.set_cons_succ]
        refine takeH (i := 1) (d := 26) (oi := _) (v := .pointer (some ⟨g, 0, none⟩)) rfl (by kernel_rfl) (by kernel_rfl) (by kernel_rfl) (by kernel_rfl) (fun _ _ _ h => h) (Or.inl ⟨by kernel_rfl, by intro u hSw; clear hSw; go_simp⟩) hHeld ?_
        try simp only [List.setIfInBounds_toArray, List.set_cons_zero, List.set_cons_succ]
        refine takeH (i := 2) (d := 27) (oi := _) (v := .pointer (some ⟨g, 0, none⟩)) rfl (by kernel_rfl) (by kernel_rfl) (by kernel_rfl) (by kernel_rfl) (fun _ _ _ h => h) (Or.inl ⟨by kernel_rfl, by intro u hSw; clear hSw; go_simp⟩) hHeld ?_
        try simp only [List.setIfInBounds_toArray, List.set_cons_zero, List.set_cons_succ]
        refine takeH (i := 3) (d := 28) (oi := _) (v := .pointer (some ⟨s, 0, none⟩)) rfl (by kernel_rfl) (by kernel_rfl) (by kernel_rfl) (by kernel_rfl) (fun _ _ _ h => h) (Or.inl ⟨by kernel_rfl, by intro u hSw; (have hc : u.cell? ⟨g, 0, none⟩ = some (.pointer (some ⟨s, 0, none⟩)) := cell_of_row u g 0 _ _ (0, 0) hSw.1; clear hSw; go_simp)⟩) hHeld ?_
        try simp only [List.setIfInBounds_toArray, List.set_cons_zero, List.set_cons_succ]
        refine takeH (i := 4) (d := 29) (oi := _) (v := .agg (hhv kh)) rfl (by kernel_rfl) (by kernel_rfl) (by kernel_rfl) (by kernel_rfl) (fun _ _ _ h => h) (yieldsIf_load_midC (by kernel_rfl) _ _ rfl ((w.heap.size + 1)) 0 rfl (hhC kh) (hhv kh) (hhC_arr kh) _ (fun u hSw => hhB_all hSw.2.2.2) Try.underlying24 rfl (size_hhv kh)) hHeld ?_
        try simp only [List.setIfInBounds_toArray, List.set_cons_zero, List.set_cons_succ]
        refine takeH (i := 5) (d := 30) (oi := _) (v := .agg (vtw nv k (.slice A m c))) rfl (by kernel_rfl) (by kernel_rfl) (by kernel_rfl) (by kernel_rfl) (fun _ _ _ h => h) (yieldsIf_load_midC (by kernel_rfl) _ _ rfl (w.heap.size) 0 rfl (vtC nv k (.slice A m c)) (vtw nv k (.slice A m c)) (vtC_arr nv k (.slice A m c)) _ (fun u hSw => hSw.2.2.1.all) Try.underlying40 rfl (size_vtw nv k (.slice A m c))) hHeld ?_
        try simp only [List.setIfInBounds_toArray, List.set_cons_zero, List.set_cons_succ]
        refine wpAnyH_ready (rs := [6]) (by kernel_rfl) (by simp) ?_
        refine AllReadyH.cons (o := _) rfl (fun K hK => ?_) (AllReadyH.nil)
        go_simp
        go_at_call 16
        refine (linkOf_c nv k (.slice A m c) _).mono ?_
        rintro e w2 ⟨rfl, b2⟩
        have BX := Lib.hid (BX.out.trans (b2.mono BX.out.size))
        clear b2
        go_simp
        refine hK.out _ _ (KP.out _ BX.out) (fun hHeld => ?_)
        clear hK K
        try simp only [Act.put, List.setIfInBounds_toArray, List.set_cons_zero, List.set_cons_succ]
        refine wpAnyH_ready (rs := [7]) (by kernel_rfl) (by simp) ?_
        refine AllReadyH.cons (o := _) rfl (fun K hK => ?_) (AllReadyH.nil)
        go_simp
        go_at_call 43
        refine (has_c (KP.out _ BX.out).2.1 kh k).mono ?_
        rintro e w2 ⟨rfl, b2⟩
        have BX := Lib.hid (BX.out.trans (b2.mono BX.out.size))
        clear b2
        go_simp
        refine hK.out _ _ (KP.out _ BX.out) (fun hHeld => ?_)
        clear hK K
        try simp only [Act.put, List.setIfInBounds_toArray, List.set_cons_zero, List.set_cons_succ]
        refine takeH (i := 8) (d := 24) (oi := _) (v := .bool (decide ((⟨kh, k⟩ : Bt) ∈ S.bal))) rfl (by kernel_rfl) (by kernel_rfl) (by kernel_rfl) (by kernel_rfl) (fun _ _ _ h => h) (Or.inl ⟨by kernel_rfl, by intro u hSw; clear hSw; go_simp⟩) hHeld ?_
        try simp only [List.setIfInBounds_toArray, List.set_cons_zero, List.set_cons_succ]
        refine wpAnyH_done (by kernel_rfl) ?_ _
        refine NoPanic.normal ?_
        first
          | apply hK1
          | apply K1
        clear hK1 K1
        by_cases c3 : (⟨kh, k⟩ : Bt) ∈ S.bal
        · rw [decide_eq_true c3]
          have HC2 := Lib.hid (show chk S nv k m kh st = 11 by rw [HC.out, if_pos (by simp [c1, c2]), if_pos c3])
          clear c3
          go_wp2_with fail
          go_ret
          refine ⟨?_, HB.out.trans (BX.out.mono HB.out.size)⟩
          rw [HC2.out]
          rfl
        · rw [decide_eq_false c3]
          have HC2 := Lib.hid (show chk S nv k m kh st = if 65536 ≤ S.votes.length then 5 else 0 by rw [HC.out, if_pos (by simp [c1, c2]), if_neg c3])
          clear c3
          have HLEN := Lib.hid (len_c g s bt bk bb vv vl hd F S n _ (KP.out _ BX.out).1 (KP.out _ BX.out).2.1)
          obtain ⟨N, hN⟩ : ∃ N, N = S.votes.length := ⟨_, rfl⟩
          rw [← hN] at HLEN HC2
          clear hN
          go_wp2_with fail
          refine HLEN.out.mono ?_
          rintro e w4 ⟨rfl, rfl⟩
          by_cases c4 : 65536 ≤ N
          · have d4 : decide ((65536 : Int) ≤ (N : Int)) = true := by simp; omega
            go_wp2_with fail
            go_ret
            refine ⟨?_, HB.out.trans (BX.out.mono HB.out.size)⟩
            rw [HC2.out, if_pos c4]
            rfl
          · have d4 : decide ((65536 : Int) ≤ (N : Int)) = false := by simp; omega
            go_wp2_with fail
            go_ret
            refine ⟨?_, HB.out.trans (BX.out.mono HB.out.size)⟩
            rw [HC2.out, if_neg c4]
            rfl
      · have d2 : 4294967296 < st := by omega
        have d2' : decide ((4294967296 : Int) < (st : Int)) = true := by simp; omega
        go_wp2_with fail
        go_ret
        refine ⟨?_, HB.out.trans (BX.out.mono HB.out.size)⟩
        rw [HC.out, if_neg (by simp; omega)]
        rfl
    · obtain rfl : st = 0 := by omega
      go_wp2_with fail
      go_ret
      refine ⟨?_, HB.out.trans (BX.out.mono HB.out.size)⟩
      rw [HC.out]
      rfl
end
end Go.Proofs.Ytomfgopmgfoecaa
