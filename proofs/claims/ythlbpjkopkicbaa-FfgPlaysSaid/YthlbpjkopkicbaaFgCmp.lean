/- The order of checkpoints. -/
import Derived.Test.YthlbpjkopkicbaaFgOps
import Derived.Test.YthlbpjkopkicbaaCmpKit
namespace Go.Proofs.Ythlbpjkopkicbaa
open Go.ChangeMaps Go.MapKept Go.Maps Go.RowKit
set_option linter.unusedVariables false
set_option maxRecDepth 100000

theorem isNaNB_c (a : Nat) (w : World) : Calls Try.prog 85 #[.int .u8 (a : Int)] w fun e w' => e = .returned (.bool false) ∧ w = w' := by
  have h : ((a : Int) != (a : Int)) = false := by simp
  go_enter Try.func85, Try.ntmps85
  go_wp2
  go_ret
  exact ⟨rfl, rfl⟩
theorem compareY_c (a b : Nat) (w : World) : Calls Try.prog 70 #[.int .u8 (a : Int), .int .u8 (b : Int)] w fun e w' => e = .returned (.int .i64 (cmpN a b)) ∧ w = w' := by
  by_cases h1 : a < b
  · have HC := Lib.hid (show cmpN a b = -1 by unfold cmpN; rw [if_pos h1])
    have d1 : decide ((a : Int) < (b : Int)) = true := by simp; omega
    have d1' : decide (a < b) = true := by simpa using h1
    clear h1
    go_enter Try.func70, Try.ntmps70
    go_wp2_with (go_at_call 85; refine (isNaNB_c _ _).mono ?_; rintro e w' ⟨rfl, rfl⟩)
    go_ret
    exact ⟨by rw [HC.out]; rfl, rfl⟩
  · have d1 : decide ((a : Int) < (b : Int)) = false := by simp; omega
    have d1' : decide (a < b) = false := by simpa using h1
    by_cases h2 : b < a
    · have HC := Lib.hid (show cmpN a b = 1 by unfold cmpN; rw [if_neg h1, if_pos h2])
      have d2 : decide ((b : Int) < (a : Int)) = true := by simp; omega
      have d2' : decide (b < a) = true := by simpa using h2
      clear h1 h2
      go_enter Try.func70, Try.ntmps70
      go_wp2_with (go_at_call 85; refine (isNaNB_c _ _).mono ?_; rintro e w' ⟨rfl, rfl⟩)
      go_ret
      exact ⟨by rw [HC.out]; rfl, rfl⟩
    · have HC := Lib.hid (show cmpN a b = 0 by unfold cmpN; rw [if_neg h1, if_neg h2])
      have d2 : decide ((b : Int) < (a : Int)) = false := by simp; omega
      have d2' : decide (b < a) = false := by simpa using h2
      clear h1 h2
      go_enter Try.func70, Try.ntmps70
      go_wp2_with (go_at_call 85; refine (isNaNB_c _ _).mono ?_; rintro e w' ⟨rfl, rfl⟩)
      go_ret
      exact ⟨by rw [HC.out]; rfl, rfl⟩
/-- Bytes in order, as long as each other. -/
def cmpL : List UInt8 → List UInt8 → Int
  | x :: a, y :: b => orI (cmpN x.toNat y.toNat) (cmpL a b)
  | _, _ => 0
theorem cmpL_drop (a b : List UInt8) (k : Nat) (ha : k < a.length) (hb : k < b.length) : cmpL (a.drop k) (b.drop k) = orI (cmpN a[k].toNat b[k].toNat) (cmpL (a.drop (k + 1)) (b.drop (k + 1))) := by
  rw [List.drop_eq_getElem_cons ha, List.drop_eq_getElem_cons hb]
  rfl
set_option maxHeartbeats 4000000 in
theorem compareL_c (a b : List UInt8) (A B : Option Addr) (n m c d : Nat) (w : World) (hn : n = a.length) (hm : m = b.length) {lo hi lo' hi' : Nat} (ha : Rd w lo hi A a) (hb : Rd w lo' hi' B b) (hnm : n = m := by rfl) (h63 : n ≤ 1000 := by decide) : Calls Try.prog 60 #[.slice A n c, .slice B m d] w fun e w' => e = .returned (.int .i64 (cmpL a b)) ∧ w = w' := by
  subst hnm
  have HA := Lib.hid ha
  have HB := Lib.hid hb
  have HNA := Lib.hid hn
  have HNB := Lib.hid hm
  clear ha hb hn hm
  go_enter Try.func60, Try.ntmps60
  go_wp2_with fail
  go_loopw [11] (fun v u => ∃ k : Nat, k ≤ n ∧ v = .int .i64 (k : Int) ∧ u = w ∧ cmpL a b = cmpL (a.drop k) (b.drop k)) (fun v _ => n - (intOf v).toNat)
  case atStart => exact ⟨0, Nat.zero_le _, rfl, rfl, rfl⟩
  case round =>
    obtain ⟨k, hk, rfl, rfl, hc⟩ := hrel
    by_cases hlt : k < n
    · have ha : k < a.length := by have := HNA.out; omega
      have hb : k < b.length := by have := HNB.out; omega
      have hc2 := cmpL_drop a b k ha hb
      obtain ⟨b1, o1, rfl, _, _, k1⟩ := HA.out.at_ ha
      obtain ⟨b2, o2, rfl, _, _, k2⟩ := HB.out.at_ hb
      unfold bv at k1 k2
      have q1 : decide ((k : Int) < (n : Int)) = true := by simp; omega
      have q2 : decide ((k : Int) ≥ (n : Int)) = false := by simp; omega
      generalize a[k] = x at *
      generalize b[k] = y at *
      by_cases hz : cmpN x.toNat y.toNat = 0
      · have q3 : (cmpN x.toNat y.toNat != 0) = false := by simp [hz]
        have HR := Lib.hid (show cmpL a b = cmpL (a.drop (k + 1)) (b.drop (k + 1)) by rw [hc, hc2, hz]; rfl)
        clear hc hc2
        go_wp2_with (go_at_call 70; refine (compareY_c _ _ _).mono ?_; rintro e w' ⟨rfl, rfl⟩)
        exact ⟨⟨k + 1, by omega, by go_num, trivial, HR.out⟩, by simp [intOf]; omega⟩


      · have q3 : (cmpN x.toNat y.toNat != 0) = true := by simp [hz]
        have HR := Lib.hid (show cmpL a b = cmpN x.toNat y.toNat by rw [hc, hc2]; unfold orI; rw [if_neg hz])
        clear hc hc2
        go_wp2_with (go_at_call 70; refine (compareY_c _ _ _).mono ?_; rintro e w' ⟨rfl, rfl⟩)
        go_ret
        exact ⟨by rw [HR.out]; rfl, rfl⟩
    · obtain rfl : k = n := by omega
      have HR := Lib.hid (show cmpL a b = 0 by rw [hc, HNA.out, List.drop_length]; rfl)
      have q1 : decide ((k : Int) < (k : Int)) = false := by simp
      clear hc
      go_wp2_with fail
      go_ret
      exact ⟨by rw [HR.out]; rfl, rfl⟩
/-- By Epoch, then by Name. -/
def cmpP (p q : Pt) : Int := orI (cmpN p.e q.e) (cmpL p.l q.l)
theorem PkB.rd {g : Nat} {p : Pt} {w : World} (h : PkB g p w) : Rd w 0 w.heap.size (some ⟨g, 1, none⟩) p.l := PtB.rd (e := p.e) h p.hl (Nat.zero_le _) h.lt
set_option maxHeartbeats 4000000 in
theorem compare_c (p q : Pt) (w : World) : Calls Try.prog 44 #[.agg (pv p), .agg (pv q)] w fun e w' => e = .returned (.int .i64 (cmpP p q)) ∧ Below w.heap.size w w' := by
  obtain ⟨W, hW⟩ : ∃ W, W = (w.alloc (.cells (pv p) 29)).alloc (.cells (pv q) 29) := ⟨_, rfl⟩
  have hB : Below w.heap.size w W := by rw [hW]; exact ((Below.refl _ _).alloc (Nat.le_refl _) _).alloc (by simp) _
  have h0 : PkB w.heap.size p W := by rw [hW]; exact (PkB.new (w := w)).below ((Below.refl (w.alloc (.cells (pv p) 29)).heap.size _).alloc (Nat.le_refl _) _) (by simp)
  have h1 : PkB (w.heap.size + 1) q W := by
    rw [hW]
    have := PkB.new (w := w.alloc (.cells (pv p) 29)) (p := q)
    rwa [heap_sz] at this
  have KP : Hid (∀ u : World, Below W.heap.size W.drew u → PkB w.heap.size p u ∧ PkB (w.heap.size + 1) q u) := fun u hu => ⟨(show PkB _ _ W.drew from h0).below hu h0.lt, (show PkB _ _ W.drew from h1).below hu h1.lt⟩
  have BX : Hid (Below W.heap.size W.drew W.drew) := Below.refl _ _
  have HW := Lib.hid hW
  have HB := Lib.hid hB
  clear hW hB h0 h1
  go_enter Try.func44, Try.ntmps44
  go_wp2_with fail
  rw [← HW.out]
  rename_i K1 hK1
  refine wp_region_noPanic ?_
  refine wp_region_held_drew (S := (fun u => PkB w.heap.size p u ∧ PkB (w.heap.size + 1) q u)) (by kernel_rfl) (KP.out _ BX.out) (fun hHeld => ?_)
  refine takeH (i := 0) (d := 5) (oi := _) (v := .pointer (some ⟨w.heap.size, 0, none⟩)) rfl (by kernel_rfl) (by kernel_rfl) (by kernel_rfl) (by kernel_rfl) (fun _ _ _ h => h) (Or.inl ⟨by kernel_rfl, by intro u hSw; clear hSw; go_simp⟩) hHeld ?_
  try simp only [List.setIfInBounds_toArray, List.set_cons_zero, List.set_cons_succ]
  refine takeH (i := 1) (d := 6) (oi := _) (v := .int .u64 (p.e : Int)) rfl (by kernel_rfl) (by kernel_rfl) (by kernel_rfl) (by kernel_rfl) (fun _ _ _ h => h) (Or.inl ⟨by kernel_rfl, by intro u hSw; (have hc : u.cell? ⟨w.heap.size, 0, none⟩ = some (.int .u64 (p.e : Int)) := Fill.at_ hSw.1 0 (by omega); clear hSw; go_simp)⟩) hHeld ?_
  try simp only [List.setIfInBounds_toArray, List.set_cons_zero, List.set_cons_succ]
  refine takeH (i := 2) (d := 7) (oi := _) (v := .pointer (some ⟨w.heap.size + 1, 0, none⟩)) rfl (by kernel_rfl) (by kernel_rfl) (by kernel_rfl) (by kernel_rfl) (fun _ _ _ h => h) (Or.inl ⟨by kernel_rfl, by intro u hSw; clear hSw; go_simp⟩) hHeld ?_
  try simp only [List.setIfInBounds_toArray, List.set_cons_zero, List.set_cons_succ]
  refine takeH (i := 3) (d := 8) (oi := _) (v := .int .u64 (q.e : Int)) rfl (by kernel_rfl) (by kernel_rfl) (by kernel_rfl) (by kernel_rfl) (fun _ _ _ h => h) (Or.inl ⟨by kernel_rfl, by intro u hSw; (have hc : u.cell? ⟨w.heap.size + 1, 0, none⟩ = some (.int .u64 (q.e : Int)) := Fill.at_ hSw.2 0 (by omega); clear hSw; go_simp)⟩) hHeld ?_
  try simp only [List.setIfInBounds_toArray, List.set_cons_zero, List.set_cons_succ]
  refine takeH (i := 5) (d := 10) (oi := _) (v := .pointer (some ⟨w.heap.size, 1, none⟩)) rfl (by kernel_rfl) (by kernel_rfl) (by kernel_rfl) (by kernel_rfl) (fun _ _ _ h => h) (Or.inl ⟨by kernel_rfl, by intro u hSw; clear hSw; go_simp⟩) hHeld ?_
  try simp only [List.setIfInBounds_toArray, List.set_cons_zero, List.set_cons_succ]
  refine takeH (i := 6) (d := 11) (oi := _) (v := .slice (some ⟨w.heap.size, 1, none⟩) 32 32) rfl (by kernel_rfl) (by kernel_rfl) (by kernel_rfl) (by kernel_rfl) (fun _ _ _ h => h) (Or.inl ⟨by kernel_rfl, by intro u hSw; clear hSw; go_simp⟩) hHeld ?_
  try simp only [List.setIfInBounds_toArray, List.set_cons_zero, List.set_cons_succ]
  refine takeH (i := 7) (d := 12) (oi := _) (v := .pointer (some ⟨w.heap.size + 1, 1, none⟩)) rfl (by kernel_rfl) (by kernel_rfl) (by kernel_rfl) (by kernel_rfl) (fun _ _ _ h => h) (Or.inl ⟨by kernel_rfl, by intro u hSw; clear hSw; go_simp⟩) hHeld ?_
  try simp only [List.setIfInBounds_toArray, List.set_cons_zero, List.set_cons_succ]
  refine takeH (i := 8) (d := 13) (oi := _) (v := .slice (some ⟨w.heap.size + 1, 1, none⟩) 32 32) rfl (by kernel_rfl) (by kernel_rfl) (by kernel_rfl) (by kernel_rfl) (fun _ _ _ h => h) (Or.inl ⟨by kernel_rfl, by intro u hSw; clear hSw; go_simp⟩) hHeld ?_
  try simp only [List.setIfInBounds_toArray, List.set_cons_zero, List.set_cons_succ]
  refine wpAnyH_ready (rs := [4]) (by kernel_rfl) (by simp) ?_
  refine AllReadyH.cons (o := _) rfl (fun K hK => ?_) (AllReadyH.nil)
  go_simp
  go_at_call 59
  refine (compareN_c p.e q.e _).mono ?_
  rintro e w2 ⟨rfl, rfl⟩
  go_simp
  refine hK.out _ _ (KP.out _ BX.out) (fun hHeld => ?_)
  clear hK K
  try simp only [Act.put, List.setIfInBounds_toArray, List.set_cons_zero, List.set_cons_succ]
  refine wpAnyH_ready (rs := [9]) (by kernel_rfl) (by simp) ?_
  refine AllReadyH.cons (o := _) rfl (fun K hK => ?_) (AllReadyH.nil)
  go_simp
  go_at_call 60
  refine (compareL_c p.l q.l (some ⟨w.heap.size, 1, none⟩) (some ⟨w.heap.size + 1, 1, none⟩) 32 32 32 32 _ p.hl.symm q.hl.symm (KP.out _ BX.out).1.rd (KP.out _ BX.out).2.rd).mono ?_
  rintro e w2 ⟨rfl, rfl⟩
  go_simp
  refine hK.out _ _ (KP.out _ BX.out) (fun hHeld => ?_)
  clear hK K
  try simp only [Act.put, List.setIfInBounds_toArray, List.set_cons_zero, List.set_cons_succ]
  refine wpAnyH_ready (rs := [10]) (by kernel_rfl) (by simp) ?_
  refine AllReadyH.cons (o := _) rfl (fun K hK => ?_) (AllReadyH.nil)
  go_simp
  obtain ⟨w3, hw3⟩ : ∃ w3, w3 = (W.alloc (.cells #[.int .i64 (cmpN p.e q.e), .int .i64 (cmpL p.l q.l)] 3)).drew := ⟨_, rfl⟩
  have hh : w3.heap[W.heap.size]? = some (.cells #[.int .i64 (cmpN p.e q.e), .int .i64 (cmpL p.l q.l)] 3 (0, 0)) := by rw [hw3]; exact heap_alloc_new W _
  have e0 : w3.cell? ⟨W.heap.size, 0, none⟩ = some (.int .i64 (cmpN p.e q.e)) := cell_of_row w3 _ 0 _ _ (0, 0) hh
  have e1 : w3.cell? ⟨W.heap.size, 1, none⟩ = some (.int .i64 (cmpL p.l q.l)) := cell_of_row w3 _ 1 _ _ (0, 0) hh
  have BX := Lib.hid (show Below W.heap.size W.drew w3 by rw [hw3]; exact (show Below W.heap.size W.drew (W.drew.alloc _) from BX.out.alloc (Nat.le_refl _) _))
  rw [← hw3]
  clear hw3 hh
  refine hK.out _ _ (KP.out _ BX.out) (fun hHeld => ?_)
  clear hK K
  try simp only [Act.put, List.setIfInBounds_toArray, List.set_cons_zero, List.set_cons_succ]
  refine wpAnyH_ready (rs := [11]) (by kernel_rfl) (by simp) ?_
  refine AllReadyH.cons (o := _) rfl (fun K hK => ?_) (AllReadyH.nil)
  go_simp
  go_at_call 58
  refine (or2_c (cmpN p.e q.e) (cmpL p.l q.l) W.heap.size 2 2 w3 rfl e0 e1).mono ?_
  rintro e w4 ⟨rfl, rfl⟩
  go_simp
  refine hK.out _ _ (KP.out _ BX.out) (fun hHeld => ?_)
  clear hK K
  try simp only [Act.put, List.setIfInBounds_toArray, List.set_cons_zero, List.set_cons_succ]
  refine takeH (i := 12) (d := 4) (oi := _) (v := .int .i64 (orI (cmpN p.e q.e) (cmpL p.l q.l))) rfl (by kernel_rfl) (by kernel_rfl) (by kernel_rfl) (by kernel_rfl) (fun _ _ _ h => h) (Or.inl ⟨by kernel_rfl, by intro u hSw; clear hSw; go_simp⟩) hHeld ?_
  try simp only [List.setIfInBounds_toArray, List.set_cons_zero, List.set_cons_succ]
  refine wpAnyH_done (by kernel_rfl) ?_ _
  refine NoPanic.normal ?_
  first
    | apply hK1
    | apply K1
  clear hK1 K1
  go_wp2_with fail
  go_ret
  exact ⟨rfl, hdBelowF HB.out BX.out⟩
end Go.Proofs.Ythlbpjkopkicbaa
