/- A chain that is not there knows nobody. -/
import Derived.Test.YtdgkgkopjbnimaaFgNone3
import Derived.Deep.WholeRow
namespace Go.Proofs.Ytdgkgkopjbnimaa
open Go.ChangeMaps Go.MapKept Go.Maps Go.WideElems Go.RowKit
set_option linter.unusedVariables false
set_option maxRecDepth 100000

theorem chainNone_n (w : World) : Calls Try.prog 81 #[.pointer none] w fun e w' => e = .returned (.bool true) ∧ w' = w := by
  go_enter Try.func81, Try.ntmps81
  go_wp2_with fail
  go_ret
  exact ⟨rfl, rfl⟩
theorem look_n (l : List UInt8) (w : World) : Calls Try.prog 64 #[.pointer none, .agg (hashV l)] w fun e w' => e = .returned (.tuple #[.int .i64 0, .int .i64 1]) ∧ Below w.heap.size w w' := by
  obtain ⟨W, hW⟩ : ∃ W, W = w.alloc (.cells (hashV l) 27) := ⟨_, rfl⟩
  have HB : Hid (Below w.heap.size w W) := by rw [hW]; exact (Below.refl _ _).alloc (Nat.le_refl _) _
  have HW := Lib.hid hW
  clear hW
  go_enter Try.func64, Try.ntmps64
  go_wp2_with fail
  rw [← HW.out]
  refine (chainNone_n W).mono ?_
  rintro e w1 ⟨rfl, rfl⟩
  go_wp2_with fail
  go_ret2
  exact ⟨rfl, HB.out⟩
def nC (l : List UInt8) : List Value := (List.range 32).map (fun i => bv (l.getD i 0))
theorem nC_arr (l : List UInt8) : (nC l).toArray = hashV l := rfl
theorem PkB.named {g : Nat} {p : Pt} {w : World} (h : PkB g p w) : w.rangeAt g 1 (nC p.l) := fun j v hv => by
  unfold nC at hv
  have hj : j < 32 := by
    have := (List.getElem?_eq_some_iff.1 hv).1
    simpa using this
  rw [List.getElem?_map, List.getElem?_range hj] at hv
  rw [Fill.at_ h (1 + j) (by omega), ← hv]
  rw [Nat.add_comm 1 j]
  rfl
set_option maxHeartbeats 4000000 in
theorem knows_n (p : Pt) (w : World) : Calls Try.prog 54 #[.pointer none, .agg (pv p)] w fun e w' => e = .returned (.bool false) ∧ Below w.heap.size w w' := by
  obtain ⟨W, hW⟩ : ∃ W, W = w.alloc (.cells (pv p) 29) := ⟨_, rfl⟩
  have HB : Hid (Below w.heap.size w W) := by rw [hW]; exact (Below.refl _ _).alloc (Nat.le_refl _) _
  have H0 : Hid (PkB w.heap.size p W) := by rw [hW]; exact PkB.new
  have HW := Lib.hid hW
  clear hW
  go_enter Try.func54, Try.ntmps54
  go_wp2_with (first
    | (rw [← HW.out]; refine wpList_load_mid rfl 27 (.tmp 9) rfl w.heap.size 1 (by go_simp) (nC p.l) _ H0.out.named Try.underlying27 rfl (size_hashVW _) ?_; rw [nC_arr])
    | fail)
  refine (look_n p.l W).mono ?_
  rintro e w1 ⟨rfl, b1⟩
  have B1 := Lib.hid (HB.out.trans (b1.mono HB.out.size))
  clear b1
  go_wp2_with fail
  rename_i K1 hK1
  refine wp_region_noPanic ?_
  refine wp_region_held_drew (S := (fun _ => True)) (by kernel_rfl) (trivial) (fun hHeld => ?_)
  refine takeH (i := 0) (d := 14) (oi := _) (v := .int .i64 1) rfl (by kernel_rfl) (by kernel_rfl) (by kernel_rfl) (by kernel_rfl) (fun _ _ _ h => h) (Or.inl ⟨by kernel_rfl, by intro u hSw; clear hSw; go_simp⟩) hHeld ?_
  try simp only [List.setIfInBounds_toArray, List.set_cons_zero, List.set_cons_succ]
  refine takeH (i := 1) (d := 15) (oi := _) (v := .bool false) rfl (by kernel_rfl) (by kernel_rfl) (by kernel_rfl) (by kernel_rfl) (fun _ _ _ h => h) (Or.inl ⟨by kernel_rfl, by intro u hSw; clear hSw; go_simp⟩) hHeld ?_
  try simp only [List.setIfInBounds_toArray, List.set_cons_zero, List.set_cons_succ]
  refine takeH (i := 2) (d := 16) (oi := _) (v := .bool false) rfl (by kernel_rfl) (by kernel_rfl) (by kernel_rfl) (by kernel_rfl) (fun _ _ _ h => h) (Or.inl ⟨by kernel_rfl, by intro u hSw; clear hSw; go_simp⟩) hHeld ?_
  try simp only [List.setIfInBounds_toArray, List.set_cons_zero, List.set_cons_succ]
  refine takeH (i := 3) (d := 17) (oi := _) (v := undef) rfl (by kernel_rfl) (by kernel_rfl) (by kernel_rfl) (by kernel_rfl) (fun _ _ _ h => h) (Or.inr ⟨by kernel_rfl, rfl⟩) hHeld ?_
  try simp only [List.setIfInBounds_toArray, List.set_cons_zero, List.set_cons_succ]
  refine takeH (i := 4) (d := 18) (oi := _) (v := undef) rfl (by kernel_rfl) (by kernel_rfl) (by kernel_rfl) (by kernel_rfl) (fun _ _ _ h => h) (Or.inr ⟨by kernel_rfl, rfl⟩) hHeld ?_
  try simp only [List.setIfInBounds_toArray, List.set_cons_zero, List.set_cons_succ]
  refine takeH (i := 5) (d := 19) (oi := _) (v := undef) rfl (by kernel_rfl) (by kernel_rfl) (by kernel_rfl) (by kernel_rfl) (fun _ _ _ h => h) (Or.inr ⟨by kernel_rfl, rfl⟩) hHeld ?_
  try simp only [List.setIfInBounds_toArray, List.set_cons_zero, List.set_cons_succ]
  refine takeH (i := 6) (d := 20) (oi := _) (v := undef) rfl (by kernel_rfl) (by kernel_rfl) (by kernel_rfl) (by kernel_rfl) (fun _ _ _ h => h) (Or.inr ⟨by kernel_rfl, rfl⟩) hHeld ?_
  try simp only [List.setIfInBounds_toArray, List.set_cons_zero, List.set_cons_succ]
  refine takeH (i := 7) (d := 21) (oi := _) (v := undef) rfl (by kernel_rfl) (by kernel_rfl) (by kernel_rfl) (by kernel_rfl) (fun _ _ _ h => h) (Or.inr ⟨by kernel_rfl, rfl⟩) hHeld ?_
  try simp only [List.setIfInBounds_toArray, List.set_cons_zero, List.set_cons_succ]
  refine takeH (i := 8) (d := 22) (oi := _) (v := undef) rfl (by kernel_rfl) (by kernel_rfl) (by kernel_rfl) (by kernel_rfl) (fun _ _ _ h => h) (Or.inr ⟨by kernel_rfl, rfl⟩) hHeld ?_
  try simp only [List.setIfInBounds_toArray, List.set_cons_zero, List.set_cons_succ]
  refine takeH (i := 9) (d := 23) (oi := _) (v := undef) rfl (by kernel_rfl) (by kernel_rfl) (by kernel_rfl) (by kernel_rfl) (fun _ _ _ h => h) (Or.inr ⟨by kernel_rfl, rfl⟩) hHeld ?_
  try simp only [List.setIfInBounds_toArray, List.set_cons_zero, List.set_cons_succ]
  refine takeH (i := 10) (d := 24) (oi := _) (v := undef) rfl (by kernel_rfl) (by kernel_rfl) (by kernel_rfl) (by kernel_rfl) (fun _ _ _ h => h) (Or.inr ⟨by kernel_rfl, rfl⟩) hHeld ?_
  try simp only [List.setIfInBounds_toArray, List.set_cons_zero, List.set_cons_succ]
  refine takeH (i := 11) (d := 25) (oi := _) (v := undef) rfl (by kernel_rfl) (by kernel_rfl) (by kernel_rfl) (by kernel_rfl) (fun _ _ _ h => h) (Or.inr ⟨by kernel_rfl, rfl⟩) hHeld ?_
  try simp only [List.setIfInBounds_toArray, List.set_cons_zero, List.set_cons_succ]
  refine takeH (i := 12) (d := 26) (oi := _) (v := .bool false) rfl (by kernel_rfl) (by kernel_rfl) (by kernel_rfl) (by kernel_rfl) (fun _ _ _ h => h) (Or.inl ⟨by kernel_rfl, by intro u hSw; clear hSw; go_simp⟩) hHeld ?_
  try simp only [List.setIfInBounds_toArray, List.set_cons_zero, List.set_cons_succ]
  refine takeH (i := 13) (d := 4) (oi := _) (v := .bool false) rfl (by kernel_rfl) (by kernel_rfl) (by kernel_rfl) (by kernel_rfl) (fun _ _ _ h => h) (Or.inl ⟨by kernel_rfl, by intro u hSw; clear hSw; go_simp⟩) hHeld ?_
  try simp only [List.setIfInBounds_toArray, List.set_cons_zero, List.set_cons_succ]
  refine wpAnyH_done (by kernel_rfl) ?_ _
  refine NoPanic.normal ?_
  first
    | apply hK1
    | apply K1
  clear hK1 K1
  go_wp2_with fail
  go_ret
  exact ⟨rfl, B1.out.drew⟩
set_option maxRecDepth 1000000 in
set_option maxHeartbeats 8000000 in
theorem knownOf_n (g c : Nat) (Lp : List Pt) (w : World) (hr : ∀ k x, Lp[k]? = some x → w.rangeAt g (k * 33) (pC x)) (hg : g < w.heap.size) (hL : Lp.length ≤ 1000000000) : Calls Try.prog 40 #[.pointer none, .slice (some ⟨g, 0, none⟩) Lp.length c] w fun e w' => e = .returned (.slice none 0 0) ∧ Below w.heap.size w w' := by
  have hzp := zero_pt
  have HR := Lib.hid hr
  have HG := Lib.hid hg
  have B0 := Lib.hid (Below.refl w.heap.size w)
  clear hr hg
  go_enter Try.func40, Try.ntmps40
  go_wp2_with fail
  go_loopw [5, 10] (fun v5 v u => ∃ k : Nat, k ≤ Lp.length ∧ v5 = .slice none 0 0 ∧ v = .int .i64 (k : Int) ∧ Below w.heap.size w u) (fun _ v _ => Lp.length - (intOf v).toNat)
  case atStart => exact ⟨0, Nat.zero_le _, rfl, rfl, B0.out⟩
  case round =>
    obtain ⟨k, hk, rfl, rfl, q1⟩ := hrel
    have Q1 := Lib.hid q1
    clear q1
    by_cases hlt : k < Lp.length
    · obtain ⟨x, hx⟩ : ∃ x, Lp[k]? = some x := ⟨_, List.getElem?_eq_getElem hlt⟩
      have kx : wr.rangeAt g (k * 33) (pC x) := fun j v hv => (Q1.out.cell (p := ⟨g, k * 33 + j, none⟩) HG.out).trans (HR.out k x hx j v hv)
      obtain ⟨w1, hw1⟩ : ∃ w1, w1 = wr.alloc (.cells (pv x) 29) := ⟨_, rfl⟩
      have X1 : Hid (PkB wr.heap.size x w1) := by rw [hw1]; exact PkB.new
      have B1 : Hid (Below w.heap.size w w1) := by rw [hw1]; exact Q1.out.alloc Q1.out.size _
      have kx' : (wr.alloc (.cells (pv ptZ) 29)).rangeAt g (k * 33) (pC x) := fun j v hv => (World.cell?_alloc_lt wr _ ⟨g, k * 33 + j, none⟩ (Nat.lt_of_lt_of_le HG.out Q1.out.size)).trans (kx j v hv)
      have HW1 := Lib.hid hw1
      have KN := Lib.hid (knows_n x w1)
      clear hx hw1
      go_wp2_with (first
        | (refine wpList_load_mid rfl 29 (.tmp 12) rfl g (k * 33) (by go_simp) (pC x) _ kx Try.underlying29 rfl (by rw [size_pv x]; rfl) ?_; rw [pC_arr])
        | (refine wpList_store_row rfl 29 (.tmp 7) (.tmp 13) rfl wr.heap.size (pv x) rfl rfl 29 (pv ptZ) (heap_alloc_new wr _) (size_pv x) (by rw [show (pv x).size = 33 from rowV_size _ _]; exact rowV_size _ _) (rowV_one 33 _ (pf_one x)) ?_; rw [World.setRow_alloc_new]; rw [← HW1.out])
        | (refine wpList_load_row rfl 29 (.tmp 7) rfl wr.heap.size rfl 29 (pv x) (0, 0) _ X1.out.row Try.underlying29 rfl (size_pv x) ?_)
        | fail)
      refine KN.out.mono ?_
      rintro e w2 ⟨rfl, b2⟩
      have B2 := Lib.hid (B1.out.trans (b2.mono B1.out.size))
      clear b2 KN
      go_wp2_with fail
      exact ⟨⟨k + 1, by omega, rfl, by go_num, B2.out⟩, by simp [intOf]; omega⟩
    · obtain rfl : k = Lp.length := by omega
      go_wp2_with fail
      go_ret
      exact ⟨rfl, Q1.out⟩
theorem indexFunc_n (fv : Value) (w : World) : Calls Try.prog 42 #[.slice none 0 0, fv] w fun e w' => e = .returned (.int .i64 (-1)) ∧ w' = w := by
  go_enter Try.func42, Try.ntmps42
  go_wp2_with fail
  refine wp_loop_rounds 1 ?_
  rw [rounds_succ]
  go_wp2_with fail
  go_ret
  exact ⟨rfl, rfl⟩
end Go.Proofs.Ytdgkgkopjbnimaa
