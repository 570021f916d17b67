/- Contracts: a vote's link, its bytes, what is signed of it. -/
import Derived.Test.YtaoddppkijopmaaCdHd
import Derived.Test.YtaoddppkijopmaaCdTake
namespace Go.Proofs.Ytaoddppkijopmaa
open Go.ChangeShapes Go.WideShapes Go.ChangeAt Go.RowKit
set_option linter.unusedVariables false
set_option maxRecDepth 100000

/-- What a vote says. -/
def lkL (n e1 : Nat) (l1 : List UInt8) (e2 : Nat) (l2 : List UInt8) : List UInt8 := putL n 1 ++ (ptL e1 l1 ++ ptL e2 l2)
theorem lkL_length (n e1 : Nat) (l1 : List UInt8) (e2 : Nat) (l2 : List UInt8) (h1 : l1.length = 32) (h2 : l2.length = 32) : (lkL n e1 l1 e2 l2).length = 81 := by
  unfold lkL
  rw [List.length_append, List.length_append, putL_length, ptL_length _ _ h1, ptL_length _ _ h2]
theorem validatorRow_c (n : Nat) (w : World) (hn : n < 256) : Calls Try.prog 73 #[.int .i64 (n : Int)] w (NewP w (putL n 1)) := by
  have hw : IntKind.u64.wrap ((n : Nat) : Int) = ((n : Nat) : Int) := IntWalk.u64_in _ (by omega)
  go_enter Try.func73, Try.ntmps73
  go_wp2_with (go_at_call 51; refine (numberRow_c n 1 _ (by omega) (by omega) (by omega) (by omega)).mono ?_; rintro e w1 ⟨A1, c1, rfl, hc1, o1, b1⟩)
  go_ret
  exact ⟨A1, c1, rfl, hc1, o1, b1⟩

set_option maxHeartbeats 8000000 in
theorem linkRow_c (n e1 : Nat) (l1 : List UInt8) (e2 : Nat) (l2 : List UInt8) (sv : Value) (w : World) (hn : n < 256) (he1 : e1 < 18446744073709551616) (he2 : e2 < 18446744073709551616) (hl1 : l1.length = 32) (hl2 : l2.length = 32) :
    Calls Try.prog 63 #[.agg (vtV (n : Int) e1 l1 e2 l2 sv)] w (NewP w (lkL n e1 l1 e2 l2)) := by
  obtain ⟨W, hW⟩ : ∃ W, W = w.alloc (.cells (vtV (n : Int) e1 l1 e2 l2 sv) 32) := ⟨_, rfl⟩
  have hb : Below w.heap.size w W := by rw [hW]; exact (Below.refl _ _).alloc (Nat.le_refl _) _
  have v0 : VtB w.heap.size (n : Int) e1 l1 e2 l2 sv W := by rw [hW]; exact VtB.new
  have hlt : w.heap.size < W.heap.size := v0.lt
  have KP : Hid (∀ u : World, Below W.heap.size W.drew u → VtB w.heap.size (n : Int) e1 l1 e2 l2 sv u) := fun u hu => (show VtB _ _ _ _ _ _ _ W.drew from v0).below hu hlt
  have BX : Hid (Below W.heap.size W.drew W.drew) := Below.refl _ _
  have HW := Lib.hid hW
  have HB := Lib.hid hb
  have CV := Lib.hid (fun u => validatorRow_c n u hn)
  have CP1 := Lib.hid (fun u => pointRow_c e1 l1 u he1 hl1)
  have CP2 := Lib.hid (fun u => pointRow_c e2 l2 u he2 hl2)
  have HP1 := Lib.hid (ptL_length e1 l1 hl1)
  have HP2 := Lib.hid (ptL_length e2 l2 hl2)
  clear hW hb v0 hlt hn he1 he2 hl1 hl2
  go_enter Try.func63, Try.ntmps63
  go_wp2_with fail
  rw [← HW.out]
  rename_i K1 hK1
  refine wp_region_noPanic ?_
  refine wp_region_held_drew (S := (fun u => VtB w.heap.size (n : Int) e1 l1 e2 l2 sv u)) (by kernel_rfl) (KP.out _ BX.out) (fun hHeld => ?_)
  refine takeH (i := 0) (d := 3) (oi := _) (v := .pointer (some ⟨w.heap.size, 0, none⟩)) rfl (by kernel_rfl) (by kernel_rfl) (by kernel_rfl) (by kernel_rfl) (fun _ _ _ h => h) (Or.inl ⟨by rfl, by intro u hSw; go_simp⟩) hHeld ?_
  try simp only [List.setIfInBounds_toArray, List.set_cons_zero, List.set_cons_succ]
  refine takeH (i := 1) (d := 4) (oi := _) (v := .int .i64 (n : Int)) rfl (by kernel_rfl) (by kernel_rfl) (by kernel_rfl) (by kernel_rfl) (fun _ _ _ h => h) (Or.inl ⟨by rfl, by intro u hSw; (have hn := hSw.num; clear hSw; go_simp)⟩) hHeld ?_
  try simp only [List.setIfInBounds_toArray, List.set_cons_zero, List.set_cons_succ]
  refine takeH (i := 3) (d := 6) (oi := _) (v := .pointer (some ⟨w.heap.size, 1, none⟩)) rfl (by kernel_rfl) (by kernel_rfl) (by kernel_rfl) (by kernel_rfl) (fun _ _ _ h => h) (Or.inl ⟨by rfl, by intro u hSw; go_simp⟩) hHeld ?_
  try simp only [List.setIfInBounds_toArray, List.set_cons_zero, List.set_cons_succ]
  refine takeH (i := 4) (d := 7) (oi := _) (v := .agg (ptV e1 l1)) rfl (by kernel_rfl) (by kernel_rfl) (by kernel_rfl) (by kernel_rfl) (fun _ _ _ h => h) (yieldsIf_load_midC (by rfl) _ _ rfl w.heap.size 1 rfl (ptC e1 l1) (ptV e1 l1) rfl _ (fun w h => h.src) Try.underlying29 rfl (size_ptV _ _)) hHeld ?_
  try simp only [List.setIfInBounds_toArray, List.set_cons_zero, List.set_cons_succ]
  refine takeH (i := 6) (d := 9) (oi := _) (v := .pointer (some ⟨w.heap.size, 34, none⟩)) rfl (by kernel_rfl) (by kernel_rfl) (by kernel_rfl) (by kernel_rfl) (fun _ _ _ h => h) (Or.inl ⟨by rfl, by intro u hSw; go_simp⟩) hHeld ?_
  try simp only [List.setIfInBounds_toArray, List.set_cons_zero, List.set_cons_succ]
  refine takeH (i := 7) (d := 10) (oi := _) (v := .agg (ptV e2 l2)) rfl (by kernel_rfl) (by kernel_rfl) (by kernel_rfl) (by kernel_rfl) (fun _ _ _ h => h) (yieldsIf_load_midC (by rfl) _ _ rfl w.heap.size 34 rfl (ptC e2 l2) (ptV e2 l2) rfl _ (fun w h => h.tgt) Try.underlying29 rfl (size_ptV _ _)) hHeld ?_
  try simp only [List.setIfInBounds_toArray, List.set_cons_zero, List.set_cons_succ]
  refine wpAnyH_ready (rs := [2]) (by kernel_rfl) (by simp) ?_
  refine AllReadyH.cons (o := _) rfl (fun K hK => ?_) AllReadyH.nil
  go_simp
  go_at_call 73
  refine (CV.out _).mono ?_
  rintro y w1 ⟨A1, c1, rfl, hc1, o1, b1⟩
  have BX := Lib.hid (BX.out.trans (b1.mono BX.out.size))
  (try have Z1 := Lib.hid (Z1.out.trans (b1.mono Z1.out.size)))
  (try have Z2 := Lib.hid (Z2.out.trans (b1.mono Z2.out.size)))
  have O1 := Lib.hid o1
  have Z1 : Hid (Below w1.heap.size w1 w1) := Below.refl _ _
  clear o1
  clear b1
  go_simp
  refine hK.out _ _ (KP.out _ BX.out) (fun hHeld => ?_)
  clear hK K
  try simp only [Act.put, List.setIfInBounds_toArray, List.set_cons_zero, List.set_cons_succ]
  refine wpAnyH_ready (rs := [5]) (by kernel_rfl) (by simp) ?_
  refine AllReadyH.cons (o := _) rfl (fun K hK => ?_) AllReadyH.nil
  go_simp
  go_at_call 42
  refine (CP1.out _).mono ?_
  rintro y w2 ⟨A2, c2, rfl, hc2, o2, b2⟩
  have BX := Lib.hid (BX.out.trans (b2.mono BX.out.size))
  (try have Z1 := Lib.hid (Z1.out.trans (b2.mono Z1.out.size)))
  (try have Z2 := Lib.hid (Z2.out.trans (b2.mono Z2.out.size)))
  have O2 := Lib.hid o2
  have Z2 : Hid (Below w2.heap.size w2 w2) := Below.refl _ _
  clear o2
  clear b2
  go_simp
  refine hK.out _ _ (KP.out _ BX.out) (fun hHeld => ?_)
  clear hK K
  try simp only [Act.put, List.setIfInBounds_toArray, List.set_cons_zero, List.set_cons_succ]
  refine wpAnyH_ready (rs := [8]) (by kernel_rfl) (by simp) ?_
  refine AllReadyH.cons (o := _) rfl (fun K hK => ?_) AllReadyH.nil
  go_simp
  go_at_call 42
  refine (CP2.out _).mono ?_
  rintro y w3 ⟨A3, c3, rfl, hc3, o3, b3⟩
  have BX := Lib.hid (BX.out.trans (b3.mono BX.out.size))
  (try have Z1 := Lib.hid (Z1.out.trans (b3.mono Z1.out.size)))
  (try have Z2 := Lib.hid (Z2.out.trans (b3.mono Z2.out.size)))
  have O3 := Lib.hid o3
  have HX3 := Lib.hid BX.out.size
  clear o3
  clear b3
  go_simp
  refine hK.out _ _ (KP.out _ BX.out) (fun hHeld => ?_)
  clear hK K
  try simp only [Act.put, List.setIfInBounds_toArray, List.set_cons_zero, List.set_cons_succ]
  refine wpAnyH_ready (rs := [9]) (by kernel_rfl) (by simp) ?_
  refine AllReadyH.cons (o := _) rfl (fun K hK => ?_) AllReadyH.nil
  go_simp
  refine hK.out _ _ (KP.out _ (BX.out.alloc BX.out.size _)) (fun hHeld => ?_)
  clear hK K
  try simp only [Act.put, List.setIfInBounds_toArray, List.set_cons_zero, List.set_cons_succ]
  refine wpAnyH_ready (rs := [10]) (by kernel_rfl) (by simp) ?_
  refine AllReadyH.cons (o := _) rfl (fun K hK => ?_) AllReadyH.nil
  go_simp
  go_at_call 50
  refine (joinL [(A1, c1, putL n 1), (A2, c2, ptL e1 l1), (A3, c3, ptL e2 l2)] w3 _ (by simp) (fun x hx => by
      simp only [List.mem_cons, List.not_mem_nil, or_false] at hx
      rcases hx with rfl | rfl | rfl
      · exact (O1.out.below Z1.out (Nat.le_refl _)).rd.wide (Nat.zero_le _) (Nat.le_refl _)
      · exact (O2.out.below Z2.out (Nat.le_refl _)).rd.wide (Nat.zero_le _) (Nat.le_refl _)
      · exact O3.out.rd.wide (Nat.zero_le _) (Nat.le_refl _)) 3 rfl (by simp) (by simp [flat, putL_length, HP1.out, HP2.out])).mono ?_
  rintro y w4 ⟨A4, c4, rfl, hc4, o4, b4⟩
  have BX := Lib.hid (BX.out.trans (b4.mono BX.out.size))
  (try have Z1 := Lib.hid (Z1.out.trans (b4.mono Z1.out.size)))
  (try have Z2 := Lib.hid (Z2.out.trans (b4.mono Z2.out.size)))
  clear b4
  go_simp
  refine hK.out _ _ (KP.out _ BX.out) (fun hHeld => ?_)
  clear hK K
  try simp only [Act.put, List.setIfInBounds_toArray, List.set_cons_zero, List.set_cons_succ]
  refine takeH (i := 11) (d := 2) (oi := _) (v := .slice A4 (flat [(A1, c1, putL n 1), (A2, c2, ptL e1 l1), (A3, c3, ptL e2 l2)]).length c4) rfl (by kernel_rfl) (by kernel_rfl) (by kernel_rfl) (by kernel_rfl) (fun _ _ _ h => h) (Or.inl ⟨by rfl, by intro u hSw; go_simp⟩) hHeld ?_
  try simp only [List.setIfInBounds_toArray, List.set_cons_zero, List.set_cons_succ]
  refine wpAnyH_done (by kernel_rfl) ?_ _
  refine NoPanic.normal ?_
  apply hK1
  clear hK1 K1
  go_wp2_with fail
  go_ret
  have hf : flat [(A1, c1, putL n 1), (A2, c2, ptL e1 l1), (A3, c3, ptL e2 l2)] = lkL n e1 l1 e2 l2 := by simp [flat, lkL]
  rw [hf] at hc4 o4 ⊢
  exact ⟨A4, c4, rfl, hc4, o4.wide (Nat.le_trans HB.out.size HX3.out), hdBelow HB.out BX.out⟩
end Go.Proofs.Ytaoddppkijopmaa
