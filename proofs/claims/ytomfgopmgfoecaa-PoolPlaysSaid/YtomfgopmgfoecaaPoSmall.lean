/- A pool's small calls. -/
import Derived.Test.YtomfgopmgfoecaaPoSt
import Derived.Test.YtomfgopmgfoecaaPoMay
import Derived.Handy
import Derived.Deep.Cut
namespace Go.Proofs.Ytomfgopmgfoecaa
open Go.ChangeMaps Go.MapKept Go.Maps Go.RowKit Go.ChangeShapes Go.WideShapes Go.ChangeAt
set_option linter.unusedVariables false
set_option maxRecDepth 100000

/-- A new slice that reads as l. -/
def NewP (w : World) (l : List UInt8) (e : Ending) (w' : World) : Prop :=
  ∃ A c, e = .returned (.slice A l.length c) ∧ l.length ≤ c ∧ Ow w' w.heap.size A l ∧ Below w.heap.size w w'
set_option maxHeartbeats 400000 in
theorem clone_any (A : Option Addr) (c : Nat) (l : List UInt8) (w : World) (h : Rd w 0 w.heap.size A l) (hl : l.length ≤ 140737488355328) :
    Calls Try.prog 45 #[.slice A l.length c] w (NewP w l) := by
  obtain ⟨i0, hi0, hz0, hz1, hz2⟩ := info_parts byte_info
  have hnil := fun (u : World) (a : Option Addr) (n : Nat) => Lib.run_eql_slice_nil (P := Try.prog) u 38 5 a n c 0 0 Try.underlying38
  rcases A with _ | ad
  · have hl0 : l = [] := by
      rcases l with _ | ⟨x, l⟩
      · rfl
      · obtain ⟨b, off, e, _⟩ := h (by simp)
        cases e
    subst hl0
    go_enter Try.func45, Try.ntmps45
    go_wp2
    go_ret
    exact ⟨none, 0, rfl, Nat.le_refl _, Ow.nil, Below.refl _ _⟩
  · have H0 := Lib.hid (World.ownsRow_made (base := w.heap.size) (e := 5) (size := 1) w #[] 0 (Nat.le_refl _) (by decide) rfl)
    have H1 := Lib.hid (h.alloc (Nat.le_refl _) (.cells #[] 5))
    clear h
    go_enter Try.func45, Try.ntmps45
    go_wp2_with (at_builtin; refine wpList_append_rd _ rfl (.tmp 5) (.tmp 6) _ rfl w.heap.size 5 i0 _ Try.underlying38 hi0 hz0 hz1 hz2 rfl (.slice (some ⟨w.heap.size, 0, none⟩) 0 0) 0 [] rfl H0.out 0 w.heap.size (some ad) c l rfl H1.out (by omega) (by simp) ?_; intro v1 w1 hown1 hg1 hat1)
    go_ret
    obtain ⟨A, c', rfl, _⟩ := own_form hown1
    obtain ⟨h1, h2, h3⟩ := Ow.of_own (l := l) (by simpa using hown1)
    simp only [Nat.zero_add] at h3 ⊢
    exact ⟨A, c', rfl, h3, h1, ((Below.refl _ _).alloc (Nat.le_refl _) _).grown hg1 (by simp) (by simp [Value.ownBlock])⟩
theorem zero_lk (u : World) : (zeroValue 50).run Try.prog u = .ok (.agg (lv lkZ)) u := by kernel_rfl
set_option maxHeartbeats 4000000 in
theorem linkOf_c (n : Int) (x : Lk) (sv : Value) (w : World) : Calls Try.prog 16 #[.agg (vtw n x sv)] w fun e w' => e = .returned (.agg (lv x)) ∧ Below w.heap.size w w' := by
  have hz := zero_lk
  obtain ⟨W0, hW0⟩ : ∃ W0, W0 = w.alloc (.cells (vtw n x sv) 40) := ⟨_, rfl⟩
  obtain ⟨W1, hW1⟩ : ∃ W1, W1 = W0.alloc (.cells (lv lkZ) 50) := ⟨_, rfl⟩
  obtain ⟨W2, hW2⟩ : ∃ W2, W2 = W0.alloc (.cells (lv x) 50) := ⟨_, rfl⟩
  have b0 : Below w.heap.size w W0 := by rw [hW0]; exact (Below.refl _ _).alloc (Nat.le_refl _) _
  have b2 : Below W0.heap.size W0 W2 := by rw [hW2]; exact (Below.refl _ _).alloc (Nat.le_refl _) _
  have b1 : Below W0.heap.size W0 W1 := by rw [hW1]; exact (Below.refl _ _).alloc (Nat.le_refl _) _
  have v0 : VtK w.heap.size n x sv W0 := by rw [hW0]; exact VtK.new
  have v1 := v0.below b1 v0.lt
  have s1 := v1.src
  have s2 := v1.tgt
  have k2 : W2.heap[W0.heap.size]? = some (.cells (lv x) 50 (0, 0)) := by rw [hW2]; exact heap_alloc_new W0 _
  have HW0 := Lib.hid hW0
  have HW1 := Lib.hid hW1
  have HW2 := Lib.hid hW2
  have HB := Lib.hid (b0.trans (b2.mono b0.size))
  have z0 : W0.heap.size = w.heap.size + 1 := by rw [hW0]; simp
  have k1 : W1.heap[w.heap.size + 1]? = some (.cells (lv lkZ) 50 (0, 0)) := by rw [← z0, hW1]; exact heap_alloc_new W0 _
  have e2 : W1.setRow (w.heap.size + 1) (lv x) = W2 := by rw [← z0, hW1, hW2, World.setRow_alloc_new]
  rw [z0] at k2
  have K2 := Lib.hid k2
  have K1 := Lib.hid k1
  have E2 := Lib.hid e2
  clear hW0 hW1 hW2 b0 b1 b2 v0 v1 k2 z0 k1 e2
  go_enter Try.func16, Try.ntmps16
  go_wp2_with (first
    | (rw [← HW0.out, ← HW1.out]; refine wpList_load_mid rfl 37 (.tmp 3) rfl w.heap.size 1 (by go_simp) (pC x.s) _ s1 Try.underlying37 rfl (by rw [size_pv x.s]; rfl) ?_; rw [pC_arr])
    | (refine wpList_load_mid rfl 37 (.tmp 5) rfl w.heap.size 34 (by go_simp) (pC x.t) _ s2 Try.underlying37 rfl (by rw [size_pv x.t]; rfl) ?_; rw [pC_arr])
    | (refine wpList_build_as' rfl 50 #[(0, .tmp 4), (1, .tmp 6)] rfl _ _ (built_lk x) (by kernel_rfl) ?_)
    | (refine wpList_store_row rfl 50 (.tmp 2) (.tmp 7) rfl (w.heap.size + 1) (lv x) rfl rfl 50 (lv lkZ) K1.out (size_lv x) (by rw [show (lv x).size = 66 from rowV_size _ _]; exact rowV_size _ _) (rowV_one 66 _ (lkf_one x)) ?_; rw [E2.out])
    | fail)
  exact bodyPost_ret (v := .agg (lv x)) (results_cell_row rfl _ _ (w.heap.size + 1) 50 (lv x) (0, 0) _ rfl K2.out Try.underlying50 rfl (size_lv x)) rfl ⟨rfl, HB.out⟩
/-- The pool's own block: the store's place. -/
def PlB (g s : Nat) (w : World) : Prop := w.heap[g]? = some (.cells #[.pointer (some ⟨s, 0, none⟩)] 67 (0, 0))
theorem isNone_c (g s : Nat) (w : World) (h : PlB g s w) : Calls Try.prog 38 #[.pointer (some ⟨g, 0, none⟩)] w fun e w' => e = .returned (.bool false) ∧ w' = w := by
  have hc := cell_of_row w g 0 _ _ (0, 0) h
  have hc' : w.cell? ⟨g, 0, none⟩ = some (.pointer (some ⟨s, 0, none⟩)) := hc
  go_enter Try.func38, Try.ntmps38
  go_wp2_with fail
  go_ret
  exact ⟨rfl, rfl⟩
theorem seen_c (g s : Nat) (w : World) (h : PlB g s w) : Calls Try.prog 32 #[.pointer (some ⟨g, 0, none⟩)] w fun e w' => e = .returned (.pointer (some ⟨s, 0, none⟩)) ∧ w' = w := by
  have hc := cell_of_row w g 0 _ _ (0, 0) h
  have hc' : w.cell? ⟨g, 0, none⟩ = some (.pointer (some ⟨s, 0, none⟩)) := hc
  go_enter Try.func32, Try.ntmps32
  go_wp2_with (go_at_call 38; refine (isNone_c g s _ h).mono ?_; rintro e w1 ⟨rfl, rfl⟩)
  go_ret
  exact ⟨rfl, rfl⟩
theorem len_c (g s bt bk bb : Nat) (vv vl : Value) (hd : Lk ⊕ Hh → Option Value) (F : Nat → Prop) (S : PoS) (n : Nat) (w : World) (hg : PlB g s w) (h : PoB s bt bk bb vv vl hd F S n w) : Calls Try.prog 19 #[.pointer (some ⟨g, 0, none⟩)] w fun e w' => e = .returned (.int .i64 (S.votes.length : Nat)) ∧ w' = w := by
  obtain ⟨A, c, e, _⟩ := ownForm h.votes
  have hc : w.cell? ⟨s, 0, none⟩ = some (.slice A S.votes.length c) := by rw [← e]; exact cell_of_row w s 0 _ _ (0, 0) h.cells
  clear h e
  go_enter Try.func19, Try.ntmps19
  go_wp2_with (go_at_call 32; refine (seen_c g s _ hg).mono ?_; rintro e w1 ⟨rfl, rfl⟩)
  go_ret
  exact ⟨rfl, rfl⟩
theorem Ow.moved {w w' : World} {lo lo' : Nat} {A : Option Addr} {l : List UInt8} (h : Ow w lo A l) (hk : ∀ b, lo ≤ b → w'.heap[b]? = w.heap[b]?) (hs : w.heap.size ≤ w'.heap.size) (h1 : lo' ≤ lo) : Ow w' lo' A l := fun hn => by
  obtain ⟨b, cur, e, q1, q2, q3, q4⟩ := h hn
  exact ⟨b, cur, e, by omega, by omega, (hk b q1).trans q3, q4⟩
def sgZ : Sg := ⟨0, lkZ, .slice none 0 0, hhZ, 0⟩
theorem zero_sg (u : World) : (zeroValue 42).run Try.prog u = .ok (.agg (sgv sgZ)) u := by kernel_rfl
def withSig (x : Sg) (sv : Value) : Sg := { x with sv := sv }
theorem sig_put (x : Sg) (sv : Value) (j : Nat) (hj : j < 101) : sgf (withSig x sv) j = if j = 67 then sv else sgf x j := by
  unfold sgf withSig vtf
  by_cases h : j = 67
  · subst h; rfl
  · rw [if_neg h]
    by_cases h1 : j < 68
    · rw [if_pos h1, if_pos h1]
      by_cases h2 : j = 0
      · rw [if_pos h2, if_pos h2]
      · rw [if_neg h2, if_neg h2, if_pos (by omega), if_pos (by omega)]
    · rw [if_neg h1, if_neg h1]
set_option maxHeartbeats 4000000 in
theorem cloneSigned_c (x : Sg) (A : Option Addr) (c : Nat) (l : List UInt8) (w : World) (hx : x.sv = .slice A l.length c) (h : Rd w 0 w.heap.size A l) (hl : l.length ≤ 140737488355328) : Calls Try.prog 36 #[.agg (sgv x)] w fun e w' => ∃ A' c', e = .returned (.agg (sgv (withSig x (.slice A' l.length c')))) ∧ l.length ≤ c' ∧ Ow w' w.heap.size A' l ∧ Below w.heap.size w w' := by
  have hz := zero_sg
  obtain ⟨W0, hW0⟩ : ∃ W0, W0 = w.alloc (.cells (sgv x) 42) := ⟨_, rfl⟩
  obtain ⟨W1, hW1⟩ : ∃ W1, W1 = W0.alloc (.cells (sgv sgZ) 42) := ⟨_, rfl⟩
  have b0 : Below w.heap.size w W0 := by rw [hW0]; exact (Below.refl _ _).alloc (Nat.le_refl _) _
  have b1 : Below W0.heap.size W0 W1 := by rw [hW1]; exact (Below.refl _ _).alloc (Nat.le_refl _) _
  have z0 : W0.heap.size = w.heap.size + 1 := by rw [hW0]; simp
  have v0 : SgB w.heap.size x W0 := by rw [hW0]; exact SgB.new
  have v1 := v0.below b1 v0.lt
  have k1 : W1.heap[w.heap.size + 1]? = some (.cells (sgv sgZ) 42 (0, 0)) := by rw [← z0, hW1]; exact heap_alloc_new W0 _
  have bb := b0.trans (b1.mono b0.size)
  have Z1 := Lib.hid (show W1.heap.size = w.heap.size + 2 by rw [hW1]; simp [z0])
  have s1 : W1.cell? ⟨w.heap.size, 67, none⟩ = some (.slice A l.length c) := by rw [← hx]; exact v1.sig
  have CL := Lib.hid (clone_any A c l W1 ((h.below bb (Nat.le_refl _)).wide (Nat.le_refl _) bb.size) hl)
  have HW0 := Lib.hid hW0
  have HW1 := Lib.hid hW1
  have HB := Lib.hid bb
  have V1 := Lib.hid v1
  have K1 := Lib.hid (SgB.keep (x := sgZ) (g := w.heap.size + 1) (w := W1) (Fill.of_row k1) rfl)
  clear hW0 hW1 b0 b1 z0 v0 v1 k1 bb h
  go_enter Try.func36, Try.ntmps36
  go_upto_region 1 with fail
  rw [← HW0.out, ← HW1.out]
  go_wp2_with fail
  refine CL.out.mono ?_
  rintro e w2 ⟨A', c', rfl, q1, q2, q3⟩
  have V2 := V1.out.below q3 V1.out.lt
  have K2 := SgB.below K1.out q3 (SgB.lt K1.out)
  obtain ⟨x', hx'⟩ : ∃ x', x' = withSig x (.slice A' l.length c') := ⟨_, rfl⟩
  have V3 : SgB w.heap.size x' (w2.setCell ⟨w.heap.size, 67, none⟩ (.slice A' l.length c')) := by rw [hx']; exact Fill.put V2 (by omega) (sig_put x _)
  have K3 : SgB (w.heap.size + 1) sgZ (w2.setCell ⟨w.heap.size, 67, none⟩ (.slice A' l.length c')) := K2.keep (setCell_off 67 (by omega))
  have c67 := V2.sig
  have f67 := Fill.frozen V2 67
  obtain ⟨W3, hW3⟩ : ∃ W3, W3 = w2.setCell ⟨w.heap.size, 67, none⟩ (.slice A' l.length c') := ⟨_, rfl⟩
  rw [← hW3] at V3 K3
  have b3 : Below w.heap.size W1 W3 := by rw [hW3]; exact (q3.mono HB.out.size).setCell (Nat.le_refl _) _
  have o4 : Ow (W3.setRow (w.heap.size + 1) (sgv x')) w.heap.size A' l := q2.moved (fun b hb => by rw [setRow_other _ _ _ _ (by have := Z1.out; omega), hW3]; exact setCell_off 67 (by have := Z1.out; omega)) (by rw [hW3]; simp [World.setRow, World.setCell]) HB.out.size
  have k4 : (W3.setRow (w.heap.size + 1) (sgv x')).heap[w.heap.size + 1]? = some (.cells (sgv x') 42 (0, 0)) := setRow_heap W3 _ _ _ _ _ K3.row
  have a3 := V3.all
  have HX := Lib.hid hx'
  have FIN : Hid (Ow (W3.setRow (w.heap.size + 1) (sgv x')) w.heap.size A' l ∧ Below w.heap.size w (W3.setRow (w.heap.size + 1) (sgv x'))) := ⟨o4, HB.out.trans (below_setRow b3 (by omega) _)⟩
  have K4 := Lib.hid k4
  clear o4 b3 k4
  have HW3 := Lib.hid hW3
  clear hW3 q2
  go_wp2_with (first
    | (rw [← HW3.out]; refine wpList_load_mid rfl 42 (.tmp 1) rfl w.heap.size 0 (by go_simp) (sgC x') _ a3 Try.underlying42 rfl (by rw [sgC_len]; exact size_sg) ?_; rw [sgC_arr])
    | (refine wpList_store_row rfl 42 (.tmp 2) (.tmp 9) rfl (w.heap.size + 1) (sgv x') rfl rfl 42 (sgv sgZ) K3.row (size_sgv x') (by unfold sgv; rw [rowV_size, rowV_size]) (rowV_one 101 _ (sgf_one _ (by rw [hx']; rfl))) ?_)
    | fail)
  exact bodyPost_ret (v := .agg (sgv x')) (results_cell_row rfl _ _ (w.heap.size + 1) 42 (sgv x') (0, 0) _ rfl K4.out Try.underlying42 rfl (size_sgv x')) rfl ⟨A', c', by rw [HX.out], q1, FIN.out⟩
end Go.Proofs.Ytomfgopmgfoecaa
