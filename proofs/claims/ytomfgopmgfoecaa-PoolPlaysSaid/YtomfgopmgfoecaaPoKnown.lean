/- The chapter's rows of a pool. -/
import Derived.Test.YtomfgopmgfoecaaPoNew
namespace Go.Proofs.Ytomfgopmgfoecaa
open Go.ChangeMaps Go.MapKept Go.Maps Go.RowKit Go.ChangeShapes Go.WideShapes Go.ChangeAt
set_option linter.unusedVariables false
set_option maxRecDepth 100000

def kpt (e : Nat) (he : e < 18446744073709551616) : Pt := ⟨e, List.replicate 32 0, he, by simp⟩
def pA : Pt := kpt 5 (by decide)
def pB : Pt := kpt 6 (by decide)
def pC' : Pt := kpt 7 (by decide)
def kAB : Lk := ⟨pA, pB⟩
def kAC : Lk := ⟨pA, pC'⟩
def hN (x : UInt8) : Hh := ⟨x :: List.replicate 31 0, by simp⟩
theorem built_pA : Try.prog.built 37 [(0, .int .u64 5)] = some (pv pA) := by kernel_rfl
theorem built_pB : Try.prog.built 37 [(0, .int .u64 6)] = some (pv pB) := by kernel_rfl
theorem built_pC : Try.prog.built 37 [(0, .int .u64 7)] = some (pv pC') := by kernel_rfl
theorem built_h1 : Try.prog.built 24 [(0, .int .u8 1)] = some (hhv (hN 1)) := by kernel_rfl
theorem built_h2 : Try.prog.built 24 [(0, .int .u8 2)] = some (hhv (hN 2)) := by kernel_rfl
theorem built_vt (n : Int) (x : Lk) : Try.prog.built 40 [(0, .int .i64 n), (1, .agg (pv x.s)), (2, .agg (pv x.t))] = some (vtw n x (.slice none 0 0)) := by kernel_rfl
theorem zero_point (u : World) : (zeroValue 37).run Try.prog u = .ok (.agg (pv ptZ)) u := by kernel_rfl
theorem chk_ok {S : PoS} {nv : Int} {k : Lk} {m : Nat} {kh : Hh} {st : Nat} (h1 : mayVt nv k.s.e k.t.e m = true) (h2 : 1 ≤ st ∧ st ≤ 4294967296) (h3 : (⟨kh, k⟩ : Bt) ∉ S.bal) (h4 : S.votes.length < 65536) : chk S nv k m kh st = 0 := by
  unfold chk
  rw [if_pos (by rw [h1]; simp; exact h2), if_neg h3, if_neg (by omega)]
theorem wt_same (S : PoS) (x : Sg) : (putS S x).wt x.k = S.wt x.k + x.st := if_pos rfl
theorem wt_other (S : PoS) (x : Sg) (k : Lk) (h : k ≠ x.k) : (putS S x).wt k = S.wt k := if_neg h
theorem ac_ab : kAC ≠ kAB := by decide +kernel
/-- An addition that goes. -/
theorem add_goes {g : Nat} {F : Nat → Prop} {S : PoS} {w : World} (hM : PoM g F S w) (nv : Int) (k : Lk) (kh : Hh) (st : Nat) (h1 : mayVt nv k.s.e k.t.e 0 = true) (h2 : 1 ≤ st ∧ st ≤ 4294967296) (h3 : (⟨kh, k⟩ : Bt) ∉ S.bal) (h4 : S.votes.length < 65536) (r : Nat) (hr : S.wt k + st = r) :
    Calls Try.prog 17 #[.pointer (some ⟨g, 0, none⟩), .agg (vtw nv k (.slice none 0 0)), .agg (hhv kh), .int .u64 (st : Int)] w fun e w' => e = .returned (.tuple #[.int .u64 (r : Int), .int .i64 0]) ∧ AddOk g F S nv k [] kh st w w' := by
  have h := add_c hM nv k none 0 [] kh st (by omega) (fun hn => absurd hn (by simp)) (by simp)
  rw [chk_ok (m := ([] : List UInt8).length) h1 h2 h3 h4, hr] at h
  refine h.mono ?_
  rintro e w' (⟨h0, _⟩ | ⟨_, h1, h2⟩)
  · exact absurd rfl h0
  · exact ⟨h1, h2⟩
set_option maxHeartbeats 8000000 in
theorem known_c (w : World) : Calls Try.prog 9 #[] w fun e w' => e = .returned (.bool true) ∧ Below w.heap.size w w' := by
  have hz := zero_point
  go_enter Try.func9, Try.ntmps9
  go_wp2_with fail
  refine (new_c w).mono ?_
  rintro e w1 ⟨g, F, rfl, pm1, b1, hg1, hF1⟩
  obtain ⟨W0, hW0⟩ : ∃ W0, W0 = w1.alloc (.cells (pv ptZ) 37) := ⟨_, rfl⟩
  obtain ⟨W1, hW1⟩ : ∃ W1, W1 = W0.alloc (.cells (pv ptZ) 37) := ⟨_, rfl⟩
  obtain ⟨W2, hW2⟩ : ∃ W2, W2 = W1.alloc (.cells (pv ptZ) 37) := ⟨_, rfl⟩
  have z0 : W0.heap.size = w1.heap.size + 1 := by rw [hW0]; simp
  have z1 : W1.heap.size = w1.heap.size + 1 + 1 := by rw [hW1]; simp [z0]
  have q0 : Below w1.heap.size w1 W0 := by rw [hW0]; exact (Below.refl _ _).alloc (Nat.le_refl _) _
  have q1 : Below W0.heap.size W0 W1 := by rw [hW1]; exact (Below.refl _ _).alloc (Nat.le_refl _) _
  have q2 : Below W1.heap.size W1 W2 := by rw [hW2]; exact (Below.refl _ _).alloc (Nat.le_refl _) _
  have e0 : W2.heap[w1.heap.size]? = some (.cells (pv ptZ) 37 (0, 0)) := (q2.block _ (by omega)).trans ((q1.block _ (by omega)).trans (by rw [hW0]; exact heap_alloc_new w1 _))
  have e1 : W2.heap[w1.heap.size + 1]? = some (.cells (pv ptZ) 37 (0, 0)) := (q2.block _ (by omega)).trans (by rw [← z0, hW1]; exact heap_alloc_new W0 _)
  have e2 : W2.heap[w1.heap.size + 1 + 1]? = some (.cells (pv ptZ) 37 (0, 0)) := by rw [← z1, hW2]; exact heap_alloc_new W1 _
  obtain ⟨W3, hW3⟩ : ∃ W3, W3 = W2.setRow w1.heap.size (pv pA) := ⟨_, rfl⟩
  obtain ⟨W4, hW4⟩ : ∃ W4, W4 = W3.setRow (w1.heap.size + 1) (pv pB) := ⟨_, rfl⟩
  obtain ⟨W5, hW5⟩ : ∃ W5, W5 = W4.setRow (w1.heap.size + 1 + 1) (pv pC') := ⟨_, rfl⟩
  have e1' : W3.heap[w1.heap.size + 1]? = some (.cells (pv ptZ) 37 (0, 0)) := by rw [hW3]; exact (setRow_other _ _ _ _ (by omega)).trans e1
  have e2' : W4.heap[w1.heap.size + 1 + 1]? = some (.cells (pv ptZ) 37 (0, 0)) := by rw [hW4, setRow_other _ _ _ _ (by omega), hW3]; exact (setRow_other _ _ _ _ (by omega)).trans e2
  have b5 : Below w1.heap.size w1 W5 := by
    rw [hW5]
    refine below_setRow ?_ (by omega) _
    rw [hW4]
    refine below_setRow ?_ (by omega) _
    rw [hW3]
    exact below_setRow ((q0.trans (q1.mono (by omega))).trans (q2.mono (by omega))) (by omega) _
  have PA : Hid (PkB w1.heap.size pA W5) := by
    refine Fill.of_row ?_
    rw [hW5, setRow_other _ _ _ _ (by omega), hW4, setRow_other _ _ _ _ (by omega), hW3]
    exact setRow_heap _ _ _ _ _ _ e0
  have PB : Hid (PkB (w1.heap.size + 1) pB W5) := by
    refine Fill.of_row ?_
    rw [hW5, setRow_other _ _ _ _ (by omega), hW4]
    exact setRow_heap _ _ _ _ _ _ e1'
  have PC : Hid (PkB (w1.heap.size + 1 + 1) pC' W5) := by
    refine Fill.of_row ?_
    rw [hW5]
    exact setRow_heap _ _ _ _ _ _ e2'
  have B5 := Lib.hid (b1.trans (b5.mono b1.size))
  have PM := Lib.hid (pm1.below b5)
  have HI := Lib.hid pm1.fin
  have HF := Lib.hid hF1
  have BW := Lib.hid b1.size
  have HW0 := Lib.hid hW0
  have HW1 := Lib.hid hW1
  have HW2 := Lib.hid hW2
  have HW3 := Lib.hid hW3
  have HW4 := Lib.hid hW4
  have HW5 := Lib.hid hW5
  have A1 := Lib.hid (add_goes PM.out 1 kAB (hN 1) 5 (by decide +kernel) (by decide) (by decide +kernel) (by decide) 5 rfl)
  clear hW0 hW1 hW2 hW3 hW4 hW5 q0 q1 q2 z0 z1 b5 b1 pm1 hg1 hF1
  go_wp2_with (first
    | (refine wpList_build_as' rfl 37 #[(0, .const (.int .u64 5))] rfl _ _ built_pA (by kernel_rfl) ?_)
    | (refine wpList_build_as' rfl 37 #[(0, .const (.int .u64 6))] rfl _ _ built_pB (by kernel_rfl) ?_)
    | (refine wpList_build_as' rfl 37 #[(0, .const (.int .u64 7))] rfl _ _ built_pC (by kernel_rfl) ?_)
    | (refine wpList_store_row rfl 37 (.tmp 2) (.tmp 12) rfl (w1.heap.size) (pv pA) rfl rfl 37 (pv ptZ) (by rw [← HW0.out, ← HW1.out, ← HW2.out]; exact e0) (size_pv pA) (by rw [show (pv pA).size = 33 from rowV_size _ _]; exact rowV_size _ _) (rowV_one 33 _ (pf_one pA)) ?_; rw [← HW0.out, ← HW1.out, ← HW2.out, ← HW3.out])
    | (refine wpList_store_row rfl 37 (.tmp 3) (.tmp 13) rfl (w1.heap.size + 1) (pv pB) rfl rfl 37 (pv ptZ) e1' (size_pv pB) (by rw [show (pv pB).size = 33 from rowV_size _ _]; exact rowV_size _ _) (rowV_one 33 _ (pf_one pB)) ?_; rw [← HW4.out])
    | (refine wpList_store_row rfl 37 (.tmp 4) (.tmp 14) rfl (w1.heap.size + 1 + 1) (pv pC') rfl rfl 37 (pv ptZ) e2' (size_pv pC') (by rw [show (pv pC').size = 33 from rowV_size _ _]; exact rowV_size _ _) (rowV_one 33 _ (pf_one pC')) ?_; rw [← HW5.out])
    | (refine wpList_load_row rfl 37 (.tmp 2) rfl (w1.heap.size) rfl 37 (pv pA) (0, 0) _ PA.out.row Try.underlying37 rfl (size_pv pA) ?_)
    | (refine wpList_load_row rfl 37 (.tmp 3) rfl (w1.heap.size + 1) rfl 37 (pv pB) (0, 0) _ PB.out.row Try.underlying37 rfl (size_pv pB) ?_)
    | (refine wpList_build_as' rfl 40 #[(0, .const (.int .i64 1)), (1, .tmp 17), (2, .tmp 18)] rfl _ _ (built_vt 1 kAB) (by kernel_rfl) ?_)
    | (refine wpList_build_as' rfl 24 #[(0, .const (.int .u8 1))] rfl _ _ built_h1 (by kernel_rfl) ?_)
    | fail)
  clear e0 e1 e2 e1' e2'
  refine A1.out.mono ?_
  rintro e w6 ⟨rfl, A6, c6, F6', pm6, k6, a6, n6, _⟩
  have G6 := Lib.hid (show ∀ k, F6' k → F k ∨ w1.heap.size + 2 < k from fun k e => (a6 k e).imp id (fun h => by have := PC.out.lt; omega))
  have B6 := Lib.hid (B5.out.trans (k6.below (by have := B5.out.size; exact this) (fun k e => HF.out k e)))
  have PA6 : Hid (PkB w1.heap.size pA w6) := k6.fill PA.out (fun e => by have := HI.out.2 _ e; omega)
  have PB6 : Hid (PkB (w1.heap.size + 1) pB w6) := k6.fill PB.out (fun e => by have := HI.out.2 _ e; omega)
  have PC6 : Hid (PkB (w1.heap.size + 1 + 1) pC' w6) := k6.fill PC.out (fun e => by have := HI.out.2 _ e; omega)
  have PM6 := Lib.hid pm6
  have A2 := Lib.hid (add_goes PM6.out 2 kAB (hN 2) 7 (by decide +kernel) (by decide) (by show (⟨hN 2, kAB⟩ : Bt) ∉ [⟨hN 1, kAB⟩]; decide +kernel) (by show 0 + 1 < 65536; decide) 12 (congrArg (· + 7) (wt_same poS0 _)))
  clear pm6 k6 a6 n6 A1
  go_wp2_with (first
    | (refine wpList_load_row rfl 37 (.tmp 2) rfl (w1.heap.size) rfl 37 (pv pA) (0, 0) _ PA6.out.row Try.underlying37 rfl (size_pv pA) ?_)
    | (refine wpList_load_row rfl 37 (.tmp 3) rfl (w1.heap.size + 1) rfl 37 (pv pB) (0, 0) _ PB6.out.row Try.underlying37 rfl (size_pv pB) ?_)
    | (refine wpList_build_as' rfl 40 #[(0, .const (.int .i64 2)), (1, .tmp 26), (2, .tmp 27)] rfl _ _ (built_vt 2 kAB) (by kernel_rfl) ?_)
    | (refine wpList_build_as' rfl 24 #[(0, .const (.int .u8 2))] rfl _ _ built_h2 (by kernel_rfl) ?_)
    | fail)
  refine A2.out.mono ?_
  rintro e w7 ⟨rfl, A7, c7, F7', pm7, k7, a7, n7, _⟩
  have G7 := Lib.hid (show ∀ k, F7' k → F k ∨ w1.heap.size + 2 < k from fun k e => (a7 k e).elim (G6.out k) (fun h => .inr (by have := PC6.out.lt; omega)))
  have LW : Hid (∀ k, F k → w.heap.size ≤ k) := HF
  have B7 := Lib.hid (B6.out.trans (k7.below (by have := B6.out.size; exact this) (fun k e => (G6.out k e).elim (LW.out k) (fun h => by have := BW.out; omega))))
  have PA7 : Hid (PkB w1.heap.size pA w7) := k7.fill PA6.out (fun e => (G6.out _ e).elim (fun h => by have := HI.out.2 _ h; omega) (fun h => by omega))
  have PC7 : Hid (PkB (w1.heap.size + 1 + 1) pC' w7) := k7.fill PC6.out (fun e => (G6.out _ e).elim (fun h => by have := HI.out.2 _ h; omega) (fun h => by omega))
  have PM7 := Lib.hid pm7
  have A3 := Lib.hid (add_goes PM7.out 1 kAC (hN 1) 5 (by decide +kernel) (by decide) (by show (⟨hN 1, kAC⟩ : Bt) ∉ [⟨hN 1, kAB⟩, ⟨hN 2, kAB⟩]; decide +kernel) (by show 0 + 1 + 1 < 65536; decide) 5 (congrArg (· + 5) ((wt_other _ _ _ ac_ab).trans (wt_other poS0 _ _ ac_ab))))
  clear pm7 k7 a7 n7 A2
  go_wp2_with (first
    | (refine wpList_load_row rfl 37 (.tmp 2) rfl (w1.heap.size) rfl 37 (pv pA) (0, 0) _ PA7.out.row Try.underlying37 rfl (size_pv pA) ?_)
    | (refine wpList_load_row rfl 37 (.tmp 4) rfl (w1.heap.size + 1 + 1) rfl 37 (pv pC') (0, 0) _ PC7.out.row Try.underlying37 rfl (size_pv pC') ?_)
    | (refine wpList_build_as' rfl 40 #[(0, .const (.int .i64 1)), (1, .tmp 35), (2, .tmp 36)] rfl _ _ (built_vt 1 kAC) (by kernel_rfl) ?_)
    | (refine wpList_build_as' rfl 24 #[(0, .const (.int .u8 1))] rfl _ _ built_h1 (by kernel_rfl) ?_)
    | fail)
  refine A3.out.mono ?_
  rintro e w8 ⟨rfl, A8, c8, F8', pm8, k8, a8, n8, _⟩
  have B8 := Lib.hid (B7.out.trans (k8.below (by have := B7.out.size; exact this) (fun k e => (G7.out k e).elim (LW.out k) (fun h => by have := BW.out; omega))))
  clear pm8 k8 a8 n8 A3
  go_wp2_with fail
  go_ret
  exact ⟨rfl, B8.out⟩
end Go.Proofs.Ytomfgopmgfoecaa
