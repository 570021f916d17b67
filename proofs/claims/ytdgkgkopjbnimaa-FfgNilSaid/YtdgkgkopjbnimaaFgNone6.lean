/- Clash of a chain that is not there. -/
import Derived.Test.YtdgkgkopjbnimaaFgNone5
namespace Go.Proofs.Ytdgkgkopjbnimaa
open Go.ChangeMaps Go.MapKept Go.Maps Go.WideElems Go.RowKit
set_option linter.unusedVariables false
set_option maxRecDepth 100000

theorem results_two {P : Program} {fn : Func} {p q u : Tmp} {ty : TypeId} (h : fn.results = #[.cell p ty, .cell q ty, .tmp u]) (tmps : Array Value) (w : World) (g g' : Nat) (t : TypeId) (cs : Array Value) (fr fr' : Nat × Nat) (d : TypeDesc)
    (hp : tmps.getD p undef = .pointer (some ⟨g, 0, none⟩)) (hg : w.heap[g]? = some (.cells cs t fr)) (hq : tmps.getD q undef = .pointer (some ⟨g', 0, none⟩)) (hg' : w.heap[g']? = some (.cells cs t fr'))
    (hu : P.underlying ty = some d) (hd : (match d with | .struct _ | .array _ _ => true | _ => false) = true) (hi : (P.info? ty).map (·.size) = some cs.size) (v : Value) (hv : tmps.getD u undef = v) :
    (results fn tmps).run P w = .ok (.tuple #[.agg cs, .agg cs, v]) w := by
  subst hv
  have hp' : tmps[p]?.getD undef = .pointer (some ⟨g, 0, none⟩) := by simpa using hp
  have hq' : tmps[q]?.getD undef = .pointer (some ⟨g', 0, none⟩) := by simpa using hq
  simp [results, h, hp', hq', asAddr, run_loadVar_row w g t ty cs fr d hg hu hd hi, run_loadVar_row w g' t ty cs fr' d hg' hu hd hi]
set_option maxRecDepth 1000000 in
set_option maxHeartbeats 8000000 in
theorem clash_n (g c : Nat) (Lp : List Pt) (Z : Pt) (hZ : Z = ptZ) (w : World) (hr : ∀ k x, Lp[k]? = some x → w.rangeAt g (k * 33) (pC x)) (hg : g < w.heap.size) (hL : Lp.length ≤ 1000000000) : Calls Try.prog 25 #[.pointer none, .slice (some ⟨g, 0, none⟩) Lp.length c] w fun e w' => e = .returned (.tuple #[.agg (pv Z), .agg (pv Z), .bool false]) ∧ Below w.heap.size w w' := by
  have hzp := zero_pt
  have hz0 : Try.prog.built 29 [] = some (pv Z) := by rw [hZ]; kernel_rfl
  obtain ⟨W0, hW0⟩ : ∃ W0, W0 = w.alloc (.cells #[.pointer none] 74) := ⟨_, rfl⟩
  obtain ⟨W1, hW1⟩ : ∃ W1, W1 = W0.alloc (.cells (pv ptZ) 29) := ⟨_, rfl⟩
  obtain ⟨W2, hW2⟩ : ∃ W2, W2 = W1.alloc (.cells (pv ptZ) 29) := ⟨_, rfl⟩
  have z0 : W0.heap.size = w.heap.size + 1 := by rw [hW0]; simp
  have z1 : W1.heap.size = W0.heap.size + 1 := by rw [hW1]; simp
  have z2 : W2.heap.size = W1.heap.size + 1 := by rw [hW2]; simp
  have b0 : Below w.heap.size w W0 := by rw [hW0]; exact (Below.refl _ _).alloc (Nat.le_refl _) _
  have b1 : Below W0.heap.size W0 W1 := by rw [hW1]; exact (Below.refl _ _).alloc (Nat.le_refl _) _
  have b2 : Below W1.heap.size W1 W2 := by rw [hW2]; exact (Below.refl _ _).alloc (Nat.le_refl _) _
  have e0 : W2.heap[w.heap.size]? = some (.cells #[.pointer none] 74 (0, 0)) := (b2.block _ (by omega)).trans ((b1.block _ (by omega)).trans (by rw [hW0]; exact heap_alloc_new w _))
  have e1 : W2.heap[w.heap.size + 1]? = some (.cells (pv ptZ) 29 (0, 0)) := (b2.block _ (by omega)).trans (by rw [← z0, hW1]; exact heap_alloc_new W0 _)
  have e2 : W2.heap[w.heap.size + 1 + 1]? = some (.cells (pv ptZ) 29 (0, 0)) := by rw [← z0, ← z1, hW2]; exact heap_alloc_new W1 _
  have B2 := Lib.hid ((b0.trans (b1.mono (by omega))).trans (b2.mono (by omega)))
  have c0 : W2.cell? ⟨w.heap.size, 0, none⟩ = some (.pointer none) := cell_of_row W2 w.heap.size 0 _ _ (0, 0) e0
  have KO := Lib.hid (knownOf_n g c Lp W2 (fun k x hx j v hv => (B2.out.cell (p := ⟨g, k * 33 + j, none⟩) hg).trans (hr k x hx j v hv)) (Nat.lt_of_lt_of_le hg B2.out.size) hL)
  have Z2 := Lib.hid (show w.heap.size + 3 ≤ W2.heap.size by omega)
  have E := Lib.hid (And.intro e0 (And.intro e1 e2))
  have HW0 := Lib.hid hW0
  have HW1 := Lib.hid hW1
  have HW2 := Lib.hid hW2
  clear hW0 hW1 hW2 z0 z1 z2 b0 b1 b2 e0 e1 e2 hr hg hZ
  go_enter Try.func25, Try.ntmps25
  go_upto_region 1 with fail
  rw [← HW0.out, ← HW1.out, ← HW2.out]
  go_wp2_with fail
  refine KO.out.mono ?_
  rintro e w3 ⟨rfl, b3⟩
  have B3 := Lib.hid (B2.out.trans (b3.mono B2.out.size))
  have E3 : Hid (w3.heap[w.heap.size]? = some (.cells #[.pointer none] 74 (0, 0)) ∧ w3.heap[w.heap.size + 1]? = some (.cells (pv ptZ) 29 (0, 0)) ∧ w3.heap[w.heap.size + 1 + 1]? = some (.cells (pv ptZ) 29 (0, 0))) := ⟨(b3.block _ (by have := Z2.out; omega)).trans E.out.1, (b3.block _ (by have := Z2.out; omega)).trans E.out.2.1, (b3.block _ (by have := Z2.out; omega)).trans E.out.2.2⟩
  have Z3 := Lib.hid (show w.heap.size + 3 ≤ w3.heap.size by have := Z2.out; have := b3.size; omega)
  have c3 : w3.cell? ⟨w.heap.size, 0, none⟩ = some (.pointer none) := cell_of_row w3 w.heap.size 0 _ _ (0, 0) E3.out.1
  clear b3 c0
  go_wp2_with fail
  refine (sharedOf_n w3).mono ?_
  rintro e w4 ⟨rfl, b4⟩
  obtain ⟨w5, hw5⟩ : ∃ w5, w5 = w4.alloc (.cells #[.slice none 0 0] 38) := ⟨_, rfl⟩
  have b5 : Below w4.heap.size w4 w5 := by rw [hw5]; exact (Below.refl _ _).alloc (Nat.le_refl _) _
  have b45 : Below w3.heap.size w3 w5 := b4.trans (b5.mono b4.size)
  have B5 := Lib.hid (B3.out.trans (b45.mono B3.out.size))
  have e1 : w5.heap[w.heap.size + 1]? = some (.cells (pv ptZ) 29 (0, 0)) := (b45.block _ (by have := Z3.out; omega)).trans E3.out.2.1
  have e2 : w5.heap[w.heap.size + 1 + 1]? = some (.cells (pv ptZ) 29 (0, 0)) := (b45.block _ (by have := Z3.out; omega)).trans E3.out.2.2
  obtain ⟨w6, hw6⟩ : ∃ w6, w6 = w5.setRow (w.heap.size + 1) (pv Z) := ⟨_, rfl⟩
  have e2' : w6.heap[w.heap.size + 1 + 1]? = some (.cells (pv ptZ) 29 (0, 0)) := by rw [hw6]; exact (setRow_other _ _ _ _ (by omega)).trans e2
  have e1' : w6.heap[w.heap.size + 1]? = some (.cells (pv Z) 29 (0, 0)) := by rw [hw6]; exact setRow_heap _ _ _ _ _ _ e1
  have B6 : Hid (Below w.heap.size w w6) := by rw [hw6]; exact below_setRow B5.out (by omega) _
  have H5 := Lib.hid hw5
  have H6 := Lib.hid hw6
  clear b4 b5 b45 hw5 hw6 c3
  go_upto_region 3 with fail
  rw [← H5.out]
  go_wp2_with fail
  refine (indexFunc_n _ w5).mono ?_
  rintro e w7 ⟨rfl, rfl⟩
  obtain ⟨w8, hw8⟩ : ∃ w8, w8 = w6.setRow (w.heap.size + 1 + 1) (pv Z) := ⟨_, rfl⟩
  have f1 : w8.heap[w.heap.size + 1]? = some (.cells (pv Z) 29 (0, 0)) := by rw [hw8]; exact (setRow_other _ _ _ _ (by omega)).trans e1'
  have f2 : w8.heap[w.heap.size + 1 + 1]? = some (.cells (pv Z) 29 (0, 0)) := by rw [hw8]; exact setRow_heap _ _ _ _ _ _ e2'
  have B8 : Hid (Below w.heap.size w w8) := by rw [hw8]; exact below_setRow B6.out (by omega) _
  have H8 := Lib.hid hw8
  have F8 := Lib.hid (And.intro f1 f2)
  clear hw8 f1 f2
  go_wp2_with (first
    | (refine wpList_build_as' rfl 29 #[] rfl _ _ hz0 (by kernel_rfl) ?_)
    | (refine wpList_store_row rfl 29 (.tmp 4) (.tmp 24) rfl (w.heap.size + 1) (pv Z) rfl rfl 29 (pv ptZ) e1 (size_pv Z) (by rw [show (pv Z).size = 33 from rowV_size _ _]; exact rowV_size _ _) (rowV_one 33 _ (pf_one Z)) ?_; rw [← H6.out])
    | (refine wpList_store_row rfl 29 (.tmp 5) (.tmp 25) rfl (w.heap.size + 1 + 1) (pv Z) rfl rfl 29 (pv ptZ) e2' (size_pv Z) (by rw [show (pv Z).size = 33 from rowV_size _ _]; exact rowV_size _ _) (rowV_one 33 _ (pf_one Z)) ?_; rw [← H8.out])
    | fail)
  exact bodyPost_ret (v := .tuple #[.agg (pv Z), .agg (pv Z), .bool false]) (results_two rfl _ _ (w.heap.size + 1) (w.heap.size + 1 + 1) 29 (pv Z) (0, 0) (0, 0) _ rfl F8.out.1 rfl F8.out.2 Try.underlying29 rfl (size_pv Z) _ rfl) rfl ⟨rfl, B8.out⟩
end Go.Proofs.Ytdgkgkopjbnimaa
