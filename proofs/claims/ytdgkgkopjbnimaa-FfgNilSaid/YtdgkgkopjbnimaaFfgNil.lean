/- FfgNil. -/
import Derived.Test.YtdgkgkopjbnimaaFgNone6
namespace Go.Proofs.Ytdgkgkopjbnimaa
open Go.ChangeMaps Go.MapKept Go.Maps Go.WideElems Go.RowKit
set_option linter.unusedVariables false
set_option maxRecDepth 100000

def k1 : Pt := ⟨1, List.replicate 32 0, by omega, by simp⟩
theorem built_k1 : Try.prog.built 29 [(0, .int .u64 1)] = some (pv k1) := by kernel_rfl
theorem two_points (x y : Pt) (u : World) : (Instr.buildSlice 38 2 #[(0, .agg (pv x)), (1, .agg (pv y))]).run Try.prog u = .ok (.slice (some ⟨u.heap.size, 0, none⟩) 2 2) (u.alloc (.cells (pts [x, y]).toArray 29)) := by
  have hie : Try.prog.info? 29 = some ((Try.prog.info? 29).get (by kernel_rfl)) := (Option.some_get _).symm
  refine run_buildSlice u _ 29 2 _ (pts [x, y]).toArray _ _ Try.underlying38 hie (Option.some_get (by kernel_rfl)).symm (by decide +kernel) (by decide +kernel) ?_
  kernel_rfl
theorem two_cells (x y : Pt) (u : World) : ∀ k z, [x, y][k]? = some z → (u.alloc (.cells (pts [x, y]).toArray 29)).rangeAt u.heap.size (k * 33) (pC z) := fun k z hk j v hv => by
  have hj : j < 33 := by rw [← pC_len z]; exact (List.getElem?_eq_some_iff.1 hv).1
  rw [cell_of_row _ u.heap.size (k * 33 + j) _ _ (0, 0) (heap_alloc_new u _), List.getElem?_toArray, pts_at [x, y] k j z hk hj, hv]
theorem two_gadgets (z : Nat) (u : World) : (Instr.buildSlice 52 2 #[(0, .pointer none), (1, .pointer (some ⟨z, 0, none⟩))]).run Try.prog u = .ok (.slice (some ⟨u.heap.size, 0, none⟩) 2 2) (u.alloc (.cells #[.pointer none, .pointer (some ⟨z, 0, none⟩)] 31)) := by
  have hie : Try.prog.info? 31 = some ((Try.prog.info? 31).get (by kernel_rfl)) := (Option.some_get _).symm
  refine run_buildSlice u _ 31 2 _ #[.pointer none, .pointer (some ⟨z, 0, none⟩)] _ _ Try.underlying52 hie (Option.some_get (by kernel_rfl)).symm (by decide +kernel) (by decide +kernel) ?_
  kernel_rfl
theorem zero_ga (u : World) : (zeroValue 51).run Try.prog u = .ok (.agg #[.pointer none]) u := by kernel_rfl
set_option maxRecDepth 1000000 in
set_option maxHeartbeats 16000000 in
theorem ffgNil_any (w : World) : Calls Try.prog 6 #[] w fun e w' => e = .returned (.bool true) ∧ Below w.heap.size w w' := by
  have hzp := zero_pt
  have hzg := zero_ga
  obtain ⟨Z, hZ⟩ : ∃ Z, Z = ptZ := ⟨_, rfl⟩
  have hz0 : Try.prog.built 29 [] = some (pv Z) := by rw [hZ]; kernel_rfl
  have hl0 : Try.prog.built 36 [] = some (lv lkZ) := by kernel_rfl
  obtain ⟨W0, hW0⟩ : ∃ W0, W0 = w.alloc (.cells #[.pointer none] 51) := ⟨_, rfl⟩
  obtain ⟨W1, hW1⟩ : ∃ W1, W1 = W0.alloc (.cells #[.pointer none, .pointer (some ⟨w.heap.size, 0, none⟩)] 31) := ⟨_, rfl⟩
  have z0 : W0.heap.size = w.heap.size + 1 := by rw [hW0]; simp
  have b0 : Below w.heap.size w W0 := by rw [hW0]; exact (Below.refl _ _).alloc (Nat.le_refl _) _
  have b1 : Below W0.heap.size W0 W1 := by rw [hW1]; exact (Below.refl _ _).alloc (Nat.le_refl _) _
  have z1 : W1.heap.size = w.heap.size + 2 := by rw [hW1]; simp [z0]
  have e0 : W1.heap[w.heap.size]? = some (.cells #[.pointer none] 51 (0, 0)) := (b1.block _ (by omega)).trans (by rw [hW0]; exact heap_alloc_new w _)
  have e1 : W1.heap[w.heap.size + 1]? = some (.cells #[.pointer none, .pointer (some ⟨w.heap.size, 0, none⟩)] 31 (0, 0)) := by rw [← z0, hW1]; exact heap_alloc_new W0 _
  have hb2 : (Instr.buildSlice 52 2 #[(0, .pointer none), (1, .pointer (some ⟨w.heap.size, 0, none⟩))]).run Try.prog W0 = .ok (.slice (some ⟨w.heap.size + 1, 0, none⟩) 2 2) W1 := by rw [hW1, ← z0]; exact two_gadgets w.heap.size W0
  have HBN := Lib.hid (show ∀ v w, NoG v w → Calls Try.prog 19 #[v] w fun e w' => e = .returned (.agg (pv Z)) ∧ Below w.heap.size w w' by rw [hZ]; exact fun v w h => best_n v w h)
  have HHN := Lib.hid (show ∀ v w, NoG v w → Calls Try.prog 20 #[v] w fun e w' => e = .returned (.agg (pv Z)) ∧ Below w.heap.size w w' by rw [hZ]; exact fun v w h => highest_n v w h)
  have CN := Lib.hid (fun g c => clash_n g c [Z, k1] Z hZ)
  have a0 : (pv Z)[0]? = some (.int .u64 (Z.e : Int)) := rfl
  have a1 : (pv Z).extract 1 33 = hashV Z.l := by kernel_rfl
  have h9 := eq_h9 Z.l Z.hl
  have BW := Lib.hid (b0.trans (b1.mono (by omega)))
  have E := Lib.hid (And.intro e0 e1)
  have ZS := Lib.hid z1
  have HZ := Lib.hid hZ
  have HW0 := Lib.hid hW0
  clear hW0 hW1 z0 z1 b0 b1 e0 e1 hZ
  go_enter Try.func6, Try.ntmps6
  go_wp2_with (first
    | (rw [← HW0.out]; refine wpList_buildSlice_row (v := .slice (some ⟨w.heap.size + 1, 0, none⟩) 2 2) (w' := W1) rfl 52 2 #[(0, .const (.pointer none)), (1, .tmp 1)] rfl ?hr ?_; case hr => (simp only [List.map_toArray, List.map_cons, List.map_nil]; exact hb2))
    | fail)
  go_loopw [3] (fun v u => ∃ k : Nat, k ≤ 2 ∧ v = .int .i64 (k : Int) ∧ Below W1.heap.size W1 u) (fun v _ => 2 - (intOf v).toNat)
  case atStart => exact ⟨0, Nat.zero_le _, rfl, Below.refl _ _⟩
  case round =>
    obtain ⟨k, hk, rfl, q1⟩ := hrel
    by_cases hlt : k < 2
    · obtain ⟨v, hv, hng⟩ : ∃ v, wr.cell? ⟨w.heap.size + 1, k, none⟩ = some v ∧ NoG v wr := by
        have e0 : wr.heap[w.heap.size]? = some (.cells #[.pointer none] 51 (0, 0)) := (q1.block _ (by have := ZS.out; omega)).trans E.out.1
        have e1 := (q1.block (w.heap.size + 1) (by have := ZS.out; omega)).trans E.out.2
        rcases (show k = 0 ∨ k = 1 by omega) with rfl | rfl
        · exact ⟨_, cell_of_row wr (w.heap.size + 1) 0 _ _ (0, 0) e1, .inl rfl⟩
        · exact ⟨_, cell_of_row wr (w.heap.size + 1) 1 _ _ (0, 0) e1, .inr ⟨_, rfl, e0⟩⟩
      have NG := Lib.hid hng
      have Q0 := Lib.hid q1
      clear hng q1
      go_wp2_with (first
        | (refine wpList_build_as' rfl 36 #[] rfl _ _ hl0 (by kernel_rfl) ?_)
        | fail)
      refine (strong_n v lkZ wr NG.out).mono ?_
      rintro e w1 ⟨rfl, b1⟩
      have NG1 := Lib.hid (NG.out.below b1)
      have Q1 := Lib.hid (Q0.out.trans (b1.mono Q0.out.size))
      clear b1
      go_wp2_with (first
        | (refine BigFrame.wpList_want rfl (fun K hK => ?_); refine wp_build_as' 29 #[] rfl _ _ hz0 (by kernel_rfl) ?_; refine hK _ _ ?_; clear hK K)
        | fail)
      refine (justified_n v Z w1 NG1.out).mono ?_
      rintro e w2 ⟨rfl, b2⟩
      have NG2 := Lib.hid (NG1.out.below b2)
      have Q2 := Lib.hid (Q1.out.trans (b2.mono Q1.out.size))
      clear b2
      go_wp2_with (first
        | (refine BigFrame.wpList_want rfl (fun K hK => ?_); refine wp_build_as' 29 #[] rfl _ _ hz0 (by kernel_rfl) ?_; refine hK _ _ ?_; clear hK K)
        | fail)
      refine (final_n v Z w2 NG2.out).mono ?_
      rintro e w3 ⟨rfl, b3⟩
      have NG3 := Lib.hid (NG2.out.below b3)
      have Q3 := Lib.hid (Q2.out.trans (b3.mono Q2.out.size))
      clear b3
      go_wp2_with fail
      refine (allJustified_n v w3 NG3.out).mono ?_
      rintro e w4 ⟨rfl, b4⟩
      have NG4 := Lib.hid (NG3.out.below b4)
      have Q4 := Lib.hid (Q3.out.trans (b4.mono Q3.out.size))
      clear b4
      go_wp2_with fail
      refine (allFinal_n v w4 NG4.out).mono ?_
      rintro e w5 ⟨rfl, b5⟩
      have NG5 := Lib.hid (NG4.out.below b5)
      have Q5 := Lib.hid (Q4.out.trans (b5.mono Q4.out.size))
      clear b5
      go_wp2_with fail
      refine (HBN.out v w5 NG5.out).mono ?_
      rintro e w6 ⟨rfl, b6⟩
      have NG6 := Lib.hid (NG5.out.below b6)
      have Q6 := Lib.hid (Q5.out.trans (b6.mono Q5.out.size))
      clear b6
      go_wp2_with (first
        | (refine BigFrame.wpList_want rfl (fun K hK => ?_); refine wp_build_as' 29 #[] rfl _ _ hz0 (by kernel_rfl) ?_; refine hK _ _ ?_; clear hK K)
        | fail)
      refine (HHN.out v w6 NG6.out).mono ?_
      rintro e w7 ⟨rfl, b7⟩
      have NG7 := Lib.hid (NG6.out.below b7)
      have Q7 := Lib.hid (Q6.out.trans (b7.mono Q6.out.size))
      clear b7
      go_wp2_with (first
        | (refine BigFrame.wpList_want rfl (fun K hK => ?_); refine wp_build_as' 29 #[] rfl _ _ hz0 (by kernel_rfl) ?_; refine hK _ _ ?_; clear hK K)
        | fail)
      refine (links_n v w7 NG7.out).mono ?_
      rintro e w8 ⟨rfl, b8⟩
      have NG8 := Lib.hid (NG7.out.below b8)
      have Q8 := Lib.hid (Q7.out.trans (b8.mono Q7.out.size))
      clear b8
      go_wp2_with fail
      refine (copy_n v w8 NG8.out).mono ?_
      rintro e w9 ⟨rfl, rfl⟩
      go_wp2_with fail
      exact ⟨⟨k + 1, by omega, by go_num, Q8.out⟩, by simp [intOf]; omega⟩
    · obtain rfl : k = 2 := by omega
      obtain ⟨u1, hu1⟩ : ∃ u1, u1 = wr.alloc (.cells (pts [Z, k1]).toArray 29) := ⟨_, rfl⟩
      have hb3 : (Instr.buildSlice 38 2 #[(0, .agg (pv Z)), (1, .agg (pv k1))]).run Try.prog wr = .ok (.slice (some ⟨wr.heap.size, 0, none⟩) 2 2) u1 := by rw [hu1]; exact two_points Z k1 wr
      have bu : Below wr.heap.size wr u1 := by rw [hu1]; exact (Below.refl _ _).alloc (Nat.le_refl _) _
      have CC := Lib.hid (CN.out wr.heap.size 2 u1 (by rw [hu1]; exact two_cells Z k1 wr) (by rw [hu1]; simp) (by simp))
      have QW : Below w.heap.size w wr := BW.out.trans (q1.mono BW.out.size)
      have QU := Lib.hid (QW.trans (bu.mono QW.size))
      clear hu1 bu q1 QW
      go_wp2_with (first
        | (refine wpList_build_as' rfl 29 #[] rfl _ _ hz0 (by kernel_rfl) ?_)
        | (refine wpList_build_as' rfl 29 #[(0, .const (.int .u64 1))] rfl _ _ built_k1 (by kernel_rfl) ?_)
        | (refine wpList_buildSlice_row (v := .slice (some ⟨wr.heap.size, 0, none⟩) 2 2) (w' := u1) rfl 38 2 #[(0, .tmp 69), (1, .tmp 70)] rfl ?hr ?_; case hr => (simp only [List.map_toArray, List.map_cons, List.map_nil]; exact hb3))
        | fail)
      refine CC.out.mono ?_
      rintro e w2 ⟨rfl, b2⟩
      have Q2 := Lib.hid (QU.out.trans (b2.mono QU.out.size))
      clear b2
      obtain ⟨x1, hx1⟩ : ∃ x, x = w2.alloc (.cells (pv ptZ) 29) := ⟨_, rfl⟩
      obtain ⟨x2, hx2⟩ : ∃ x, x = x1.alloc (.cells (pv ptZ) 29) := ⟨_, rfl⟩
      obtain ⟨x3, hx3⟩ : ∃ x, x = x2.setRow w2.heap.size (pv Z) := ⟨_, rfl⟩
      obtain ⟨x4, hx4⟩ : ∃ x, x = x3.setRow (w2.heap.size + 1) (pv Z) := ⟨_, rfl⟩
      have y1 : x1.heap.size = w2.heap.size + 1 := by rw [hx1]; simp
      have g1 : x2.heap[w2.heap.size]? = some (.cells (pv ptZ) 29 (0, 0)) := by rw [hx2, heap_lt _ _ (by omega), hx1]; exact heap_alloc_new w2 _
      have g2 : x2.heap[w2.heap.size + 1]? = some (.cells (pv ptZ) 29 (0, 0)) := by rw [← y1, hx2]; exact heap_alloc_new x1 _
      have g3 : x3.heap[w2.heap.size + 1]? = some (.cells (pv ptZ) 29 (0, 0)) := by rw [hx3]; exact (setRow_other _ _ _ _ (by omega)).trans g2
      have bx : Below w.heap.size w x4 := by
        have hs := Q2.out.size
        rw [hx4]
        refine below_setRow ?_ (by omega) _
        rw [hx3]
        refine below_setRow ?_ hs _
        rw [hx2]
        refine Below.alloc ?_ (by omega) _
        rw [hx1]
        exact Q2.out.alloc hs _
      have X1 := Lib.hid hx1
      have X2 := Lib.hid hx2
      have X3 := Lib.hid hx3
      have X4 := Lib.hid hx4
      have BX := Lib.hid bx
      have KN := Lib.hid (known_c x4)
      clear hx1 hx2 hx3 hx4 bx g2 y1
      go_wp2_with (first
        | (refine wpList_store_row rfl 29 (.tmp 5) (.tmp 73) rfl (w2.heap.size) (pv Z) rfl rfl 29 (pv ptZ) (by rw [← X1.out, ← X2.out]; exact g1) (size_pv Z) (by rw [show (pv Z).size = 33 from rowV_size _ _]; exact rowV_size _ _) (rowV_one 33 _ (pf_one Z)) ?_; rw [← X1.out, ← X2.out, ← X3.out])
        | (refine wpList_store_row rfl 29 (.tmp 6) (.tmp 74) rfl (w2.heap.size + 1) (pv Z) rfl rfl 29 (pv ptZ) g3 (size_pv Z) (by rw [show (pv Z).size = 33 from rowV_size _ _]; exact rowV_size _ _) (rowV_one 33 _ (pf_one Z)) ?_; rw [← X4.out])
        | fail)
      refine KN.out.mono ?_
      rintro e w5 ⟨rfl, b5⟩
      go_wp2_with fail
      go_ret
      exact ⟨rfl, BX.out.trans (b5.mono BX.out.size)⟩
end Go.Proofs.Ytdgkgkopjbnimaa
