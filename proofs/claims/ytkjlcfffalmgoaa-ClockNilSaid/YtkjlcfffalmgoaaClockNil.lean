/- ClockNil: clocks that are not there, clocks at their bounds. -/
import Derived.Test.YtkjlcfffalmgoaaCkNone
namespace Go.Proofs.Ytkjlcfffalmgoaa
open Go.ChangeShapes Go.WideShapes Go.ChangeAt Go.RowKit
set_option linter.unusedVariables false
set_option maxRecDepth 100000

set_option maxHeartbeats 8000000 in
theorem clockNil_any (w : World) : Calls Try.prog 6 #[] w fun r w' => r = .returned (.bool true) ∧ Below w.heap.size w w' := by
  have N1 := Lib.hid (fun u => new_c 18446744073709551615 u)
  have N0 := Lib.hid (fun u => new_c 0 u)
  go_enter Try.func6, Try.ntmps6
  go_wp2_with fail
  refine (N1.out _).mono ?_
  rintro r w1 ⟨rfl, k1, b1, -⟩
  obtain ⟨g, hg⟩ : ∃ g, g = w.heap.size := ⟨_, rfl⟩
  have K1 := Lib.hid k1
  have B1 := Lib.hid b1
  rw [← hg] at K1 ⊢
  clear k1 b1 hg
  go_wp2_with fail
  have AS := Lib.hid (asks_c g _ 0 18446744073709551615 _ K1.out)
  rw [show decide ((18446744073709551615 : Nat) < 18446744073709551615) = false from rfl] at AS
  refine AS.out.mono ?_
  rintro r w0 ⟨rfl, rfl⟩
  go_wp2_with fail
  refine (N0.out _).mono ?_
  rintro r w2 ⟨rfl, k2, b2, -⟩
  obtain ⟨g2, hg2⟩ : ∃ g, g = w0.heap.size := ⟨_, rfl⟩
  have K2 := Lib.hid k2
  have B2 := Lib.hid (B1.out.trans (b2.mono B1.out.size))
  have K1 := Lib.hid (K1.out.below b2 K1.out.lt)
  rw [← hg2] at K2 ⊢
  clear k2 b2 hg2
  go_wp2_with fail
  have SG := Lib.hid (same_gg g _ 0 g2 0 0 _ K1.out K2.out)
  rw [show decide ((18446744073709551615 : Nat) = 0) = false from rfl] at SG
  refine SG.out.mono ?_
  rintro r w3 ⟨rfl, rfl⟩
  go_wp2_with fail
  refine (N0.out _).mono ?_
  rintro r w4 ⟨rfl, k4, b4, -⟩
  obtain ⟨g4, hg4⟩ : ∃ g, g = w3.heap.size := ⟨_, rfl⟩
  have K4 := Lib.hid k4
  have B4 := Lib.hid (B2.out.trans (b4.mono B2.out.size))
  rw [← hg4] at K4 ⊢
  clear k4 b4 hg4
  go_wp2_with fail
  refine (N0.out _).mono ?_
  rintro r w5 ⟨rfl, k5, b5, -⟩
  obtain ⟨g5, hg5⟩ : ∃ g, g = w4.heap.size := ⟨_, rfl⟩
  have K5 := Lib.hid k5
  have B5 := Lib.hid (B4.out.trans (b5.mono B4.out.size))
  have K4 := Lib.hid (K4.out.below b5 K4.out.lt)
  rw [← hg5] at K5 ⊢
  clear k5 b5 hg5
  go_wp2_with fail
  have SH := Lib.hid (same_gg g4 0 0 g5 0 0 _ K4.out K5.out)
  rw [show decide ((0 : Nat) = 0) = true from rfl] at SH
  refine SH.out.mono ?_
  rintro r w6 ⟨rfl, rfl⟩
  go_wp2_with fail
  refine (N0.out _).mono ?_
  rintro r w7 ⟨rfl, k7, b7, -⟩
  obtain ⟨g7, hg7⟩ : ∃ g, g = w6.heap.size := ⟨_, rfl⟩
  have K7 := Lib.hid k7
  have B7 := Lib.hid (B5.out.trans (b7.mono B5.out.size))
  rw [← hg7] at K7 ⊢
  clear k7 b7 hg7
  go_wp2_with fail
  refine (same_gn (.pointer none) g7 0 0 _ (isNone_nil _) K7.out).mono ?_
  rintro r w8 ⟨rfl, rfl⟩
  go_wp2_with fail
  obtain ⟨W, hW⟩ : ∃ W, W = w8.alloc (.cells #[.int .u64 0, .int .i64 0, .bool false] 47) := ⟨_, rfl⟩
  obtain ⟨z, hz⟩ : ∃ z, z = w8.heap.size := ⟨_, rfl⟩
  have zk : W.heap[z]? = some (.cells #[.int .u64 0, .int .i64 0, .bool false] 47 (0, 0)) := by rw [hW, hz]; exact heap_alloc_new w8 _
  have zl : z < W.heap.size := by rw [hW, hz]; simp
  have BW : Hid (Below w.heap.size w W) := Lib.hid (by rw [hW]; exact B7.out.alloc B7.out.size _)
  have ZN : Hid (∀ u, Below W.heap.size W u → Calls Try.prog 21 #[.pointer (some ⟨z, 0, none⟩)] u fun e w' => e = .returned (.bool true) ∧ w' = u) := Lib.hid (fun u hu => isNone_zero z u (cell_of_row u z 2 _ _ (0, 0) ((hu.block z zl).trans zk)))
  rw [← hW, ← hz]
  clear hW hz zk zl
  refine (nothing_c (.pointer none) W (fun u _ => isNone_nil u)).mono ?_
  rintro r w9 ⟨rfl, b9⟩
  have B9 := Lib.hid b9
  clear b9
  go_wp2_with fail
  refine (nothing_c _ w9 (fun u hu => ZN.out u (B9.out.trans (hu.mono B9.out.size)))).mono ?_
  rintro r w10 ⟨rfl, b10⟩
  have B10 := Lib.hid (B9.out.trans (b10.mono B9.out.size))
  clear b10
  go_wp2_with fail
  refine (same_nn _ (.pointer none) w10 (ZN.out _ B10.out) (isNone_nil _)).mono ?_
  rintro r w11 ⟨rfl, rfl⟩
  go_wp2_with fail
  refine (known_c _).mono ?_
  rintro r w12 ⟨rfl, b12⟩
  go_wp2_with fail
  go_ret
  exact ⟨rfl, BW.out.trans ((B10.out.mono BW.out.size).trans (b12.mono (Nat.le_trans BW.out.size B10.out.size)))⟩
end Go.Proofs.Ytkjlcfffalmgoaa
