/- Contracts: the path of a leaf, and none. -/
import Derived.Test.YthjeanjodhafjaaDoorTrPath
import Derived.Laws.MakeOwn
namespace Go.Proofs.YthjeanjodhafjaaDoor
open Go.ChangeShapes Go.WideShapes Go.ChangeAt Go.RowKit
set_option linter.unusedVariables false

section
variable {P : Program} {w w' : World}
theorem wpList_makeSlice_asP {ops : Array Oper} {rest : List Oper} {o : Oper} {a : Act} {Q : Exit → Act → World → Prop} (hg : o.guard = none) (t : TypeId) (x y : Operand) (ho : o.op = .makeSlice t x y) (v : Value)
    (hrun : (Instr.makeSlice t (a.eval x) (a.eval y)).run P w = .ok v w') (h : wpList P ops Q rest (a.put o.dst v) w') : wpList P ops Q (o :: rest) a w :=
  wpList_plain hg fun _ hK => by
    unfold Oper.wp execOp
    simp only [ho, Sem.run_bind, hrun, Result.andThen_ok]
    exact hK _ _ h
end
set_option maxRecDepth 100000 in
set_option maxHeartbeats 4000000 in
theorem path_no (A : Option Addr) (n c : Nat) (i : Int) (w : World) (hn : n < 9223372036854775808) (hno : hgt n = none ∨ ∃ h, hgt n = some h ∧ ¬ (0 ≤ i ∧ i < ((2 ^ h : Nat) : Int))) :
    Calls Tryd.prog 8 #[.slice A n c, .int .i64 i] w fun e w' => e = .returned (.tuple #[.slice none 0 0, .int .i64 2]) ∧ Below w.heap.size w w' := by
  have HH := Lib.hid (heightOf_c n hn (w.alloc (.cells #[.int .i64 i] 3)))
  have HB := Lib.hid ((Below.refl w.heap.size w).alloc (Nat.le_refl _) (.cells #[.int .i64 i] 3))
  rcases hno with hno | ⟨h, hno, hb⟩
  · have e1 : hgtI n = -1 := by unfold hgtI; rw [hno]
    rw [e1] at HH
    clear hno
    go_enter Tryd.func8, Tryd.ntmps8
    go_wp2_with fail
    refine HH.out.mono ?_
    rintro e w1 ⟨rfl, rfl⟩
    go_wp2_with fail
    first | (refine bodyPost_ret (results_tmp2 rfl _ _ _) rfl ?_) | go_ret
    exact ⟨rfl, HB.out⟩
  · have hh8 := (hgt_some hno).1
    have e1 : hgtI n = (h : Int) := by unfold hgtI; rw [hno]
    rw [e1] at HH
    have HL := Lib.hid (isLeaf_c i h (by omega) (w.alloc (.cells #[.int .i64 i] 3)))
    have e2 : (i / 2 ^ h == 0) = false := by
      cases hq : (i / 2 ^ h == 0) with
      | true => exact absurd ((leaf_iff i h).1 hq) hb
      | false => rfl
    rw [e2] at HL
    have q1 : ((h : Int) < 0) = False := by simp
    clear hno hb e2
    go_enter Tryd.func8, Tryd.ntmps8
    go_wp2_with fail
    refine HH.out.mono ?_
    rintro e w1 ⟨rfl, rfl⟩
    go_wp2_with fail
    refine HL.out.mono ?_
    rintro e w1 ⟨rfl, rfl⟩
    go_wp2_with fail
    first | (refine bodyPost_ret (results_tmp2 rfl _ _ _) rfl ?_) | go_ret
    exact ⟨rfl, HB.out⟩
set_option maxRecDepth 100000 in
set_option maxHeartbeats 8000000 in
theorem path_c (i h : Nat) (L : List (List UInt8)) (A : Option Addr) (c : Nat) (w : World) (h8 : h ≤ 8) (hl : L.length = 2 ^ h) (hc : L.length ≤ c) (hcm : c ≤ 9223372036854775807) (hi : i < 2 ^ h) (hx : ∀ x ∈ L, x.length = 32) (hR : RdH w w.heap.size A L) (ht : Tabs w) :
    Calls Tryd.prog 8 #[.slice A L.length c, .int .i64 (i : Int)] w fun e w' => ∃ A' c', e = .returned (.tuple #[.slice A' h c', .int .i64 0]) ∧ Below w.heap.size w w' ∧ w'.ownsRow w.heap.size 25 32 (.slice A' h c') h (hcs (pathH h L i)) := by
  obtain ⟨i0, hi0⟩ : ∃ i0, Tryd.prog.info? 25 = some i0 := ⟨_, (Option.some_get (by kernel_rfl)).symm⟩
  obtain ⟨hz0, hz1, hz2⟩ := hashes_row hi0
  have hi2 : i < 256 := Nat.lt_of_lt_of_le hi (two_le h (by omega)).1
  obtain ⟨W1, hW1⟩ : ∃ W1, W1 = w.alloc (.cells #[.int .i64 (i : Int)] 3) := ⟨_, rfl⟩
  have b1 : Below w.heap.size w W1 := by rw [hW1]; exact (Below.refl _ _).alloc (Nat.le_refl _) _
  have z1 : W1.heap.size = w.heap.size + 1 := by rw [hW1]; simp
  have c1 : W1.heap[w.heap.size]? = some (.cells #[.int .i64 (i : Int)] 3 (0, 0)) := by rw [hW1]; exact heap_alloc_new w _
  obtain ⟨W2, hm, hown, hgr⟩ := run_make_own (P := Tryd.prog) W1 w.heap.size 22 25 i0 _ 32 Tryd.underlying22 hi0 hz0 hz1 .i64 .i64 h (by rw [hz2]; omega) (by unfold maxLen; omega) (by omega)
  have b2 : Below w.heap.size w W2 := b1.grown hgr (by omega) (fun k e => by cases e)
  have c2 := (hgr.block w.heap.size (by omega) (fun e => by cases e)).trans c1
  have z2 : W1.heap.size ≤ W2.heap.size := hgr.size
  obtain ⟨gp, hgp⟩ : ∃ gp, gp = W2.heap.size := ⟨_, rfl⟩
  obtain ⟨W, hW⟩ : ∃ W, W = (W2.alloc (.cells #[.slice (some ⟨W1.heap.size, 0, none⟩) 0 h] 22)).alloc (.cells #[dnV w.heap.size (gp + 1) gp] 47) := ⟨_, rfl⟩
  have hS : PSt w.heap.size w.heap.size (gp + 1) gp i w [] W := by
    refine ⟨by rw [hW]; exact (b2.alloc (by omega) _).alloc (by simp; omega) _, ?_, ?_, some ⟨W1.heap.size, 0, none⟩, h, ?_, ?_⟩
    · rw [hW, heap_lt _ _ (by simp; omega), heap_lt _ _ (by omega)]; exact c2
    · rw [hW, hgp]; exact heap_alloc2_new W2 _ _
    · rw [hW, hgp]; exact heap_alloc2_old W2 _ _
    · rw [hW]; exact (hown.alloc _).alloc _
  have HP := Lib.hid (pdown_c w.heap.size w.heap.size (gp + 1) gp i w (Nat.le_refl _) (by omega) hi2 ht (by have := ht.2.2.2; omega) h L A c [] W h8 hl hc hcm (by simp; omega) hx hR hS)
  rw [List.nil_append] at HP
  have HW := Lib.hid hW
  have HW1 := Lib.hid hW1
  have HM := Lib.hid hm
  have HG := Lib.hid hgp
  have HH := Lib.hid (heightOf_c L.length (by omega) W1)
  rw [(hgtI_some h8 hl).2] at HH
  have HL := Lib.hid (isLeaf_c (i : Int) h (by omega) W1)
  rw [(leaf_iff (i : Int) h).2 ⟨by omega, by omega⟩] at HL
  have c3 := cell_of_row W1 w.heap.size 0 _ _ (0, 0) c1
  have c4 : W1.cell? ⟨w.heap.size, 0, none⟩ = some (.int .i64 (i : Int)) := c3
  obtain ⟨n, hn⟩ : ∃ n, n = L.length := ⟨_, rfl⟩
  rw [← hn] at HH HP ⊢
  have hn63 : n < 9223372036854775808 := by omega
  have HC := Lib.hid hcm
  have PL := Lib.hid (pathH_length h L i)
  generalize pathH h L i = Q at *
  clear hW hW1 hm hgp b1 b2 c1 c2 c3 z1 z2 hown hgr hS hR hx ht hl hn hi hi2 hc hcm
  go_enter Tryd.func8, Tryd.ntmps8
  go_wp2_with fail
  rw [← HW1.out]
  refine HH.out.mono ?_
  rintro e w1 ⟨rfl, rfl⟩
  go_wp2_with fail
  refine HL.out.mono ?_
  rintro e w1 ⟨rfl, rfl⟩
  go_wp2_with (first
    | (refine wpList_makeSlice_asP (v := .slice (some ⟨w1.heap.size, 0, none⟩) 0 h) (w' := W2) rfl 22 (.const (.int .i64 0)) (.tmp 20) rfl ?hr ?_; case hr => exact HM.out)
    | fail)
  rw [← HG.out]
  unfold dnV at HW
  rw [← HW.out]
  refine HP.out.mono ?_
  rintro e u ⟨rfl, s1, s2, s3, A3, c3, s4, s5⟩
  have cgd := cell_of_row u (gp + 1) 0 _ _ (0, 0) s3
  have cgp := cell_of_row u gp 0 _ _ (0, 0) s4
  have cgp' : u.cell? ⟨gp, 0, none⟩ = some (.slice A3 h c3) := by rw [← PL.out]; exact cgp
  have S1 := Lib.hid s1
  rw [PL.out] at s5
  have S5 := Lib.hid s5
  clear s1 s2 s3 s4 s5 cgd cgp
  go_wp2_with fail
  first | (refine bodyPost_ret (results_tmp2 rfl _ _ _) rfl ?_) | go_ret
  exact ⟨A3, c3, rfl, S1.out, S5.out⟩
end Go.Proofs.YthjeanjodhafjaaDoor
