/- The chapter's rows are answered. -/
import Derived.Test.YtaoddppkijopmaaCdHb
import Derived.Test.YtaoddppkijopmaaCdOp0
namespace Go.Proofs.Ytaoddppkijopmaa
open Go.ChangeShapes Go.WideShapes Go.ChangeAt Go.RowKit
set_option linter.unusedVariables false
set_option maxRecDepth 100000

theorem wp_build_as {P : Program} {o : Oper} {a : Act} {w : World} {K : Act → World → Prop} {Q : Exit → Act → World → Prop} (t : TypeId) (parts : Array (Nat × Operand)) (ho : o.op = .build t parts)
    (L : List (Nat × Value)) (C : Array Value) (hC : P.built t L = some C) (hL : (parts.map fun (i, x) => (i, a.eval x)).toList = L)
    (h : K (a.put o.dst (.agg C)) w) : o.wp P a w K Q :=
  wp_build t parts ho (by rw [hL, hC]; rfl) (by rw [hL, hC]; exact h)
theorem built_point1 : Try.prog.built 29 [(0, .int .u64 7)] = some (ptV 7 zeros) := by kernel_rfl
theorem built_h1 : Try.prog.built 27 [(1, .int .u64 1)] = some (hdV zeros 1 (.slice none 0 0)) := by kernel_rfl
theorem built_o1 : Try.prog.built 53 [(0, .int .i64 1)] = some (opV 1 zeros 0 0 (.slice none 0 0)) := by kernel_rfl
theorem pt7_c (w : World) : Calls Try.prog 21 #[.agg (ptV 7 zeros)] w fun e w' =>
    ∃ b c, e = .returned (.tuple #[.slice (some ⟨b, 0, none⟩) 40 c, .int .i64 0]) ∧ w'.cell? ⟨b, 7, none⟩ = some (.int .u8 7) ∧ b < w'.heap.size ∧ Below w.heap.size w w' := by
  refine (pointBytes_ok 7 zeros w (by omega) zeros_len).mono ?_
  rintro e w' ⟨A, c, rfl, hc, ho, hb⟩
  have hl : (ptL 7 zeros).length = 40 := ptL_length 7 zeros zeros_len
  obtain ⟨b, off, rfl, _, h2, h3⟩ := ho.rd (by omega)
  obtain ⟨b', cur, e', _, _, _, _⟩ := ho (by omega)
  injection e' with e'
  injection e' with e1 e2
  subst e2
  refine ⟨b, c, by rw [hl], ?_, h2, hb⟩
  have := h3 7 7 (by decide +kernel)
  rw [Nat.zero_add] at this
  exact this
theorem hd1_c (w : World) : Calls Try.prog 8 #[.agg (hdV zeros 1 (.slice none 0 0))] w fun e w' =>
    ∃ A c, e = .returned (.tuple #[.slice A 41 c, .int .i64 0]) ∧ Below w.heap.size w w' := by
  refine (headerBytes_nil zeros 1 none 0 w zeros_len (by omega) (by omega)).mono ?_
  rintro e w' ⟨A, c, rfl, hc, ho, hb⟩
  exact ⟨A, c, rfl, hb⟩
theorem num_c (n : Int) (w : World) : Calls Try.prog 9 #[.int .i64 n] w fun e w' => e = .returned (.int .i64 n) ∧ w = w' := by
  go_enter Try.func9, Try.ntmps9
  go_wp2
  go_ret
  exact ⟨rfl, rfl⟩

set_option maxHeartbeats 4000000 in
theorem known_c (w : World) : Calls Try.prog 6 #[] w fun e w' => e = .returned (.bool true) ∧ Below w.heap.size w w' := by
  have hz := zero_vote0
  have B0 : Hid (Below w.heap.size w w) := Below.refl _ _
  go_enter Try.func6, Try.ntmps6
  go_wp2_with (first
    | (refine wpList_build_as rfl 29 #[(0, .const (.int .u64 7))] rfl _ _ built_point1 (by kernel_rfl) ?_)
    | (refine wpList_build_as rfl 27 #[(1, .const (.int .u64 1))] rfl _ _ built_h1 (by kernel_rfl) ?_)
    | (go_at_call 21; refine (pt7_c _).mono ?_; rintro e w1 ⟨b, c, rfl, hcell, hbl, b1⟩)
    | (go_at_call 8; refine (hd1_c _).mono ?_; rintro e w2 ⟨A2, c2, rfl, b2⟩)
    | (go_at_call 14; refine (voteOf_nil _).mono ?_; rintro e w3 ⟨rfl, b3⟩
       have hb2 := b1.trans (b2.mono b1.size)
       have hb3 := hb2.trans (b3.mono hb2.size)
       have BB : Hid (Below w.heap.size w (w3.alloc (.cells vote0 32))) := hb3.alloc hb3.size _
       have hc3 : (w3.alloc (.cells vote0 32)).cell? ⟨b, 7, none⟩ = some (.int .u8 7) := by
         have e2 := (b2.cell (p := ⟨b, 7, none⟩) hbl).trans hcell
         have e3 := (b3.cell (p := ⟨b, 7, none⟩) (Nat.lt_of_lt_of_le hbl b2.size)).trans e2
         exact (World.cell?_alloc_lt w3 _ ⟨b, 7, none⟩ (Nat.lt_of_lt_of_le hbl (Nat.le_trans b2.size b3.size))).trans e3
       clear hcell hbl b1 b2 b3 hb2 hb3)
    | (refine wpList_store_row rfl 32 (.tmp 5) (.tmp 19) rfl w3.heap.size vote0 rfl rfl 32 vote0 (heap_alloc_new _ _) size_vote0 rfl one_vote0 ?_; rw [World.setRow_alloc_new])
    | (go_at_call 9; refine (num_c _ _).mono ?_; rintro e w9 ⟨rfl, rfl⟩)
    | (refine BigFrame.wpList_want rfl (fun K hK => ?_); refine wp_build_as 27 #[] rfl _ _ built_header0 (by kernel_rfl) ?_; refine hK _ _ ?_; clear hK K)
    | (refine BigFrame.wpList_want rfl (fun K hK => ?_); refine wp_build_as 53 #[(0, .const (.int .i64 1))] rfl _ _ built_o1 (by kernel_rfl) ?_; refine hK _ _ ?_; clear hK K)
    | (go_at_call 22; refine (mayHeader_zero _ _ _).mono ?_; rintro e w4 ⟨rfl, b4⟩)
    | (go_at_call 23; refine (mayOp_dep0 _).mono ?_; rintro e w5 ⟨rfl, b5⟩))
  go_ret
  have b6 := BB.out.trans (b4.mono BB.out.size)
  exact ⟨rfl, b6.trans (b5.mono b6.size)⟩
end Go.Proofs.Ytaoddppkijopmaa
