/- Proved: RowsNone answers true, whatever the memory that it is called in, and changes nothing of it. No condition: it takes no argument. -/
import Derived.Test.YthbnnhnnldakeaaSeen
namespace Go.Proofs.Ythbnnhnnldakeaa
open Go.ChangeShapes Go.WideShapes Go.ChangeAt Go.RowKit
set_option linter.unusedVariables false

/-- Behind the two variables: the zero reader, the list of both. -/
def Two (w wr : World) : Prop :=
  RS wr 0 w.heap.size none ∧ wr.heap[w.heap.size + 1]? = some (.cells #[.pointer none, .pointer (some ⟨w.heap.size, 0, none⟩)] 42 (0, 0)) ∧ Below w.heap.size w wr
theorem Two.start (w : World) : Two w ((w.alloc (.cells #[.slice none 0 0, .bool false] 58 (0, 0))).alloc (.cells #[.pointer none, .pointer (some ⟨w.heap.size, 0, none⟩)] 42 (0, 0))) := by
  refine ⟨?_, ?_, ((Below.refl _ _).alloc (Nat.le_refl _) _).alloc (by simp) _⟩
  · exact (Below.heap_alloc _ _ _ (by simp)).trans (heap_alloc_new w _)
  · have := heap_alloc_new (w.alloc (.cells #[.slice none 0 0, .bool false] 58 (0, 0))) (.cells #[.pointer none, .pointer (some ⟨w.heap.size, 0, none⟩)] 42 (0, 0))
    simpa using this
theorem Two.lt {w wr : World} (h : Two w wr) : w.heap.size + 2 ≤ wr.heap.size := by
  have h2 := h.2.1
  rcases Nat.lt_or_ge (w.heap.size + 1) wr.heap.size with hlt | hge
  · exact hlt
  · rw [Array.getElem?_eq_none hge] at h2; cases h2
theorem Two.below {w wr w' : World} (h : Two w wr) (hb : Below wr.heap.size wr w') : Two w w' :=
  ⟨h.1.below hb (by have := h.lt; omega), (hb.block _ (by have := h.lt; omega)).trans h.2.1, h.2.2.trans (hb.mono h.2.2.size)⟩
theorem Two.grown {w wr w' : World} (h : Two w wr) (hg : wr.grownBy w' (some w.heap.size)) (hR : RS w' 0 w.heap.size none) : Two w w' :=
  ⟨hR, (hg.block _ (by have := h.lt; omega) (by simp)).trans h.2.1, h.2.2.grown hg h.2.2.size (fun k hk => by injection hk with hk; omega)⟩
theorem Two.cells {w wr : World} (h : Two w wr) : wr.cell? ⟨w.heap.size + 1, 0, none⟩ = some (.pointer none) ∧ wr.cell? ⟨w.heap.size + 1, 1, none⟩ = some (.pointer (some ⟨w.heap.size, 0, none⟩)) :=
  ⟨by rw [cell_of_row _ _ 0 _ _ (0, 0) h.2.1]; rfl, by rw [cell_of_row _ _ 1 _ _ (0, 0) h.2.1]; rfl⟩

set_option maxHeartbeats 1000000 in
theorem rowsNone_any (w : World) : Calls Try.prog 8 #[] w fun e w' => e = .returned (.bool true) ∧ Below w.heap.size w w' := by
  go_enter Try.func8, Try.ntmps8
  go_wp2_with fail
  go_loopw [4] (fun i wr => ∃ k : Nat, k ≤ 2 ∧ i = .int .i64 k ∧ Two w wr) (fun i _ => 2 - (intOf i).toNat)
  case atStart => exact ⟨0, by omega, rfl, Two.start w⟩
  case round =>
    obtain ⟨k, hk, rfl, hT⟩ := hrel
    obtain ⟨c0, c1⟩ := hT.cells
    obtain rfl | rfl | rfl : k = 0 ∨ k = 1 ∨ k = 2 := by omega
    · go_wp2_with (first | (go_at_call 27; refine (failed_nil _).mono ?_; rintro e w' ⟨rfl, rfl⟩) | (go_at_call 28; refine (left_nil _).mono ?_; rintro e w' ⟨rfl, rfl⟩) | (go_at_call 21; refine (number_nil _ _).mono ?_; rintro e w' ⟨rfl, rfl⟩) | (go_at_call 23; refine (blob_nil _).mono ?_; rintro e w1 ⟨A1, rfl, ho1, hb1⟩; have hT1 := hT.below hb1; obtain ⟨d0, d1⟩ := hT1.cells) | (go_at_call 25; refine (bytes_nil _ _).mono ?_; rintro e w2 ⟨A2, rfl, ho2, hb2⟩))
      refine ⟨⟨1, by omega, rfl, hT1.below hb2⟩, by simp [intOf]⟩
    · go_wp2_with (first | (go_at_call 27; refine (failed_at 0 _ none _ hT.1).mono ?_; rintro e w' ⟨rfl, rfl⟩) | (go_at_call 28; refine (left_at 0 _ none _ hT.1).mono ?_; rintro e w' ⟨rfl, rfl⟩) | (go_at_call 21; refine (number_at 0 _ none 3 _ hT.1).mono ?_; rintro e w1 ⟨rfl, hR1, hg1⟩; have hT1 := hT.grown hg1 hR1; obtain ⟨d0, d1⟩ := hT1.cells) | (go_at_call 23; refine (blob_at 0 _ none _ hT1.1).mono ?_; rintro e w2 ⟨A2, rfl, ho2, hR2, hg2⟩; have hT2 := hT1.grown hg2 hR2; obtain ⟨e0, e1⟩ := hT2.cells) | (go_at_call 25; refine (bytes_at 0 _ none 0 _ hT2.1).mono ?_; rintro e w3 ⟨A3, rfl, ho3, hR3, hg3⟩))
      refine ⟨⟨2, by omega, rfl, hT2.grown hg3 hR3⟩, by simp [intOf]⟩
    · clear c0 c1
      go_wp2_with fail
      refine (read_any none 0 [] _ Rd.nil (by simp)).mono ?_
      rintro e w1 ⟨p, rfl, hp, hR, hb⟩
      have hT1 := hT.below hb
      have hwp : w.heap.size ≤ p := by have := hT.lt; omega
      have hbw := hT1.2.2
      have HE0 := Lib.hid (end_nil w1)
      have HE1 := Lib.hid (end_at 0 _ none _ hT1.1)
      have HE2 := Lib.hid (end_at _ p (some []) _ hR)
      have HF := Lib.hid (failed_at _ p (some []) _ hR)
      have HB := Lib.hid (bytes_at _ p (some []) 0 _ hR)
      clear hT1 hb hR hT
      go_wp2_with (go_at_call 10; refine (code_any _ _).mono ?_; rintro e w' ⟨rfl, rfl⟩)
      refine HE0.out.mono ?_
      rintro e w' ⟨rfl, rfl⟩
      go_wp2_with (go_at_call 10; refine (code_any _ _).mono ?_; rintro e w' ⟨rfl, rfl⟩)
      refine HE1.out.mono ?_
      rintro e w' ⟨rfl, rfl⟩
      go_wp2_with (go_at_call 10; refine (code_any _ _).mono ?_; rintro e w' ⟨rfl, rfl⟩)
      refine HE2.out.mono ?_
      rintro e w' ⟨rfl, rfl⟩
      go_wp2_with (first | (go_at_call 10; refine (code_any _ _).mono ?_; rintro e w' ⟨rfl, rfl⟩) | (go_at_call 27; refine HF.out.mono ?_; rintro e w' ⟨rfl, rfl⟩))
      refine HB.out.mono ?_
      rintro e w2 ⟨A2, rfl, ho2, hR2, hg2⟩
      have hb2 := hbw.grown hg2 hbw.size (fun k hk => by injection hk with hk; omega)
      have HE3 := Lib.hid (end_at _ p (some []) _ hR2)
      clear hg2 ho2 HE0 HE1 HE2 HF HB hR2
      go_wp2_with fail
      refine HE3.out.mono ?_
      rintro e w' ⟨rfl, rfl⟩
      go_wp2_with (first | (go_at_call 10; refine (code_any _ _).mono ?_; rintro e w' ⟨rfl, rfl⟩) | (go_at_call 12; refine (known_any _).mono ?_; rintro e w3 ⟨rfl, hb3⟩))
      go_ret
      exact ⟨rfl, hb2.trans (hb3.mono hb2.size)⟩

theorem none_own : ownKnob Try.prog.godebug = none := by kernel_rfl

set_option maxRecDepth 100000 in
theorem rowsNone_lifted (os : Os) (started : os.Started) (H : Type) (enc : TypeId × Value → H) :
    ReturnsInHanded {} Try.checked os 8 .any (Rows.rowsNoneSpec.pre6 enc Try.prog Try.f8 Rows.rowsNoneRow.domain false) (Rows.rowsNoneSpec.post enc Try.prog Try.f8 false true false false) := by
  refine returnsInHanded_of_change (C := Try.checked) none_own started (by kernel_rfl) Try.func8
    (ChangeSpec.witness6 (enc := enc) (C := Try.checked) false ⟨#[], #[], []⟩ 8 (by kernel_rfl) (by kernel_rfl) (by kernel_rfl) (by kernel_rfl)) ?_
  intro W base args ds gs before hval hW hcnd _
  have hW' := hW
  obtain ⟨p, q, hA0, hV, rfl, hfz, hnd⟩ := hW
  have hA : DataW.TrodAll enc Try.prog W 0 (fun _ => true) true Try.f8.params.toList args.toList ds p := hA0
  rw [Try.params8] at hA
  obtain ⟨hargs, rfl, rfl⟩ := trodAll_nil hA
  obtain rfl : args = #[] := by cases args; simp_all
  obtain ⟨rfl, rfl⟩ := trodVars_none hV
  clear hA0
  refine (rowsNone_any W).mono fun e W' ⟨he, bel⟩ => ?_
  subst he
  exact ⟨_, rfl, _, _, _, [], _, [], hW', trodAll_mk1 (shut_bool Try.underlying4 _), trodAll_mk0, rfl, bel.frame _, fun h => by cases h⟩

theorem rowsNone_proved : Rows.RowsNoneSaid :=
  OpenClaim.holds_of_wide 8 Try.f8 rfl rfl rfl rfl rfl rfl rfl ⟨rfl, rfl, rfl, rfl, rfl⟩ rfl rfl rfl rfl rfl (by kernel_rfl) Try.func8 (by kernel_rfl)
    (of_decide_eq_true (by kernel_rfl)) (by unfold Func.isWrapper; first | (rw [if_pos (by decide +kernel)]; kernel_rfl) | (rw [if_neg (by decide +kernel)]; exact ⟨rfl, rfl⟩))
    (fun os started H enc _ => rowsNone_lifted os started H enc)
end Go.Proofs.Ythbnnhnnldakeaa
