/- Contracts: Left, Failed, End, Read, Join, Blob; and that the chapter's rows are answered. -/
import Derived.Test.YthbnnhnnldakeaaRdr
namespace Go.Proofs.Ythbnnhnnldakeaa
open Go.ChangeShapes Go.WideShapes Go.ChangeAt Go.RowKit
set_option linter.unusedVariables false

theorem failed_at (lo p : Nat) (st : Option (List UInt8)) (w : World) (h : RS w lo p st) :
    Calls Try.prog 27 #[.pointer (some ⟨p, 0, none⟩)] w fun e w' => e = .returned (.bool st.isNone) ∧ w = w' := by
  cases st with
  | none => exact failed_yes p w (cells2 h).2.1
  | some l => obtain ⟨A, h, _⟩ := h; exact failed_no p w (cells2 h).2.1

theorem left_nil (w : World) : Calls Try.prog 28 #[.pointer none] w fun e w' => e = .returned (.int .i64 0) ∧ w = w' := by
  go_enter Try.func28, Try.ntmps28
  go_wp2_with (go_at_call 27; refine (failed_nil _).mono ?_; rintro e w' ⟨rfl, rfl⟩)
  go_ret
  exact ⟨rfl, rfl⟩

theorem left_at (lo p : Nat) (st : Option (List UInt8)) (w : World) (h : RS w lo p st) :
    Calls Try.prog 28 #[.pointer (some ⟨p, 0, none⟩)] w fun e w' => e = .returned (.int .i64 (leftS st)) ∧ w = w' := by
  cases st with
  | none =>
    obtain ⟨h1, h2, h3, h4⟩ := cells2 h
    go_enter Try.func28, Try.ntmps28
    go_wp2_with (go_at_call 27; refine (failed_yes _ _ h2).mono ?_; rintro e w' ⟨rfl, rfl⟩)
    go_ret
    exact ⟨rfl, rfl⟩
  | some l =>
    obtain ⟨A, hh, hrd, hl⟩ := h
    obtain ⟨h1, h2, h3, h4⟩ := cells2 hh
    have HH := Lib.hid hh
    clear hh
    go_enter Try.func28, Try.ntmps28
    go_wp2_with (go_at_call 27; refine (failed_no _ _ h2).mono ?_; rintro e w' ⟨rfl, rfl⟩)
    go_ret
    exact ⟨rfl, rfl⟩

theorem end_nil (w : World) : Calls Try.prog 30 #[.pointer none] w fun e w' => e = .returned (.int .i64 1) ∧ w = w' := by
  go_enter Try.func30, Try.ntmps30
  go_wp2
  go_ret
  exact ⟨rfl, rfl⟩

theorem end_at (lo p : Nat) (st : Option (List UInt8)) (w : World) (h : RS w lo p st) :
    Calls Try.prog 30 #[.pointer (some ⟨p, 0, none⟩)] w fun e w' => e = .returned (.int .i64 (endS st)) ∧ w = w' := by
  cases st with
  | none =>
    go_enter Try.func30, Try.ntmps30
    go_wp2_with (first | (go_at_call 27; refine (failed_at lo p none _ h).mono ?_; rintro e w' ⟨rfl, rfl⟩) | (go_at_call 28; refine (left_at lo p none _ h).mono ?_; rintro e w' ⟨rfl, rfl⟩))
    go_ret
    exact ⟨rfl, rfl⟩
  | some l =>
    have hl : l.length ≤ 140737488355328 := by obtain ⟨A, hh, hrd, hl⟩ := h; exact hl
    cases l with
    | nil =>
      go_enter Try.func30, Try.ntmps30
      go_wp2_with (first | (go_at_call 27; refine (failed_at lo p (some []) _ h).mono ?_; rintro e w' ⟨rfl, rfl⟩) | (go_at_call 28; refine (left_at lo p (some []) _ h).mono ?_; rintro e w' ⟨rfl, rfl⟩))
      go_ret
      exact ⟨rfl, rfl⟩
    | cons x l =>
      obtain ⟨n, hn⟩ : ∃ n : Nat, leftS (some (x :: l)) = n ∧ 0 < n ∧ n ≤ 140737488355328 := ⟨_, rfl, by simp [leftS], hl⟩
      obtain ⟨hn, h1, h2⟩ := hn
      have hleft := left_at lo p (some (x :: l)) w h
      rw [hn] at hleft
      have HL := Lib.hid hleft
      clear hleft hn
      have hpos : decide ((0 : Int) < (n : Int)) = true := by simp; omega
      have hpos' : decide (0 < n) = true := by simp; omega
      go_enter Try.func30, Try.ntmps30
      go_wp2_with (first | (go_at_call 27; refine (failed_at lo p (some (x :: l)) _ h).mono ?_; rintro e w' ⟨rfl, rfl⟩) | (go_at_call 28; refine HL.out.mono ?_; rintro e w' ⟨rfl, rfl⟩))
      go_ret
      exact ⟨rfl, rfl⟩

/-- What Read answers: a reader of a copy. -/
def ReadP (w : World) (l : List UInt8) (e : Ending) (w' : World) : Prop :=
  ∃ p, e = .returned (.pointer (some ⟨p, 0, none⟩)) ∧ w.heap.size ≤ p ∧ RS w' w.heap.size p (some l) ∧ Below w.heap.size w w'

theorem read_any (A : Option Addr) (c : Nat) (l : List UInt8) (w : World) (h : Rd w 0 w.heap.size A l) (hl : l.length ≤ 140737488355328) :
    Calls Try.prog 20 #[.slice A l.length c] w (ReadP w l) := by
  go_enter Try.func20, Try.ntmps20
  go_wp2_with (go_at_call 36; refine (own_any A c l w h hl).mono ?_; rintro e w1 ⟨A1, rfl, ho, hb⟩)
  go_ret
  refine ⟨w1.heap.size, rfl, hb.size, ⟨A1, heap_alloc_new w1 _, ho.rd.alloc (Nat.le_refl _) _, hl⟩, hb.alloc hb.size _⟩
end Go.Proofs.Ythbnnhnnldakeaa
