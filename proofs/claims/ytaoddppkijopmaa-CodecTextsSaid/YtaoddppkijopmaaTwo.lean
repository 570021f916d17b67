/- Contracts: bytes.Clone and wire's own copy. -/
import Derived.Test.YtaoddppkijopmaaMem
import Derived.Test.YtaoddppkijopmaaOne
import Derived.Handy
namespace Go.Proofs.Ytaoddppkijopmaa
open Go.ChangeShapes Go.WideShapes Go.ChangeAt Go.RowKit
set_option linter.unusedVariables false

/-- A new slice that reads as l. -/
def NewP (w : World) (l : List UInt8) (e : Ending) (w' : World) : Prop :=
  ∃ A c, e = .returned (.slice A l.length c) ∧ l.length ≤ c ∧ Ow w' w.heap.size A l ∧ Below w.heap.size w w'
/-- .. and has no spare room. -/
def OwnP (w : World) (l : List UInt8) (e : Ending) (w' : World) : Prop :=
  ∃ A, e = .returned (.slice A l.length l.length) ∧ Ow w' w.heap.size A l ∧ Below w.heap.size w w'

set_option maxHeartbeats 400000 in
theorem clone_any (A : Option Addr) (c : Nat) (l : List UInt8) (w : World) (h : Rd w 0 w.heap.size A l) (hl : l.length ≤ 140737488355328) :
    Calls Try.prog 83 #[.slice A l.length c] w (NewP w l) := by
  obtain ⟨i0, hi0, hz0, hz1, hz2⟩ := info_parts byte_info
  have hnil := fun (u : World) (a : Option Addr) (n : Nat) => Lib.run_eql_slice_nil (P := Try.prog) u 30 5 a n c 0 0 Try.underlying30
  rcases A with _ | ad
  · have hl0 : l = [] := by
      rcases l with _ | ⟨x, l⟩
      · rfl
      · obtain ⟨b, off, e, _⟩ := h (by simp)
        cases e
    subst hl0
    go_enter Try.func83, Try.ntmps83
    go_wp2
    go_ret
    exact ⟨none, 0, rfl, Nat.le_refl _, Ow.nil, Below.refl _ _⟩
  · have H0 := Lib.hid (World.ownsRow_made (base := w.heap.size) (e := 5) (size := 1) w #[] 0 (Nat.le_refl _) (by decide) rfl)
    have H1 := Lib.hid (h.alloc (Nat.le_refl _) (.cells #[] 5))
    clear h
    go_enter Try.func83, Try.ntmps83
    go_wp2_with (at_builtin; refine wpList_append_rd _ rfl (.tmp 5) (.tmp 6) _ rfl w.heap.size 5 i0 _ Try.underlying30 hi0 hz0 hz1 hz2 rfl (.slice (some ⟨w.heap.size, 0, none⟩) 0 0) 0 [] rfl H0.out 0 w.heap.size (some ad) c l rfl H1.out (by omega) (by simp) ?_; intro v1 w1 hown1 hg1 hat1)
    go_ret
    obtain ⟨A, c', rfl, _⟩ := own_form hown1
    obtain ⟨h1, h2, h3⟩ := Ow.of_own (l := l) (by simpa using hown1)
    simp only [Nat.zero_add] at h3 ⊢
    exact ⟨A, c', rfl, h3, h1, ((Below.refl _ _).alloc (Nat.le_refl _) _).grown hg1 (by simp) (by simp [Value.ownBlock])⟩

theorem own_any (A : Option Addr) (c : Nat) (l : List UInt8) (w : World) (h : Rd w 0 w.heap.size A l) (hl : l.length ≤ 140737488355328) :
    Calls Try.prog 75 #[.slice A l.length c] w (OwnP w l) := by
  go_enter Try.func75, Try.ntmps75
  go_wp2_with (go_at_call 83; refine (clone_any A c l w h hl).mono ?_; rintro e w1 ⟨A1, c1, rfl, hc1, ho1, hb1⟩)
  go_ret
  exact ⟨A1, rfl, ho1, hb1⟩
end Go.Proofs.Ytaoddppkijopmaa
