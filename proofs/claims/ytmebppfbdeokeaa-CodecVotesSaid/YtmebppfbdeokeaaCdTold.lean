/- What the law's own 'told' answers. -/
import Derived.Test.YtmebppfbdeokeaaCdPofA
import Derived.Test.YtmebppfbdeokeaaCdKnown
namespace Go.Proofs.Ytmebppfbdeokeaa
open Go.ChangeShapes Go.WideShapes Go.ChangeAt Go.RowKit
set_option linter.unusedVariables false
set_option maxRecDepth 100000

theorem told_yes (A B : Option Addr) (n m c d lo hi lo' hi' : Nat) (l : List UInt8) (w : World) (ha : Rd w lo hi A l) (hb : Rd w lo' hi' B l) (en : n = l.length) (em : m = l.length) :
    Calls Try.prog 11 #[.slice A n c, .int .i64 0, .bool true, .bool true, .slice B m d] w fun e w' => e = .returned (.bool true) ∧ w = w' := by
  have h1 := run_str ha n c en
  have h2 := run_str hb m d em
  obtain ⟨sx, hsx⟩ : ∃ sx : ByteArray, sx = ⟨l.toArray⟩ := ⟨_, rfl⟩
  unfold strOf at h1 h2
  rw [← hsx] at h1 h2
  clear ha hb en em hsx
  go_enter Try.func11, Try.ntmps11
  go_wp2_with (go_at_call 17; refine (num_c _ _).mono ?_; rintro e w9 ⟨rfl, rfl⟩)
  go_ret
  exact ⟨rfl, rfl⟩
theorem told_no (v : Value) (w : World) :
    Calls Try.prog 11 #[.slice none 0 0, .int .i64 2, .bool false, .bool false, v] w fun e w' => e = .returned (.bool true) ∧ w = w' := by
  go_enter Try.func11, Try.ntmps11
  go_wp2_with (go_at_call 17; refine (num_c _ _).mono ?_; rintro e w9 ⟨rfl, rfl⟩)
  go_ret
  exact ⟨rfl, rfl⟩
end Go.Proofs.Ytmebppfbdeokeaa
