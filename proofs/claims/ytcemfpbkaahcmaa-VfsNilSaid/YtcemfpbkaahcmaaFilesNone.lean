/- Contract: Files of a disk that is not there: an iterator over nothing. -/
import Derived.Test.YtcemfpbkaahcmaaFilesIter
import Derived.Test.YtcemfpbkaahcmaaNil
namespace Go.Proofs.Ytcemfpbkaahcmaa
open Go.RowKit Go.Shelf
set_option linter.unusedVariables false

theorem files_none {w : World} {v : Value} (hN : NoneAt w v) : Calls Try.prog 27 #[v] w fun e w' =>
    e = .returned (.func (.func 51) #[] #[.pointer (some ⟨w.heap.size, 0, none⟩), .pointer (some ⟨w.heap.size + 1, 0, none⟩)]) ∧ w' = (w.alloc (.cells #[.slice none 0 0] 55)).alloc (.cells #[.slice none 0 0] 23) := by
  have hnone := hN ((w.alloc (.cells #[.slice none 0 0] 55)).alloc (.cells #[.slice none 0 0] 23)) (((Below.refl _ _).alloc (Nat.le_refl _) _).alloc (by simp) _)
  have kA := cell_of_one (two_boxes w).1
  clear hN
  go_enter Try.func27, Try.ntmps27
  go_wp2_with (go_at_call 33; refine hnone.mono ?_; rintro e w' ⟨rfl, rfl⟩)
  clear kA hnone
  go_loopw [17] (fun i wr => i = .int .i64 0 ∧ wr = (w.alloc (.cells #[.slice none 0 0] 55)).alloc (.cells #[.slice none 0 0] 23)) (fun _ _ => 0)
  case atStart => exact ⟨rfl, rfl⟩
  case round =>
    obtain ⟨rfl, rfl⟩ := hrel
    go_wp2
    go_ret
    exact ⟨rfl, rfl⟩
end Go.Proofs.Ytcemfpbkaahcmaa
