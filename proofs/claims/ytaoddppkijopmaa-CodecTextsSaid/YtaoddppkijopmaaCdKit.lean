/- Words of codec: a number's row. -/
import Derived.Test.YtaoddppkijopmaaPtKit
import Derived.Test.YtaoddppkijopmaaJoin
namespace Go.Proofs.Ytaoddppkijopmaa
open Go.ChangeShapes Go.WideShapes Go.ChangeAt Go.RowKit
set_option linter.unusedVariables false

/-- A number's row. -/
theorem numberRow_c (n size : Nat) (w : World) (hs : 1 ≤ size) (h8 : size ≤ 8) (hn : n < 18446744073709551616) (hr : n < 256 ^ size) :
    Calls Try.prog 51 #[.int .u64 n, .int .i64 size] w (NewP w (putL n size)) := by
  go_enter Try.func51, Try.ntmps51
  go_wp2_with (go_at_call 72; refine (put_ok n size _ hs h8 hn hr).mono ?_; rintro e w1 ⟨rfl, ho, hb⟩)
  go_ret
  have hl := putL_length n size
  exact ⟨_, size, congrArg (fun m => Ending.returned (.slice (some ⟨w.heap.size, 0, none⟩) m size)) hl.symm, by omega, ho, hb⟩
end Go.Proofs.Ytaoddppkijopmaa
