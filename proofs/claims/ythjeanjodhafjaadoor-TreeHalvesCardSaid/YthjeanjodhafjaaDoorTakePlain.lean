/- Plain: a message that comes in pieces. -/
import Derived.Test.YthjeanjodhafjaaDoorShaPlain
namespace Go.Proofs.YthjeanjodhafjaaDoor
set_option linter.unusedVariables false

/-- What waits behind these bytes. -/
def wtL (l : List UInt8) : List UInt8 := l.drop (64 * (l.length / 64))
theorem wtL_length (l : List UInt8) : (wtL l).length = l.length % 64 := by
  unfold wtL
  rw [List.length_drop]
  omega
theorem wtL_append (l x : List UInt8) (h : l.length % 64 + x.length ≤ 64) : (l ++ x).drop (64 * (l.length / 64)) = wtL l ++ x := by
  unfold wtL
  rw [List.drop_append_of_le_length (by omega)]
theorem stL_more (l x : List UInt8) (h : l.length % 64 + x.length < 64) : stL (l ++ x) = stL l ∧ wtL (l ++ x) = wtL l ++ x := by
  have e : (l ++ x).length / 64 = l.length / 64 := by rw [List.length_append]; omega
  constructor
  · unfold stL
    rw [e, goB_append _ _ _ _ (by omega)]
  · rw [← wtL_append l x (by omega)]
    unfold wtL
    rw [e]
theorem stL_full (l x : List UInt8) (h : l.length % 64 + x.length = 64) : stL (l ++ x) = mixS (stL l) (wdsL (wtL l ++ x)) ∧ wtL (l ++ x) = [] := by
  have e : (l ++ x).length / 64 = l.length / 64 + 1 := by rw [List.length_append]; omega
  constructor
  · unfold stL
    rw [e, goB_snoc, goB_append _ _ _ _ (by omega), wtL_append l x (by omega), List.take_of_length_le (by rw [List.length_append, wtL_length]; omega)]
  · apply List.eq_nil_of_length_eq_zero
    rw [wtL_length, List.length_append]
    omega
theorem stL_nil : stL [] = s0 := rfl
theorem wtL_nil : wtL [] = [] := rfl
end Go.Proofs.YthjeanjodhafjaaDoor
