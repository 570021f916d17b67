/- Steps of a region that draws its order. -/
import Derived.Test.YtaoddppkijopmaaCdMay
import Derived.Deep.RegionHeld3
namespace Go.Proofs.Ytaoddppkijopmaa
open Go.ChangeShapes Go.WideShapes Go.ChangeAt Go.RowKit
set_option linter.unusedVariables false
set_option maxRecDepth 100000

theorem ptC0 {g e : Nat} {l : List UInt8} {w : World} (h : PtB g e l w) : w.rangeAt g 0 (ptC e l) := fun j v hv => by
  have hj : j < 33 := by
    rcases Nat.lt_or_ge j 33 with h | h
    · exact h
    · rw [List.getElem?_eq_none (by simp [ptC]; omega)] at hv; cases hv
  unfold ptC at hv
  rw [List.getElem?_map, List.getElem?_range hj] at hv
  rw [Nat.zero_add, Fill.at_ h j hj, ← hv]
  rfl
theorem loadPt {g e : Nat} {l : List UInt8} {w : World} (h : PtB g e l w) : (Instr.loadAt 29 (.pointer (some ⟨g, 0, none⟩))).run Try.prog w = .ok (.agg (ptV e l)) w :=
  run_loadAt_mid w g 0 29 (ptC e l) _ (ptC0 h) Try.underlying29 rfl (by rw [size_point]; simp [ptC])
theorem takeH {P : Program} {ops : Array Oper} {Q : Exit → Act → World → Prop} {S : World → Prop} {md : Region.Mode} {i d : Nat} {oi : Oper} {v : Value} {fuel : Nat} {listed : Array Bool} {ts : Array Value} {ds : List Deferred} {w : World} (hi : ops[i]? = some oi)
    (hd : oi.dst = some d) (hs : Region.noSelect ops = true) (hf : Region.free md ops listed i = true) (hr : (Region.ready md ops listed).contains i = true)
    (hQ : ∀ c a w, Q (.panic c) (a.put oi.dst v) w → Q (.panic c) a w) (hy : YieldsIf P ops S oi v ⟨ts, ds⟩) (hS : S w)
    (h : wpAnyH P md ops Q S fuel (listed.setIfInBounds i true) ⟨ts.setIfInBounds d v, ds⟩ w) : wpAnyH P md ops Q S (fuel + 1) listed ⟨ts, ds⟩ w :=
  wpAnyH_take hi hs hf hr hQ hy hS (by rw [hd]; exact h)
theorem yieldsIf_load_midC {P : Program} {ops : Array Oper} {S : World → Prop} {op : Oper} {a : Act} (hw : Region.wanted op (yielded ops a.tmps) = true) (ty : TypeId) (x : Operand) (ho : op.op = .load ty x)
    (b o : Nat) (hx : a.eval x = .pointer (some ⟨b, o, none⟩)) (cs : List Value) (R : Array Value) (hR : cs.toArray = R) (d : TypeDesc) (hS : ∀ w, S w → w.rangeAt b o cs)
    (hu : P.underlying ty = some d) (hd : d.isRow = true) (hi : (P.info? ty).map (·.size) = some R.size) : YieldsIf P ops S op (.agg R) a := by
  subst hR
  exact yieldsIf_load_mid hw ty x ho b o hx cs d hS hu hd (by rw [hi]; simp)
end Go.Proofs.Ytaoddppkijopmaa
