/- From checkpoints by value that came in to what the walks ask of them. -/
import Derived.Test.YtaoddppkijopmaaCdKit
import Derived.Test.YtaoddppkijopmaaWoLift
namespace Go.Proofs.Ytaoddppkijopmaa
open Go.ChangeShapes Go.WideShapes Go.ChangeAt Go.RowKit
set_option linter.unusedVariables false
set_option maxRecDepth 100000

section
variable {H : Type} {enc : TypeId × Value → H} {W : World}
/-- A checkpoint's cells, wherever they stand. -/
theorem cells_pt {fuel : Nat} {cs : List Value} {x : DataW H × List MemPlace} (h : DataW.trod enc Try.prog W 0 (fun _ => true) true fuel 29 cs = some x) :
    ∃ (e : Nat) (l : List UInt8), l.length = 32 ∧ e < 18446744073709551616 ∧ cs = (ptV e l).toList := by
  obtain ⟨xs, m, _, _, hsz, hxl, hi⟩ := DataW.trod_struct Try.underlying29 h
  have c33 : Try.prog.cellsOf 29 = 33 := by kernel_rfl
  have c1 : Try.prog.cellsOf 24 = 1 := by kernel_rfl
  have c32 : Try.prog.cellsOf 23 = 32 := by kernel_rfl
  rw [c33] at hsz
  have h0 : DataW.trod enc Try.prog W 0 (fun _ => true) true m 24 ((cs.drop 0).take (Try.prog.cellsOf 24)) = xs[0]? := hi 0 _ rfl
  have h1 : DataW.trod enc Try.prog W 0 (fun _ => true) true m 23 ((cs.drop 1).take (Try.prog.cellsOf 23)) = xs[1]? := hi 1 _ rfl
  have hx2 : xs.length = 2 := hxl
  rw [List.getElem?_eq_getElem (by omega)] at h0 h1
  rw [c1] at h0
  rw [c32] at h1
  obtain ⟨a, ea, _, wa⟩ := DataW.trod_int Try.underlying24 h0
  have hz : 0 ≤ a ∧ a ≤ 18446744073709551615 := by simpa [Lit.wf, IntKind.min, IntKind.max, IntKind.signed, IntKind.bits] using wa
  have hc : ∀ i, i < 32 → ∃ y : UInt8, ((cs.drop 1).take 32)[i]? = some (bv y) := cells_bytes Try.underlying23 h1
  obtain ⟨l, hl, hcs⟩ := row_of_cells (n := 32) (cs := ((cs.drop 1).take 32).toArray) (by simp; omega) (fun i hi => by
    obtain ⟨y, hy⟩ := hc i hi
    exact ⟨y, by simpa using hy⟩)
  refine ⟨a.toNat, l, hl, by omega, ?_⟩
  have e0 : cs[0]? = some (.int .u64 a) := by
    have : ((cs.drop 0).take 1)[0]? = some (.int .u64 a) := by rw [show (cs.drop 0).take 1 = [.int .u64 a] from ea]; rfl
    simpa using this
  unfold ptV
  rw [rowV_list]
  apply List.ext_getElem?
  intro i
  by_cases hi33 : i < 33
  · rw [List.getElem?_map, List.getElem?_range hi33]
    rcases i with _ | i
    · rw [e0]
      show some _ = some (Value.int .u64 ((a.toNat : Nat) : Int))
      rw [Int.toNat_of_nonneg hz.1]
    · have h2 : ((cs.drop 1).take 32)[i]? = some (hF l i) := by
        have := congrArg (fun (A : Array Value) => A[i]?) hcs
        simpa [rowV_at 32 (hF l) i (by omega)] using this
      rw [List.getElem?_take, if_pos (by omega), List.getElem?_drop, show 1 + i = i + 1 by omega] at h2
      rw [h2]
      rfl
  · rw [List.getElem?_eq_none (by omega), List.getElem?_eq_none (by simp; omega)]
theorem open_point {base : Nat} {v : Value} {d : DataW H} {p : List MemPlace} (hv : Value.okWide Try.prog W .any base 29 v) (h : DataW.Trod enc Try.prog W 0 (fun _ => true) true 29 v d p) :
    ∃ (e : Nat) (l : List UInt8), l.length = 32 ∧ e < 18446744073709551616 ∧ v = .agg (ptV e l) := by
  simp only [Value.okWide, Try.underlying29] at hv
  obtain ⟨cs, rfl, hsz, _⟩ := hv
  obtain ⟨fuel, hf⟩ := h
  obtain ⟨e, l, hl, he, hcs⟩ := cells_pt hf
  refine ⟨e, l, hl, he, congrArg Value.agg ?_⟩
  apply Array.toList_inj.1
  simpa [Value.cells] using hcs
end
end Go.Proofs.Ytaoddppkijopmaa
