/- From nodes, hashes and secrets by value that came in to what the walks ask of them. -/
import Derived.Test.YtaoddppkijopmaaWoKit
import Derived.ProofKit
import Derived.OpenShut
import Derived.ChangeOld
import Derived.LaidMore
namespace Go.Proofs.Ytaoddppkijopmaa
open Go.ChangeShapes Go.WideShapes Go.ChangeAt Go.RowKit
set_option linter.unusedVariables false
set_option maxRecDepth 100000

theorem own_knob : ownKnob Try.prog.godebug = none := by kernel_rfl
theorem laid_out : laidOutB Try.prog = true := by kernel_rfl
section
variable {H : Type} {enc : TypeId × Value → H} {W : World}
theorem row_of_cells {n : Nat} {cs : Array Value} (hs : cs.size = n) (h : ∀ i, i < n → ∃ x : UInt8, cs[i]? = some (bv x)) : ∃ l : List UInt8, l.length = n ∧ cs = rowV n (hF l) := by
  have key2 : ∀ i : Nat, ∃ x : UInt8, i < n → cs[i]? = some (bv x) := fun i => by
    by_cases h1 : i < n
    · obtain ⟨x, hx⟩ := h i h1
      exact ⟨x, fun _ => hx⟩
    · exact ⟨0, fun h' => absurd h' h1⟩
  refine ⟨(List.range n).map fun i => (key2 i).choose, by simp, ?_⟩
  apply Array.ext_getElem?
  intro i
  by_cases h1 : i < n
  · rw [(key2 i).choose_spec h1, rowV_at n _ i h1]
    unfold hF
    rw [List.getD_eq_getElem?_getD, List.getElem?_map, List.getElem?_range h1]
    rfl
  · rw [Array.getElem?_eq_none (by omega), Array.getElem?_eq_none (by rw [rowV_size]; omega)]
/-- The cells of an array of bytes. -/
theorem cells_bytes {t : TypeId} {n fuel : Nat} {cs : List Value} {x : DataW H × List MemPlace} (hu : Try.prog.underlying t = some (.array n 5)) (h : DataW.trod enc Try.prog W 0 (fun _ => true) true fuel t cs = some x) : ∀ i, i < n → ∃ y : UInt8, cs[i]? = some (bv y) := by
  have c1 : Try.prog.cellsOf 5 = 1 := by kernel_rfl
  obtain ⟨xs, m, _, _, hsz, hxl, hi⟩ := DataW.trod_array hu h
  rw [c1] at hi
  intro i hin
  have hy := hi i hin
  rw [List.getElem?_eq_getElem (by omega)] at hy
  obtain ⟨a, ea, _, wa⟩ := DataW.trod_int Try.underlying5 hy
  have hz : 0 ≤ a ∧ a ≤ 255 := by simpa [Lit.wf, IntKind.min, IntKind.max, IntKind.signed, IntKind.bits] using wa
  refine ⟨UInt8.ofNat a.toNat, ?_⟩
  have e : bv (UInt8.ofNat a.toNat) = .int .u8 a := by
    unfold bv
    rw [UInt8.toNat_ofNat']
    congr 1
    show ((a.toNat % 256 : Nat) : Int) = a
    omega
  rw [e]
  have hd : (cs.drop (i * 1)).take 1 = [.int .u8 a] := ea
  have : ((cs.drop (i * 1)).take 1)[0]? = some (.int .u8 a) := by rw [hd]; rfl
  rwa [List.getElem?_take, if_pos (by omega), List.getElem?_drop, Nat.mul_one, Nat.add_zero] at this
theorem open_array {base : Nat} {v : Value} {d : DataW H} {p : List MemPlace} {t : TypeId} {n : Nat} (hu : Try.prog.underlying t = some (.array n 5)) (hc : Try.prog.cellsOf t = n) (hv : Value.okWide Try.prog W .any base t v) (h : DataW.Trod enc Try.prog W 0 (fun _ => true) true t v d p) :
    ∃ l : List UInt8, l.length = n ∧ v = .agg (rowV n (hF l)) := by
  simp only [Value.okWide, hu] at hv
  obtain ⟨cs, rfl, hsz, _⟩ := hv
  rw [hc] at hsz
  obtain ⟨fuel, hf⟩ := h
  obtain ⟨l, h1, h2⟩ := row_of_cells hsz (fun i hi => by
    obtain ⟨y, hy⟩ := cells_bytes hu hf i hi
    exact ⟨y, by simpa [Value.cells] using hy⟩)
  exact ⟨l, h1, congrArg Value.agg h2⟩
theorem open_hash6 {base : Nat} {v : Value} {d : DataW H} {p : List MemPlace} (hv : Value.okWide Try.prog W .any base 23 v) (h : DataW.Trod enc Try.prog W 0 (fun _ => true) true 23 v d p) : ∃ l : List UInt8, l.length = 32 ∧ v = .agg (hashV l) :=
  open_array Try.underlying23 (by kernel_rfl) hv h
end
end Go.Proofs.Ytaoddppkijopmaa
