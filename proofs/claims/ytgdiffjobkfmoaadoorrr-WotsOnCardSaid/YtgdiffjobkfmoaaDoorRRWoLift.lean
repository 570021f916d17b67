/- From nodes, hashes and secrets by value that came in to what the walks ask of them. -/
import Derived.Test.YtgdiffjobkfmoaaDoorRRWoKit
import Derived.Test.YtgdiffjobkfmoaaDoorRRLaid
import Derived.ProofKit
import Derived.OpenShut
import Derived.ChangeOld
import Derived.LaidMore
namespace Go.Proofs.YtgdiffjobkfmoaaDoorRR
open Go.ChangeShapes Go.WideShapes Go.ChangeAt Go.RowKit
set_option linter.unusedVariables false

section
variable {H : Type} {enc : TypeId × Value → H} {W : World}
theorem row_of_cells {n : Nat} {cs : Array Value} (hs : cs.size = n) (h : ∀ i, i < n → ∃ x : UInt8, cs[i]? = some (bv x)) : ∃ l : List UInt8, l.length = n ∧ cs = rowV n (hF l) := by
  have key2 : ∀ i : Nat, ∃ x : UInt8, i < n → cs[i]? = some (bv x) := fun i => by
    by_cases h1 : i < n
    · obtain ⟨x, hx⟩ := h i h1
      exact ⟨x, fun _ => hx⟩
    · exact ⟨0, fun h' => absurd h' h1⟩
  refine ⟨(List.range n).map fun i => (key2 i).choose, by simp, ?_⟩
  apply Array.ext_getElem?
  intro i
  by_cases h1 : i < n
  · rw [(key2 i).choose_spec h1, rowV_at n _ i h1]
    unfold hF
    rw [List.getD_eq_getElem?_getD, List.getElem?_map, List.getElem?_range h1]
    rfl
  · rw [Array.getElem?_eq_none (by omega), Array.getElem?_eq_none (by rw [rowV_size]; omega)]
/-- The cells of an array of bytes. -/
theorem cells_bytes {t : TypeId} {n fuel : Nat} {cs : List Value} {x : DataW H × List MemPlace} (hu : Tryd.prog.underlying t = some (.array n 5)) (h : DataW.trod enc Tryd.prog W 0 (fun _ => true) true fuel t cs = some x) : ∀ i, i < n → ∃ y : UInt8, cs[i]? = some (bv y) := by
  have c1 : Tryd.prog.cellsOf 5 = 1 := by kernel_rfl
  obtain ⟨xs, m, _, _, hsz, hxl, hi⟩ := DataW.trod_array hu h
  rw [c1] at hi
  intro i hin
  have hy := hi i hin
  rw [List.getElem?_eq_getElem (by omega)] at hy
  obtain ⟨a, ea, _, wa⟩ := DataW.trod_int Tryd.underlying5 hy
  have hz : 0 ≤ a ∧ a ≤ 255 := by simpa [Lit.wf, IntKind.min, IntKind.max, IntKind.signed, IntKind.bits] using wa
  refine ⟨UInt8.ofNat a.toNat, ?_⟩
  have e : bv (UInt8.ofNat a.toNat) = .int .u8 a := by
    unfold bv
    rw [UInt8.toNat_ofNat']
    congr 1
    show ((a.toNat % 256 : Nat) : Int) = a
    omega
  rw [e]
  have hd : (cs.drop (i * 1)).take 1 = [.int .u8 a] := ea
  have : ((cs.drop (i * 1)).take 1)[0]? = some (.int .u8 a) := by rw [hd]; rfl
  rwa [List.getElem?_take, if_pos (by omega), List.getElem?_drop, Nat.mul_one, Nat.add_zero] at this
theorem open_array {base : Nat} {v : Value} {d : DataW H} {p : List MemPlace} {t : TypeId} {n : Nat} (hu : Tryd.prog.underlying t = some (.array n 5)) (hc : Tryd.prog.cellsOf t = n) (hv : Value.okWide Tryd.prog W .any base t v) (h : DataW.Trod enc Tryd.prog W 0 (fun _ => true) true t v d p) :
    ∃ l : List UInt8, l.length = n ∧ v = .agg (rowV n (hF l)) := by
  simp only [Value.okWide, hu] at hv
  obtain ⟨cs, rfl, hsz, _⟩ := hv
  rw [hc] at hsz
  obtain ⟨fuel, hf⟩ := h
  obtain ⟨l, h1, h2⟩ := row_of_cells hsz (fun i hi => by
    obtain ⟨y, hy⟩ := cells_bytes hu hf i hi
    exact ⟨y, by simpa [Value.cells] using hy⟩)
  exact ⟨l, h1, congrArg Value.agg h2⟩
theorem open_hash6 {base : Nat} {v : Value} {d : DataW H} {p : List MemPlace} (hv : Value.okWide Tryd.prog W .any base 27 v) (h : DataW.Trod enc Tryd.prog W 0 (fun _ => true) true 27 v d p) : ∃ l : List UInt8, l.length = 32 ∧ v = .agg (hashV l) :=
  open_array Tryd.underlying27 (by kernel_rfl) hv h
theorem open_node {base : Nat} {v : Value} {d : DataW H} {p : List MemPlace} (hv : Value.okWide Tryd.prog W .any base 23 v) (h : DataW.Trod enc Tryd.prog W 0 (fun _ => true) true 23 v d p) : ∃ l : List UInt8, l.length = 16 ∧ v = .agg (rowV 16 (hF l)) :=
  open_array Tryd.underlying23 (by kernel_rfl) hv h
theorem open_secret {base : Nat} {v : Value} {d : DataW H} {p : List MemPlace} (hv : Value.okWide Tryd.prog W .any base 25 v) (h : DataW.Trod enc Tryd.prog W 0 (fun _ => true) true 25 v d p) : ∃ l : List UInt8, l.length = 1088 ∧ v = .agg (rowV 1088 (hF l)) := by
  have hc : Tryd.prog.cellsOf 25 = 1088 := by kernel_rfl
  have c16 : Tryd.prog.cellsOf 23 = 16 := by kernel_rfl
  simp only [Value.okWide, Tryd.underlying25] at hv
  obtain ⟨cs, rfl, hsz, _⟩ := hv
  rw [hc] at hsz
  obtain ⟨fuel, hf⟩ := h
  obtain ⟨xs, m, _, _, _, hxl, hi⟩ := DataW.trod_array Tryd.underlying25 hf
  rw [c16] at hi
  obtain ⟨l, h1, h2⟩ := row_of_cells hsz (fun i hi2 => by
    have hy := hi (i / 16) (by omega)
    rw [List.getElem?_eq_getElem (by omega)] at hy
    obtain ⟨y, hy2⟩ := cells_bytes Tryd.underlying23 hy (i % 16) (Nat.mod_lt _ (by omega))
    refine ⟨y, ?_⟩
    rw [List.getElem?_take, if_pos (Nat.mod_lt _ (by omega)), List.getElem?_drop, show i / 16 * 16 + i % 16 = i by omega] at hy2
    simpa [Value.cells] using hy2)
  exact ⟨l, h1, congrArg Value.agg h2⟩
end
end Go.Proofs.YtgdiffjobkfmoaaDoorRR
