/- A hash by value that came in, as a key. -/
import Derived.Test.YtomfgopmgfoecaaPoKit
import Derived.ChangeOld
import Derived.ShutString
import Derived.Deep.Slices
namespace Go.Proofs.Ytomfgopmgfoecaa
open Go.ChangeShapes Go.WideShapes Go.ChangeAt Go.RowKit Go.Deep
set_option linter.unusedVariables false
set_option maxRecDepth 100000

/-- A hash by value that came in. -/
theorem open_hash {H : Type} {enc : TypeId × Value → H} {W : World} {base : Nat} {v : Value} {d : DataW H} {p : List MemPlace} (hv : Value.okWide Try.prog W .any base 24 v) (h : DataW.Trod enc Try.prog W 0 (fun _ => true) true 24 v d p) :
    ∃ l : List UInt8, l.length = 32 ∧ v = .agg (hashV l) := by
  have c4 : Try.prog.cellsOf 24 = 32 := by kernel_rfl
  have c1 : Try.prog.cellsOf 5 = 1 := by kernel_rfl
  simp only [Value.okWide, Try.underlying24] at hv
  obtain ⟨cs, rfl, hsz, _⟩ := hv
  rw [c4] at hsz
  obtain ⟨fuel, hf⟩ := h
  obtain ⟨xs, m, _, _, _, hxl, hi⟩ := DataW.trod_array Try.underlying24 hf
  rw [c1] at hi
  have key : ∀ i, i < 32 → ∃ x : UInt8, cs[i]? = some (bv x) := fun i hi4 => by
    have hy := hi i hi4
    rw [List.getElem?_eq_getElem (by omega)] at hy
    obtain ⟨a, ea, _, wa⟩ := DataW.trod_int Try.underlying5 hy
    have hz : 0 ≤ a ∧ a ≤ 255 := by simpa [Lit.wf, IntKind.min, IntKind.max, IntKind.signed, IntKind.bits] using wa
    refine ⟨UInt8.ofNat a.toNat, ?_⟩
    have e : bv (UInt8.ofNat a.toNat) = .int .u8 a := by
      unfold bv
      rw [UInt8.toNat_ofNat']
      congr 1
      show ((a.toNat % 256 : Nat) : Int) = a
      omega
    rw [e]
    have hd : (cs.toList.drop (i * 1)).take 1 = [.int .u8 a] := ea
    have : ((cs.toList.drop (i * 1)).take 1)[0]? = some (.int .u8 a) := by rw [hd]; rfl
    rw [List.getElem?_take, if_pos (by omega), List.getElem?_drop, Nat.mul_one, Nat.add_zero] at this
    simpa using this
  have key2 : ∀ i : Nat, ∃ x : UInt8, i < 32 → cs[i]? = some (bv x) := fun i => by
    by_cases h : i < 32
    · obtain ⟨x, hx⟩ := key i h
      exact ⟨x, fun _ => hx⟩
    · exact ⟨0, fun h' => absurd h' h⟩
  refine ⟨(List.range 32).map fun i => (key2 i).choose, by simp, congrArg Value.agg ?_⟩
  apply Array.ext_getElem?
  intro i
  by_cases h : i < 32
  · rw [(key2 i).choose_spec h]
    unfold hashV
    rw [rowV_at 32 _ i h]
    unfold hF
    rw [List.getD_eq_getElem?_getD, List.getElem?_map, List.getElem?_range h]
    rfl
  · rw [Array.getElem?_eq_none (by omega), Array.getElem?_eq_none (by unfold hashV; rw [rowV_size]; omega)]

theorem open_hh {H : Type} {enc : TypeId × Value → H} {W : World} {base : Nat} {v : Value} {d : DataW H} {p : List MemPlace} (hv : Value.okWide Try.prog W .any base 24 v) (h : DataW.Trod enc Try.prog W 0 (fun _ => true) true 24 v d p) :
    ∃ x : Hh, v = .agg (hhv x) := by
  obtain ⟨l, hl, rfl⟩ := open_hash hv h
  exact ⟨⟨l, hl⟩, rfl⟩
end Go.Proofs.Ytomfgopmgfoecaa
