/- From arguments that can be read as data to what the walks of layer 4 ask of them: strings, numbers. -/
import Derived.Test.YtcemfpbkaahcmaaLiftV
import Derived.Test.YtcemfpbkaahcmaaGoes
import Derived.SliceStrings
namespace Go.Proofs.Ytcemfpbkaahcmaa
open Go.ChangeShapes Go.WideShapes Go.ChangeAt Go.RowKit Go.Deep
set_option linter.unusedVariables false
set_option maxRecDepth 100000
section
variable {H : Type} {enc : TypeId × Value → H} {W : World}
/-- Numbers that came in. -/
theorem open_ints1 {base : Nat} {v : Value} {d : DataW H} {p : List MemPlace} (hv : Value.okWide Try.prog W .any base 23 v) (h : DataW.Trod enc Try.prog W 0 (fun _ => true) true 23 v d p) :
    ∃ (A : Option Addr) (l : List Int) (c : Nat), v = .slice A l.length c ∧ RdI W W.heap.size A l ∧ l.length ≤ c ∧ c ≤ maxLen := by
  obtain ⟨A, n, c, rfl⟩ := okWide_slice Try.underlying23 hv
  obtain ⟨fuel, hf⟩ := h
  obtain ⟨A', l, c', e, h1, h2, h3⟩ := open_ints_cell (v := .slice A n c) hf
  exact ⟨A', l, c', e, h1, h2, h3⟩
theorem open_bytesM {base : Nat} {v : Value} {d : DataW H} {p : List MemPlace} (hv : Value.okWide Try.prog W .any base 33 v) (h : DataW.Trod enc Try.prog W 0 (fun _ => true) true 33 v d p) :
    ∃ (A : Option Addr) (l : List UInt8) (c : Nat), v = .slice A l.length c ∧ Rd W 0 W.heap.size A l ∧ l.length ≤ c ∧ c ≤ maxLen := by
  obtain ⟨A, n, c, rfl⟩ := okWide_slice Try.underlying33 hv
  obtain ⟨fuel, hf⟩ := h
  obtain ⟨A', l, c', e, h1, h2, h3⟩ := open_bytes_cell (v := .slice A n c) hf
  exact ⟨A', l, c', e, h1, h2, h3⟩
/-- Strings that came in. -/
theorem open_strings1 {base : Nat} {v : Value} {d : DataW H} {p : List MemPlace} (hv : Value.okWide Try.prog W .any base 55 v) (h : DataW.Trod enc Try.prog W 0 (fun _ => true) true 55 v d p) :
    ∃ (A : Option Addr) (L : List Str) (c : Nat), v = .slice A L.length c ∧ RdT W W.heap.size A L ∧ (∀ s ∈ L, s.length ≤ maxLen) ∧ L.length ≤ 9223372036854775807 := by
  obtain ⟨A, n, c, rfl⟩ := okWide_slice Try.underlying55 hv
  have hlt : ∀ x ∈ p, x.block < W.heap.size := by obtain ⟨m, hm⟩ := h; exact DataW.trod_lt m _ _ _ hm
  obtain ⟨fuel, hf⟩ := h
  rcases open_strings Try.underlying55 Try.underlying9 (by kernel_rfl) hf with ⟨hcs, _⟩ | ⟨a, len, cap, ss, hcs, _, hl, hm, hz, hx, hcell, hsz⟩
  · simp [Value.cells] at hcs
    obtain ⟨rfl, rfl, rfl⟩ := hcs
    exact ⟨none, [], 0, rfl, fun h => absurd h (by simp), by simp, by simp⟩
  · simp [Value.cells] at hcs
    obtain ⟨rfl, rfl, rfl⟩ := hcs
    simp only [if_true] at hz
    have e : ((ss.take n).map fun s => s.data.toList).length = n := by rw [List.length_map, List.length_take]; omega
    refine ⟨some a, (ss.take n).map fun s => s.data.toList, c, by rw [e], fun hn => ?_, fun s hs => ?_, by rw [e]; simp only [maxLen] at hm; omega⟩
    · rw [e] at hn
      obtain ⟨b, off, spot⟩ := a
      have hc0 := hcell 0 (by omega)
      have hspot : spot = none := by simpa [Addr.add] using World.cell?_spot hc0
      subst hspot
      refine ⟨b, off, rfl, ?_, fun j x hx2 => ?_⟩
      · refine hlt (.cell b off) ?_
        have hp : p = MemPlace.row ⟨b, off, none⟩ ss.length := by injection hx
        rw [hp]
        exact List.mem_map.2 ⟨0, List.mem_range.2 (by omega), rfl⟩
      · have hj : j < n := by
          rcases Nat.lt_or_ge j ((ss.take n).map fun s => s.data.toList).length with h | h
          · rw [e] at h; exact h
          · rw [List.getElem?_eq_none h] at hx2; cases hx2
        have hj2 : j < ss.length := by omega
        have hadd : (⟨b, off, none⟩ : Addr).add j = ⟨b, off + j, none⟩ := by
          unfold Addr.add
          split
          · next h0 => subst h0; rfl
          · rfl
        have h1 := hcell j hj2
        rw [hadd] at h1
        rw [h1]
        rw [List.getElem?_map, List.getElem?_take, if_pos hj, List.getElem?_eq_getElem hj2] at hx2
        injection hx2 with hx2
        rw [← hx2, ← string_cell, show ss.getD j ByteArray.empty = ss[j] by rw [List.getD_eq_getElem?_getD, List.getElem?_eq_getElem hj2]; rfl]
    · obtain ⟨t, ht, rfl⟩ := List.mem_map.1 hs
      have := hsz t (List.mem_of_mem_take ht)
      show t.data.toList.length ≤ maxLen
      rw [Array.length_toList]
      exact this
end
end Go.Proofs.Ytcemfpbkaahcmaa
