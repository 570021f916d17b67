/- From arguments that can be read as data to what the walks ask of them. -/
import Derived.Test.YtaoddppkijopmaaJoin
import Derived.Test.YtaoddppkijopmaaWoLift
import Derived.WalkKit
import Derived.ProofKit
import Derived.OpenShut
import Derived.ChangeOld
import Derived.ShutString
namespace Go.Proofs.Ytaoddppkijopmaa
open Go.ChangeShapes Go.WideShapes Go.ChangeAt Go.RowKit
set_option linter.unusedVariables false
set_option maxRecDepth 100000


/-- Numbers of bytes as bytes. -/
def bytesOf (zs : List Int) : List UInt8 := zs.map fun z => UInt8.ofNat z.toNat
theorem bytesOf_length (zs : List Int) : (bytesOf zs).length = zs.length := by simp [bytesOf]
theorem bv_of (z : Int) (h : (Lit.int .u8 z).wf = true) : bv (UInt8.ofNat z.toNat) = .int .u8 z := by
  have hz : 0 ≤ z ∧ z ≤ 255 := by simpa [Lit.wf, IntKind.min, IntKind.max, IntKind.signed, IntKind.bits] using h
  unfold bv
  rw [UInt8.toNat_ofNat']
  congr 1
  show ((z.toNat % 256 : Nat) : Int) = z
  omega

section
variable {H : Type} {enc : TypeId × Value → H} {W : World}
/-- A slice of bytes that came in. -/
theorem rd_of_ints {a : Addr} {len : Nat} {zs : List Int} (hb : a.block < W.heap.size ∨ len = 0) (hl : len ≤ zs.length) (hcell : ∀ i, i < zs.length → W.cell? (a.add i) = some (.int .u8 (zs.getD i 0))) (hwz : ∀ n ∈ zs, (Lit.int .u8 n).wf = true) :
    Rd W 0 W.heap.size (some a) (bytesOf (zs.take len)) := fun hn => by
  rw [bytesOf_length, List.length_take] at hn
  obtain ⟨b, off, spot⟩ := a
  have hc0 := hcell 0 (by omega)
  have hspot : spot = none := by simpa [Addr.add] using World.cell?_spot hc0
  subst hspot
  refine ⟨b, off, rfl, Nat.zero_le _, ?_, fun j x hx => ?_⟩
  · rcases hb with hb | hb
    · exact hb
    · omega
  · have hj : j < len := by
      rcases Nat.lt_or_ge j (bytesOf (zs.take len)).length with h | h
      · rw [bytesOf_length, List.length_take] at h; omega
      · rw [List.getElem?_eq_none h] at hx; cases hx
    have hj2 : j < zs.length := by omega
    have hadd : (⟨b, off, none⟩ : Addr).add j = ⟨b, off + j, none⟩ := by
      unfold Addr.add
      split
      · next h0 => subst h0; rfl
      · rfl
    have h1 := hcell j hj2
    rw [hadd] at h1
    rw [h1]
    have h2 : zs.getD j 0 = zs[j] := by simp [List.getD, List.getElem?_eq_getElem hj2]
    rw [h2]
    unfold bytesOf at hx
    rw [List.getElem?_map, List.getElem?_take, if_pos hj, List.getElem?_eq_getElem hj2] at hx
    injection hx with hx
    rw [← hx, bv_of _ (hwz _ (List.getElem_mem hj2))]

theorem open_bytes1 {base : Nat} {v : Value} {d : DataW H} {p : List MemPlace} (hv : Value.okWide Try.prog W .any base 30 v) (h : DataW.Trod enc Try.prog W 0 (fun _ => true) true 30 v d p) :
    ∃ (A : Option Addr) (l : List UInt8) (c : Nat), v = .slice A l.length c ∧ Rd W 0 W.heap.size A l ∧ l.length ≤ c ∧ c ≤ 9223372036854775807 := by
  obtain ⟨A, n, c, rfl⟩ := okWide_slice Try.underlying30 hv
  have hlt : ∀ x ∈ p, x.block < W.heap.size := by obtain ⟨m, hm⟩ := h; exact DataW.trod_lt m _ _ _ hm
  obtain ⟨fuel, hf⟩ := h
  rcases open_ints Try.underlying30 Try.underlying5 (by kernel_rfl) hf with ⟨hcs, _⟩ | ⟨x, len, cap, zs, hcs, _, hl, hm, hz, hx, hcell, hwz⟩
  · simp [Value.cells] at hcs
    obtain ⟨rfl, rfl, rfl⟩ := hcs
    exact ⟨none, [], 0, rfl, Rd.nil, by simp, by omega⟩
  · simp [Value.cells] at hcs
    obtain ⟨rfl, rfl, rfl⟩ := hcs
    simp only [if_true] at hz
    have e : (bytesOf (zs.take n)).length = n := by rw [bytesOf_length, List.length_take]; omega
    refine ⟨some x, bytesOf (zs.take n), c, by rw [e], rd_of_ints ?_ (by omega) hcell hwz, by rw [e]; exact hl, hm⟩
    rcases Nat.eq_zero_or_pos n with h0 | h0
    · exact .inr h0
    · left
      have hp : p = MemPlace.row x zs.length := by injection hx
      refine hlt (.cell x.block x.off) ?_
      rw [hp]
      exact List.mem_map.2 ⟨0, List.mem_range.2 (by omega), rfl⟩
end
end Go.Proofs.Ytaoddppkijopmaa
