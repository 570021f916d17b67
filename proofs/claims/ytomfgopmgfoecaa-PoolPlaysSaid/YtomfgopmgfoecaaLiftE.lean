/- From slices of numbers that came in to what the walks ask of them. -/
import Derived.Test.YtomfgopmgfoecaaMem
import Derived.WalkKit
import Derived.ProofKit
import Derived.OpenShut
import Derived.ChangeOld
import Derived.LaidMore
import Derived.ShutString
namespace Go.Proofs.Ytomfgopmgfoecaa
open Go.ChangeShapes Go.WideShapes Go.ChangeAt Go.RowKit
set_option linter.unusedVariables false
set_option maxRecDepth 100000

theorem own_knob : ownKnob Try.prog.godebug = none := by kernel_rfl
theorem laid_out : laidOutB Try.prog = true := by kernel_rfl
section
variable {H : Type} {enc : TypeId × Value → H} {W : World}
theorem add_block (a : Addr) (i : Nat) : (a.add i).block = a.block := by unfold Addr.add; split <;> rfl
theorem open_nums {ty et : TypeId} {q : IntKind} {base : Nat} {v : Value} {d : DataW H} {p : List MemPlace} (hu : Try.prog.underlying ty = some (.slice et)) (he : Try.prog.underlying et = some (.int q)) (hc1 : Try.prog.cellsOf et = 1)
    (hv : Value.okWide Try.prog W .any base ty v) (h : DataW.Trod enc Try.prog W 0 (fun _ => true) true ty v d p) :
    ∃ (A : Option Addr) (L : List Int) (c : Nat), v = .slice A L.length c ∧ (∀ n ∈ L, (Lit.int q n).wf = true) ∧ ∀ u, Below W.heap.size W u → ∀ (i : Nat) z, L[i]? = some z → ∃ xa, A = some xa ∧ u.cell? (xa.add i) = some (.int q z) := by
  obtain ⟨A, n, c, rfl⟩ := okWide_slice hu hv
  have hlt : ∀ x ∈ p, x.block < W.heap.size := by obtain ⟨m, hm⟩ := h; exact DataW.trod_lt m _ _ _ hm
  obtain ⟨fuel, hf⟩ := h
  rcases open_ints hu he hc1 hf with ⟨hcs, _⟩ | ⟨x, len, cap, zs, hcs, _, hl, hm, hz, hx, hcell, hwz⟩
  · simp [Value.cells] at hcs
    obtain ⟨rfl, rfl, rfl⟩ := hcs
    exact ⟨none, [], 0, rfl, (fun _ h => by cases h), (fun u _ i z h => by cases h)⟩
  · simp [Value.cells] at hcs
    obtain ⟨rfl, rfl, rfl⟩ := hcs
    simp only [if_true] at hz
    have e : (zs.take n).length = n := by rw [List.length_take]; omega
    refine ⟨some x, zs.take n, c, by rw [e], fun z hz2 => hwz z (List.mem_of_mem_take hz2), fun u hu2 i z hi => ⟨x, rfl, ?_⟩⟩
    have hi2 : i < n := by rw [← e]; exact (List.getElem?_eq_some_iff.1 hi).1
    have hp : p = MemPlace.row x zs.length := by injection hx
    have hb : x.block < W.heap.size := by
      refine hlt (.cell x.block x.off) ?_
      rw [hp]
      exact List.mem_map.2 ⟨0, List.mem_range.2 (by omega), rfl⟩
    rw [hu2.cell (p := x.add i) (by rw [add_block]; exact hb), hcell i (by omega)]
    rw [List.getElem?_take, if_pos hi2] at hi
    rw [List.getD_eq_getElem?_getD, hi]
    rfl
end
end Go.Proofs.Ytomfgopmgfoecaa
