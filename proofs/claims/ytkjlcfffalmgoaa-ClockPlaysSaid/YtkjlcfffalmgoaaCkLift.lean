/- From slices of readings that came in to what the walks ask of them. -/
import Derived.Test.YtkjlcfffalmgoaaLiftE
import Derived.Test.YtkjlcfffalmgoaaCkRef
namespace Go.Proofs.Ytkjlcfffalmgoaa
open Go.ChangeShapes Go.WideShapes Go.ChangeAt Go.RowKit
set_option linter.unusedVariables false
set_option maxRecDepth 100000

theorem open_rdu {H : Type} {enc : TypeId × Value → H} {W : World} {base : Nat} {v : Value} {d : DataW H} {p : List MemPlace} (hv : Value.okWide Try.prog W .any base 23 v) (h : DataW.Trod enc Try.prog W 0 (fun _ => true) true 23 v d p) :
    ∃ (A : Option Addr) (L : List Nat) (c : Nat), v = .slice A L.length c ∧ (∀ x ∈ L, x < 18446744073709551616) ∧ RU W A L := by
  obtain ⟨A, L, c, rfl, hw, hk⟩ := open_nums (q := .u64) Try.underlying23 Try.underlying22 (by kernel_rfl) hv h
  have hw2 : ∀ n ∈ L, 0 ≤ n ∧ n < 18446744073709551616 := fun n hn => by
    have := hw n hn
    simp [Lit.wf, IntKind.min, IntKind.max, IntKind.signed, IntKind.bits] at this
    omega
  refine ⟨A, L.map Int.toNat, c, by rw [List.length_map], fun x hx => ?_, fun i e he => ?_⟩
  · obtain ⟨n, hn, rfl⟩ := List.mem_map.1 hx
    have := hw2 n hn
    omega
  · rw [List.getElem?_map, Option.map_eq_some_iff] at he
    obtain ⟨n, hn, rfl⟩ := he
    obtain ⟨x2, h1, h2⟩ := hk W (Below.refl _ _) i n hn
    have := hw2 n (List.mem_of_getElem? hn)
    exact ⟨x2, h1, by rw [h2, Int.toNat_of_nonneg this.1]⟩
end Go.Proofs.Ytkjlcfffalmgoaa
