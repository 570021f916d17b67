/- SlashSteps: lists of any lengths. -/
import Derived.Test.YtildenhbcpgiiaaSlashSteps
namespace Go.Proofs.Ytildenhbcpgiiaa
open Go.ChangeMaps Go.MapKept Go.Maps Go.WideElems Go.RowKit Go.ChangeShapes Go.WideShapes Go.ChangeAt
set_option linter.unusedVariables false
set_option maxRecDepth 100000

set_option maxHeartbeats 4000000 in
theorem slashSteps_out (w : World) (A : Option Addr) (nE cE s t : Nat) (h : 40 < nE) :
    Calls Try.prog 5 #[.slice A nE cE, .int .u64 (s : Int), .int .u64 (t : Int)] w fun e w' => e = .returned (.bool true) ∧ Below w.heap.size w w' := by
  have CK := Lib.hid (known_c w)
  have d1 : decide ((nE : Int) > 40) = true := by simp; omega
  go_enter Try.func5, Try.ntmps5
  go_wp2_with fail
  refine CK.out.mono ?_
  rintro e w3 ⟨rfl, bk⟩
  go_wp2_with fail
  go_ret
  exact ⟨rfl, bk⟩
theorem slashSteps_any (w : World) (A : Option Addr) (E : List Int) (cE s t : Nat) (hs : s < 18446744073709551616) (ht : t < 18446744073709551616) (hE : ∀ n ∈ E, (Lit.int .u64 n).wf = true)
    (KE : ∀ u, Below w.heap.size w u → ∀ (i : Nat) z, E[i]? = some z → ∃ xa, A = some xa ∧ u.cell? (xa.add i) = some (.int .u64 z)) :
    Calls Try.prog 5 #[.slice A E.length cE, .int .u64 (s : Int), .int .u64 (t : Int)] w fun e w' => e = .returned (.bool true) ∧ Below w.heap.size w w' := by
  by_cases h : 40 < E.length
  · exact slashSteps_out w A _ cE s t h
  · have hw : ∀ n ∈ E, 0 ≤ n ∧ n < 18446744073709551616 := fun n hn => by
      have := hE n hn
      simp [Lit.wf, IntKind.min, IntKind.max, IntKind.signed, IntKind.bits] at this
      omega
    have hl : (E.map Int.toNat).length = E.length := by simp
    rw [← hl]
    refine slashSteps_main w A (E.map Int.toNat) cE s t (by omega) (fun e he => ?_) hs ht (fun u hu i e he => ?_)
    · obtain ⟨n, hn, rfl⟩ := List.mem_map.1 he
      have := hw n hn
      omega
    · rw [List.getElem?_map, Option.map_eq_some_iff] at he
      obtain ⟨n, hn, rfl⟩ := he
      obtain ⟨x2, h1, h2⟩ := KE u hu i n hn
      obtain ⟨x3, h3, h4⟩ := KE w (Below.refl _ _) i n hn
      rw [h1] at h3
      injection h3 with h3
      subst h3
      have := hw n (List.mem_of_getElem? hn)
      refine ⟨x2, h1, ?_, by rw [h2, Int.toNat_of_nonneg this.1]⟩
      have := World.block_lt_of_cell? w _ h4
      rwa [add_block] at this
end Go.Proofs.Ytildenhbcpgiiaa
