/- FfgChains: lists of any lengths. -/
import Derived.Test.YtcmebeoedagdfaaFfgChains
namespace Go.Proofs.Ytcmebeoedagdfaa
open Go.ChangeMaps Go.MapKept Go.Maps Go.WideElems Go.RowKit Go.ChangeShapes Go.WideShapes Go.ChangeAt
set_option linter.unusedVariables false
set_option maxRecDepth 100000

set_option maxHeartbeats 4000000 in
theorem ffgChains_out (w : World) (A B : Option Addr) (nE nO cE cO : Nat) (h : nE < 1 ∨ 60 < nE ∨ 200 < nO) :
    Calls Try.prog 8 #[.slice A nE cE, .slice B nO cO] w fun e w' => e = .returned (.bool true) ∧ Below w.heap.size w w' := by
  have CK := Lib.hid (known_c w)
  by_cases h1 : nE < 1
  · have d1 : decide ((nE : Int) < 1) = true := by simp; omega
    clear h
    go_enter Try.func8, Try.ntmps8
    go_wp2_with fail
    refine CK.out.mono ?_
    rintro e w3 ⟨rfl, bk⟩
    go_wp2_with fail
    go_ret
    exact ⟨rfl, bk⟩
  · have d1 : decide ((nE : Int) < 1) = false := by simp; omega
    by_cases h2 : 60 < nE
    · have d2 : decide ((nE : Int) > 60) = true := by simp; omega
      clear h
      go_enter Try.func8, Try.ntmps8
      go_wp2_with fail
      refine CK.out.mono ?_
      rintro e w3 ⟨rfl, bk⟩
      go_wp2_with fail
      go_ret
      exact ⟨rfl, bk⟩
    · have d2 : decide ((nE : Int) > 60) = false := by simp; omega
      have h3 : 200 < nO := by omega
      have d3 : decide ((nO : Int) > 200) = true := by simp; omega
      clear h
      go_enter Try.func8, Try.ntmps8
      go_wp2_with fail
      refine CK.out.mono ?_
      rintro e w3 ⟨rfl, bk⟩
      go_wp2_with fail
      go_ret
      exact ⟨rfl, bk⟩
theorem ffgChains_any (w : World) (A B : Option Addr) (E O : List Int) (cE cO : Nat) (hE : ∀ n ∈ E, (Lit.int .u64 n).wf = true)
    (KE : ∀ u, Below w.heap.size w u → ∀ (i : Nat) z, E[i]? = some z → ∃ xa, A = some xa ∧ u.cell? (xa.add i) = some (.int .u64 z))
    (KO : ∀ u, Below w.heap.size w u → ∀ (i : Nat) z, O[i]? = some z → ∃ xb, B = some xb ∧ u.cell? (xb.add i) = some (.int .i64 z)) :
    Calls Try.prog 8 #[.slice A E.length cE, .slice B O.length cO] w fun e w' => e = .returned (.bool true) ∧ Below w.heap.size w w' := by
  by_cases h : E.length < 1 ∨ 60 < E.length ∨ 200 < O.length
  · exact ffgChains_out w A B _ _ cE cO h
  · have hw : ∀ n ∈ E, 0 ≤ n ∧ n < 18446744073709551616 := fun n hn => by
      have := hE n hn
      simp [Lit.wf, IntKind.min, IntKind.max, IntKind.signed, IntKind.bits] at this
      omega
    obtain ⟨xa, rfl⟩ : ∃ xa, A = some xa := by
      obtain ⟨xa, h1, _⟩ := KE w (Below.refl _ _) 0 _ (List.getElem?_eq_getElem (by omega))
      exact ⟨xa, h1⟩
    have hl : (E.map Int.toNat).length = E.length := by simp
    rw [← hl]
    refine ffgChains_main w xa B (E.map Int.toNat) O cE cO (by omega) (by omega) (by omega) (fun e he => ?_) (fun u hu i e he => ?_) KO
    · obtain ⟨n, hn, rfl⟩ := List.mem_map.1 he
      have := hw n hn
      omega
    · rw [List.getElem?_map, Option.map_eq_some_iff] at he
      obtain ⟨n, hn, rfl⟩ := he
      obtain ⟨x2, h1, h2⟩ := KE u hu i n hn
      injection h1 with h1
      subst h1
      have := hw n (List.mem_of_getElem? hn)
      rw [h2, Int.toNat_of_nonneg this.1]
end Go.Proofs.Ytcmebeoedagdfaa
