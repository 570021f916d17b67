/- The chapter's rows. -/
import Derived.Test.YthlbpjkopkicbaaFgLast
import Derived.Test.YthlbpjkopkicbaaFgStrong
import Derived.Test.YthlbpjkopkicbaaFgNew
import Derived.Test.YthlbpjkopkicbaaCdEq
namespace Go.Proofs.Ythlbpjkopkicbaa
open Go.ChangeMaps Go.MapKept Go.Maps Go.WideElems Go.RowKit
set_option linter.unusedVariables false
set_option maxRecDepth 100000

theorem wpList_build_as' {P : Program} {ops : Array Oper} {rest : List Oper} {o : Oper} {a : Act} {w : World} {Q : Exit → Act → World → Prop} (hg : o.guard = none) (t : TypeId) (parts : Array (Nat × Operand)) (ho : o.op = .build t parts)
    (L : List (Nat × Value)) (C : Array Value) (hC : P.built t L = some C) (hL : (parts.map fun (i, x) => (i, a.eval x)).toList = L)
    (h : wpList P ops Q rest (a.put o.dst (.agg C)) w) : wpList P ops Q (o :: rest) a w :=
  wpList_build hg t parts ho (by rw [hL, hC]; rfl) (by rw [hL, hC]; exact h)
theorem built_pt (e : Nat) (l : List UInt8) : Try.prog.built 29 [(0, .int .u64 (e : Int)), (1, .agg (hashV l))] = some (ptV e l) := by kernel_rfl
theorem built_lk (x : Lk) : Try.prog.built 36 [(0, .agg (pv x.s)), (1, .agg (pv x.t))] = some (lv x) := by kernel_rfl

/-- The three checkpoints. -/
def kA : Pt := ⟨5, List.replicate 32 0, by omega, by simp⟩
def kB : Pt := ⟨7, 1 :: List.replicate 31 0, by omega, by simp⟩
def kC : Pt := ⟨8, 2 :: List.replicate 31 0, by omega, by simp⟩
def kBC : Lk := ⟨kB, kC⟩
def kAB : Lk := ⟨kA, kB⟩
theorem built_kA : Try.prog.built 29 [(0, .int .u64 5)] = some (pv kA) := by kernel_rfl
theorem built_h1 : Try.prog.built 27 [(0, .int .u8 1)] = some (hashV kB.l) := by kernel_rfl
theorem built_h2 : Try.prog.built 27 [(0, .int .u8 2)] = some (hashV kC.l) := by kernel_rfl
theorem kAB_ne : kA ≠ kB := fun h => by injection h with h1 _; cases h1
theorem kAC_ne : kA ≠ kC := fun h => by injection h with h1 _; cases h1
theorem kBC_ne : kB ≠ kC := fun h => by injection h with h1 _; cases h1
theorem kAB_BC : kAB ≠ kBC := fun h => by injection h with h1 _; exact kAB_ne h1

/-- What is told of the first link: it waits. -/
theorem told_bc {S : FgS} {er : Int} (h : Strongs (S0 kA) kBC S er) : er = 0 ∧ S = putW (S0 kA) kBC := by
  have hm : mayL kBC = true := by decide +kernel
  rcases h with ⟨h, _⟩ | ⟨_, h, _⟩ | ⟨_, _, he, h⟩
  · rw [hm] at h; cases h
  · cases h
  · refine ⟨he, ?_⟩
    rcases h with ⟨_, h⟩ | ⟨h, _⟩
    · exact h
    · exact absurd (by show stN (S0 kA).stands kB = 0; show ((if kB = kA then some 2 else none) : Option Nat).getD 0 = 0; rw [if_neg (Ne.symm kAB_ne)]; rfl) h
/-- What stands then: the three. -/
def SK : FgS := (roundS (roundS (putA (putW (S0 kA) kBC) kAB) [kAB]).1 [kBC]).1
theorem round1 : (roundS (putA (putW (S0 kA) kBC) kAB) [kAB]).2 = [kBC] := by decide +kernel
theorem round2 : (roundS (roundS (putA (putW (S0 kA) kBC) kAB) [kAB]).1 [kBC]).2 = [] := by decide +kernel
theorem standsK : SK.stands = setSt (setSt (setSt (S0 kA).stands kB (some 1)) kB (some 2)) kC (some 1) := by kernel_rfl
theorem stood (p : Pt) : stN SK.stands p = if p = kC then 1 else if p = kB then 2 else if p = kA then 2 else 0 := by
  rw [standsK]
  unfold stN setSt
  show Option.getD (if p = kC then some 1 else if p = kB then some 2 else if p = kB then some 1 else if p = kA then some 2 else none) 0 = _
  by_cases h1 : p = kC
  · rw [if_pos h1, if_pos h1]; rfl
  · rw [if_neg h1, if_neg h1]
    by_cases h2 : p = kB
    · rw [if_pos h2, if_pos h2]; rfl
    · rw [if_neg h2, if_neg h2, if_neg h2]
      by_cases h3 : p = kA
      · rw [if_pos h3, if_pos h3]; rfl
      · rw [if_neg h3, if_neg h3]; rfl
theorem told_ab {S : FgS} {er : Int} (h : Strongs (putW (S0 kA) kBC) kAB S er) : er = 0 ∧ S = SK := by
  have hm : mayL kAB = true := by decide +kernel
  rcases h with ⟨h, _⟩ | ⟨_, h, _⟩ | ⟨_, _, he, h⟩
  · rw [hm] at h; cases h
  · exact absurd (List.mem_singleton.1 (show kAB ∈ [kBC] from h)) kAB_BC
  · refine ⟨he, ?_⟩
    rcases h with ⟨h, _⟩ | ⟨_, h⟩
    · have : stN (putW (S0 kA) kBC).stands kA = 2 := by decide +kernel
      have h' : stN (putW (S0 kA) kBC).stands kA = 0 := h
      rw [this] at h'
      cases h'
    · have e1 := round1
      have e2 := round2
      cases h with
      | done _ _ h1 => rw [e1] at h1; cases h1
      | more _ _ _ h1 h2 =>
        rw [e1] at h2
        cases h2 with
        | done _ _ h3 => rfl
        | more _ _ _ h3 h4 => rw [e2] at h3; exact absurd rfl h3
theorem st_a : stN SK.stands kA = 2 := by rw [stood, if_neg kAC_ne, if_neg kAB_ne, if_pos rfl]
theorem st_b : stN SK.stands kB = 2 := by rw [stood, if_neg kBC_ne, if_pos rfl]
theorem st_c : stN SK.stands kC = 1 := by rw [stood, if_pos rfl]
theorem key_ab : keyN kA < keyN kB := by decide +kernel
theorem key_bc : keyN kB < keyN kC := by decide +kernel
theorem best_b {p : Pt} (h : LastOf SK 2 p) : p = kB := by
  obtain ⟨h1, h2⟩ := h
  rw [stood] at h1
  by_cases hc : p = kC
  · rw [if_pos hc] at h1; omega
  · rw [if_neg hc] at h1
    by_cases hb : p = kB
    · exact hb
    · rw [if_neg hb] at h1
      by_cases ha : p = kA
      · have := h2 kB (by rw [st_b]; omega)
        rw [ha] at this
        have := key_ab
        omega
      · rw [if_neg ha] at h1; omega
theorem highest_c' {p : Pt} (h : LastOf SK 1 p) : p = kC := by
  obtain ⟨h1, h2⟩ := h
  have h3 := h2 kC (by rw [st_c]; omega)
  rw [stood] at h1
  by_cases hc : p = kC
  · exact hc
  · rw [if_neg hc] at h1
    have k1 := key_ab
    have k2 := key_bc
    by_cases hb : p = kB
    · rw [hb] at h3; omega
    · rw [if_neg hb] at h1
      by_cases ha : p = kA
      · rw [ha] at h3; omega
      · rw [if_neg ha] at h1; omega
end Go.Proofs.Ythlbpjkopkicbaa
