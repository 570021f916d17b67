/- From votes by value that came in to what the walks ask of them. -/
import Derived.Test.YtaoddppkijopmaaCdRead
import Derived.Test.YtaoddppkijopmaaCdLift
import Derived.Test.YtaoddppkijopmaaLiftB
namespace Go.Proofs.Ytaoddppkijopmaa
open Go.ChangeShapes Go.WideShapes Go.ChangeAt Go.RowKit
set_option linter.unusedVariables false
set_option maxRecDepth 100000

section
variable {H : Type} {enc : TypeId × Value → H} {W : World}
/-- A slice of bytes' cell, wherever it stands. -/
theorem cells_bytes1 {fuel : Nat} {cs : List Value} {x : DataW H × List MemPlace} (hf : DataW.trod enc Try.prog W 0 (fun _ => true) true fuel 30 cs = some x) :
    ∃ (A : Option Addr) (l : List UInt8) (c : Nat), cs = [.slice A l.length c] ∧ Rd W 0 W.heap.size A l ∧ l.length ≤ c ∧ c ≤ 9223372036854775807 := by
  obtain ⟨d, p⟩ := x
  have hlt : ∀ x ∈ p, x.block < W.heap.size := DataW.trod_lt fuel _ _ _ hf
  rcases open_ints Try.underlying30 Try.underlying5 (by kernel_rfl) hf with ⟨hcs, _⟩ | ⟨x, len, cap, zs, hcs, _, hl, hm, hz, hx, hcell, hwz⟩
  · exact ⟨none, [], 0, hcs, Rd.nil, by simp, by omega⟩
  · simp only [if_true] at hz
    have e : (bytesOf (zs.take len)).length = len := by rw [bytesOf_length, List.length_take]; omega
    refine ⟨some x, bytesOf (zs.take len), cap, by rw [e]; exact hcs, rd_of_ints ?_ (by omega) hcell hwz, by rw [e]; exact hl, hm⟩
    rcases Nat.eq_zero_or_pos len with h0 | h0
    · exact .inr h0
    · left
      have hp : p = MemPlace.row x zs.length := by injection hx
      refine hlt (.cell x.block x.off) ?_
      rw [hp]
      exact List.mem_map.2 ⟨0, List.mem_range.2 (by omega), rfl⟩
/-- A vote's cells, wherever they stand. -/
theorem cells_vt {fuel : Nat} {cs : List Value} {x : DataW H × List MemPlace} (h : DataW.trod enc Try.prog W 0 (fun _ => true) true fuel 32 cs = some x) :
    ∃ (n : Int) (e1 : Nat) (l1 : List UInt8) (e2 : Nat) (l2 : List UInt8) (A : Option Addr) (s : List UInt8) (c : Nat), l1.length = 32 ∧ e1 < 18446744073709551616 ∧ l2.length = 32 ∧ e2 < 18446744073709551616 ∧ Rd W 0 W.heap.size A s ∧ s.length ≤ c ∧ cs = (vtV n e1 l1 e2 l2 (.slice A s.length c)).toList := by
  obtain ⟨xs, m, _, _, hsz, hxl, hi⟩ := DataW.trod_struct Try.underlying32 h
  have c68 : Try.prog.cellsOf 32 = 68 := by kernel_rfl
  have c1 : Try.prog.cellsOf 3 = 1 := by kernel_rfl
  have c33 : Try.prog.cellsOf 29 = 33 := by kernel_rfl
  have cB : Try.prog.cellsOf 30 = 1 := by kernel_rfl
  rw [c68] at hsz
  have h0 : DataW.trod enc Try.prog W 0 (fun _ => true) true m 3 ((cs.drop 0).take (Try.prog.cellsOf 3)) = xs[0]? := hi 0 _ rfl
  have h1 : DataW.trod enc Try.prog W 0 (fun _ => true) true m 29 ((cs.drop 1).take (Try.prog.cellsOf 29)) = xs[1]? := hi 1 _ rfl
  have h2 : DataW.trod enc Try.prog W 0 (fun _ => true) true m 29 ((cs.drop 34).take (Try.prog.cellsOf 29)) = xs[2]? := hi 2 _ rfl
  have h3 : DataW.trod enc Try.prog W 0 (fun _ => true) true m 30 ((cs.drop 67).take (Try.prog.cellsOf 30)) = xs[3]? := hi 3 _ rfl
  have hx2 : xs.length = 4 := hxl
  rw [List.getElem?_eq_getElem (by omega)] at h0 h1 h2 h3
  rw [c1] at h0
  rw [c33] at h1 h2
  rw [cB] at h3
  obtain ⟨a, ea, _, wa⟩ := DataW.trod_int Try.underlying3 h0
  obtain ⟨e1, l1, hl1, he1, p1⟩ := cells_pt h1
  obtain ⟨e2, l2, hl2, he2, p2⟩ := cells_pt h2
  obtain ⟨A, s, c, p3, hr, hc, _⟩ := cells_bytes1 h3
  have e0 : cs[0]? = some (.int .i64 a) := by
    have : ((cs.drop 0).take 1)[0]? = some (.int .i64 a) := by rw [show (cs.drop 0).take 1 = [.int .i64 a] from ea]; rfl
    simpa using this
  have e67 : cs[67]? = some (.slice A s.length c) := by
    have : ((cs.drop 67).take 1)[0]? = some (.slice A s.length c) := by rw [p3]; rfl
    simpa using this
  refine ⟨a, e1, l1, e2, l2, A, s, c, hl1, he1, hl2, he2, hr, hc, ?_⟩
  unfold vtV
  rw [rowV_list]
  apply List.ext_getElem?
  intro i
  by_cases hi68 : i < 68
  · rw [List.getElem?_map, List.getElem?_range hi68]
    show _ = some (vtF a _ _ _ _ _ i)
    unfold vtF
    by_cases i0 : i = 0
    · subst i0
      rw [if_pos rfl, e0]
    · rw [if_neg i0]
      by_cases i34 : i < 34
      · rw [if_pos i34]
        have := congrArg (fun (A : List Value) => A[i - 1]?) p1
        rw [List.getElem?_take, if_pos (by omega), List.getElem?_drop, show 1 + (i - 1) = i by omega] at this
        rw [this]
        unfold ptV
        rw [rowV_list, List.getElem?_map, List.getElem?_range (by omega)]
        rfl
      · rw [if_neg i34]
        by_cases i67 : i < 67
        · rw [if_pos i67]
          have := congrArg (fun (A : List Value) => A[i - 34]?) p2
          rw [List.getElem?_take, if_pos (by omega), List.getElem?_drop, show 34 + (i - 34) = i by omega] at this
          rw [this]
          unfold ptV
          rw [rowV_list, List.getElem?_map, List.getElem?_range (by omega)]
          rfl
        · rw [if_neg i67]
          obtain rfl : i = 67 := by omega
          exact e67
  · rw [List.getElem?_eq_none (by omega), List.getElem?_eq_none (by simp; omega)]
theorem open_vt {base : Nat} {v : Value} {d : DataW H} {p : List MemPlace} (hv : Value.okWide Try.prog W .any base 32 v) (h : DataW.Trod enc Try.prog W 0 (fun _ => true) true 32 v d p) :
    ∃ (n : Int) (e1 : Nat) (l1 : List UInt8) (e2 : Nat) (l2 : List UInt8) (A : Option Addr) (s : List UInt8) (c : Nat), l1.length = 32 ∧ e1 < 18446744073709551616 ∧ l2.length = 32 ∧ e2 < 18446744073709551616 ∧ Rd W 0 W.heap.size A s ∧ s.length ≤ c ∧ v = .agg (vtV n e1 l1 e2 l2 (.slice A s.length c)) := by
  simp only [Value.okWide, Try.underlying32] at hv
  obtain ⟨cs, rfl, hsz, _⟩ := hv
  obtain ⟨fuel, hf⟩ := h
  obtain ⟨n, e1, l1, e2, l2, A, s, c, q1, q2, q3, q4, q5, q6, hcs⟩ := cells_vt hf
  refine ⟨n, e1, l1, e2, l2, A, s, c, q1, q2, q3, q4, q5, q6, congrArg Value.agg ?_⟩
  apply Array.toList_inj.1
  simpa [Value.cells] using hcs
end
end Go.Proofs.Ytaoddppkijopmaa
