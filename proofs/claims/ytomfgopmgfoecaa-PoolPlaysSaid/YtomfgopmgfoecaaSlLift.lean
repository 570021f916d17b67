/- From votes by value that came in to what the walks ask of them. -/
import Derived.Test.YtomfgopmgfoecaaSlKit
import Derived.Test.YtomfgopmgfoecaaCdLift
namespace Go.Proofs.Ytomfgopmgfoecaa
open Go.ChangeShapes Go.WideShapes Go.ChangeAt Go.RowKit
set_option linter.unusedVariables false
set_option maxRecDepth 100000

section
variable {H : Type} {enc : TypeId × Value → H} {W : World}
/-- A vote's cells, wherever they stand. -/
theorem cells_vote {fuel : Nat} {cs : List Value} {x : DataW H × List MemPlace} (h : DataW.trod enc Try.prog W 0 (fun _ => true) true fuel 40 cs = some x) :
    ∃ (n : Int) (k : Lk) (sv : Value), cs = (vtw n k sv).toList := by
  obtain ⟨xs, m, _, _, hsz, hxl, hi⟩ := DataW.trod_struct Try.underlying40 h
  have c68 : Try.prog.cellsOf 40 = 68 := by kernel_rfl
  have c1 : Try.prog.cellsOf 3 = 1 := by kernel_rfl
  have c33 : Try.prog.cellsOf 37 = 33 := by kernel_rfl
  rw [c68] at hsz
  have h0 : DataW.trod enc Try.prog W 0 (fun _ => true) true m 3 ((cs.drop 0).take (Try.prog.cellsOf 3)) = xs[0]? := hi 0 _ rfl
  have h1 : DataW.trod enc Try.prog W 0 (fun _ => true) true m 37 ((cs.drop 1).take (Try.prog.cellsOf 37)) = xs[1]? := hi 1 _ rfl
  have h2 : DataW.trod enc Try.prog W 0 (fun _ => true) true m 37 ((cs.drop 34).take (Try.prog.cellsOf 37)) = xs[2]? := hi 2 _ rfl
  have hx2 : xs.length = 4 := hxl
  rw [List.getElem?_eq_getElem (by omega)] at h0 h1 h2
  rw [c1] at h0
  rw [c33] at h1 h2
  obtain ⟨a, ea, _, wa⟩ := DataW.trod_int Try.underlying3 h0
  obtain ⟨e1, l1, hl1, he1, p1⟩ := cells_pt h1
  obtain ⟨e2, l2, hl2, he2, p2⟩ := cells_pt h2
  have e0 : cs[0]? = some (.int .i64 a) := by
    have : ((cs.drop 0).take 1)[0]? = some (.int .i64 a) := by rw [show (cs.drop 0).take 1 = [.int .i64 a] from ea]; rfl
    simpa using this
  refine ⟨a, ⟨⟨e1, l1, he1, hl1⟩, ⟨e2, l2, he2, hl2⟩⟩, cs[67], ?_⟩
  unfold vtw
  rw [rowV_list]
  apply List.ext_getElem?
  intro i
  by_cases hi68 : i < 68
  · rw [List.getElem?_map, List.getElem?_range hi68]
    show _ = some (vtf a _ _ i)
    unfold vtf
    by_cases i0 : i = 0
    · subst i0
      rw [if_pos rfl, e0]
    · rw [if_neg i0]
      by_cases i67 : i < 67
      · rw [if_pos i67]
        unfold lkf
        by_cases i33 : i - 1 < 33
        · rw [if_pos i33]
          have := congrArg (fun (A : List Value) => A[i - 1]?) p1
          rw [List.getElem?_take, if_pos i33, List.getElem?_drop, show 1 + (i - 1) = i by omega] at this
          rw [this]
          unfold ptV
          rw [rowV_list, List.getElem?_map, List.getElem?_range i33]
          rfl
        · rw [if_neg i33]
          have := congrArg (fun (A : List Value) => A[i - 34]?) p2
          rw [List.getElem?_take, if_pos (by omega), List.getElem?_drop, show 34 + (i - 34) = i by omega] at this
          rw [this]
          unfold ptV
          rw [rowV_list, List.getElem?_map, List.getElem?_range (by omega), show i - 1 - 33 = i - 34 by omega]
          rfl
      · rw [if_neg i67]
        obtain rfl : i = 67 := by omega
        exact List.getElem?_eq_getElem _
  · rw [List.getElem?_eq_none (by omega), List.getElem?_eq_none (by simp; omega)]
theorem open_vote {base : Nat} {v : Value} {d : DataW H} {p : List MemPlace} (hv : Value.okWide Try.prog W .any base 40 v) (h : DataW.Trod enc Try.prog W 0 (fun _ => true) true 40 v d p) :
    ∃ (n : Int) (k : Lk) (sv : Value), v = .agg (vtw n k sv) := by
  simp only [Value.okWide, Try.underlying40] at hv
  obtain ⟨cs, rfl, hsz, _⟩ := hv
  obtain ⟨fuel, hf⟩ := h
  obtain ⟨n, k, sv, hcs⟩ := cells_vote hf
  refine ⟨n, k, sv, congrArg Value.agg ?_⟩
  apply Array.toList_inj.1
  simpa [Value.cells] using hcs
end
end Go.Proofs.Ytomfgopmgfoecaa
