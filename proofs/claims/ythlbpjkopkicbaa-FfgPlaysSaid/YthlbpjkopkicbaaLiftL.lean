/- From checkpoints and slices of links that came in to what the walks ask of them. -/
import Derived.Test.YthlbpjkopkicbaaFgOps
import Derived.Test.YthlbpjkopkicbaaCdLift
import Derived.Deep.Slices
import Derived.Deep.Fields
namespace Go.Proofs.Ythlbpjkopkicbaa
open Go.ChangeShapes Go.WideShapes Go.ChangeAt Go.RowKit Go.Deep
set_option linter.unusedVariables false
set_option maxRecDepth 100000

section
variable {H : Type} {enc : TypeId × Value → H} {W : World}
theorem open_pt {base : Nat} {v : Value} {d : DataW H} {p : List MemPlace} (hv : Value.okWide Try.prog W .any base 29 v) (h : DataW.Trod enc Try.prog W 0 (fun _ => true) true 29 v d p) : ∃ x : Pt, v = .agg (pv x) := by
  obtain ⟨e, l, hl, he, rfl⟩ := open_point hv h
  exact ⟨⟨e, l, he, hl⟩, rfl⟩
/-- A link's cells, wherever they stand. -/
theorem cells_lk {fuel : Nat} {cs : List Value} {x : DataW H × List MemPlace} (h : DataW.trod enc Try.prog W 0 (fun _ => true) true fuel 36 cs = some x) : ∃ y : Lk, cs = lC y := by
  obtain ⟨xs, m, _, _, hsz, hxl, hi⟩ := DataW.trod_struct Try.underlying36 h
  have c66 : Try.prog.cellsOf 36 = 66 := by kernel_rfl
  have c33 : Try.prog.cellsOf 29 = 33 := by kernel_rfl
  rw [c66] at hsz
  have h0 : DataW.trod enc Try.prog W 0 (fun _ => true) true m 29 ((cs.drop 0).take (Try.prog.cellsOf 29)) = xs[0]? := hi 0 _ rfl
  have h1 : DataW.trod enc Try.prog W 0 (fun _ => true) true m 29 ((cs.drop 33).take (Try.prog.cellsOf 29)) = xs[1]? := hi 1 _ rfl
  have hx2 : xs.length = 2 := hxl
  rw [List.getElem?_eq_getElem (by omega)] at h0 h1
  rw [c33] at h0 h1
  obtain ⟨e1, l1, hl1, he1, p1⟩ := cells_pt h0
  obtain ⟨e2, l2, hl2, he2, p2⟩ := cells_pt h1
  refine ⟨⟨⟨e1, l1, he1, hl1⟩, ⟨e2, l2, he2, hl2⟩⟩, ?_⟩
  unfold lC
  apply List.ext_getElem?
  intro i
  by_cases hi66 : i < 66
  · rw [List.getElem?_map, List.getElem?_range hi66]
    show _ = some (lkf _ i)
    unfold lkf
    by_cases i33 : i < 33
    · rw [if_pos i33]
      have := congrArg (fun (A : List Value) => A[i]?) p1
      rw [List.getElem?_take, if_pos i33, List.getElem?_drop, Nat.zero_add] at this
      rw [this]
      unfold ptV
      rw [rowV_list, List.getElem?_map, List.getElem?_range i33]
      rfl
    · rw [if_neg i33]
      have := congrArg (fun (A : List Value) => A[i - 33]?) p2
      rw [List.getElem?_take, if_pos (by omega), List.getElem?_drop, show 33 + (i - 33) = i by omega] at this
      rw [this]
      unfold ptV
      rw [rowV_list, List.getElem?_map, List.getElem?_range (by omega)]
      rfl
  · rw [List.getElem?_eq_none (by omega), List.getElem?_eq_none (by simp; omega)]
theorem choose_list {α : Type} {p : Nat → α → Prop} : ∀ n, (∀ i, i < n → ∃ s, p i s) → ∃ L : List α, L.length = n ∧ ∀ (i : Nat) s, L[i]? = some s → p i s
  | 0, _ => ⟨[], rfl, fun i s h => by cases h⟩
  | n + 1, h => by
    obtain ⟨L, h1, h2⟩ := choose_list n (fun i hi => h i (by omega))
    obtain ⟨s, hs⟩ := h n (by omega)
    refine ⟨L ++ [s], by simp [h1], fun i t ht => ?_⟩
    by_cases hi : i < n
    · rw [List.getElem?_append_left (by omega)] at ht
      exact h2 i t ht
    · have hl : i < (L ++ [s]).length := (List.getElem?_eq_some_iff.1 ht).1
      rw [List.length_append, h1, List.length_singleton] at hl
      obtain rfl : i = n := by omega
      rw [List.getElem?_append_right (by omega), h1, Nat.sub_self] at ht
      injection ht with ht
      subst ht
      exact hs
theorem open_links {base : Nat} {v : Value} {d : DataW H} {p : List MemPlace} (hv : Value.okWide Try.prog W .any base 30 v) (h : DataW.Trod enc Try.prog W 0 (fun _ => true) true 30 v d p) :
    ∃ (A : Option Addr) (L : List Lk) (c : Nat), v = .slice A L.length c ∧ ∀ u, Below W.heap.size W u → ∀ (i : Nat) x, L[i]? = some x → ∃ b o, A = some ⟨b, o, none⟩ ∧ u.rangeAt b (o + i * 66) (lC x) := by
  obtain ⟨A, n, c, rfl⟩ := okWide_slice Try.underlying30 hv
  have hlt : ∀ x ∈ p, x.block < W.heap.size := by obtain ⟨m, hm⟩ := h; exact DataW.trod_lt m _ _ _ hm
  have hc66 : Try.prog.cellsOf 36 = 66 := by kernel_rfl
  obtain ⟨fuel, hf⟩ := h
  rcases open_slice Try.underlying30 hf with ⟨hcs, _⟩ | ⟨a, len, cap, m, f, D, Pl, hcs, _, hl, hm, hmm, hx, hi⟩
  · simp [Value.cells] at hcs
    obtain ⟨rfl, rfl, rfl⟩ := hcs
    exact ⟨none, [], 0, rfl, fun u _ i x h => by cases h⟩
  · simp [Value.cells] at hcs
    obtain ⟨rfl, rfl, rfl⟩ := hcs
    simp only [if_true] at hmm
    subst hmm
    rw [hc66] at hx hi
    obtain ⟨L, hLl, hL⟩ := choose_list (p := fun i (y : Lk) => ∀ j u, (lC y)[j]? = some u → W.cell? ((a.add (i * 66)).add j) = some u) n (fun i hin => by
      obtain ⟨cs, h1, h2⟩ := hi i (by omega)
      obtain ⟨y, rfl⟩ := cells_lk h2
      obtain ⟨_, hcl, hat⟩ := World.cells?_some h1
      refine ⟨y, fun j u hu => ?_⟩
      have hj : j < 66 := by rw [← lC_len y]; exact (List.getElem?_eq_some_iff.1 hu).1
      exact (hat j hj).trans hu)
    refine ⟨some a, L, m, by rw [hLl], fun u hb i x hxi => ?_⟩
    have hn : i < L.length := (List.getElem?_eq_some_iff.1 hxi).1
    obtain ⟨b, off, spot⟩ := a
    have hc0 := hL 0 _ (List.getElem?_eq_getElem (show 0 < L.length by omega)) 0 _ rfl
    have hspot : spot = none := by simpa [Addr.add] using World.cell?_spot hc0
    subst hspot
    have hadd : ∀ o i, (⟨b, o, none⟩ : Addr).add i = ⟨b, o + i, none⟩ := fun o i => by
      unfold Addr.add
      split
      · next h0 => subst h0; rfl
      · rfl
    have hbl : b < W.heap.size := by
      have := World.block_lt_of_cell? W _ hc0
      rwa [hadd, hadd] at this
    refine ⟨b, off, rfl, fun j v hv => ?_⟩
    have := hL i x hxi j v hv
    rw [hadd, hadd] at this
    exact (hb.cell (p := ⟨b, off + i * 66 + j, none⟩) hbl).trans this
end
end Go.Proofs.Ythlbpjkopkicbaa
