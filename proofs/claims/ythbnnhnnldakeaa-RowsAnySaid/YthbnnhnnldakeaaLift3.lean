/- From a slice of wants that can be read as data to what the walk asks of it. -/
import Derived.Test.YthbnnhnnldakeaaLift2
import Derived.Test.YthbnnhnnldakeaaRowsAny
import Derived.Deep.Fields
namespace Go.Proofs.Ythbnnhnnldakeaa
open Go.ChangeShapes Go.WideShapes Go.ChangeAt Go.RowKit Go.Deep
set_option linter.unusedVariables false

section
variable {H : Type} {enc : TypeId × Value → H} {W : World}
/-- One want: two numbers. -/
theorem open_want {fuel : Nat} {cs : List Value} {x : DataW H × List MemPlace} (h : DataW.trod enc Try.prog W 0 (fun _ => true) true fuel 48 cs = some x) :
    ∃ k n : Int, cs = [.int .i64 k, .int .i64 n] := by
  obtain ⟨xs, n, _, _, hl, hxl, hg⟩ := DataW.trod_struct Try.underlying48 h
  have hc2 : Try.prog.cellsOf 48 = 2 := by kernel_rfl
  have hc1 : Try.prog.cellsOf 3 = 1 := by kernel_rfl
  rw [hc2] at hl
  match cs, hl with
  | [a, b], _ =>
    have h0 : DataW.trod enc Try.prog W 0 (fun _ => true) true n 3 (([a, b].drop 0).take (Try.prog.cellsOf 3)) = xs[0]? := hg 0 _ rfl
    have h1 : DataW.trod enc Try.prog W 0 (fun _ => true) true n 3 (([a, b].drop 1).take (Try.prog.cellsOf 3)) = xs[1]? := hg 1 _ rfl
    rw [hc1] at h0 h1
    have hx0 : xs[0]? = some (xs[0]'(by rw [hxl]; decide)) := List.getElem?_eq_getElem _
    have hx1 : xs[1]? = some (xs[1]'(by rw [hxl]; decide)) := List.getElem?_eq_getElem _
    obtain ⟨k, e0, _⟩ := DataW.trod_int Try.underlying3 (h0.trans hx0)
    obtain ⟨m, e1, _⟩ := DataW.trod_int Try.underlying3 (h1.trans hx1)
    simp at e0 e1
    exact ⟨k, m, by rw [e0, e1]⟩

theorem choose_pairs {p : Nat → Int × Int → Prop} (n : Nat) (h : ∀ i, i < n → ∃ y, p i y) : ∃ L : List (Int × Int), L.length = n ∧ ∀ i y, L[i]? = some y → p i y := by
  induction n with
  | zero => exact ⟨[], rfl, fun i y hy => by simp at hy⟩
  | succ n ih =>
    obtain ⟨L, hl, hL⟩ := ih (fun i hi => h i (by omega))
    obtain ⟨y, hy⟩ := h n (by omega)
    refine ⟨L ++ [y], by simp [hl], fun i z hz => ?_⟩
    rw [List.getElem?_append] at hz
    split at hz
    · exact hL i z hz
    · have : i = n := by
        rcases Nat.lt_or_ge (i - L.length) 1 with h1 | h1
        · omega
        · rw [List.getElem?_eq_none (by simpa using h1)] at hz; cases hz
      subst this
      rw [hl, Nat.sub_self] at hz
      injection hz with hz
      subst hz
      exact hy

theorem open_wants {base : Nat} {v : Value} {d : DataW H} {p : List MemPlace} (hv : Value.okWide Try.prog W .any base 41 v) (h : DataW.Trod enc Try.prog W 0 (fun _ => true) true 41 v d p) :
    ∃ (A : Option Addr) (L : List (Int × Int)) (c : Nat), v = .slice A L.length c ∧ RdW W W.heap.size A L ∧ L.length ≤ 9223372036854775807 := by
  obtain ⟨A, n, c, rfl⟩ := okWide_slice Try.underlying41 hv
  have hlt : ∀ x ∈ p, x.block < W.heap.size := by obtain ⟨m, hm⟩ := h; exact DataW.trod_lt m _ _ _ hm
  have hc2 : Try.prog.cellsOf 48 = 2 := by kernel_rfl
  obtain ⟨fuel, hf⟩ := h
  rcases open_slice Try.underlying41 hf with ⟨hcs, _⟩ | ⟨a, len, cap, m, f, D, Pl, hcs, _, hl, hm, hmm, hx, hi⟩
  · simp [Value.cells] at hcs
    obtain ⟨rfl, rfl, rfl⟩ := hcs
    exact ⟨none, [], 0, rfl, fun h => absurd h (by simp), by simp⟩
  · simp [Value.cells] at hcs
    obtain ⟨rfl, rfl, rfl⟩ := hcs
    simp only [if_true] at hmm
    subst hmm
    rw [hc2] at hx hi
    obtain ⟨L, hLl, hL⟩ := choose_pairs (p := fun i y => W.cell? (a.add (i * 2)) = some (.int .i64 y.1) ∧ W.cell? ((a.add (i * 2)).add 1) = some (.int .i64 y.2)) n (fun i hin => by
      obtain ⟨cs, h1, h2⟩ := hi i (by omega)
      obtain ⟨k, q, e⟩ := open_want h2
      subst e
      obtain ⟨_, _, hat⟩ := World.cells?_some h1
      exact ⟨(k, q), by have := hat 0 (by omega); simpa [Addr.add] using this, by have := hat 1 (by omega); simpa using this⟩)
    refine ⟨some a, L, m, by rw [hLl], fun hn => ?_, by rw [hLl]; simp only [maxLen] at hm; omega⟩
    obtain ⟨b, off, spot⟩ := a
    have hc0 := (hL 0 _ (List.getElem?_eq_getElem hn)).1
    have hspot : spot = none := by simpa [Addr.add] using World.cell?_spot hc0
    subst hspot
    refine ⟨b, off, rfl, ?_, fun j x hx => ?_⟩
    · refine hlt (.cell b off) ?_
      have hp : p = MemPlace.row ⟨b, off, none⟩ (m * 2) ++ (List.range m).flatMap Pl := by injection hx
      rw [hp]
      exact List.mem_append_left _ (List.mem_map.2 ⟨0, List.mem_range.2 (by omega), rfl⟩)
    · have h1 := hL j x hx
      have hadd : ∀ i, (⟨b, off, none⟩ : Addr).add i = ⟨b, off + i, none⟩ := fun i => by
        unfold Addr.add
        split
        · next h0 => subst h0; rfl
        · rfl
      rw [hadd] at h1
      exact ⟨h1.1, h1.2⟩
end
end Go.Proofs.Ythbnnhnnldakeaa
