/- From headers, operations and lists of votes that can be read as data to what the walks ask of them. -/
import Derived.Test.YtaoddppkijopmaaCdVtLift
import Derived.Test.YtaoddppkijopmaaHoKit
import Derived.Deep.Slices
namespace Go.Proofs.Ytaoddppkijopmaa
open Go.ChangeShapes Go.WideShapes Go.ChangeAt Go.RowKit Go.Deep
set_option linter.unusedVariables false
set_option maxRecDepth 100000

theorem choose_rows {α : Type} {p : Nat → α → Prop} : ∀ n, (∀ i, i < n → ∃ s, p i s) → ∃ L : List α, L.length = n ∧ ∀ (i : Nat) s, L[i]? = some s → p i s
  | 0, _ => ⟨[], rfl, fun i s h => by cases h⟩
  | n + 1, h => by
    obtain ⟨L, h1, h2⟩ := choose_rows n (fun i hi => h i (by omega))
    obtain ⟨s, hs⟩ := h n (by omega)
    refine ⟨L ++ [s], by simp [h1], fun i t ht => ?_⟩
    by_cases hi : i < n
    · rw [List.getElem?_append_left (by omega)] at ht
      exact h2 i t ht
    · have hl : i < (L ++ [s]).length := (List.getElem?_eq_some_iff.1 ht).1
      rw [List.length_append, h1, List.length_singleton] at hl
      obtain rfl : i = n := by omega
      rw [List.getElem?_append_right (by omega), h1, Nat.sub_self] at ht
      injection ht with ht
      subst ht
      exact hs
section
variable {H : Type} {enc : TypeId × Value → H} {W : World}
/-- A slice of structs, each of which is a plain thing with a slice in it. -/
theorem cells_rows {α : Type} {e t : TypeId} {k : Nat} (ht : Try.prog.underlying t = some (.slice e)) (hk : Try.prog.cellsOf e = k) (hk0 : 0 < k) (C : α → Option Addr → Nat → List Value) (hC : ∀ y B c, (C y B c).length = k) (R : α → Option Addr → Prop)
    (hcell : ∀ fuel cs x, DataW.trod enc Try.prog W 0 (fun _ => true) true fuel e cs = some x → ∃ y B c, cs = C y B c ∧ R y B)
    {fuel : Nat} {cs : List Value} {x : DataW H × List MemPlace} (hf : DataW.trod enc Try.prog W 0 (fun _ => true) true fuel t cs = some x) :
    ∃ (A : Option Addr) (L : List α) (c : Nat), cs = [.slice A L.length c] ∧ ∀ u, Below W.heap.size W u → ∀ (i : Nat) y, L[i]? = some y → ∃ g o B bc, A = some ⟨g, o, none⟩ ∧ g < u.heap.size ∧ u.rangeAt g (o + i * k) (C y B bc) ∧ R y B := by
  obtain ⟨dd, pp⟩ := x
  rcases open_slice ht hf with ⟨hcs, _⟩ | ⟨a, len, cap, m, f, D, Pl, hcs, _, hl, hm, hmm, hx, hi⟩
  · exact ⟨none, [], 0, hcs, fun u _ i y h => by cases h⟩
  · simp only [if_true] at hmm
    subst hmm
    rw [hk] at hx hi
    obtain ⟨L, hLl, hL⟩ := choose_rows (p := fun i (y : α) => ∃ (B : Option Addr) (bc : Nat), R y B ∧ ∀ j u, (C y B bc)[j]? = some u → W.cell? ((a.add (i * k)).add j) = some u) len (fun i hin => by
      obtain ⟨cs, h1, h2⟩ := hi i (by omega)
      obtain ⟨y, B, bc, rfl, hr⟩ := hcell _ _ _ h2
      obtain ⟨_, hcl, hat⟩ := World.cells?_some h1
      refine ⟨y, B, bc, hr, fun j u hu => ?_⟩
      have hj : j < k := by rw [← hC y B bc]; exact (List.getElem?_eq_some_iff.1 hu).1
      exact (hat j hj).trans hu)
    refine ⟨some a, L, m, by rw [hLl]; exact hcs, fun u hb i x hxi => ?_⟩
    have hn : i < L.length := (List.getElem?_eq_some_iff.1 hxi).1
    obtain ⟨b, off, spot⟩ := a
    obtain ⟨B0, c0, _, hL0⟩ := hL 0 _ (List.getElem?_eq_getElem (show 0 < L.length by omega))
    have hc0 := hL0 0 _ (List.getElem?_eq_getElem (by rw [hC]; exact hk0))
    have hspot : spot = none := by simpa [Addr.add] using World.cell?_spot hc0
    subst hspot
    have hadd : ∀ o i, (⟨b, o, none⟩ : Addr).add i = ⟨b, o + i, none⟩ := fun o i => by
      unfold Addr.add
      split
      · next h0 => subst h0; rfl
      · rfl
    have hbl : b < W.heap.size := by
      have := World.block_lt_of_cell? W _ hc0
      rwa [hadd, hadd] at this
    obtain ⟨B, bc, hr, hLi⟩ := hL i x hxi
    refine ⟨b, off, B, bc, rfl, Nat.lt_of_lt_of_le hbl hb.size, fun j v hv => ?_, hr⟩
    have := hLi j v hv
    rw [hadd, hadd] at this
    exact (hb.cell (p := ⟨b, off + i * k + j, none⟩) hbl).trans this
theorem cells_ves {fuel : Nat} {cs : List Value} {x : DataW H × List MemPlace} (hf : DataW.trod enc Try.prog W 0 (fun _ => true) true fuel 51 cs = some x) :
    ∃ (A : Option Addr) (L : List Ve) (c : Nat), cs = [.slice A L.length c] ∧ VesAt W A L := by
  obtain ⟨A, L, c, h1, h2⟩ := cells_rows (α := Ve) Try.underlying51 (k := 68) (by kernel_rfl) (by omega) Ve.c Ve.c_len (fun v B => Rd W 0 W.heap.size B v.s) (fun fuel cs x h => by
    obtain ⟨n, e1, l1, e2, l2, A, s, c, q1, q2, q3, q4, q5, _, hcs⟩ := cells_vt h
    exact ⟨⟨n, e1, l1, e2, l2, s, q1, q3, q2, q4⟩, A, c, by rw [hcs]; unfold vtV; rw [rowV_list]; rfl, q5⟩) hf
  refine ⟨A, L, c, h1, fun u hu i v hv => ?_⟩
  obtain ⟨g, o, B, bc, e1, e2, e3, e4⟩ := h2 u hu i v hv
  exact ⟨g, o, B, bc, e1, e2, e3, (e4.below hu (Nat.le_refl _)).wide (Nat.le_refl _) hu.size⟩
/-- An operation's cells, wherever they stand. -/
theorem cells_ho {fuel : Nat} {cs : List Value} {x : DataW H × List MemPlace} (h : DataW.trod enc Try.prog W 0 (fun _ => true) true fuel 53 cs = some x) :
    ∃ (o : Ho) (B : Option Addr) (c : Nat), cs = o.c B c ∧ VesAt W B o.ev := by
  obtain ⟨xs, m, _, _, hsz, hxl, hi⟩ := DataW.trod_struct Try.underlying53 h
  have c36 : Try.prog.cellsOf 53 = 36 := by kernel_rfl
  have c1 : Try.prog.cellsOf 50 = 1 := by kernel_rfl
  have c32 : Try.prog.cellsOf 23 = 32 := by kernel_rfl
  have cu : Try.prog.cellsOf 24 = 1 := by kernel_rfl
  have ci : Try.prog.cellsOf 3 = 1 := by kernel_rfl
  have cB : Try.prog.cellsOf 51 = 1 := by kernel_rfl
  rw [c36] at hsz
  have h0 : DataW.trod enc Try.prog W 0 (fun _ => true) true m 50 ((cs.drop 0).take (Try.prog.cellsOf 50)) = xs[0]? := hi 0 _ rfl
  have h1 : DataW.trod enc Try.prog W 0 (fun _ => true) true m 23 ((cs.drop 1).take (Try.prog.cellsOf 23)) = xs[1]? := hi 1 _ rfl
  have h2 : DataW.trod enc Try.prog W 0 (fun _ => true) true m 24 ((cs.drop 33).take (Try.prog.cellsOf 24)) = xs[2]? := hi 2 _ rfl
  have h3 : DataW.trod enc Try.prog W 0 (fun _ => true) true m 3 ((cs.drop 34).take (Try.prog.cellsOf 3)) = xs[3]? := hi 3 _ rfl
  have h4 : DataW.trod enc Try.prog W 0 (fun _ => true) true m 51 ((cs.drop 35).take (Try.prog.cellsOf 51)) = xs[4]? := hi 4 _ rfl
  have hx2 : xs.length = 5 := hxl
  rw [List.getElem?_eq_getElem (by omega)] at h0 h1 h2 h3 h4
  rw [c1] at h0
  rw [c32] at h1
  rw [cu] at h2
  rw [ci] at h3
  rw [cB] at h4
  obtain ⟨k, ek, _, wk⟩ := DataW.trod_int Try.underlying50 h0
  have hc := cells_bytes Try.underlying23 h1
  obtain ⟨l, hl, el⟩ := row_of_cells (n := 32) (cs := ((cs.drop 1).take 32).toArray) (by simp; omega) (fun i hi => by simpa using hc i hi)
  obtain ⟨z, ez, _, wz⟩ := DataW.trod_int Try.underlying24 h2
  have hz : 0 ≤ z ∧ z ≤ 18446744073709551615 := by simpa [Lit.wf, IntKind.min, IntKind.max, IntKind.signed, IntKind.bits] using wz
  obtain ⟨st, rfl⟩ := Int.eq_ofNat_of_zero_le hz.1
  obtain ⟨n, en, _, wn⟩ := DataW.trod_int Try.underlying3 h3
  obtain ⟨B, L, c, eB, hB⟩ := cells_ves h4
  refine ⟨⟨k, l, st, n, L, hl, by omega⟩, B, c, ?_, hB⟩
  have at1 : ∀ (i : Nat) (v : Value), (cs.drop i).take 1 = [v] → cs[i]? = some v := fun i v h => by
    have : ((cs.drop i).take 1)[0]? = some v := by rw [h]; rfl
    simpa using this
  have e0 := at1 0 _ ek
  have e33 := at1 33 _ ez
  have e34 := at1 34 _ en
  have e35 := at1 35 _ eB
  unfold Ho.c
  apply List.ext_getElem?
  intro i
  by_cases hi36 : i < 36
  · rw [List.getElem?_map, List.getElem?_range hi36]
    show _ = some (opF k l st n (.slice B L.length c) i)
    unfold opF
    by_cases i0 : i = 0
    · subst i0
      rw [if_pos rfl, e0]
    · rw [if_neg i0]
      by_cases i33 : i < 33
      · rw [if_pos i33]
        have := congrArg (fun (A : Array Value) => A[i - 1]?) el
        simp only [List.getElem?_toArray] at this
        rw [List.getElem?_take, if_pos (by omega), List.getElem?_drop, show 1 + (i - 1) = i by omega] at this
        rw [this, rowV_at 32 _ (i - 1) (by omega)]
        rfl
      · rw [if_neg i33]
        by_cases q33 : i = 33
        · subst q33
          rw [if_pos rfl, e33]
        · rw [if_neg q33]
          by_cases q34 : i = 34
          · subst q34
            rw [if_pos rfl, e34]
          · rw [if_neg q34]
            obtain rfl : i = 35 := by omega
            exact e35
  · rw [List.getElem?_eq_none (by omega), List.getElem?_eq_none (by simp; omega)]
theorem cells_hos {fuel : Nat} {cs : List Value} {x : DataW H × List MemPlace} (hf : DataW.trod enc Try.prog W 0 (fun _ => true) true fuel 25 cs = some x) :
    ∃ (A : Option Addr) (L : List Ho) (c : Nat), cs = [.slice A L.length c] ∧ HosAt W A L := by
  obtain ⟨A, L, c, h1, h2⟩ := cells_rows (α := Ho) Try.underlying25 (k := 36) (by kernel_rfl) (by omega) Ho.c Ho.c_len (fun v B => VesAt W B v.ev) (fun fuel cs x h => cells_ho h) hf
  refine ⟨A, L, c, h1, fun u hu i v hv => ?_⟩
  obtain ⟨g, o, B, bc, e1, e2, e3, e4⟩ := h2 u hu i v hv
  exact ⟨g, o, B, bc, e1, e2, e3, e4.below hu⟩
theorem open_header {base : Nat} {v : Value} {d : DataW H} {p : List MemPlace} (hv : Value.okWide Try.prog W .any base 27 v) (h : DataW.Trod enc Try.prog W 0 (fun _ => true) true 27 v d p) :
    ∃ (h : Hd) (A : Option Addr) (c : Nat), v = .agg (h.v A c) ∧ HosAt W A h.ops := by
  simp only [Value.okWide, Try.underlying27] at hv
  obtain ⟨cs, rfl, hsz0, _⟩ := hv
  obtain ⟨fuel, hf⟩ := h
  obtain ⟨xs, m, _, _, hsz, hxl, hi⟩ := DataW.trod_struct Try.underlying27 hf
  have c34 : Try.prog.cellsOf 27 = 34 := by kernel_rfl
  have c32 : Try.prog.cellsOf 23 = 32 := by kernel_rfl
  have cu : Try.prog.cellsOf 24 = 1 := by kernel_rfl
  have cB : Try.prog.cellsOf 25 = 1 := by kernel_rfl
  simp only [Value.cells] at hsz hi
  rw [c34] at hsz
  have h1 : DataW.trod enc Try.prog W 0 (fun _ => true) true m 23 ((cs.toList.drop 0).take (Try.prog.cellsOf 23)) = xs[0]? := hi 0 _ rfl
  have h2 : DataW.trod enc Try.prog W 0 (fun _ => true) true m 24 ((cs.toList.drop 32).take (Try.prog.cellsOf 24)) = xs[1]? := hi 1 _ rfl
  have h4 : DataW.trod enc Try.prog W 0 (fun _ => true) true m 25 ((cs.toList.drop 33).take (Try.prog.cellsOf 25)) = xs[2]? := hi 2 _ rfl
  have hx2 : xs.length = 3 := hxl
  rw [List.getElem?_eq_getElem (by omega)] at h1 h2 h4
  rw [c32] at h1
  rw [cu] at h2
  rw [cB] at h4
  have hsl : cs.toList.length = 34 := by simpa using hsz
  have hc := cells_bytes Try.underlying23 h1
  obtain ⟨l, hl, el⟩ := row_of_cells (n := 32) (cs := ((cs.toList.drop 0).take 32).toArray) (by simp; omega) (fun i hi => by simpa using hc i hi)
  obtain ⟨z, ez, _, wz⟩ := DataW.trod_int Try.underlying24 h2
  have hz : 0 ≤ z ∧ z ≤ 18446744073709551615 := by simpa [Lit.wf, IntKind.min, IntKind.max, IntKind.signed, IntKind.bits] using wz
  obtain ⟨st, rfl⟩ := Int.eq_ofNat_of_zero_le hz.1
  obtain ⟨B, L, c, eB, hB⟩ := cells_hos h4
  refine ⟨⟨l, st, L, hl, by omega⟩, B, c, congrArg Value.agg ?_, hB⟩
  have at1 : ∀ (i : Nat) (v : Value), (cs.toList.drop i).take 1 = [v] → cs.toList[i]? = some v := fun i v h => by
    have : ((cs.toList.drop i).take 1)[0]? = some v := by rw [h]; rfl
    simpa using this
  have e32 := at1 32 _ ez
  have e33 := at1 33 _ eB
  apply Array.toList_inj.1
  show cs.toList = (hdV l st (.slice B L.length c)).toList
  unfold hdV
  rw [rowV_list]
  apply List.ext_getElem?
  intro i
  by_cases hi34 : i < 34
  · rw [List.getElem?_map, List.getElem?_range hi34]
    show _ = some (hdF l st (.slice B L.length c) i)
    unfold hdF
    by_cases i32 : i < 32
    · rw [if_pos i32]
      have := congrArg (fun (A : Array Value) => A[i]?) el
      simp only [List.getElem?_toArray] at this
      rw [List.getElem?_take, if_pos (by omega), List.getElem?_drop, Nat.zero_add] at this
      rw [this, rowV_at 32 _ i (by omega)]
      rfl
    · rw [if_neg i32]
      by_cases q32 : i = 32
      · subst q32
        rw [if_pos rfl, e32]
      · rw [if_neg q32]
        obtain rfl : i = 33 := by omega
        exact e33
  · rw [List.getElem?_eq_none (by omega), List.getElem?_eq_none (by simp; omega)]
theorem open_ve {base : Nat} {v : Value} {d : DataW H} {p : List MemPlace} (hv : Value.okWide Try.prog W .any base 32 v) (h : DataW.Trod enc Try.prog W 0 (fun _ => true) true 32 v d p) :
    ∃ (x : Ve) (A : Option Addr) (c : Nat), v = .agg (x.v A c) ∧ Rd W 0 W.heap.size A x.s := by
  obtain ⟨n, e1, l1, e2, l2, A, s, c, q1, q2, q3, q4, q5, q6, rfl⟩ := open_vt hv h
  exact ⟨⟨n, e1, l1, e2, l2, s, q1, q3, q2, q4⟩, A, c, rfl, q5⟩
end
end Go.Proofs.Ytaoddppkijopmaa
