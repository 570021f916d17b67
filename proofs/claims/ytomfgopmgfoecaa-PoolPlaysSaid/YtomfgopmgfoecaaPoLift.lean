/- Lists of signed votes: in memory, and from what came in to what the walks ask of them. -/
import Derived.Test.YtomfgopmgfoecaaPoKit
import Derived.Test.YtomfgopmgfoecaaSlLift
import Derived.Deep.Slices
import Derived.Deep.Fields
import Derived.ShutString
namespace Go.Proofs.Ytomfgopmgfoecaa
open Go.ChangeShapes Go.WideShapes Go.ChangeAt Go.RowKit Go.Deep
set_option linter.unusedVariables false
set_option maxRecDepth 100000

/-- A signed vote with its signature's bytes. -/
structure Sv where
  n : Int
  k : Lk
  s : List UInt8
  h : Hh
  st : Nat
  hst : st < 18446744073709551616
def Sv.sg (v : Sv) (B : Option Addr) (c : Nat) : Sg := ⟨v.n, v.k, .slice B v.s.length c, v.h, v.st⟩
/-- A list of them that stays in memory. -/
def SvsAt (w : World) (A : Option Addr) (L : List Sv) : Prop := ∀ u, Below w.heap.size w u → ∀ (i : Nat) v, L[i]? = some v → ∃ g o B c, A = some ⟨g, o, none⟩ ∧ u.rangeAt g (o + i * 101) (sgC (v.sg B c)) ∧ Rd u 0 u.heap.size B v.s
theorem SvsAt.below {w u : World} {A : Option Addr} {L : List Sv} (h : SvsAt w A L) (hb : Below w.heap.size w u) : SvsAt u A L := fun v hv => h v (hb.trans (hv.mono hb.size))
/-- Numbers of bytes as bytes. -/
def bytesOf (zs : List Int) : List UInt8 := zs.map fun z => UInt8.ofNat z.toNat
theorem bytesOf_length (zs : List Int) : (bytesOf zs).length = zs.length := by simp [bytesOf]
theorem bv_of (z : Int) (h : (Lit.int .u8 z).wf = true) : bv (UInt8.ofNat z.toNat) = .int .u8 z := by
  have hz : 0 ≤ z ∧ z ≤ 255 := by simpa [Lit.wf, IntKind.min, IntKind.max, IntKind.signed, IntKind.bits] using h
  unfold bv
  rw [UInt8.toNat_ofNat']
  congr 1
  show ((z.toNat % 256 : Nat) : Int) = z
  omega
section
variable {H : Type} {enc : TypeId × Value → H} {W : World}
/-- A slice of bytes that came in. -/
theorem rd_of_ints {a : Addr} {len : Nat} {zs : List Int} (hb : a.block < W.heap.size ∨ len = 0) (hl : len ≤ zs.length) (hcell : ∀ i, i < zs.length → W.cell? (a.add i) = some (.int .u8 (zs.getD i 0))) (hwz : ∀ n ∈ zs, (Lit.int .u8 n).wf = true) :
    Rd W 0 W.heap.size (some a) (bytesOf (zs.take len)) := fun hn => by
  rw [bytesOf_length, List.length_take] at hn
  obtain ⟨b, off, spot⟩ := a
  have hc0 := hcell 0 (by omega)
  have hspot : spot = none := by simpa [Addr.add] using World.cell?_spot hc0
  subst hspot
  refine ⟨b, off, rfl, Nat.zero_le _, ?_, fun j x hx => ?_⟩
  · rcases hb with hb | hb
    · exact hb
    · omega
  · have hj : j < len := by
      rcases Nat.lt_or_ge j (bytesOf (zs.take len)).length with h | h
      · rw [bytesOf_length, List.length_take] at h; omega
      · rw [List.getElem?_eq_none h] at hx; cases hx
    have hj2 : j < zs.length := by omega
    have hadd : (⟨b, off, none⟩ : Addr).add j = ⟨b, off + j, none⟩ := by
      unfold Addr.add
      split
      · next h0 => subst h0; rfl
      · rfl
    have h1 := hcell j hj2
    rw [hadd] at h1
    rw [h1]
    have h2 : zs.getD j 0 = zs[j] := by simp [List.getD, List.getElem?_eq_getElem hj2]
    rw [h2]
    unfold bytesOf at hx
    rw [List.getElem?_map, List.getElem?_take, if_pos hj, List.getElem?_eq_getElem hj2] at hx
    injection hx with hx
    rw [← hx, bv_of _ (hwz _ (List.getElem_mem hj2))]
/-- A slice of bytes' cell, wherever it stands. -/
theorem cells_bytes1 {fuel : Nat} {cs : List Value} {x : DataW H × List MemPlace} (hf : DataW.trod enc Try.prog W 0 (fun _ => true) true fuel 38 cs = some x) :
    ∃ (A : Option Addr) (l : List UInt8) (c : Nat), cs = [.slice A l.length c] ∧ Rd W 0 W.heap.size A l ∧ l.length ≤ c ∧ c ≤ 9223372036854775807 := by
  obtain ⟨d, p⟩ := x
  have hlt : ∀ x ∈ p, x.block < W.heap.size := DataW.trod_lt fuel _ _ _ hf
  rcases open_ints Try.underlying38 Try.underlying5 (by kernel_rfl) hf with ⟨hcs, _⟩ | ⟨x, len, cap, zs, hcs, _, hl, hm, hz, hx, hcell, hwz⟩
  · exact ⟨none, [], 0, hcs, Rd.nil, by simp, by omega⟩
  · simp only [if_true] at hz
    have e : (bytesOf (zs.take len)).length = len := by rw [bytesOf_length, List.length_take]; omega
    refine ⟨some x, bytesOf (zs.take len), cap, by rw [e]; exact hcs, rd_of_ints ?_ (by omega) hcell hwz, by rw [e]; exact hl, hm⟩
    rcases Nat.eq_zero_or_pos len with h0 | h0
    · exact .inr h0
    · left
      have hp : p = MemPlace.row x zs.length := by injection hx
      refine hlt (.cell x.block x.off) ?_
      rw [hp]
      exact List.mem_map.2 ⟨0, List.mem_range.2 (by omega), rfl⟩
/-- A vote's cells with its signature. -/
theorem cells_vtk {fuel : Nat} {cs : List Value} {x : DataW H × List MemPlace} (h : DataW.trod enc Try.prog W 0 (fun _ => true) true fuel 40 cs = some x) :
    ∃ (n : Int) (k : Lk) (A : Option Addr) (s : List UInt8) (c : Nat), cs = vtC n k (.slice A s.length c) ∧ Rd W 0 W.heap.size A s := by
  obtain ⟨n, k, sv, e⟩ := cells_vote h
  obtain ⟨xs, m, _, _, hsz, hxl, hi⟩ := DataW.trod_struct Try.underlying40 h
  have cB : Try.prog.cellsOf 38 = 1 := by kernel_rfl
  have h3 : DataW.trod enc Try.prog W 0 (fun _ => true) true m 38 ((cs.drop 67).take (Try.prog.cellsOf 38)) = xs[3]? := hi 3 _ rfl
  have hx2 : xs.length = 4 := hxl
  rw [List.getElem?_eq_getElem (by omega), cB] at h3
  obtain ⟨A, s, c, p3, hr, hc, _⟩ := cells_bytes1 h3
  have e2 : cs = vtC n k sv := by rw [e]; unfold vtw; rw [rowV_list]; rfl
  have e67 : cs[67]? = some (.slice A s.length c) := by
    have : ((cs.drop 67).take 1)[0]? = some (.slice A s.length c) := by rw [p3]; rfl
    simpa using this
  have e3 : cs[67]? = some sv := by rw [e2]; unfold vtC; rw [List.getElem?_map, List.getElem?_range (by omega)]; rfl
  rw [e67] at e3
  injection e3 with e3
  exact ⟨n, k, A, s, c, by rw [e2, ← e3], hr⟩
/-- A signed vote's cells, wherever they stand. -/
theorem cells_sg {fuel : Nat} {cs : List Value} {x : DataW H × List MemPlace} (h : DataW.trod enc Try.prog W 0 (fun _ => true) true fuel 42 cs = some x) :
    ∃ (v : Sv) (B : Option Addr) (c : Nat), cs = sgC (v.sg B c) ∧ Rd W 0 W.heap.size B v.s := by
  obtain ⟨xs, m, _, _, hsz, hxl, hi⟩ := DataW.trod_struct Try.underlying42 h
  have c101 : Try.prog.cellsOf 42 = 101 := by kernel_rfl
  have c68 : Try.prog.cellsOf 40 = 68 := by kernel_rfl
  have c1 : Try.prog.cellsOf 35 = 1 := by kernel_rfl
  rw [c101] at hsz
  have h0 : DataW.trod enc Try.prog W 0 (fun _ => true) true m 40 ((cs.drop 0).take (Try.prog.cellsOf 40)) = xs[0]? := hi 0 _ rfl
  have h1 : DataW.trod enc Try.prog W 0 (fun _ => true) true m 24 ((cs.drop 68).take (Try.prog.cellsOf 24)) = xs[1]? := hi 1 _ rfl
  have h2 : DataW.trod enc Try.prog W 0 (fun _ => true) true m 35 ((cs.drop 100).take (Try.prog.cellsOf 35)) = xs[2]? := hi 2 _ rfl
  have hx2 : xs.length = 3 := hxl
  rw [List.getElem?_eq_getElem (by omega)] at h0 h1 h2
  rw [c68] at h0
  rw [cells_hash] at h1
  rw [c1] at h2
  obtain ⟨n, k, A, s, c, ev, hr⟩ := cells_vtk h0
  have hb := cells_bytes Try.underlying24 h1
  obtain ⟨l, hl, el⟩ := row_of_cells (n := 32) (cs := ((cs.drop 68).take 32).toArray) (by simp [hsz]) (fun i hi => by simpa using hb i hi)
  obtain ⟨z, ez, _, wz⟩ := DataW.trod_int Try.underlying35 h2
  have hz : 0 ≤ z ∧ z ≤ 18446744073709551615 := by simpa [Lit.wf, IntKind.min, IntKind.max, IntKind.signed, IntKind.bits] using wz
  obtain ⟨st, rfl⟩ := Int.eq_ofNat_of_zero_le hz.1
  refine ⟨⟨n, k, s, ⟨l, hl⟩, st, by omega⟩, A, c, ?_, hr⟩
  unfold sgC
  apply List.ext_getElem?
  intro i
  by_cases hi101 : i < 101
  · rw [List.getElem?_map, List.getElem?_range hi101]
    show _ = some (sgf (Sv.sg _ A c) i)
    unfold sgf Sv.sg
    by_cases i68 : i < 68
    · rw [if_pos i68]
      have := congrArg (fun (A : List Value) => A[i]?) ev
      simp only [List.drop_zero] at this
      rw [List.getElem?_take, if_pos i68] at this
      rw [this]
      unfold vtC
      rw [List.getElem?_map, List.getElem?_range i68]
      rfl
    · rw [if_neg i68]
      by_cases i100 : i < 100
      · rw [if_pos i100]
        have := congrArg (fun (A : Array Value) => A[i - 68]?) el
        simp only [List.getElem?_toArray] at this
        rw [List.getElem?_take, if_pos (by omega), List.getElem?_drop, show 68 + (i - 68) = i by omega] at this
        rw [this, rowV_at 32 _ (i - 68) (by omega)]
      · rw [if_neg i100]
        obtain rfl : i = 100 := by omega
        have : ((cs.drop 100).take 1)[0]? = some (.int .u64 (st : Int)) := by rw [show (cs.drop 100).take 1 = [.int .u64 (st : Int)] from ez]; rfl
        simpa using this
  · rw [List.getElem?_eq_none (by omega), List.getElem?_eq_none (by simp; omega)]
theorem choose_list {α : Type} {p : Nat → α → Prop} : ∀ n, (∀ i, i < n → ∃ s, p i s) → ∃ L : List α, L.length = n ∧ ∀ (i : Nat) s, L[i]? = some s → p i s
  | 0, _ => ⟨[], rfl, fun i s h => by cases h⟩
  | n + 1, h => by
    obtain ⟨L, h1, h2⟩ := choose_list n (fun i hi => h i (by omega))
    obtain ⟨s, hs⟩ := h n (by omega)
    refine ⟨L ++ [s], by simp [h1], fun i t ht => ?_⟩
    by_cases hi : i < n
    · rw [List.getElem?_append_left (by omega)] at ht
      exact h2 i t ht
    · have hl : i < (L ++ [s]).length := (List.getElem?_eq_some_iff.1 ht).1
      rw [List.length_append, h1, List.length_singleton] at hl
      obtain rfl : i = n := by omega
      rw [List.getElem?_append_right (by omega), h1, Nat.sub_self] at ht
      injection ht with ht
      subst ht
      exact hs
theorem open_svs {base : Nat} {v : Value} {d : DataW H} {p : List MemPlace} (hv : Value.okWide Try.prog W .any base 22 v) (h : DataW.Trod enc Try.prog W 0 (fun _ => true) true 22 v d p) :
    ∃ (A : Option Addr) (L : List Sv) (c : Nat), v = .slice A L.length c ∧ SvsAt W A L := by
  obtain ⟨A, n, c, rfl⟩ := okWide_slice Try.underlying22 hv
  have hlt : ∀ x ∈ p, x.block < W.heap.size := by obtain ⟨m, hm⟩ := h; exact DataW.trod_lt m _ _ _ hm
  have hc66 : Try.prog.cellsOf 42 = 101 := by kernel_rfl
  obtain ⟨fuel, hf⟩ := h
  rcases open_slice Try.underlying22 hf with ⟨hcs, _⟩ | ⟨a, len, cap, m, f, D, Pl, hcs, _, hl, hm, hmm, hx, hi⟩
  · simp [Value.cells] at hcs
    obtain ⟨rfl, rfl, rfl⟩ := hcs
    exact ⟨none, [], 0, rfl, fun u _ i x h => by cases h⟩
  · simp [Value.cells] at hcs
    obtain ⟨rfl, rfl, rfl⟩ := hcs
    simp only [if_true] at hmm
    subst hmm
    rw [hc66] at hx hi
    obtain ⟨L, hLl, hL⟩ := choose_list (p := fun i (y : Sv) => ∃ (B : Option Addr) (bc : Nat), Rd W 0 W.heap.size B y.s ∧ ∀ j u, (sgC (y.sg B bc))[j]? = some u → W.cell? ((a.add (i * 101)).add j) = some u) n (fun i hin => by
      obtain ⟨cs, h1, h2⟩ := hi i (by omega)
      obtain ⟨y, B, bc, rfl, hr⟩ := cells_sg h2
      obtain ⟨_, hcl, hat⟩ := World.cells?_some h1
      refine ⟨y, B, bc, hr, fun j u hu => ?_⟩
      have hj : j < 101 := by rw [← sgC_len (y.sg B bc)]; exact (List.getElem?_eq_some_iff.1 hu).1
      exact (hat j hj).trans hu)
    refine ⟨some a, L, m, by rw [hLl], fun u hb i x hxi => ?_⟩
    have hn : i < L.length := (List.getElem?_eq_some_iff.1 hxi).1
    obtain ⟨b, off, spot⟩ := a
    obtain ⟨B0, c0, _, hL0⟩ := hL 0 _ (List.getElem?_eq_getElem (show 0 < L.length by omega))
    have hc0 := hL0 0 _ rfl
    have hspot : spot = none := by simpa [Addr.add] using World.cell?_spot hc0
    subst hspot
    have hadd : ∀ o i, (⟨b, o, none⟩ : Addr).add i = ⟨b, o + i, none⟩ := fun o i => by
      unfold Addr.add
      split
      · next h0 => subst h0; rfl
      · rfl
    have hbl : b < W.heap.size := by
      have := World.block_lt_of_cell? W _ hc0
      rwa [hadd, hadd] at this
    obtain ⟨B, bc, hr, hLi⟩ := hL i x hxi
    refine ⟨b, off, B, bc, rfl, fun j v hv => ?_, (hr.below hb (Nat.le_refl _)).wide (Nat.le_refl _) hb.size⟩
    have := hLi j v hv
    rw [hadd, hadd] at this
    exact (hb.cell (p := ⟨b, off + i * 101 + j, none⟩) hbl).trans this
end
end Go.Proofs.Ytomfgopmgfoecaa
