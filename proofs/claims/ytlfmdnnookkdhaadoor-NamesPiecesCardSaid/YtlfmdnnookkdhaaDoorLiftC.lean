/- From slices that can be read as data to what the walks ask of them: with each inner slice's room; slices of hashes. -/
import Derived.Test.YtlfmdnnookkdhaaDoorLaid
import Derived.Test.YtlfmdnnookkdhaaDoorPieces
import Derived.WalkKit
import Derived.ProofKit
import Derived.OpenShut
import Derived.ChangeOld
import Derived.ShutString
import Derived.Deep.Slices
namespace Go.Proofs.YtlfmdnnookkdhaaDoor
open Go.ChangeShapes Go.WideShapes Go.ChangeAt Go.RowKit Go.Deep
set_option linter.unusedVariables false

/-- Numbers of bytes as bytes. -/
def bytesOf (zs : List Int) : List UInt8 := zs.map fun z => UInt8.ofNat z.toNat
theorem bytesOf_length (zs : List Int) : (bytesOf zs).length = zs.length := by simp [bytesOf]
theorem bv_of (z : Int) (h : (Lit.int .u8 z).wf = true) : bv (UInt8.ofNat z.toNat) = .int .u8 z := by
  have hz : 0 ≤ z ∧ z ≤ 255 := by simpa [Lit.wf, IntKind.min, IntKind.max, IntKind.signed, IntKind.bits] using h
  unfold bv
  rw [UInt8.toNat_ofNat']
  congr 1
  show ((z.toNat % 256 : Nat) : Int) = z
  omega
section
variable {H : Type} {enc : TypeId × Value → H} {W : World}
/-- A slice of bytes that came in. -/
theorem rd_of_ints {a : Addr} {len : Nat} {zs : List Int} (hb : a.block < W.heap.size ∨ len = 0) (hl : len ≤ zs.length) (hcell : ∀ i, i < zs.length → W.cell? (a.add i) = some (.int .u8 (zs.getD i 0))) (hwz : ∀ n ∈ zs, (Lit.int .u8 n).wf = true) :
    Rd W 0 W.heap.size (some a) (bytesOf (zs.take len)) := fun hn => by
  rw [bytesOf_length, List.length_take] at hn
  obtain ⟨b, off, spot⟩ := a
  have hc0 := hcell 0 (by omega)
  have hspot : spot = none := by simpa [Addr.add] using World.cell?_spot hc0
  subst hspot
  refine ⟨b, off, rfl, Nat.zero_le _, ?_, fun j x hx => ?_⟩
  · rcases hb with hb | hb
    · exact hb
    · omega
  · have hj : j < len := by
      rcases Nat.lt_or_ge j (bytesOf (zs.take len)).length with h | h
      · rw [bytesOf_length, List.length_take] at h; omega
      · rw [List.getElem?_eq_none h] at hx; cases hx
    have hj2 : j < zs.length := by omega
    have hadd : (⟨b, off, none⟩ : Addr).add j = ⟨b, off + j, none⟩ := by
      unfold Addr.add
      split
      · next h0 => subst h0; rfl
      · rfl
    have h1 := hcell j hj2
    rw [hadd] at h1
    rw [h1]
    have h2 : zs.getD j 0 = zs[j] := by simp [List.getD, List.getElem?_eq_getElem hj2]
    rw [h2]
    unfold bytesOf at hx
    rw [List.getElem?_map, List.getElem?_take, if_pos hj, List.getElem?_eq_getElem hj2] at hx
    injection hx with hx
    rw [← hx, bv_of _ (hwz _ (List.getElem_mem hj2))]

end
section
variable {H : Type} {enc : TypeId × Value → H} {W : World}
/-- One slice of bytes inside another. -/
theorem open_inner {fuel : Nat} {v : Value} {x : DataW H × List MemPlace} (h : DataW.trod enc Tryd.prog W 0 (fun _ => true) true fuel 25 [v] = some x) :
    ∃ pc : Pc, v = .slice pc.1 pc.2.2.length pc.2.1 ∧ Rd W 0 W.heap.size pc.1 pc.2.2 ∧ pc.2.2.length ≤ pc.2.1 := by
  have hlt : ∀ y ∈ x.2, y.block < W.heap.size := DataW.trod_lt fuel _ _ _ h
  rcases open_ints Tryd.underlying25 Tryd.underlying5 (by kernel_rfl) h with ⟨hcs, _⟩ | ⟨a, len, cap, zs, hcs, _, hl, hm, hz, hx, hcell, hwz⟩
  · injection hcs with hcs
    subst hcs
    exact ⟨(none, 0, []), rfl, Rd.nil, Nat.le_refl _⟩
  · injection hcs with hcs
    subst hcs
    simp only [if_true] at hz
    have e : (bytesOf (zs.take len)).length = len := by rw [bytesOf_length, List.length_take]; omega
    refine ⟨(some a, cap, bytesOf (zs.take len)), by rw [e], rd_of_ints ?_ (by omega) hcell hwz, by rw [e]; exact hl⟩
    rcases Nat.eq_zero_or_pos len with h0 | h0
    · exact .inr h0
    · left
      refine hlt (.cell a.block a.off) ?_
      rw [hx]
      exact List.mem_map.2 ⟨0, List.mem_range.2 (by omega), rfl⟩

theorem choose_list {p : Nat → Pc → Prop} (n : Nat) (h : ∀ i, i < n → ∃ y, p i y) : ∃ L : List Pc, L.length = n ∧ ∀ i y, L[i]? = some y → p i y := by
  induction n with
  | zero => exact ⟨[], rfl, fun i y hy => by simp at hy⟩
  | succ n ih =>
    obtain ⟨L, hl, hL⟩ := ih (fun i hi => h i (by omega))
    obtain ⟨y, hy⟩ := h n (by omega)
    refine ⟨L ++ [y], by simp [hl], fun i z hz => ?_⟩
    rw [List.getElem?_append] at hz
    split at hz
    · exact hL i z hz
    · have : i = n := by
        rcases Nat.lt_or_ge (i - L.length) 1 with h1 | h1
        · omega
        · rw [List.getElem?_eq_none (by simpa using h1)] at hz; cases hz
      subst this
      rw [hl, Nat.sub_self] at hz
      injection hz with hz
      subst hz
      exact hy

theorem open_rows {base : Nat} {v : Value} {d : DataW H} {p : List MemPlace} (hv : Value.okWide Tryd.prog W .any base 22 v) (h : DataW.Trod enc Tryd.prog W 0 (fun _ => true) true 22 v d p) :
    ∃ (A : Option Addr) (L : List Pc) (c : Nat), v = .slice A L.length c ∧ RdL W W.heap.size A L ∧ L.length ≤ 9223372036854775807 ∧ ∀ x ∈ L, x.2.2.length ≤ x.2.1 := by
  obtain ⟨A, n, c, rfl⟩ := okWide_slice Tryd.underlying22 hv
  have hlt : ∀ x ∈ p, x.block < W.heap.size := by obtain ⟨m, hm⟩ := h; exact DataW.trod_lt m _ _ _ hm
  obtain ⟨fuel, hf⟩ := h
  rcases open_slice1 Tryd.underlying22 (by kernel_rfl) hf with ⟨hcs, _⟩ | ⟨a, len, cap, m, f, V, D, Pl, hcs, _, hl, hm, hmm, hx, hi⟩
  · simp [Value.cells] at hcs
    obtain ⟨rfl, rfl, rfl⟩ := hcs
    exact ⟨none, [], 0, rfl, ⟨fun h => absurd h (by simp), fun x hx => by cases hx⟩, by simp, fun x hx => by cases hx⟩
  · simp [Value.cells] at hcs
    obtain ⟨rfl, rfl, rfl⟩ := hcs
    simp only [if_true] at hmm
    subst hmm
    obtain ⟨L, hLl, hL⟩ := choose_list (p := fun i pc => W.cell? (a.add i) = some (.slice pc.1 pc.2.2.length pc.2.1) ∧ Rd W 0 W.heap.size pc.1 pc.2.2 ∧ pc.2.2.length ≤ pc.2.1) n (fun i hin => by
      obtain ⟨h1, h2⟩ := hi i (by omega)
      obtain ⟨pc, e, hr⟩ := open_inner h2
      exact ⟨pc, by rw [h1, e], hr⟩)
    refine ⟨some a, L, m, by rw [hLl], ⟨fun hn => ?_, fun x hx => ?_⟩, by rw [hLl]; simp only [maxLen] at hm; omega, fun x hx => ?_⟩
    · obtain ⟨b, off, spot⟩ := a
      have hc0 := (hL 0 _ (List.getElem?_eq_getElem hn)).1
      have hspot : spot = none := by simpa [Addr.add] using World.cell?_spot hc0
      subst hspot
      refine ⟨b, off, rfl, ?_, fun j x hx => ?_⟩
      · refine hlt (.cell b off) ?_
        have hp : p = MemPlace.row ⟨b, off, none⟩ m ++ (List.range m).flatMap Pl := by injection hx
        rw [hp]
        exact List.mem_append_left _ (List.mem_map.2 ⟨0, List.mem_range.2 (by omega), rfl⟩)
      · have h1 := (hL j x hx).1
        have hadd : (⟨b, off, none⟩ : Addr).add j = ⟨b, off + j, none⟩ := by
          unfold Addr.add
          split
          · next h0 => subst h0; rfl
          · rfl
        rwa [hadd] at h1
    · obtain ⟨j, hj, rfl⟩ := List.getElem_of_mem hx
      exact (hL j _ (List.getElem?_eq_getElem hj)).2.1
    · obtain ⟨j, hj, rfl⟩ := List.getElem_of_mem hx
      exact (hL j _ (List.getElem?_eq_getElem hj)).2.2
end
end Go.Proofs.YtlfmdnnookkdhaaDoor
