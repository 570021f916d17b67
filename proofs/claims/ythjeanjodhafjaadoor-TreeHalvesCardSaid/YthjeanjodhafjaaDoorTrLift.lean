/- From hashes, and a slice of hashes, that can be read as data to what the walks ask of them. -/
import Derived.Test.YthjeanjodhafjaaDoorTrKit
import Derived.Test.YthjeanjodhafjaaDoorLaid
import Derived.ChangeOld
import Derived.ShutString
import Derived.Deep.Slices
namespace Go.Proofs.YthjeanjodhafjaaDoor
open Go.ChangeShapes Go.WideShapes Go.ChangeAt Go.RowKit Go.Deep
set_option linter.unusedVariables false

/-- A hash by value that came in. -/
theorem open_hash {H : Type} {enc : TypeId × Value → H} {W : World} {base : Nat} {v : Value} {d : DataW H} {p : List MemPlace} (hv : Value.okWide Tryd.prog W .any base 25 v) (h : DataW.Trod enc Tryd.prog W 0 (fun _ => true) true 25 v d p) :
    ∃ l : List UInt8, l.length = 32 ∧ v = .agg (hashV l) := by
  have c4 : Tryd.prog.cellsOf 25 = 32 := by kernel_rfl
  have c1 : Tryd.prog.cellsOf 5 = 1 := by kernel_rfl
  simp only [Value.okWide, Tryd.underlying25] at hv
  obtain ⟨cs, rfl, hsz, _⟩ := hv
  rw [c4] at hsz
  obtain ⟨fuel, hf⟩ := h
  obtain ⟨xs, m, _, _, _, hxl, hi⟩ := DataW.trod_array Tryd.underlying25 hf
  rw [c1] at hi
  have key : ∀ i, i < 32 → ∃ x : UInt8, cs[i]? = some (bv x) := fun i hi4 => by
    have hy := hi i hi4
    rw [List.getElem?_eq_getElem (by omega)] at hy
    obtain ⟨a, ea, _, wa⟩ := DataW.trod_int Tryd.underlying5 hy
    have hz : 0 ≤ a ∧ a ≤ 255 := by simpa [Lit.wf, IntKind.min, IntKind.max, IntKind.signed, IntKind.bits] using wa
    refine ⟨UInt8.ofNat a.toNat, ?_⟩
    have e : bv (UInt8.ofNat a.toNat) = .int .u8 a := by
      unfold bv
      rw [UInt8.toNat_ofNat']
      congr 1
      show ((a.toNat % 256 : Nat) : Int) = a
      omega
    rw [e]
    have hd : (cs.toList.drop (i * 1)).take 1 = [.int .u8 a] := ea
    have : ((cs.toList.drop (i * 1)).take 1)[0]? = some (.int .u8 a) := by rw [hd]; rfl
    rw [List.getElem?_take, if_pos (by omega), List.getElem?_drop, Nat.mul_one, Nat.add_zero] at this
    simpa using this
  have key2 : ∀ i : Nat, ∃ x : UInt8, i < 32 → cs[i]? = some (bv x) := fun i => by
    by_cases h : i < 32
    · obtain ⟨x, hx⟩ := key i h
      exact ⟨x, fun _ => hx⟩
    · exact ⟨0, fun h' => absurd h' h⟩
  refine ⟨(List.range 32).map fun i => (key2 i).choose, by simp, congrArg Value.agg ?_⟩
  apply Array.ext_getElem?
  intro i
  by_cases h : i < 32
  · rw [(key2 i).choose_spec h]
    unfold hashV
    rw [rowV_at 32 _ i h]
    unfold hF
    rw [List.getD_eq_getElem?_getD, List.getElem?_map, List.getElem?_range h]
    rfl
  · rw [Array.getElem?_eq_none (by omega), Array.getElem?_eq_none (by unfold hashV; rw [rowV_size]; omega)]

section
variable {H : Type} {enc : TypeId × Value → H} {W : World}
/-- The cells of a hash. -/
theorem open_hash_cells {fuel : Nat} {cs : List Value} {x : DataW H × List MemPlace} (h : DataW.trod enc Tryd.prog W 0 (fun _ => true) true fuel 25 cs = some x) :
    ∃ l : List UInt8, l.length = 32 ∧ cs.length = 32 ∧ ∀ j, j < 32 → cs[j]? = some (bv (l.getD j 0)) := by
  have c4 : Tryd.prog.cellsOf 25 = 32 := by kernel_rfl
  have c1 : Tryd.prog.cellsOf 5 = 1 := by kernel_rfl
  obtain ⟨xs, m, _, _, hsz, hxl, hi⟩ := DataW.trod_array Tryd.underlying25 h
  rw [c1] at hi
  rw [c4] at hsz
  have key : ∀ i, i < 32 → ∃ x : UInt8, cs[i]? = some (bv x) := fun i hi4 => by
    have hy := hi i hi4
    rw [List.getElem?_eq_getElem (by omega)] at hy
    obtain ⟨a, ea, _, wa⟩ := DataW.trod_int Tryd.underlying5 hy
    have hz : 0 ≤ a ∧ a ≤ 255 := by simpa [Lit.wf, IntKind.min, IntKind.max, IntKind.signed, IntKind.bits] using wa
    refine ⟨UInt8.ofNat a.toNat, ?_⟩
    have e : bv (UInt8.ofNat a.toNat) = .int .u8 a := by
      unfold bv
      rw [UInt8.toNat_ofNat']
      congr 1
      show ((a.toNat % 256 : Nat) : Int) = a
      omega
    rw [e]
    have hd : (cs.drop (i * 1)).take 1 = [.int .u8 a] := ea
    have : ((cs.drop (i * 1)).take 1)[0]? = some (.int .u8 a) := by rw [hd]; rfl
    rwa [List.getElem?_take, if_pos (by omega), List.getElem?_drop, Nat.mul_one, Nat.add_zero] at this
  have key2 : ∀ i : Nat, ∃ x : UInt8, i < 32 → cs[i]? = some (bv x) := fun i => by
    by_cases h : i < 32
    · obtain ⟨x, hx⟩ := key i h
      exact ⟨x, fun _ => hx⟩
    · exact ⟨0, fun h' => absurd h' h⟩
  refine ⟨(List.range 32).map fun i => (key2 i).choose, by simp, hsz, fun j hj => ?_⟩
  rw [(key2 j).choose_spec hj, List.getD_eq_getElem?_getD, List.getElem?_map, List.getElem?_range hj]
  rfl

theorem choose_lists {p : Nat → List UInt8 → Prop} (n : Nat) (h : ∀ i, i < n → ∃ y, p i y) : ∃ L : List (List UInt8), L.length = n ∧ ∀ i y, L[i]? = some y → p i y := by
  induction n with
  | zero => exact ⟨[], rfl, fun i y hy => by simp at hy⟩
  | succ n ih =>
    obtain ⟨L, hl, hL⟩ := ih (fun i hi => h i (by omega))
    obtain ⟨y, hy⟩ := h n (by omega)
    refine ⟨L ++ [y], by simp [hl], fun i z hz => ?_⟩
    rw [List.getElem?_append] at hz
    split at hz
    · exact hL i z hz
    · have : i = n := by
        rcases Nat.lt_or_ge (i - L.length) 1 with h1 | h1
        · omega
        · rw [List.getElem?_eq_none (by simpa using h1)] at hz; cases hz
      subst this
      rw [hl, Nat.sub_self] at hz
      injection hz with hz
      subst hz
      exact hy

theorem open_hashes {base : Nat} {v : Value} {d : DataW H} {p : List MemPlace} (hv : Value.okWide Tryd.prog W .any base 22 v) (h : DataW.Trod enc Tryd.prog W 0 (fun _ => true) true 22 v d p) :
    ∃ (A : Option Addr) (L : List (List UInt8)) (c : Nat), v = .slice A L.length c ∧ RdH W W.heap.size A L ∧ L.length ≤ c ∧ c ≤ 9223372036854775807 ∧ ∀ x ∈ L, x.length = 32 := by
  have c4 : Tryd.prog.cellsOf 25 = 32 := by kernel_rfl
  obtain ⟨A, n, c, rfl⟩ := okWide_slice Tryd.underlying22 hv
  have hlt : ∀ x ∈ p, x.block < W.heap.size := by obtain ⟨m, hm⟩ := h; exact DataW.trod_lt m _ _ _ hm
  obtain ⟨fuel, hf⟩ := h
  rcases open_slice Tryd.underlying22 hf with ⟨hcs, _⟩ | ⟨a, len, cap, m, f, D, Pl, hcs, _, hl, hm, hmm, hx, hi⟩
  · simp [Value.cells] at hcs
    obtain ⟨rfl, rfl, rfl⟩ := hcs
    exact ⟨none, [], 0, rfl, fun h => absurd h (by simp), by simp, by simp, fun x hx => by cases hx⟩
  · simp [Value.cells] at hcs
    obtain ⟨rfl, rfl, rfl⟩ := hcs
    simp only [if_true] at hmm
    subst hmm
    rw [c4] at hi hx
    obtain ⟨L, hLl, hL⟩ := choose_lists (p := fun i l => l.length = 32 ∧ ∀ j, j < 32 → W.cell? ((a.add (i * 32)).add j) = some (bv (l.getD j 0))) n (fun i hin => by
      obtain ⟨cs', h1, h2⟩ := hi i (by omega)
      obtain ⟨l, e1, e2, e3⟩ := open_hash_cells h2
      obtain ⟨_, _, h4⟩ := World.cells?_some h1
      exact ⟨l, e1, fun j hj => by rw [h4 j hj, e3 j hj]⟩)
    refine ⟨some a, L, m, by rw [hLl], fun hn => ?_, by rw [hLl]; exact hl, by simp only [maxLen] at hm; omega, fun x hx => ?_⟩
    · obtain ⟨b, off, spot⟩ := a
      have hc0 := (hL 0 _ (List.getElem?_eq_getElem hn)).2 0 (by omega)
      have hspot : spot = none := by simpa [Addr.add] using World.cell?_spot hc0
      subst hspot
      refine ⟨b, off, rfl, ?_, fun k hk j y hy => ?_⟩
      · refine hlt (.cell b off) ?_
        have hp : p = MemPlace.row ⟨b, off, none⟩ (m * 32) ++ (List.range m).flatMap Pl := by injection hx
        rw [hp]
        exact List.mem_append_left _ (List.mem_map.2 ⟨0, List.mem_range.2 (by omega), rfl⟩)
      · rw [List.getD_eq_getElem?_getD, List.getElem?_eq_getElem hk] at hy
        obtain ⟨h32, h1⟩ := hL k _ (List.getElem?_eq_getElem hk)
        have hy' : (hC L[k])[j]? = some y := hy
        have hj : j < 32 := by
          rcases Nat.lt_or_ge j 32 with h | h
          · exact h
          · rw [List.getElem?_eq_none (by rw [hC_len]; exact h)] at hy'; cases hy'
        have h2 := h1 j hj
        have hadd : ((⟨b, off, none⟩ : Addr).add (k * 32)).add j = ⟨b, off + k * 32 + j, none⟩ := by
          rw [Addr.add_mid, Addr.add_mid]
        rw [hadd] at h2
        unfold hC hF at hy'
        rw [List.getElem?_map, List.getElem?_range hj] at hy'
        injection hy' with hy'
        rw [← hy']
        exact h2
    · obtain ⟨j, hj, rfl⟩ := List.getElem_of_mem hx
      exact (hL j _ (List.getElem?_eq_getElem hj)).1
end
end Go.Proofs.YthjeanjodhafjaaDoor
