/- From arguments that can be read as data to what the walks of layer 4 ask of them: bytes, numbers, steps. -/
import Derived.Test.YtcemfpbkaahcmaaSteps
import Derived.WalkKit
import Derived.ProofKit
import Derived.OpenShut
import Derived.ChangeOld
import Derived.ShutString
import Derived.Deep.Slices
import Derived.Deep.Fields
namespace Go.Proofs.Ytcemfpbkaahcmaa
open Go.ChangeShapes Go.WideShapes Go.ChangeAt Go.RowKit Go.Deep
set_option linter.unusedVariables false
set_option maxRecDepth 100000

theorem own_knob : ownKnob Try.prog.godebug = none := by kernel_rfl
theorem laid_out : laidOutB Try.prog = true := by kernel_rfl

/-- Numbers of bytes as bytes. -/
def bytesOf (zs : List Int) : List UInt8 := zs.map fun z => UInt8.ofNat z.toNat
theorem bytesOf_length (zs : List Int) : (bytesOf zs).length = zs.length := by simp [bytesOf]
theorem bv_of (z : Int) (h : (Lit.int .u8 z).wf = true) : bv (UInt8.ofNat z.toNat) = .int .u8 z := by
  have hz : 0 ≤ z ∧ z ≤ 255 := by simpa [Lit.wf, IntKind.min, IntKind.max, IntKind.signed, IntKind.bits] using h
  unfold bv
  rw [UInt8.toNat_ofNat']
  congr 1
  show ((z.toNat % 256 : Nat) : Int) = z
  omega

section
variable {H : Type} {enc : TypeId × Value → H} {W : World}
/-- A slice of bytes that came in. -/
theorem rd_of_ints {a : Addr} {len : Nat} {zs : List Int} (hb : a.block < W.heap.size ∨ len = 0) (hl : len ≤ zs.length) (hcell : ∀ i, i < zs.length → W.cell? (a.add i) = some (.int .u8 (zs.getD i 0))) (hwz : ∀ n ∈ zs, (Lit.int .u8 n).wf = true) :
    Rd W 0 W.heap.size (some a) (bytesOf (zs.take len)) := fun hn => by
  rw [bytesOf_length, List.length_take] at hn
  obtain ⟨b, off, spot⟩ := a
  have hc0 := hcell 0 (by omega)
  have hspot : spot = none := by simpa [Addr.add] using World.cell?_spot hc0
  subst hspot
  refine ⟨b, off, rfl, Nat.zero_le _, ?_, fun j x hx => ?_⟩
  · rcases hb with hb | hb
    · exact hb
    · omega
  · have hj : j < len := by
      rcases Nat.lt_or_ge j (bytesOf (zs.take len)).length with h | h
      · rw [bytesOf_length, List.length_take] at h; omega
      · rw [List.getElem?_eq_none h] at hx; cases hx
    have hj2 : j < zs.length := by omega
    have hadd : (⟨b, off, none⟩ : Addr).add j = ⟨b, off + j, none⟩ := by
      unfold Addr.add
      split
      · next h0 => subst h0; rfl
      · rfl
    have h1 := hcell j hj2
    rw [hadd] at h1
    rw [h1]
    have h2 : zs.getD j 0 = zs[j] := by simp [List.getD, List.getElem?_eq_getElem hj2]
    rw [h2]
    unfold bytesOf at hx
    rw [List.getElem?_map, List.getElem?_take, if_pos hj, List.getElem?_eq_getElem hj2] at hx
    injection hx with hx
    rw [← hx, bv_of _ (hwz _ (List.getElem_mem hj2))]

theorem open_bytes1 {base : Nat} {v : Value} {d : DataW H} {p : List MemPlace} (hv : Value.okWide Try.prog W .any base 33 v) (h : DataW.Trod enc Try.prog W 0 (fun _ => true) true 33 v d p) :
    ∃ (A : Option Addr) (l : List UInt8) (c : Nat), v = .slice A l.length c ∧ Rd W 0 W.heap.size A l ∧ l.length ≤ c ∧ c ≤ 9223372036854775807 := by
  obtain ⟨A, n, c, rfl⟩ := okWide_slice Try.underlying33 hv
  have hlt : ∀ x ∈ p, x.block < W.heap.size := by obtain ⟨m, hm⟩ := h; exact DataW.trod_lt m _ _ _ hm
  obtain ⟨fuel, hf⟩ := h
  rcases open_ints Try.underlying33 Try.underlying5 (by kernel_rfl) hf with ⟨hcs, _⟩ | ⟨x, len, cap, zs, hcs, _, hl, hm, hz, hx, hcell, hwz⟩
  · simp [Value.cells] at hcs
    obtain ⟨rfl, rfl, rfl⟩ := hcs
    exact ⟨none, [], 0, rfl, Rd.nil, by simp, by omega⟩
  · simp [Value.cells] at hcs
    obtain ⟨rfl, rfl, rfl⟩ := hcs
    simp only [if_true] at hz
    have e : (bytesOf (zs.take n)).length = n := by rw [bytesOf_length, List.length_take]; omega
    refine ⟨some x, bytesOf (zs.take n), c, by rw [e], rd_of_ints ?_ (by omega) hcell hwz, by rw [e]; exact hl, hm⟩
    rcases Nat.eq_zero_or_pos n with h0 | h0
    · exact .inr h0
    · left
      have hp : p = MemPlace.row x zs.length := by injection hx
      refine hlt (.cell x.block x.off) ?_
      rw [hp]
      exact List.mem_map.2 ⟨0, List.mem_range.2 (by omega), rfl⟩
/-- Numbers that came in. -/
theorem rdi_of_ints {a : Addr} {len : Nat} {zs : List Int} (hb : a.block < W.heap.size ∨ len = 0) (hl : len ≤ zs.length) (hcell : ∀ i, i < zs.length → W.cell? (a.add i) = some (.int .i64 (zs.getD i 0))) :
    RdI W W.heap.size (some a) (zs.take len) := fun hn => by
  rw [List.length_take] at hn
  obtain ⟨b, off, spot⟩ := a
  have hc0 := hcell 0 (by omega)
  have hspot : spot = none := by simpa [Addr.add] using World.cell?_spot hc0
  subst hspot
  refine ⟨b, off, rfl, ?_, fun j x hx => ?_⟩
  · rcases hb with hb | hb
    · exact hb
    · omega
  · have hj : j < len := by
      rcases Nat.lt_or_ge j (zs.take len).length with h | h
      · rw [List.length_take] at h; omega
      · rw [List.getElem?_eq_none h] at hx; cases hx
    have hj2 : j < zs.length := by omega
    have hadd : (⟨b, off, none⟩ : Addr).add j = ⟨b, off + j, none⟩ := by
      unfold Addr.add
      split
      · next h0 => subst h0; rfl
      · rfl
    have h1 := hcell j hj2
    rw [hadd] at h1
    rw [h1]
    rw [List.getElem?_take, if_pos hj, List.getElem?_eq_getElem hj2] at hx
    injection hx with hx
    rw [← hx]
    simp [List.getD, List.getElem?_eq_getElem hj2]
theorem open_bytes_cell {fuel : Nat} {v : Value} {x : DataW H × List MemPlace} (h : DataW.trod enc Try.prog W 0 (fun _ => true) true fuel 33 [v] = some x) :
    ∃ (A : Option Addr) (l : List UInt8) (c : Nat), v = .slice A l.length c ∧ Rd W 0 W.heap.size A l ∧ l.length ≤ c ∧ c ≤ maxLen := by
  have hlt : ∀ y ∈ x.2, y.block < W.heap.size := DataW.trod_lt fuel _ _ _ h
  rcases open_ints Try.underlying33 Try.underlying5 (by kernel_rfl) h with ⟨hcs, _⟩ | ⟨a, len, cap, zs, hcs, _, hl, hm, hz, hx, hcell, hwz⟩
  · injection hcs with hcs
    subst hcs
    exact ⟨none, [], 0, rfl, Rd.nil, by simp, by omega⟩
  · injection hcs with hcs
    subst hcs
    simp only [if_true] at hz
    have e : (bytesOf (zs.take len)).length = len := by rw [bytesOf_length, List.length_take]; omega
    refine ⟨some a, bytesOf (zs.take len), cap, by rw [e], rd_of_ints ?_ (by omega) hcell hwz, by rw [e]; exact hl, hm⟩
    rcases Nat.eq_zero_or_pos len with h0 | h0
    · exact .inr h0
    · left
      refine hlt (.cell a.block a.off) ?_
      rw [hx]
      exact List.mem_map.2 ⟨0, List.mem_range.2 (by omega), rfl⟩
theorem open_ints_cell {fuel : Nat} {v : Value} {x : DataW H × List MemPlace} (h : DataW.trod enc Try.prog W 0 (fun _ => true) true fuel 23 [v] = some x) :
    ∃ (A : Option Addr) (l : List Int) (c : Nat), v = .slice A l.length c ∧ RdI W W.heap.size A l ∧ l.length ≤ c ∧ c ≤ maxLen := by
  have hlt : ∀ y ∈ x.2, y.block < W.heap.size := DataW.trod_lt fuel _ _ _ h
  rcases open_ints Try.underlying23 Try.underlying3 (by kernel_rfl) h with ⟨hcs, _⟩ | ⟨a, len, cap, zs, hcs, _, hl, hm, hz, hx, hcell, hwz⟩
  · injection hcs with hcs
    subst hcs
    exact ⟨none, [], 0, rfl, fun h => absurd h (by simp), by simp, by omega⟩
  · injection hcs with hcs
    subst hcs
    simp only [if_true] at hz
    have e : (zs.take len).length = len := by rw [List.length_take]; omega
    refine ⟨some a, zs.take len, cap, by rw [e], rdi_of_ints ?_ (by omega) hcell, by rw [e]; exact hl, hm⟩
    rcases Nat.eq_zero_or_pos len with h0 | h0
    · exact .inr h0
    · left
      refine hlt (.cell a.block a.off) ?_
      rw [hx]
      exact List.mem_map.2 ⟨0, List.mem_range.2 (by omega), rfl⟩
theorem string_cell {s : ByteArray} : Value.string s = strV s.data.toList := by
  cases s; rfl
/-- One step. -/
theorem open_step {fuel : Nat} {cs : List Value} {x : DataW H × List MemPlace} (h : DataW.trod enc Try.prog W 0 (fun _ => true) true fuel 35 cs = some x) :
    ∃ s : Stp, cs = stepV s ∧ StepOk W W.heap.size s := by
  obtain ⟨xs, n, _, _, hl, hxl, hg⟩ := DataW.trod_struct Try.underlying35 h
  have hc7 : Try.prog.cellsOf 35 = 7 := by kernel_rfl
  have ci : Try.prog.cellsOf 3 = 1 := by kernel_rfl
  have cs1 : Try.prog.cellsOf 9 = 1 := by kernel_rfl
  have cb : Try.prog.cellsOf 33 = 1 := by kernel_rfl
  have cp : Try.prog.cellsOf 23 = 1 := by kernel_rfl
  rw [hc7] at hl
  match cs, hl with
  | [a0, a1, a2, a3, a4, a5, a6], _ =>
    have h0 : DataW.trod enc Try.prog W 0 (fun _ => true) true n 3 (([a0, a1, a2, a3, a4, a5, a6].drop 0).take (Try.prog.cellsOf 3)) = xs[0]? := hg 0 _ rfl
    have h1 : DataW.trod enc Try.prog W 0 (fun _ => true) true n 3 (([a0, a1, a2, a3, a4, a5, a6].drop 1).take (Try.prog.cellsOf 3)) = xs[1]? := hg 1 _ rfl
    have h2 : DataW.trod enc Try.prog W 0 (fun _ => true) true n 3 (([a0, a1, a2, a3, a4, a5, a6].drop 2).take (Try.prog.cellsOf 3)) = xs[2]? := hg 2 _ rfl
    have h3 : DataW.trod enc Try.prog W 0 (fun _ => true) true n 9 (([a0, a1, a2, a3, a4, a5, a6].drop 3).take (Try.prog.cellsOf 9)) = xs[3]? := hg 3 _ rfl
    have h4 : DataW.trod enc Try.prog W 0 (fun _ => true) true n 9 (([a0, a1, a2, a3, a4, a5, a6].drop 4).take (Try.prog.cellsOf 9)) = xs[4]? := hg 4 _ rfl
    have h5 : DataW.trod enc Try.prog W 0 (fun _ => true) true n 33 (([a0, a1, a2, a3, a4, a5, a6].drop 5).take (Try.prog.cellsOf 33)) = xs[5]? := hg 5 _ rfl
    have h6 : DataW.trod enc Try.prog W 0 (fun _ => true) true n 23 (([a0, a1, a2, a3, a4, a5, a6].drop 6).take (Try.prog.cellsOf 23)) = xs[6]? := hg 6 _ rfl
    rw [ci] at h0 h1 h2
    rw [cs1] at h3 h4
    rw [cb] at h5
    rw [cp] at h6
    have hx : ∀ i, i < 7 → ∃ y, xs[i]? = some y := fun i hi => ⟨_, List.getElem?_eq_getElem (by rw [hxl]; exact hi)⟩
    obtain ⟨y0, x0⟩ := hx 0 (by omega)
    obtain ⟨y1, x1⟩ := hx 1 (by omega)
    obtain ⟨y2, x2⟩ := hx 2 (by omega)
    obtain ⟨y3, x3⟩ := hx 3 (by omega)
    obtain ⟨y4, x4⟩ := hx 4 (by omega)
    obtain ⟨y5, x5⟩ := hx 5 (by omega)
    obtain ⟨y6, x6⟩ := hx 6 (by omega)
    obtain ⟨z0, e0, _⟩ := DataW.trod_int Try.underlying3 (h0.trans x0)
    obtain ⟨z1, e1, _, w1⟩ := DataW.trod_int Try.underlying3 (h1.trans x1)
    obtain ⟨z2, e2, _⟩ := DataW.trod_int Try.underlying3 (h2.trans x2)
    obtain ⟨s3, e3, _, w3⟩ := DataW.trod_string Try.underlying9 (h3.trans x3)
    obtain ⟨s4, e4, _, w4⟩ := DataW.trod_string Try.underlying9 (h4.trans x4)
    obtain ⟨A5, l5, c5, e5, r5, b5, m5⟩ := open_bytes_cell (v := a5) (h5.trans x5)
    obtain ⟨A6, l6, c6, e6, r6, b6, m6⟩ := open_ints_cell (v := a6) (h6.trans x6)
    simp only [List.drop_succ_cons, List.drop_zero, List.take_succ_cons, List.take_zero, List.cons.injEq, and_true] at e0 e1 e2 e3 e4
    subst e0 e1 e2 e3 e4 e5 e6
    refine ⟨⟨z0, z1, z2, s3.data.toList, s4.data.toList, A5, l5, c5, A6, l6, c6⟩, by rw [string_cell, string_cell]; rfl, ⟨r5, r6, b5, m5, b6, m6, by simpa using w3, by simpa using w4, ?_⟩⟩
    have hz : -9223372036854775808 ≤ z1 ∧ z1 ≤ 9223372036854775807 := by simpa [Lit.wf, IntKind.min, IntKind.max, IntKind.signed, IntKind.bits] using w1
    exact hz.2
theorem choose_steps {p : Nat → Stp → Prop} (n : Nat) (h : ∀ i, i < n → ∃ y, p i y) : ∃ L : List Stp, L.length = n ∧ ∀ i y, L[i]? = some y → p i y := by
  induction n with
  | zero => exact ⟨[], rfl, fun i y hy => by simp at hy⟩
  | succ n ih =>
    obtain ⟨L, hl, hL⟩ := ih (fun i hi => h i (by omega))
    obtain ⟨y, hy⟩ := h n (by omega)
    refine ⟨L ++ [y], by simp [hl], fun i z hz => ?_⟩
    rw [List.getElem?_append] at hz
    split at hz
    · exact hL i z hz
    · have : i = n := by
        rcases Nat.lt_or_ge (i - L.length) 1 with h1 | h1
        · omega
        · rw [List.getElem?_eq_none (by simpa using h1)] at hz; cases hz
      subst this
      rw [hl, Nat.sub_self] at hz
      injection hz with hz
      subst hz
      exact hy
theorem open_steps {base : Nat} {v : Value} {d : DataW H} {p : List MemPlace} (hv : Value.okWide Try.prog W .any base 22 v) (h : DataW.Trod enc Try.prog W 0 (fun _ => true) true 22 v d p) :
    ∃ (A : Option Addr) (L : List Stp) (c : Nat), v = .slice A L.length c ∧ RdS W W.heap.size A L ∧ L.length ≤ 9223372036854775807 := by
  obtain ⟨A, n, c, rfl⟩ := okWide_slice Try.underlying22 hv
  have hlt : ∀ x ∈ p, x.block < W.heap.size := by obtain ⟨m, hm⟩ := h; exact DataW.trod_lt m _ _ _ hm
  have hc7 : Try.prog.cellsOf 35 = 7 := by kernel_rfl
  obtain ⟨fuel, hf⟩ := h
  rcases open_slice Try.underlying22 hf with ⟨hcs, _⟩ | ⟨a, len, cap, m, f, D, Pl, hcs, _, hl, hm, hmm, hx, hi⟩
  · simp [Value.cells] at hcs
    obtain ⟨rfl, rfl, rfl⟩ := hcs
    exact ⟨none, [], 0, rfl, fun h => absurd h (by simp), by simp⟩
  · simp [Value.cells] at hcs
    obtain ⟨rfl, rfl, rfl⟩ := hcs
    simp only [if_true] at hmm
    subst hmm
    rw [hc7] at hx hi
    obtain ⟨L, hLl, hL⟩ := choose_steps (p := fun i s => StepOk W W.heap.size s ∧ ∀ j u, (stepV s)[j]? = some u → W.cell? ((a.add (i * 7)).add j) = some u) n (fun i hin => by
      obtain ⟨cs, h1, h2⟩ := hi i (by omega)
      obtain ⟨s, e, hok⟩ := open_step h2
      subst e
      obtain ⟨_, hcl, hat⟩ := World.cells?_some h1
      refine ⟨s, hok, fun j u hu => ?_⟩
      have hj : j < 7 := by
        rcases Nat.lt_or_ge j 7 with h | h
        · exact h
        · rw [List.getElem?_eq_none (by rw [hcl]; exact h)] at hu; cases hu
      exact (hat j hj).trans hu)
    refine ⟨some a, L, m, by rw [hLl], fun hn => ?_, by rw [hLl]; simp only [maxLen] at hm; omega⟩
    obtain ⟨b, off, spot⟩ := a
    have hc0 := (hL 0 _ (List.getElem?_eq_getElem hn)).2 0 _ rfl
    have hspot : spot = none := by simpa [Addr.add] using World.cell?_spot hc0
    subst hspot
    refine ⟨b, off, rfl, ?_, fun j x hx => ?_⟩
    · refine hlt (.cell b off) ?_
      have hp : p = MemPlace.row ⟨b, off, none⟩ (m * 7) ++ (List.range m).flatMap Pl := by injection hx
      rw [hp]
      exact List.mem_append_left _ (List.mem_map.2 ⟨0, List.mem_range.2 (by omega), rfl⟩)
    · obtain ⟨h1, h2⟩ := hL j x hx
      have hadd : ∀ o i, (⟨b, o, none⟩ : Addr).add i = ⟨b, o + i, none⟩ := fun o i => by
        unfold Addr.add
        split
        · next h0 => subst h0; rfl
        · rfl
      refine ⟨h1, fun i v hv => ?_⟩
      have := h2 i v hv
      rwa [hadd, hadd] at this
end
end Go.Proofs.Ytcemfpbkaahcmaa
