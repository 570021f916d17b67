/- From a slice of slices of bytes that can be read as data to what the walks ask of it, with the form's own reach of what lies inside. -/
import Derived.Test.YtodfpgbgcenbgaaLift2
import Derived.SizedLaws
namespace Go.Proofs.Ytodfpgbgcenbgaa
open Go.ChangeShapes Go.WideShapes Go.ChangeAt Go.RowKit Go.Deep
set_option linter.unusedVariables false

theorem weights_in {H : Type} {P : Program} {e : TypeId} : ∀ {l : List (DataW H)} {d : DataW H}, d ∈ l → ∀ n ∈ d.weights P e, n ∈ DataW.weightsAll P e l
  | d' :: r, d, hd, n, hn => by
    rw [DataW.weightsAll, List.mem_append]
    rcases List.mem_cons.1 hd with rfl | h
    · exact .inl hn
    · exact .inr (weights_in h n hn)

section
variable {H : Type} {enc : TypeId × Value → H} {W : World}
/-- A piece's datum is among these, and has its length. -/
def InD (elems : List (DataW H)) (l : List UInt8) : Prop := l = [] ∨ ∃ e' sp', DataW.slice e' sp' ∈ elems ∧ e'.length = l.length
theorem InD.reach {ts : List TypeId} {ds : List (DataW H)} {elems spare : List (DataW H)} {l : List UInt8} (h : InD elems l) (hsz : (DataW.weightsEach Try.prog ts ds).all (· ≤ reachBytes) = true) {j : Nat}
    (ht : ts[j]? = some 22) (hd : ds[j]? = some (.slice elems spare)) : l.length ≤ 140737488355328 := by
  rcases h with rfl | ⟨e', sp', hm, hl⟩
  · simp
  · have h1 : (e'.length + sp'.length) * Try.prog.bytesOf 5 ≤ reachBytes := by
      refine of_decide_eq_true (List.all_eq_true.1 hsz _ (DataW.weights_mem_each ht hd _ ?_))
      simp only [DataW.weights, Try.underlying22, List.mem_cons, List.mem_append]
      exact .inr (.inl (weights_in hm _ (by simp [DataW.weights, Try.underlying24])))
    rw [show Try.prog.bytesOf 5 = 1 by kernel_rfl, reachBytes] at h1
    omega

theorem open_inner_d {fuel : Nat} {v : Value} {x : DataW H × List MemPlace} (h : DataW.trod enc Try.prog W 0 (fun _ => true) true fuel 24 [v] = some x) :
    ∃ pc : Pc, v = .slice pc.1 pc.2.2.length pc.2.1 ∧ Rd W 0 W.heap.size pc.1 pc.2.2 ∧ (pc.2.2 = [] ∨ ∃ e' sp', x.1 = DataW.slice e' sp' ∧ e'.length = pc.2.2.length) := by
  have hlt : ∀ y ∈ x.2, y.block < W.heap.size := DataW.trod_lt fuel _ _ _ h
  rcases open_ints Try.underlying24 Try.underlying5 (by kernel_rfl) h with ⟨hcs, _⟩ | ⟨a, len, cap, zs, hcs, _, hl, hm, hz, hx, hcell, hwz⟩
  · injection hcs with hcs
    subst hcs
    exact ⟨(none, 0, []), rfl, Rd.nil, .inl rfl⟩
  · injection hcs with hcs
    subst hcs
    simp only [if_true] at hz
    have e : (bytesOf (zs.take len)).length = len := by rw [bytesOf_length, List.length_take]; omega
    refine ⟨(some a, cap, bytesOf (zs.take len)), by rw [e], rd_of_ints ?_ (by omega) hcell hwz, .inr ⟨lits .u8 (zs.take len), lits .u8 (zs.drop len), by rw [hx], ?_⟩⟩
    · rcases Nat.eq_zero_or_pos len with h0 | h0
      · exact .inr h0
      · left
        refine hlt (.cell a.block a.off) ?_
        rw [hx]
        exact List.mem_map.2 ⟨0, List.mem_range.2 (by omega), rfl⟩
    · show (lits .u8 (zs.take len)).length = (bytesOf (zs.take len)).length
      rw [bytesOf_length]
      simp [lits]

theorem open_rows_d {base : Nat} {v : Value} {d : DataW H} {p : List MemPlace} (hv : Value.okWide Try.prog W .any base 22 v) (h : DataW.Trod enc Try.prog W 0 (fun _ => true) true 22 v d p) :
    ∃ (A : Option Addr) (L : List Pc) (c : Nat), v = .slice A L.length c ∧ RdL W W.heap.size A L ∧ L.length ≤ 9223372036854775807 ∧ (L = [] ∨ ∃ elems spare, d = .slice elems spare ∧ ∀ x ∈ L, InD elems x.2.2) := by
  obtain ⟨A, n, c, rfl⟩ := okWide_slice Try.underlying22 hv
  have hlt : ∀ x ∈ p, x.block < W.heap.size := by obtain ⟨m, hm⟩ := h; exact DataW.trod_lt m _ _ _ hm
  obtain ⟨fuel, hf⟩ := h
  rcases open_slice1 Try.underlying22 (by kernel_rfl) hf with ⟨hcs, _⟩ | ⟨a, len, cap, m, f, V, D, Pl, hcs, _, hl, hm, hmm, hx, hi⟩
  · simp [Value.cells] at hcs
    obtain ⟨rfl, rfl, rfl⟩ := hcs
    exact ⟨none, [], 0, rfl, ⟨fun h => absurd h (by simp), fun x hx => by cases hx⟩, by simp, .inl rfl⟩
  · simp [Value.cells] at hcs
    obtain ⟨rfl, rfl, rfl⟩ := hcs
    simp only [if_true] at hmm
    subst hmm
    obtain ⟨L, hLl, hL⟩ := choose_list (p := fun i pc => W.cell? (a.add i) = some (.slice pc.1 pc.2.2.length pc.2.1) ∧ Rd W 0 W.heap.size pc.1 pc.2.2 ∧ (pc.2.2 = [] ∨ ∃ e' sp', D i = DataW.slice e' sp' ∧ e'.length = pc.2.2.length)) n (fun i hin => by
      obtain ⟨h1, h2⟩ := hi i (by omega)
      obtain ⟨pc, e, hr, hd⟩ := open_inner_d h2
      exact ⟨pc, by rw [h1, e], hr, hd⟩)
    refine ⟨some a, L, m, by rw [hLl], ⟨fun hn => ?_, fun x hx => ?_⟩, by rw [hLl]; simp only [maxLen] at hm; omega, .inr ⟨(List.range n).map D, (List.range (m - n)).map fun j => D (n + j), by injection hx, fun x hx => ?_⟩⟩
    · obtain ⟨b, off, spot⟩ := a
      have hc0 := (hL 0 _ (List.getElem?_eq_getElem hn)).1
      have hspot : spot = none := by simpa [Addr.add] using World.cell?_spot hc0
      subst hspot
      refine ⟨b, off, rfl, ?_, fun j x hx => ?_⟩
      · refine hlt (.cell b off) ?_
        have hp : p = MemPlace.row ⟨b, off, none⟩ m ++ (List.range m).flatMap Pl := by injection hx
        rw [hp]
        exact List.mem_append_left _ (List.mem_map.2 ⟨0, List.mem_range.2 (by omega), rfl⟩)
      · have h1 := (hL j x hx).1
        have hadd : (⟨b, off, none⟩ : Addr).add j = ⟨b, off + j, none⟩ := by
          unfold Addr.add
          split
          · next h0 => subst h0; rfl
          · rfl
        rwa [hadd] at h1
    · obtain ⟨j, hj, rfl⟩ := List.getElem_of_mem hx
      exact (hL j _ (List.getElem?_eq_getElem hj)).2.1
    · obtain ⟨j, hj, rfl⟩ := List.getElem_of_mem hx
      rcases (hL j _ (List.getElem?_eq_getElem hj)).2.2 with h0 | ⟨e', sp', h1, h2⟩
      · exact .inl h0
      · exact .inr ⟨e', sp', List.mem_map.2 ⟨j, List.mem_range.2 (by omega), h1⟩, h2⟩
end
end Go.Proofs.Ytodfpgbgcenbgaa
