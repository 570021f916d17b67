/- Slices of numbers: of the call's own, and what is appended to them. -/
import Derived.Test.YtkjlcfffalmgoaaCkKnown
import Derived.Maps.AppendAt
import Derived.Laws.OwnMore
namespace Go.Proofs.Ytkjlcfffalmgoaa
open Go.ChangeShapes Go.WideShapes Go.ChangeAt Go.RowKit
set_option linter.unusedVariables false
set_option maxRecDepth 100000

/-- A number as a cell holds it. -/
def uv (z : Nat) : Value := .int .u64 (z : Int)
theorem uv_one (l : List Nat) : ∀ u ∈ l.map uv, u.oneCell' = true := by
  intro u hu
  obtain ⟨x, _, rfl⟩ := List.mem_map.1 hu
  rfl
/-- A slice of the call's own that reads as L. -/
def OU (w : World) (base : Nat) (v : Value) (L : List Nat) : Prop := w.ownsRow base 22 1 v L.length (L.map uv)
section
variable {w w' : World} {base : Nat} {v : Value} {L : List Nat}
theorem OU.form (h : OU w base v L) : ∃ A c, v = .slice A L.length c ∧ L.length ≤ c := by
  rcases h.2 with ⟨rfl, h0⟩ | ⟨g, cap, cur, rfl, _, _, h3, _⟩
  · exact ⟨none, 0, by rw [h0], by omega⟩
  · exact ⟨_, cap, rfl, h3⟩
theorem OU.rd {A : Option Addr} {n c : Nat} (h : OU w base (.slice A n c) L) : RU w A L := fun i z hz => by
  have hl : i < L.length := (List.getElem?_eq_some_iff.1 hz).1
  have h0 := h
  unfold OU at h0
  rcases h.2 with ⟨e, h1⟩ | ⟨g, cap, cur, e, _⟩
  · omega
  · injection e with e1 e2 e3
    subst e1
    subst e2
    refine ⟨_, rfl, ?_⟩
    have := h0.cellAt i (by omega)
    rw [List.getElem?_map, hz] at this
    have e : (⟨g, 0, none⟩ : Addr).add i = ⟨g, i, none⟩ := by
      unfold Addr.add
      split
      · next h => subst h; rfl
      · simp
    rw [e]
    exact this
theorem OU.nil : OU w base (.slice none 0 0) [] := World.ownsRow_nil w base _ 1
theorem OU.lt (h : OU w base v L) : ∀ g, v.ownBlock = some g → base ≤ g ∧ g < w.heap.size := World.ownsRow.lt h
theorem OU.kept {r : Option Nat} (h : OU w base v L) (hg : w.grownBy w' r) (hne : ∀ g, v.ownBlock = some g → some g ≠ r) : OU w' base v L := by
  refine World.ownsRow.kept h hg ?_
  cases hv : v.ownBlock with
  | none => exact .inl rfl
  | some g => exact .inr (hne g hv)
theorem OU.keep (h : OU w base v L) (hk : ∀ g, v.ownBlock = some g → w'.heap[g]? = w.heap[g]?) : OU w' base v L := by
  refine ⟨h.1, h.2.imp id ?_⟩
  rintro ⟨g, cap, cur, rfl, h1, h2, h3⟩
  exact ⟨g, cap, cur, rfl, h1, (hk g rfl).trans h2, h3⟩
theorem OU.below {B : Nat} (h : OU w base v L) (hb : Below B w w') (hB : w.heap.size ≤ B) : OU w' base v L := h.keep fun g hg => hb.block g (Nat.lt_of_lt_of_le (h.lt g hg).2 hB)
end
theorem u64_info : (Try.prog.info? 22).map (fun i => (i.zero, i.size, i.bytes)) = some (some (.int .u64 0), 1, 8) := by kernel_rfl
theorem info_parts8 {P : Program} {t : TypeId} {z : Value} {s b : Nat} (h : (P.info? t).map (fun i => (i.zero, i.size, i.bytes)) = some (some z, s, b)) : ∃ i, P.info? t = some i ∧ i.zero = some z ∧ i.size = s ∧ i.bytes = b := by
  cases hi : P.info? t with
  | none => rw [hi] at h; cases h
  | some i =>
    rw [hi] at h
    simp only [Option.map_some, Option.some.injEq, Prod.mk.injEq] at h
    exact ⟨i, rfl, h.1, h.2.1, h.2.2⟩
/-- append(v, s...): v is the call's own, or nil. -/
theorem run_append_ru (w : World) (base : Nat) (ty : TypeId) (v : Value) (L : List Nat) (hown : OU w base v L) (A : Option Addr) (c n : Nat) (M : List Nat) (hn : n = M.length) (hr : RU w A M) (h63 : L.length + M.length ≤ 2000000000) (hbase : base ≤ w.heap.size) :
    ∃ v' w', (Builtin.append_ #[23, 23] ty #[v, .slice A n c]).run Try.prog w = .ok v' w' ∧ OU w' base v' (L ++ M) ∧ w.grownBy w' v.ownBlock ∧ (v'.ownBlock = v.ownBlock ∨ v'.ownBlock = some w.heap.size) := by
  obtain ⟨i, hi, hz, hs, hb⟩ := info_parts8 u64_info
  have ht := Try.underlying23
  subst hn
  have hown' : w.ownsRow base 22 1 v L.length (L.map uv) := hown
  rcases A with _ | ad
  · have hl : M = [] := by
      rcases M with _ | ⟨x, l⟩
      · rfl
      · obtain ⟨xa, e, _⟩ := hr 0 x rfl
        cases e
    subst hl
    refine ⟨v, w, ?_, by simpa using hown, World.grownBy.refl w _, .inl rfl⟩
    rcases hown'.2 with ⟨rfl, h0⟩ | ⟨g, cap, cur, rfl, _, _, hnc, _⟩
    · simp [Builtin.append_, run_underlying ht, sizeOf, typeInfo, hi, Builtin.lenOf, Builtin.firstCells]
    · simp [Builtin.append_, run_underlying ht, sizeOf, typeInfo, hi, Builtin.lenOf, Builtin.firstCells, hnc, storeCells]
  · have hc : ∀ j u, (M.map uv)[j]? = some u → w.cell? (ad.add j) = some u := by
      intro j u hu
      rw [List.getElem?_map, Option.map_eq_some_iff] at hu
      obtain ⟨z, hz, rfl⟩ := hu
      obtain ⟨xa, e, h⟩ := hr j z hz
      injection e with e
      subst e
      exact h
    obtain ⟨v', w', hrun, h2, h3, _, h5⟩ := run_append_own_at (P := Try.prog) w base 23 ty 22 i _ 1 8 ht hi hz hs hb rfl (by omega) v _ _ hown' ad M.length c (M.map uv) (by simp) hc (uv_one M) (by simp only [maxLen]; omega) (by omega) hbase
    refine ⟨v', w', hrun, ?_, h3, h5⟩
    unfold OU
    rw [List.length_append, List.map_append]
    exact h2
theorem wpList_append_ru {w : World} {ops : Array Oper} {rest : List Oper} {o : Oper} {a : Act} {Q : Exit → Act → World → Prop} (hgd : o.guard = none) (s x : Operand)
    (ho : o.op = .call { callee := .builtin .append, args := #[s, x], argTypes := #[23, 23] })
    (base : Nat) (v : Value) (L : List Nat) (hs : a.eval s = v) (hown : OU w base v L) (A : Option Addr) (c n : Nat) (M : List Nat) (hn : n = M.length) (hx : a.eval x = .slice A n c) (hr : RU w A M) (h63 : L.length + M.length ≤ 2000000000) (hbase : base ≤ w.heap.size)
    (h : ∀ v' w', OU w' base v' (L ++ M) → w.grownBy w' v.ownBlock → (v'.ownBlock = v.ownBlock ∨ v'.ownBlock = some w.heap.size) → wpList Try.prog ops Q rest (a.put o.dst v') w') : wpList Try.prog ops Q (o :: rest) a w := by
  refine wpList_plain hgd fun K hK => ?_
  obtain ⟨v', w', hrun, h2, h3, h4⟩ := run_append_ru w base o.type v L hown A c n M hn hr h63 hbase
  unfold Oper.wp execOp
  simp only [ho, resolve, invoke, builtin, Sem.run_bind, Sem.run_pure, Result.andThen_ok, List.map_toArray, List.map_cons, List.map_nil, hs, hx, hrun]
  exact hK _ _ (h v' w' h2 h3 h4)
/-- A slice of one number that a call lays. -/
theorem RU.one (w : World) (t : TypeId) (x : Nat) : RU (w.alloc (.cells #[.int .u64 (x : Int)] t)) (some ⟨w.heap.size, 0, none⟩) [x] := fun i z h => by
  have hb := heap_alloc_new w (.cells #[.int .u64 (x : Int)] t)
  refine ⟨_, rfl, ?_⟩
  match i, h with
  | 0, h => injection h with h; subst h; exact cell_of_row _ w.heap.size 0 _ _ (0, 0) hb
theorem RU.keep {w w' : World} {A : Option Addr} {L : List Nat} (h : RU w A L) (hk : ∀ p : Addr, (w.cell? p).isSome = true → w'.cell? p = w.cell? p) : RU w' A L := fun i z hz => by
  obtain ⟨xa, e, hc⟩ := h i z hz
  exact ⟨xa, e, (hk _ (by rw [hc]; rfl)).trans hc⟩
theorem RU.below {B : Nat} {w w' : World} {A : Option Addr} {L : List Nat} (h : RU w A L) (hb : Below B w w') (hB : w.heap.size ≤ B) : RU w' A L := fun i z hz => by
  obtain ⟨xa, e, hc⟩ := h i z hz
  exact ⟨xa, e, (hb.cell (Nat.lt_of_lt_of_le (World.block_lt_of_cell? w _ hc) hB)).trans hc⟩
end Go.Proofs.Ytkjlcfffalmgoaa
