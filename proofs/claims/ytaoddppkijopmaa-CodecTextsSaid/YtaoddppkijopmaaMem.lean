/- Words for memory: a slice that reads as a list of bytes; a slice of the call's own; a reader's state. -/
import Derived.Test.YtaoddppkijopmaaRows
import Derived.Below
import Derived.Laws.OwnMore
import Derived.Deep.AppendLies
import Derived.Deep.Draws
import Derived.Laws.Rows
import Derived.Maps.AppendAt
import Derived.OwnWalk
namespace Go.Proofs.Ytaoddppkijopmaa
open Go.RowKit
set_option linter.unusedVariables false

/-- A byte as a cell holds it. -/
def bv (x : UInt8) : Value := .int .u8 (x.toNat : Int)
theorem bv_one (l : List UInt8) : ∀ u ∈ l.map bv, u.oneCell' = true := by
  intro u hu
  obtain ⟨x, _, rfl⟩ := List.mem_map.1 hu
  rfl
theorem bv_inj {x y : UInt8} (h : bv x = bv y) : x = y := by
  unfold bv at h
  injection h with _ h
  exact UInt8.toNat_inj.1 (by omega)

/-- The slice at A reads as l, in a block from lo on and below hi. -/
def Rd (w : World) (lo hi : Nat) (A : Option Addr) (l : List UInt8) : Prop :=
  0 < l.length → ∃ b off, A = some ⟨b, off, none⟩ ∧ lo ≤ b ∧ b < hi ∧ ∀ j x, l[j]? = some x → w.cell? ⟨b, off + j, none⟩ = some (bv x)

/-- The slice at A is a block's beginning, the block of bytes from lo on, and reads as l. -/
def Ow (w : World) (lo : Nat) (A : Option Addr) (l : List UInt8) : Prop :=
  0 < l.length → ∃ b cur, A = some ⟨b, 0, none⟩ ∧ lo ≤ b ∧ b < w.heap.size ∧ w.heap[b]? = some (.cells cur 5 (0, 0)) ∧ cur.toList.take l.length = l.map bv

section
variable {w w' : World} {lo hi lo' hi' : Nat} {A : Option Addr} {l : List UInt8}
theorem Rd.nil : Rd w lo hi A [] := fun h => absurd h (by simp)
theorem Rd.keep (h : Rd w lo hi A l) (hk : ∀ p : Addr, lo ≤ p.block → p.block < hi → w'.cell? p = w.cell? p) : Rd w' lo hi A l := fun hn => by
  obtain ⟨b, off, e, h1, h2, hc⟩ := h hn
  exact ⟨b, off, e, h1, h2, fun j x hx => (hk _ h1 h2).trans (hc j x hx)⟩
theorem Rd.wide (h : Rd w lo hi A l) (h1 : lo' ≤ lo) (h2 : hi ≤ hi') : Rd w lo' hi' A l := fun hn => by
  obtain ⟨b, off, e, h3, h4, hc⟩ := h hn
  exact ⟨b, off, e, by omega, by omega, hc⟩
theorem Rd.below {B : Nat} (h : Rd w lo hi A l) (hb : Below B w w') (hB : hi ≤ B) : Rd w' lo hi A l := h.keep fun _ _ hp => hb.cell (by omega)
theorem Rd.grown {row : Option Nat} (h : Rd w lo hi A l) (hg : w.grownBy w' row) (hB : hi ≤ w.heap.size) (hr : ∀ g, row = some g → g < lo ∨ hi ≤ g) : Rd w' lo hi A l :=
  h.keep fun p h1 h2 => World.cell?_of_block (hg.block p.block (by omega) (fun e => by rcases hr _ e.symm with h | h <;> omega))
theorem Rd.alloc (h : Rd w lo hi A l) (hB : hi ≤ w.heap.size) (o : Obj) : Rd (w.alloc o) lo hi A l := h.keep fun p _ hp => World.cell?_alloc_lt w o p (by omega)
theorem Rd.setCell (h : Rd w lo hi A l) {p : Addr} (hB : hi ≤ p.block) (u : Value) : Rd (w.setCell p u) lo hi A l :=
  h.keep fun q _ hq => World.cell?_setCell_other w p q u (fun e => by subst e; omega)
theorem Rd.take (h : Rd w lo hi A l) (k : Nat) : Rd w lo hi A (l.take k) := fun hn => by
  obtain ⟨b, off, e, h1, h2, hc⟩ := h (by simp at hn; omega)
  refine ⟨b, off, e, h1, h2, fun j x hx => hc j x ?_⟩
  rw [List.getElem?_take] at hx
  split at hx
  · exact hx
  · cases hx
theorem Rd.drop (h : Rd w lo hi A l) {k cap : Nat} (hc : l.length ≤ cap) : Rd w lo hi (if cap = k then A else A.map (·.add k)) (l.drop k) := fun hn => by
  simp at hn
  obtain ⟨b, off, e, h1, h2, hcell⟩ := h (by omega)
  subst e
  rw [if_neg (by omega)]
  by_cases hk : k = 0
  · subst hk
    exact ⟨b, off, by simp [Addr.add], h1, h2, by simpa using hcell⟩
  · refine ⟨b, off + k, by simp [Addr.add, hk], h1, h2, fun j x hx => ?_⟩
    rw [List.getElem?_drop] at hx
    have := hcell (k + j) x hx
    rw [show off + k + j = off + (k + j) by omega]
    exact this
theorem Rd.at_ (h : Rd w lo hi A l) {k : Nat} (hk : k < l.length) : ∃ b off, A = some ⟨b, off, none⟩ ∧ lo ≤ b ∧ b < hi ∧ w.cell? ⟨b, off + k, none⟩ = some (bv l[k]) := by
  obtain ⟨b, off, e, h1, h2, hc⟩ := h (by omega)
  exact ⟨b, off, e, h1, h2, hc k _ (List.getElem?_eq_getElem hk)⟩
theorem Ow.nil : Ow w lo A [] := fun h => absurd h (by simp)
theorem Ow.rd (h : Ow w lo A l) : Rd w lo w.heap.size A l := fun hn => by
  obtain ⟨b, cur, e, h1, h2, hb, hc⟩ := h hn
  refine ⟨b, 0, e, h1, h2, fun j x hx => ?_⟩
  rw [Nat.zero_add]
  have : w.cell? ⟨b, j, none⟩ = cur[j]? := cell_of_row w b j cur _ (0, 0) hb
  rw [this]
  have hj : (l.map bv)[j]? = some (bv x) := by rw [List.getElem?_map, hx]; rfl
  rw [← hc, List.getElem?_take] at hj
  split at hj
  · rw [← hj, Array.getElem?_toList]
  · cases hj
theorem Ow.below {B : Nat} (h : Ow w lo A l) (hb : Below B w w') (hB : w.heap.size ≤ B) : Ow w' lo A l := fun hn => by
  obtain ⟨b, cur, e, h1, h2, hh, hc⟩ := h hn
  exact ⟨b, cur, e, h1, Nat.lt_of_lt_of_le h2 hb.size, (hb.block b (by omega)).trans hh, hc⟩
theorem Ow.grown {row : Option Nat} (h : Ow w lo A l) (hg : w.grownBy w' row) (hr : ∀ g, row = some g → g < lo) : Ow w' lo A l := fun hn => by
  obtain ⟨b, cur, e, h1, h2, hh, hc⟩ := h hn
  exact ⟨b, cur, e, h1, Nat.lt_of_lt_of_le h2 hg.size, (hg.block b h2 (fun e => by have := hr _ e.symm; omega)).trans hh, hc⟩
theorem Ow.wide (h : Ow w lo A l) (h1 : lo' ≤ lo) : Ow w lo' A l := fun hn => by
  obtain ⟨b, cur, e, h3, h4, hc⟩ := h hn
  exact ⟨b, cur, e, by omega, h4, hc⟩
theorem Ow.of_own {base n c : Nat} (h : w.ownsRow base 5 1 (.slice A n c) n (l.map bv)) : Ow w base A l ∧ n = l.length ∧ n ≤ c := by
  have hl : n = l.length := by have := h.1; simp at this; omega
  subst hl
  rcases h.2 with ⟨hv, hn⟩ | ⟨g, cap, cur, hv, h1, h2, h3, h4, h5, h6⟩
  · injection hv with _ h2 h3
    subst h3
    exact ⟨fun h0 => absurd h0 (by omega), rfl, by omega⟩
  · injection hv with hA _ hc
    subst hA
    subst hc
    have hlt : g < w.heap.size := by
      rcases Nat.lt_or_ge g w.heap.size with hlt | hge
      · exact hlt
      · rw [Array.getElem?_eq_none hge] at h2; cases h2
    exact ⟨fun _ => ⟨g, cur, rfl, h1, hlt, h2, by simpa using h6⟩, rfl, h3⟩
/-- An owned row's value is a slice. -/
theorem own_form {base n : Nat} {v : Value} {xs : List Value} (h : w.ownsRow base 5 1 v n xs) : ∃ A c, v = .slice A n c ∧ (v.ownBlock = none ∨ ∃ g, v.ownBlock = some g ∧ base ≤ g ∧ g < w.heap.size) := by
  rcases h.2 with ⟨rfl, rfl⟩ | ⟨g, cap, cur, rfl, h1, _⟩
  · exact ⟨none, 0, rfl, .inl rfl⟩
  · exact ⟨_, cap, rfl, .inr ⟨g, rfl, h.lt g rfl⟩⟩
end

section
variable {P : Program} (w : World)
/-- append(v, s...) where v is the call's own, or nil, and s reads as l, nil or not. -/
theorem run_append_rd (base : Nat) (t ty e : TypeId) (i : TypeInfo) (z : Value) (ht : P.underlying t = some (.slice e)) (hi : P.info? e = some i) (hz : i.zero = some z)
    (hsize : i.size = 1) (hby : i.bytes = 1) (hzs : z.cells.size = 1)
    (v : Value) (n : Nat) (xs : List Value) (hown : w.ownsRow base e 1 v n xs)
    (lo hi' : Nat) (A : Option Addr) (c : Nat) (l : List UInt8) (hr : Rd w lo hi' A l) (h63 : n + l.length ≤ 140737488355328) (hbase : base ≤ w.heap.size) :
    ∃ v' w', (Builtin.append_ #[t, t] ty #[v, .slice A l.length c]).run P w = .ok v' w' ∧ w'.ownsRow base e 1 v' (n + l.length) (xs ++ l.map bv) ∧ w.grownBy w' v.ownBlock ∧
      (v'.ownBlock = v.ownBlock ∨ v'.ownBlock = some w.heap.size) := by
  rcases A with _ | ad
  · have hl : l = [] := by
      rcases l with _ | ⟨x, l⟩
      · rfl
      · obtain ⟨b, off, e, _⟩ := hr (by simp)
        cases e
    subst hl
    refine ⟨v, w, ?_, by simpa using hown, World.grownBy.refl w _, .inl rfl⟩
    rcases hown.2 with ⟨rfl, rfl⟩ | ⟨g, cap, cur, rfl, _, _, hnc, _⟩
    · simp [Builtin.append_, run_underlying ht, sizeOf, typeInfo, hi, Builtin.lenOf, Builtin.firstCells]
    · simp [Builtin.append_, run_underlying ht, sizeOf, typeInfo, hi, Builtin.lenOf, Builtin.firstCells, hnc, storeCells]
  · have hc : ∀ j u, (l.map bv)[j]? = some u → w.cell? (ad.add j) = some u := by
      intro j u hu
      have hj : j < l.length := by
        rcases Nat.lt_or_ge j l.length with h | h
        · exact h
        · rw [List.getElem?_eq_none (by simpa using h)] at hu; cases hu
      obtain ⟨b, off, e, _, _, hcell⟩ := hr (by omega)
      injection e with e
      subst e
      rw [List.getElem?_map, List.getElem?_eq_getElem hj] at hu
      have := hcell j _ (List.getElem?_eq_getElem hj)
      have hadd : (⟨b, off, none⟩ : Addr).add j = ⟨b, off + j, none⟩ := by
        unfold Addr.add
        split
        · next h0 => subst h0; rfl
        · rfl
      rw [hadd, this]
      exact hu
    obtain ⟨v', w', hrun, h2, h3, _, h5⟩ := run_append_own_at (P := P) w base t ty e i z 1 1 ht hi hz hsize hby hzs (by omega) v n xs hown ad l.length c (l.map bv) (by simp) hc (bv_one l) (by simp only [maxLen]; omega) (by omega) hbase
    exact ⟨v', w', hrun, h2, h3, h5⟩

theorem wpList_append_rd {ops : Array Oper} {rest : List Oper} {o : Oper} {a : Act} {Q : Exit → Act → World → Prop} (hgd : o.guard = none) (s x : Operand) (t : TypeId)
    (ho : o.op = .call { callee := .builtin .append, args := #[s, x], argTypes := #[t, t] })
    (base : Nat) (e : TypeId) (i : TypeInfo) (z : Value) (ht : P.underlying t = some (.slice e)) (hi : P.info? e = some i) (hz : i.zero = some z)
    (hsize : i.size = 1) (hby : i.bytes = 1) (hzs : z.cells.size = 1)
    (v : Value) (n : Nat) (xs : List Value) (hs : a.eval s = v) (hown : w.ownsRow base e 1 v n xs)
    (lo hi' : Nat) (A : Option Addr) (c : Nat) (l : List UInt8) (hx : a.eval x = .slice A l.length c) (hr : Rd w lo hi' A l) (h63 : n + l.length ≤ 140737488355328) (hbase : base ≤ w.heap.size)
    (h : ∀ v' w', w'.ownsRow base e 1 v' (n + l.length) (xs ++ l.map bv) → w.grownBy w' v.ownBlock → (v'.ownBlock = v.ownBlock ∨ v'.ownBlock = some w.heap.size) → wpList P ops Q rest (a.put o.dst v') w') : wpList P ops Q (o :: rest) a w := by
  refine wpList_plain hgd fun K hK => ?_
  obtain ⟨v', w', hrun, h2, h3, h4⟩ := run_append_rd (P := P) w base t o.type e i z ht hi hz hsize hby hzs v n xs hown lo hi' A c l hr h63 hbase
  unfold Oper.wp execOp
  simp only [ho, resolve, invoke, builtin, Sem.run_bind, Sem.run_pure, Result.andThen_ok, List.map_toArray, List.map_cons, List.map_nil, hs, hx, hrun]
  exact hK _ _ (h v' w' h2 h3 h4)
end

theorem byte_info : (Try.prog.info? 5).map (fun i => (i.zero, i.size, i.bytes)) = some (some (.int .u8 0), 1, 1) := by kernel_rfl
end Go.Proofs.Ytaoddppkijopmaa
