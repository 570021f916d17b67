/- A pool's store in memory. -/
import Derived.Test.YtomfgopmgfoecaaPoKit
namespace Go.Proofs.Ytomfgopmgfoecaa
open Go.ChangeMaps Go.MapKept Go.Maps Go.WideElems Go.RowKit
set_option linter.unusedVariables false
set_option maxRecDepth 100000

section
variable {w w' : World}
theorem turned_block {b : Nat} (h : w.mapTurned w' b) : (∀ k, k ≠ b → w'.heap[k]? = w.heap[k]?) ∧ w'.heap.size = w.heap.size ∧ (∃ es clock, w.heap[b]? = some (.map es clock)) := by
  obtain ⟨es, clock, es', clock', h1, rfl⟩ := h
  exact ⟨fun k hk => heap_setBlock_other h1 _ hk, by simp [setBlock], es, clock, h1⟩
theorem cells_ne {b k : Nat} {cs : Array Value} {t : TypeId} {fr : Nat × Nat} (h : w.heap[k]? = some (.cells cs t fr)) (hm : ∃ es clock, w.heap[b]? = some (.map es clock)) : k ≠ b := fun e => by
  subst e
  obtain ⟨es, clock, hm⟩ := hm
  rw [h] at hm
  injection hm with hm
  cases hm
theorem row_ne {b g base sz m : Nat} {t : TypeId} {v : Value} {xs : List Value} (h : w.ownsRow base t sz v m xs) (hg : v.ownBlock = some g) (hm : ∃ es clock, w.heap[b]? = some (.map es clock)) : g ≠ b := by
  obtain ⟨cur, hc⟩ := ownCells h hg
  exact cells_ne hc hm
theorem own_other {k g base sz m : Nat} {t t' : TypeId} {v : Value} {xs : List Value} {cs : Array Value} {fr : Nat × Nat} (h : w.ownsRow base t sz v m xs) (hg : v.ownBlock = some g) (hk : w.heap[k]? = some (.cells cs t' fr)) (ht : t' ≠ t) : g ≠ k := fun e => by
  subst e
  obtain ⟨cur, hc⟩ := ownCells h hg
  rw [hc] at hk
  injection hk with hk
  injection hk with _ hk
  exact ht hk.symm
theorem setCell_heap {g : Nat} {cs : Array Value} {t : TypeId} {v : Value} (h : w.heap[g]? = some (.cells cs t (0, 0))) (j : Nat) : (w.setCell ⟨g, j, none⟩ v).heap[g]? = some (.cells (cs.setIfInBounds j v) t (0, 0)) := by
  simp [World.setCell, Array.getElem?_modify, h]
theorem setCell_off {g k : Nat} {v : Value} (j : Nat) (h : k ≠ g) : (w.setCell ⟨g, j, none⟩ v).heap[k]? = w.heap[k]? := by
  simp [World.setCell, Array.getElem?_modify, Ne.symm h]
theorem setCell_size {g : Nat} {v : Value} (j : Nat) : (w.setCell ⟨g, j, none⟩ v).heap.size = w.heap.size := by simp [World.setCell]
theorem setF_setF {α : Type} [DecidableEq α] (f : α → Option Value) (a : α) (u v : Option Value) : setF (setF f a u) a v = setF f a v := by
  funext x
  unfold setF
  by_cases h : x = a
  · rw [if_pos h, if_pos h]
  · rw [if_neg h, if_neg h, if_neg h]
def Kept (F : Nat → Prop) (w w' : World) : Prop := w'.os = w.os ∧ w'.tape = w.tape ∧ w'.output = w.output ∧ w.heap.size ≤ w'.heap.size ∧ ∀ k, k < w.heap.size → ¬ F k → w'.heap[k]? = w.heap[k]?
theorem Kept.refl (F : Nat → Prop) (w : World) : Kept F w w := ⟨rfl, rfl, rfl, Nat.le_refl _, fun _ _ _ => rfl⟩
theorem Kept.trans {F F' : Nat → Prop} {w w' w'' : World} (h : Kept F w w') (h' : Kept F' w' w'') (hF : ∀ k, F' k → F k ∨ w.heap.size ≤ k) : Kept F w w'' :=
  ⟨h'.1.trans h.1, h'.2.1.trans h.2.1, h'.2.2.1.trans h.2.2.1, Nat.le_trans h.2.2.2.1 h'.2.2.2.1, fun k hk hn => (h'.2.2.2.2 k (Nat.lt_of_lt_of_le hk h.2.2.2.1) (fun e => (hF k e).elim hn (fun e2 => by omega))).trans (h.2.2.2.2 k hk hn)⟩
theorem Kept.of_below {F : Nat → Prop} {w w' : World} (h : Below w.heap.size w w') : Kept F w w' := ⟨h.os, h.tape, h.output, h.size, fun k hk _ => h.block k hk⟩
theorem Kept.below {F : Nat → Prop} {B : Nat} {w w' : World} (h : Kept F w w') (hB : B ≤ w.heap.size) (hF : ∀ k, F k → B ≤ k) : Below B w w' := ⟨h.1, h.2.1, h.2.2.1, h.2.2.2.1, fun k hk => h.2.2.2.2 k (by omega) (fun e => by have := hF k e; omega)⟩
theorem Kept.turned {F : Nat → Prop} {b : Nat} {w w' : World} (h : w.mapTurned w' b) (hF : F b) : Kept F w w' := by
  obtain ⟨h1, h2, _⟩ := turned_block h
  obtain ⟨es, clock, es', clock', q1, q2⟩ := h
  exact ⟨by rw [q2]; rfl, by rw [q2]; rfl, by rw [q2]; rfl, by omega, fun k _ hn => h1 k (fun e => hn (e ▸ hF))⟩
theorem Kept.fill {F : Nat → Prop} {w w' : World} {g t n k : Nat} {f : Nat → Value} (h : Kept F w w') (hf : Fill g t n k f w) (hg : ¬ F g) : Fill g t n k f w' := hf.keep (h.2.2.2.2 g hf.lt hg)
def mapSize (w : World) (b : Nat) : Nat := match w.heap[b]? with | some (.map es _) => es.size | _ => 0
theorem mapSize_keep {w w' : World} {b : Nat} (h : w'.heap[b]? = w.heap[b]?) : mapSize w' b = mapSize w b := by unfold mapSize; rw [h]
end
section
variable {α : Type} {k e t : TypeId} {enc : α → Value} {kl : α → Lit} {w : World} {b n : Nat} {f : α → Option Value}
theorem MapF.size (h : MapF k kl w b n f) : mapSize w b ≤ n := by
  obtain ⟨D, ⟨es, clock, h1, _, h3, _⟩, _⟩ := h
  unfold mapSize
  rw [h1]
  exact h3
theorem MapF.tight (h : MapF k kl w b n f) : MapF k kl w b (mapSize w b) f := by
  obtain ⟨D, ⟨es, clock, h1, h2, h3, h4⟩, hD⟩ := h
  refine ⟨D, ⟨es, clock, h1, h2, ?_, h4⟩, hD⟩
  unfold mapSize
  rw [h1]
  exact Nat.le_refl _
end
/-- The store, plainly: votes in order, links by their first votes, what links weigh, where the votes of a link and of a key stand, the ballots. -/
structure PoS where
  votes : List Sg
  links : List Lk
  wt : Lk → Nat
  pl : Lk ⊕ Hh → Option (List Nat)
  bal : List Bt
def intC (i : Nat) : List Value := [.int .i64 (i : Int)]
theorem intC_one (i : Nat) : ∀ u ∈ intC i, u.oneCell' = true := by intro u hu; simp only [intC, List.mem_singleton] at hu; subst hu; rfl
theorem lC_one (x : Lk) : ∀ v ∈ lC x, v.oneCell' = true := fun v hv => by
  unfold lC at hv
  obtain ⟨j, _, rfl⟩ := List.mem_map.1 hv
  exact lkf_one _ _
theorem sgC_one (x : Sg) (hs : x.sv.oneCell' = true) : ∀ v ∈ sgC x, v.oneCell' = true := fun v hv => by
  unfold sgC at hv
  obtain ⟨j, _, rfl⟩ := List.mem_map.1 hv
  exact sgf_one _ hs _
def balF (L : List Bt) (x : Bt) : Option Value := if x ∈ L then some (.agg #[]) else none
theorem balF_set (L : List Bt) (x : Bt) : setF (balF L) x (some (.agg #[])) = balF (L ++ [x]) := by
  funext y
  unfold setF balF
  by_cases h : y = x
  · rw [if_pos h, if_pos (by simp [h])]
  · rw [if_neg h]
    by_cases h2 : y ∈ L
    · rw [if_pos h2, if_pos (by simp [h2])]
    · rw [if_neg h2, if_neg (by simp [h2, h])]
def talF (wt : Lk → Nat) (hd : Lk ⊕ Hh → Option Value) (x : Lk) : Option Value := (hd (.inl x)).map (fun v => .agg #[.int .u64 (wt x : Int), v])
def kysF (hd : Lk ⊕ Hh → Option Value) (h : Hh) : Option Value := hd (.inr h)
/-- A list of places: a row of its own, or none. -/
def PlAt (w : World) (F : Nat → Prop) (o : Option Value) : Option (List Nat) → Prop
  | none => o = none
  | some L => ∃ v, o = some v ∧ w.ownsRow 0 3 1 v L.length (rws intC L) ∧ ∀ k, v.ownBlock = some k → F k
structure PoB (s bt bk bb : Nat) (vv vl : Value) (hd : Lk ⊕ Hh → Option Value) (F : Nat → Prop) (S : PoS) (n : Nat) (w : World) : Prop where
  cells : w.heap[s]? = some (.cells #[vv, vl, .map (some bt), .map (some bk), .map (some bb)] 79 (0, 0))
  tal : MapF 50 klL w bt n (talF S.wt hd)
  keys : MapF 24 klH w bk n (kysF hd)
  bals : MapF 91 klB w bb n (balF S.bal)
  votes : w.ownsRow 0 42 101 vv S.votes.length (rws sgC S.votes)
  links : w.ownsRow 0 50 66 vl S.links.length (rws lC S.links)
  rows : ∀ i, PlAt w F (hd i) (S.pl i)
  apart : ∀ i j v v' k, i ≠ j → hd i = some v → hd j = some v' → v.ownBlock = some k → v'.ownBlock ≠ some k
  foot : F s ∧ F bt ∧ F bk ∧ F bb ∧ (∀ k, vv.ownBlock = some k → F k) ∧ ∀ k, vl.ownBlock = some k → F k
  ne : bt ≠ bk ∧ bt ≠ bb ∧ bk ≠ bb
  fin : ∀ k, F k → k < w.heap.size
theorem MapF.mt {α : Type} {k : TypeId} {kl : α → Lit} {w : World} {b m : Nat} {f : α → Option Value} (hm : MapF k kl w b m f) : ∃ es clock, w.heap[b]? = some (.map es clock) := by
  obtain ⟨D, ⟨es, clock, h1, _⟩, _⟩ := hm
  exact ⟨es, clock, h1⟩
section
variable {s bt bk bb : Nat} {vv vl : Value} {hd : Lk ⊕ Hh → Option Value} {F : Nat → Prop} {S : PoS} {n : Nat} {w w' : World}
theorem PlAt.keep {F' : Nat → Prop} {o : Option Value} {L : Option (List Nat)} (h : PlAt w F o L) (hk : ∀ v k, o = some v → v.ownBlock = some k → w'.heap[k]? = w.heap[k]?) (hF : ∀ k, F k → F' k) : PlAt w' F' o L := by
  cases L with
  | none => exact h
  | some L =>
    obtain ⟨v, h1, h2, h3⟩ := h
    exact ⟨v, h1, ownKeep h2 (fun g hg => hk v g h1 hg), fun k hk => hF k (h3 k hk)⟩
theorem PoB.hdRow (h : PoB s bt bk bb vv vl hd F S n w) {i : Lk ⊕ Hh} {v : Value} (hv : hd i = some v) : ∃ L, S.pl i = some L ∧ w.ownsRow 0 3 1 v L.length (rws intC L) ∧ ∀ k, v.ownBlock = some k → F k := by
  have := h.rows i
  cases hw : S.pl i with
  | none => rw [hw] at this; rw [hv] at this; cases this
  | some L =>
    rw [hw] at this
    obtain ⟨v2, h1, h2, h3⟩ := this
    rw [hv] at h1
    injection h1 with h1
    subst h1
    exact ⟨L, rfl, h2, h3⟩
theorem PoB.hdF (h : PoB s bt bk bb vv vl hd F S n w) {i : Lk ⊕ Hh} {v : Value} {k : Nat} (hv : hd i = some v) (hk : v.ownBlock = some k) : F k := by
  obtain ⟨_, _, _, h3⟩ := h.hdRow hv
  exact h3 k hk
theorem PoB.keep (h : PoB s bt bk bb vv vl hd F S n w) (hk : ∀ k, F k → w'.heap[k]? = w.heap[k]?) (hs : w.heap.size ≤ w'.heap.size) : PoB s bt bk bb vv vl hd F S n w' where
  cells := (hk s h.foot.1).trans h.cells
  tal := h.tal.keep (hk bt h.foot.2.1)
  keys := h.keys.keep (hk bk h.foot.2.2.1)
  bals := h.bals.keep (hk bb h.foot.2.2.2.1)
  votes := ownKeep h.votes (fun g hg => hk g (h.foot.2.2.2.2.1 g hg))
  links := ownKeep h.links (fun g hg => hk g (h.foot.2.2.2.2.2 g hg))
  rows i := (h.rows i).keep (fun v k h1 h2 => hk k (h.hdF h1 h2)) (fun _ e => e)
  apart := h.apart
  foot := h.foot
  ne := h.ne
  fin k hF := Nat.lt_of_lt_of_le (h.fin k hF) hs
theorem PoB.below (h : PoB s bt bk bb vv vl hd F S n w) (hb : Below w.heap.size w w') : PoB s bt bk bb vv vl hd F S n w' := h.keep (fun k hk => hb.block k (h.fin k hk)) hb.size
theorem PoB.mono {n' : Nat} (h : PoB s bt bk bb vv vl hd F S n w) (hn : n ≤ n') : PoB s bt bk bb vv vl hd F S n' w := { h with tal := h.tal.mono hn, keys := h.keys.mono hn, bals := h.bals.mono hn }
/-- Blocks of unlike kinds are not one. -/
theorem PoB.vv_ne (h : PoB s bt bk bb vv vl hd F S n w) {k : Nat} (hk : vv.ownBlock = some k) : k ≠ s ∧ k ≠ bt ∧ k ≠ bk ∧ k ≠ bb ∧ vl.ownBlock ≠ some k ∧ ∀ i v, hd i = some v → v.ownBlock ≠ some k := by
  refine ⟨own_other h.votes hk h.cells (by decide), row_ne h.votes hk h.tal.mt, row_ne h.votes hk h.keys.mt, row_ne h.votes hk h.bals.mt, fun e => ?_, fun i v hv e => ?_⟩
  · obtain ⟨cur, hc⟩ := ownCells h.votes hk
    exact own_other h.links e hc (by decide) rfl
  · obtain ⟨L, _, hr, _⟩ := h.hdRow hv
    obtain ⟨cur, hc⟩ := ownCells h.votes hk
    exact own_other hr e hc (by decide) rfl
theorem PoB.vl_ne (h : PoB s bt bk bb vv vl hd F S n w) {k : Nat} (hk : vl.ownBlock = some k) : k ≠ s ∧ k ≠ bt ∧ k ≠ bk ∧ k ≠ bb ∧ vv.ownBlock ≠ some k ∧ ∀ i v, hd i = some v → v.ownBlock ≠ some k := by
  refine ⟨own_other h.links hk h.cells (by decide), row_ne h.links hk h.tal.mt, row_ne h.links hk h.keys.mt, row_ne h.links hk h.bals.mt, fun e => ?_, fun i v hv e => ?_⟩
  · exact (h.vv_ne e).2.2.2.2.1 hk
  · obtain ⟨L, _, hr, _⟩ := h.hdRow hv
    obtain ⟨cur, hc⟩ := ownCells h.links hk
    exact own_other hr e hc (by decide) rfl
theorem PoB.hd_ne (h : PoB s bt bk bb vv vl hd F S n w) {i : Lk ⊕ Hh} {v : Value} {k : Nat} (hv : hd i = some v) (hk : v.ownBlock = some k) : k ≠ s ∧ k ≠ bt ∧ k ≠ bk ∧ k ≠ bb ∧ vv.ownBlock ≠ some k ∧ vl.ownBlock ≠ some k := by
  obtain ⟨L, _, hr, _⟩ := h.hdRow hv
  exact ⟨own_other hr hk h.cells (by decide), row_ne hr hk h.tal.mt, row_ne hr hk h.keys.mt, row_ne hr hk h.bals.mt, fun e => (h.vv_ne e).2.2.2.2.2 i v hv hk, fun e => (h.vl_ne e).2.2.2.2.2 i v hv hk⟩
theorem PoB.s_ne (h : PoB s bt bk bb vv vl hd F S n w) : s ≠ bt ∧ s ≠ bk ∧ s ≠ bb := ⟨cells_ne h.cells h.tal.mt, cells_ne h.cells h.keys.mt, cells_ne h.cells h.bals.mt⟩
/-- The votes have grown. -/
theorem PoB.turnVotes (h : PoB s bt bk bb vv vl hd F S n w) {w1 : World} {v' : Value} {L' : List Sg} (hg : w.grownBy w1 vv.ownBlock) (ho : w1.ownsRow 0 42 101 v' L'.length (rws sgC L')) :
    PoB s bt bk bb v' vl hd (fun k => F k ∨ v'.ownBlock = some k) { S with votes := L' } n (w1.setCell ⟨s, 0, none⟩ v') := by
  have key : ∀ k, F k → vv.ownBlock ≠ some k → w1.heap[k]? = w.heap[k]? := fun k hk hne => hg.block k (h.fin k hk) (fun e => hne e.symm)
  have all : ∀ k, F k → vv.ownBlock ≠ some k → k ≠ s → (w1.setCell ⟨s, 0, none⟩ v').heap[k]? = w.heap[k]? := fun k hk h1 h2 => (setCell_off 0 h2).trans (key k hk h1)
  have hs1 : w1.heap[s]? = some (.cells #[vv, vl, .map (some bt), .map (some bk), .map (some bb)] 79 (0, 0)) := (key s h.foot.1 (fun e => (h.vv_ne e).1 rfl)).trans h.cells
  exact {
    cells := setCell_heap hs1 0
    tal := h.tal.keep (all bt h.foot.2.1 (fun e => (h.vv_ne e).2.1 rfl) h.s_ne.1.symm)
    keys := h.keys.keep (all bk h.foot.2.2.1 (fun e => (h.vv_ne e).2.2.1 rfl) h.s_ne.2.1.symm)
    bals := h.bals.keep (all bb h.foot.2.2.2.1 (fun e => (h.vv_ne e).2.2.2.1 rfl) h.s_ne.2.2.symm)
    votes := ownKeep ho (fun g hg' => setCell_off 0 (own_other ho hg' hs1 (by decide)))
    links := ownKeep h.links (fun g hg' => all g (h.foot.2.2.2.2.2 g hg') (h.vl_ne hg').2.2.2.2.1 (h.vl_ne hg').1)
    rows := fun i => (h.rows i).keep (fun v k h1 h2 => all k (h.hdF h1 h2) (h.hd_ne h1 h2).2.2.2.2.1 (h.hd_ne h1 h2).1) (fun k e => .inl e)
    apart := h.apart
    foot := ⟨.inl h.foot.1, .inl h.foot.2.1, .inl h.foot.2.2.1, .inl h.foot.2.2.2.1, fun k hk => .inr hk, fun k hk => .inl (h.foot.2.2.2.2.2 k hk)⟩
    ne := h.ne
    fin := fun k hk => by
      rw [setCell_size]
      rcases hk with hk | hk
      · exact Nat.lt_of_lt_of_le (h.fin k hk) hg.size
      · exact (ho.lt k hk).2 }
/-- The links have grown. -/
theorem PoB.turnLinks (h : PoB s bt bk bb vv vl hd F S n w) {w1 : World} {v' : Value} {L' : List Lk} (hg : w.grownBy w1 vl.ownBlock) (ho : w1.ownsRow 0 50 66 v' L'.length (rws lC L')) :
    PoB s bt bk bb vv v' hd (fun k => F k ∨ v'.ownBlock = some k) { S with links := L' } n (w1.setCell ⟨s, 1, none⟩ v') := by
  have key : ∀ k, F k → vl.ownBlock ≠ some k → w1.heap[k]? = w.heap[k]? := fun k hk hne => hg.block k (h.fin k hk) (fun e => hne e.symm)
  have all : ∀ k, F k → vl.ownBlock ≠ some k → k ≠ s → (w1.setCell ⟨s, 1, none⟩ v').heap[k]? = w.heap[k]? := fun k hk h1 h2 => (setCell_off 1 h2).trans (key k hk h1)
  have hs1 : w1.heap[s]? = some (.cells #[vv, vl, .map (some bt), .map (some bk), .map (some bb)] 79 (0, 0)) := (key s h.foot.1 (fun e => (h.vl_ne e).1 rfl)).trans h.cells
  exact {
    cells := setCell_heap hs1 1
    tal := h.tal.keep (all bt h.foot.2.1 (fun e => (h.vl_ne e).2.1 rfl) h.s_ne.1.symm)
    keys := h.keys.keep (all bk h.foot.2.2.1 (fun e => (h.vl_ne e).2.2.1 rfl) h.s_ne.2.1.symm)
    bals := h.bals.keep (all bb h.foot.2.2.2.1 (fun e => (h.vl_ne e).2.2.2.1 rfl) h.s_ne.2.2.symm)
    votes := ownKeep h.votes (fun g hg' => all g (h.foot.2.2.2.2.1 g hg') (h.vv_ne hg').2.2.2.2.1 (h.vv_ne hg').1)
    links := ownKeep ho (fun g hg' => setCell_off 1 (own_other ho hg' hs1 (by decide)))
    rows := fun i => (h.rows i).keep (fun v k h1 h2 => all k (h.hdF h1 h2) (h.hd_ne h1 h2).2.2.2.2.2 (h.hd_ne h1 h2).1) (fun k e => .inl e)
    apart := h.apart
    foot := ⟨.inl h.foot.1, .inl h.foot.2.1, .inl h.foot.2.2.1, .inl h.foot.2.2.2.1, fun k hk => .inl (h.foot.2.2.2.2.1 k hk), fun k hk => .inr hk⟩
    ne := h.ne
    fin := fun k hk => by
      rw [setCell_size]
      rcases hk with hk | hk
      · exact Nat.lt_of_lt_of_le (h.fin k hk) hg.size
      · exact (ho.lt k hk).2 }
/-- The ballots' map has turned. -/
theorem PoB.turnBals (h : PoB s bt bk bb vv vl hd F S n w) (ht : w.mapTurned w' bb) {L' : List Bt} {n' : Nat} (hn : n ≤ n') (hm : MapF 91 klB w' bb n' (balF L')) : PoB s bt bk bb vv vl hd F { S with bal := L' } n' w' := by
  obtain ⟨h1, h2, h3⟩ := turned_block ht
  exact {
    cells := (h1 s h.s_ne.2.2).trans h.cells
    tal := (h.tal.keep (h1 bt h.ne.2.1)).mono hn
    keys := (h.keys.keep (h1 bk h.ne.2.2)).mono hn
    bals := hm
    votes := ownKeep h.votes (fun g hg => h1 g (h.vv_ne hg).2.2.2.1)
    links := ownKeep h.links (fun g hg => h1 g (h.vl_ne hg).2.2.2.1)
    rows := fun i => (h.rows i).keep (fun v k e1 e2 => h1 k (h.hd_ne e1 e2).2.2.2.1) (fun _ e => e)
    apart := h.apart
    foot := h.foot
    ne := h.ne
    fin := fun k hk => by rw [h2]; exact h.fin k hk }
/-- A list of places has grown, and is at i of its map b now. -/
theorem PoB.turnRow (h : PoB s bt bk bb vv vl hd F S n w) (i : Lk ⊕ Hh) (b : Nat) (hb0 : b = bt ∨ b = bk) {v' : Value} {L' : List Nat} {n' : Nat} {wt' : Lk → Nat} (hn : n ≤ n') (hk : ∀ k, F k → k ≠ b → (∀ v, hd i = some v → v.ownBlock ≠ some k) → w'.heap[k]? = w.heap[k]?) (hs : w.heap.size ≤ w'.heap.size)
    (hmt : MapF 50 klL w' bt n' (talF wt' (setF hd i (some v')))) (hmk : MapF 24 klH w' bk n' (kysF (setF hd i (some v')))) (ho : w'.ownsRow 0 3 1 v' L'.length (rws intC L')) (hb : (∃ v, hd i = some v ∧ v'.ownBlock = v.ownBlock) ∨ ∀ k, v'.ownBlock = some k → w.heap.size ≤ k) :
    PoB s bt bk bb vv vl (setF hd i (some v')) (fun k => F k ∨ v'.ownBlock = some k) { S with wt := wt', pl := fun j => if j = i then some L' else S.pl j } n' w' := by
  have old : ∀ (k : Nat), v'.ownBlock = some k → (∀ u, hd i = some u → u.ownBlock = some k → False) → w.heap.size ≤ k := fun k e hu => by
    rcases hb with ⟨u, h1, h2⟩ | hb
    · exact absurd (h2 ▸ e) (fun e => hu u h1 e)
    · exact hb k e
  have nb : ∀ k, k ≠ bt → k ≠ bk → k ≠ b := fun k h1 h2 e => by rcases hb0 with hb0 | hb0 <;> subst hb0 <;> contradiction
  exact {
    cells := (hk s h.foot.1 (nb s h.s_ne.1 h.s_ne.2.1) (fun v hv e => (h.hd_ne hv e).1 rfl)).trans h.cells
    tal := hmt
    keys := hmk
    bals := (h.bals.keep (hk bb h.foot.2.2.2.1 (nb bb h.ne.2.1.symm h.ne.2.2.symm) (fun v hv e => (h.hd_ne hv e).2.2.2.1 rfl))).mono hn
    votes := ownKeep h.votes (fun g hg => hk g (h.foot.2.2.2.2.1 g hg) (nb g (h.vv_ne hg).2.1 (h.vv_ne hg).2.2.1) (fun v hv e => (h.hd_ne hv e).2.2.2.2.1 hg))
    links := ownKeep h.links (fun g hg => hk g (h.foot.2.2.2.2.2 g hg) (nb g (h.vl_ne hg).2.1 (h.vl_ne hg).2.2.1) (fun v hv e => (h.hd_ne hv e).2.2.2.2.2 hg))
    rows := fun j => by
      show PlAt _ _ (setF hd i (some v') j) (if j = i then some L' else S.pl j)
      unfold setF
      by_cases e : j = i
      · rw [if_pos e, if_pos e]
        exact ⟨v', rfl, ho, fun k hk => .inr hk⟩
      · rw [if_neg e, if_neg e]
        exact (h.rows j).keep (fun v k h1 h2 => hk k (h.hdF h1 h2) (nb k (h.hd_ne h1 h2).2.1 (h.hd_ne h1 h2).2.2.1) (fun u hu e2 => h.apart j i v u k e h1 hu h2 e2)) (fun k e => .inl e)
    apart := fun q r v u k hqr hv hu hk1 hk2 => by
      unfold setF at hv hu
      by_cases e : q = i
      · rw [if_pos e] at hv
        rw [if_neg (fun e2 => hqr (e.trans e2.symm))] at hu
        injection hv with hv
        subst hv
        have := old k hk1 (fun x hx e3 => h.apart r i u x k (fun e2 => hqr (e.trans e2.symm)) hu hx hk2 e3)
        have := h.fin k (h.hdF hu hk2)
        omega
      · rw [if_neg e] at hv
        by_cases er : r = i
        · rw [if_pos er] at hu
          injection hu with hu
          subst hu
          have := old k hk2 (fun x hx e3 => h.apart q i v x k e hv hx hk1 e3)
          have := h.fin k (h.hdF hv hk1)
          omega
        · rw [if_neg er] at hu
          exact h.apart q r v u k hqr hv hu hk1 hk2
    foot := ⟨.inl h.foot.1, .inl h.foot.2.1, .inl h.foot.2.2.1, .inl h.foot.2.2.2.1, fun k hk => .inl (h.foot.2.2.2.2.1 k hk), fun k hk => .inl (h.foot.2.2.2.2.2 k hk)⟩
    ne := h.ne
    fin := fun k hk1 => by
      rcases hk1 with hk1 | hk1
      · exact Nat.lt_of_lt_of_le (h.fin k hk1) hs
      · exact (ho.lt k hk1).2 }
/-- The list of places at i, none let in. -/
theorem PoB.row (h : PoB s bt bk bb vv vl hd F S n w) (i : Lk ⊕ Hh) : w.ownsRow 0 3 1 ((hd i).getD (.slice none 0 0)) ((S.pl i).getD []).length (rws intC ((S.pl i).getD [])) ∧ (∀ k, ((hd i).getD (.slice none 0 0)).ownBlock = some k → F k ∧ hd i = some ((hd i).getD (.slice none 0 0))) := by
  have := h.rows i
  cases hw : S.pl i with
  | none =>
    rw [hw] at this
    rw [show hd i = none from this]
    exact ⟨⟨rfl, .inl ⟨rfl, rfl⟩⟩, fun k hk => by cases hk⟩
  | some L =>
    rw [hw] at this
    obtain ⟨v, h1, h2, h3⟩ := this
    rw [h1]
    exact ⟨h2, fun k hk => ⟨h3 k hk, by simp⟩⟩
theorem PoB.some_iff (h : PoB s bt bk bb vv vl hd F S n w) (i : Lk ⊕ Hh) : (hd i).isSome = (S.pl i).isSome := by
  have := h.rows i
  cases hw : S.pl i with
  | none => rw [hw] at this; rw [show hd i = none from this]; rfl
  | some L =>
    rw [hw] at this
    obtain ⟨v, h1, _⟩ := this
    rw [h1]; rfl
end
end Go.Proofs.Ytomfgopmgfoecaa
