/- A gadget's store: its links, its waiting lists turned. -/
import Derived.Test.YthlbpjkopkicbaaFgNew
import Derived.Test.YthlbpjkopkicbaaCode
namespace Go.Proofs.Ythlbpjkopkicbaa
open Go.ChangeMaps Go.MapKept Go.Maps Go.WideElems Go.RowKit
set_option linter.unusedVariables false
set_option maxRecDepth 100000

section
variable {s bt bs bw : Nat} {vl : Value} {hd : Pt → Option Value} {F : Nat → Prop} {S : FgS} {n : Nat} {w w' : World}
theorem FgB.hdF (h : FgB s bt bs bw vl hd F S n w) {p : Pt} {v : Value} {k : Nat} (hv : hd p = some v) (hk : v.ownBlock = some k) : F k := by
  have := h.rows p
  cases hw : S.waiting p with
  | none => rw [hw] at this; rw [hv] at this; cases this
  | some L =>
    rw [hw] at this
    obtain ⟨v2, h1, _, h3⟩ := this
    rw [hv] at h1
    injection h1 with h1
    subst h1
    exact h3 k hk
theorem FgB.hdRow (h : FgB s bt bs bw vl hd F S n w) {p : Pt} {v : Value} (hv : hd p = some v) : ∃ L, S.waiting p = some L ∧ w.ownsRow 0 36 66 v L.length (lks L) := by
  have := h.rows p
  cases hw : S.waiting p with
  | none => rw [hw] at this; rw [hv] at this; cases this
  | some L =>
    rw [hw] at this
    obtain ⟨v2, h1, h2, h3⟩ := this
    rw [hv] at h1
    injection h1 with h1
    subst h1
    exact ⟨L, rfl, h2⟩
theorem own_other {k g base sz m : Nat} {t t' : TypeId} {v : Value} {xs : List Value} {cs : Array Value} {fr : Nat × Nat} (h : w.ownsRow base t sz v m xs) (hg : v.ownBlock = some g) (hk : w.heap[k]? = some (.cells cs t' fr)) (ht : t' ≠ t) : g ≠ k := fun e => by
  subst e
  obtain ⟨cur, hc⟩ := ownCells h hg
  rw [hc] at hk
  injection hk with hk
  injection hk with _ hk
  exact ht hk.symm
theorem setCell_heap {g : Nat} {cs : Array Value} {t : TypeId} {v : Value} (h : w.heap[g]? = some (.cells cs t (0, 0))) (j : Nat) : (w.setCell ⟨g, j, none⟩ v).heap[g]? = some (.cells (cs.setIfInBounds j v) t (0, 0)) := by
  simp [World.setCell, Array.getElem?_modify, h]
theorem setCell_off {g k : Nat} {v : Value} (j : Nat) (h : k ≠ g) : (w.setCell ⟨g, j, none⟩ v).heap[k]? = w.heap[k]? := by
  simp [World.setCell, Array.getElem?_modify, Ne.symm h]
theorem setCell_size {g : Nat} {v : Value} (j : Nat) : (w.setCell ⟨g, j, none⟩ v).heap.size = w.heap.size := by simp [World.setCell]
theorem FgB.turnLinks (h : FgB s bt bs bw vl hd F S n w) {w1 : World} {v' : Value} {L' : List Lk} (hg : w.grownBy w1 vl.ownBlock) (ho : w1.ownsRow 0 36 66 v' L'.length (lks L')) (hb : v'.ownBlock = vl.ownBlock ∨ v'.ownBlock = some w.heap.size) :
    FgB s bt bs bw v' hd (fun k => F k ∨ v'.ownBlock = some k) { S with links := L' } n (w1.setCell ⟨s, 0, none⟩ v') := by
  have key : ∀ k, F k → vl.ownBlock ≠ some k → w1.heap[k]? = w.heap[k]? := fun k hk hne => hg.block k (h.fin k hk) (fun e => hne e.symm)
  have hs : vl.ownBlock ≠ some s := fun e => own_other h.links e h.cells (by decide) rfl
  have hs1 : w1.heap[s]? = some (.cells #[vl, .map (some bt), .map (some bs), .map (some bw)] 73 (0, 0)) := (key s h.foot.1 hs).trans h.cells
  have mp : ∀ b, F b → (∃ es clock, w.heap[b]? = some (.map es clock)) → (w1.setCell ⟨s, 0, none⟩ v').heap[b]? = w.heap[b]? := fun b hF hm => by
    have h1 : vl.ownBlock ≠ some b := fun e => row_ne h.links e hm rfl
    rw [setCell_off 0 (fun e => cells_ne h.cells hm e.symm)]
    exact key b hF h1
  have mt : ∀ {α : Type} {k : TypeId} {kl : α → Lit} {b m : Nat} {f : α → Option Value}, MapF k kl w b m f → ∃ es clock, w.heap[b]? = some (.map es clock) := fun hm => by
    obtain ⟨D, ⟨es, clock, h1, _⟩, _⟩ := hm
    exact ⟨es, clock, h1⟩
  exact {
    cells := setCell_heap hs1 0
    told := h.told.keep (mp bt h.foot.2.1 (mt h.told))
    stands := h.stands.keep (mp bs h.foot.2.2.1 (mt h.stands))
    waits := h.waits.keep (mp bw h.foot.2.2.2.1 (mt h.waits))
    links := ownKeep ho (fun g hg' => setCell_off 0 (own_other ho hg' hs1 (by decide)))
    rows := fun p => by
      have := h.rows p
      show WaitAt _ _ (hd p) (S.waiting p)
      cases hw : S.waiting p with
      | none => rw [hw] at this; exact this
      | some L =>
        rw [hw] at this
        obtain ⟨v, h1, h2, h3⟩ := this
        refine ⟨v, h1, ownKeep h2 (fun g hg' => ?_), fun k hk => .inl (h3 k hk)⟩
        rw [setCell_off 0 (own_other h2 hg' h.cells (by decide))]
        exact key g (h3 g hg') (h.apartL p v g h1 hg')
    apart := h.apart
    apartL := fun p v k hv hk e => by
      rcases hb with hb | hb
      · rw [hb] at e; exact h.apartL p v k hv hk e
      · rw [hb] at e
        injection e with e
        have := h.fin k (h.hdF hv hk)
        omega
    foot := ⟨.inl h.foot.1, .inl h.foot.2.1, .inl h.foot.2.2.1, .inl h.foot.2.2.2.1, fun k hk => .inr hk⟩
    ne := h.ne
    fin := fun k hk => by
      rw [setCell_size]
      rcases hk with hk | hk
      · exact Nat.lt_of_lt_of_le (h.fin k hk) hg.size
      · exact (ho.lt k hk).2 }
/-- Somebody waits for p now: v'. -/
theorem FgB.turnWait (h : FgB s bt bs bw vl hd F S n w) (p : Pt) {v' : Value} {L' : List Lk} {n' : Nat} (hn : n ≤ n') (hk : ∀ k, F k → k ≠ bw → (∀ v, hd p = some v → v.ownBlock ≠ some k) → w'.heap[k]? = w.heap[k]?) (hs : w.heap.size ≤ w'.heap.size)
    (hm : MapF 29 klP w' bw n' (setF hd p (some v'))) (ho : w'.ownsRow 0 36 66 v' L'.length (lks L')) (hb : (∃ v, hd p = some v ∧ v'.ownBlock = v.ownBlock) ∨ ∀ k, v'.ownBlock = some k → w.heap.size ≤ k) :
    FgB s bt bs bw vl (setF hd p (some v')) (fun k => F k ∨ v'.ownBlock = some k) { S with waiting := fun q => if q = p then some L' else S.waiting q } n' w' := by
  have mt : ∀ {α : Type} {k : TypeId} {kl : α → Lit} {b m : Nat} {f : α → Option Value}, MapF k kl w b m f → ∃ es clock, w.heap[b]? = some (.map es clock) := fun hm => by
    obtain ⟨D, ⟨es, clock, h1, _⟩, _⟩ := hm
    exact ⟨es, clock, h1⟩
  have no_s : ∀ v, hd p = some v → v.ownBlock ≠ some s := fun v hv e => by
    obtain ⟨L, _, hr⟩ := h.hdRow hv
    exact own_other hr e h.cells (by decide) rfl
  have no_m : ∀ b, (∃ es clock, w.heap[b]? = some (.map es clock)) → ∀ v, hd p = some v → v.ownBlock ≠ some b := fun b hm v hv e => by
    obtain ⟨L, _, hr⟩ := h.hdRow hv
    exact row_ne hr e hm rfl
  have old : ∀ (k : Nat), v'.ownBlock = some k → (∀ u, hd p = some u → u.ownBlock = some k → False) → w.heap.size ≤ k   := fun k e hu => by
    rcases hb with ⟨u, h1, h2⟩ | hb
    · exact absurd (h2 ▸ e) (fun e => hu u h1 e)
    · exact hb k e
  exact {
    cells := (hk s h.foot.1 (cells_ne h.cells (mt h.waits)) no_s).trans h.cells
    told := (h.told.keep (hk bt h.foot.2.1 h.ne.2.1 (no_m bt (mt h.told)))).mono hn
    stands := (h.stands.keep (hk bs h.foot.2.2.1 h.ne.2.2 (no_m bs (mt h.stands)))).mono hn
    waits := hm
    links := ownKeep h.links (fun g hg => hk g (h.foot.2.2.2.2 g hg) (row_ne h.links hg (mt h.waits)) (fun v hv e => h.apartL p v g hv e hg))
    rows := fun q => by
      show WaitAt _ _ (setF hd p (some v') q) (if q = p then some L' else S.waiting q)
      unfold setF
      by_cases e : q = p
      · rw [if_pos e, if_pos e]
        exact ⟨v', rfl, ho, fun k hk => .inr hk⟩
      · rw [if_neg e, if_neg e]
        have := h.rows q
        cases hw : S.waiting q with
        | none => rw [hw] at this; exact this
        | some L =>
          rw [hw] at this
          obtain ⟨v, h1, h2, h3⟩ := this
          exact ⟨v, h1, ownKeep h2 (fun g hg => hk g (h3 g hg) (row_ne h2 hg (mt h.waits)) (fun u hu e2 => h.apart q p v u g e h1 hu hg e2)), fun k hk => .inl (h3 k hk)⟩
    apart := fun q r v u k hqr hv hu hk1 hk2 => by
      unfold setF at hv hu
      by_cases e : q = p
      · rw [if_pos e] at hv
        rw [if_neg (fun e2 => hqr (e.trans e2.symm))] at hu
        injection hv with hv
        subst hv
        have := old k hk1 (fun x hx e3 => h.apart r p u x k (fun e2 => hqr (e.trans e2.symm)) hu hx hk2 e3)
        have := h.fin k (h.hdF hu hk2)
        omega
      · rw [if_neg e] at hv
        by_cases er : r = p
        · rw [if_pos er] at hu
          injection hu with hu
          subst hu
          have := old k hk2 (fun x hx e3 => h.apart q p v x k e hv hx hk1 e3)
          have := h.fin k (h.hdF hv hk1)
          omega
        · rw [if_neg er] at hu
          exact h.apart q r v u k hqr hv hu hk1 hk2
    apartL := fun q v k hv hk1 e2 => by
      unfold setF at hv
      by_cases e : q = p
      · rw [if_pos e] at hv
        injection hv with hv
        subst hv
        have := old k hk1 (fun x hx e3 => h.apartL p x k hx e3 e2)
        have := h.fin k (h.foot.2.2.2.2 k e2)
        omega
      · rw [if_neg e] at hv
        exact h.apartL q v k hv hk1 e2
    foot := ⟨.inl h.foot.1, .inl h.foot.2.1, .inl h.foot.2.2.1, .inl h.foot.2.2.2.1, fun k hk => .inl (h.foot.2.2.2.2 k hk)⟩
    ne := h.ne
    fin := fun k hk1 => by
      rcases hk1 with hk1 | hk1
      · exact Nat.lt_of_lt_of_le (h.fin k hk1) hs
      · exact (ho.lt k hk1).2 }
theorem setF_setF {α : Type} [DecidableEq α] (f : α → Option Value) (a : α) (u v : Option Value) : setF (setF f a u) a v = setF f a v := by
  funext x
  unfold setF
  by_cases h : x = a
  · rw [if_pos h, if_pos h]
  · rw [if_neg h, if_neg h, if_neg h]
/-- The row of those who wait for p, nobody let in. -/
theorem FgB.waitRow (h : FgB s bt bs bw vl hd F S n w) (p : Pt) : w.ownsRow 0 36 66 ((hd p).getD (.slice none 0 0)) ((S.waiting p).getD []).length (lks ((S.waiting p).getD [])) ∧ (∀ k, ((hd p).getD (.slice none 0 0)).ownBlock = some k → F k ∧ hd p ≠ none) := by
  have := h.rows p
  cases hw : S.waiting p with
  | none =>
    rw [hw] at this
    rw [show hd p = none from this]
    exact ⟨⟨rfl, .inl ⟨rfl, rfl⟩⟩, fun k hk => by cases hk⟩
  | some L =>
    rw [hw] at this
    obtain ⟨v, h1, h2, h3⟩ := this
    rw [h1]
    exact ⟨h2, fun k hk => ⟨h3 k hk, by simp⟩⟩
theorem toldF_set (L : List Lk) (x : Lk) : setF (toldF L) x (some (.agg #[])) = toldF (L ++ [x]) := by
  funext y
  unfold setF toldF
  by_cases h : y = x
  · rw [if_pos h, if_pos (by simp [h])]
  · rw [if_neg h]
    by_cases h2 : y ∈ L
    · rw [if_pos h2, if_pos (by simp [h2])]
    · rw [if_neg h2, if_neg (by simp [h2, h])]
end
/-- All but F's blocks are as they were. -/
def Kept (F : Nat → Prop) (w w' : World) : Prop := w'.os = w.os ∧ w'.tape = w.tape ∧ w'.output = w.output ∧ w.heap.size ≤ w'.heap.size ∧ ∀ k, k < w.heap.size → ¬ F k → w'.heap[k]? = w.heap[k]?
theorem Kept.refl (F : Nat → Prop) (w : World) : Kept F w w := ⟨rfl, rfl, rfl, Nat.le_refl _, fun _ _ _ => rfl⟩
theorem Kept.trans {F F' : Nat → Prop} {w w' w'' : World} (h : Kept F w w') (h' : Kept F' w' w'') (hF : ∀ k, F' k → F k ∨ w.heap.size ≤ k) : Kept F w w'' :=
  ⟨h'.1.trans h.1, h'.2.1.trans h.2.1, h'.2.2.1.trans h.2.2.1, Nat.le_trans h.2.2.2.1 h'.2.2.2.1, fun k hk hn => (h'.2.2.2.2 k (Nat.lt_of_lt_of_le hk h.2.2.2.1) (fun e => (hF k e).elim hn (fun e2 => by omega))).trans (h.2.2.2.2 k hk hn)⟩
theorem Kept.of_below {F : Nat → Prop} {w w' : World} (h : Below w.heap.size w w') : Kept F w w' := ⟨h.os, h.tape, h.output, h.size, fun k hk _ => h.block k hk⟩
theorem Kept.below {F : Nat → Prop} {B : Nat} {w w' : World} (h : Kept F w w') (hB : B ≤ w.heap.size) (hF : ∀ k, F k → B ≤ k) : Below B w w' := ⟨h.1, h.2.1, h.2.2.1, h.2.2.2.1, fun k hk => h.2.2.2.2 k (by omega) (fun e => by have := hF k e; omega)⟩
theorem Kept.turned {F : Nat → Prop} {b : Nat} {w w' : World} (h : w.mapTurned w' b) (hF : F b) : Kept F w w' := by
  obtain ⟨h1, h2, _⟩ := turned_block h
  obtain ⟨es, clock, es', clock', q1, q2⟩ := h
  exact ⟨by rw [q2]; rfl, by rw [q2]; rfl, by rw [q2]; rfl, by omega, fun k _ hn => h1 k (fun e => hn (e ▸ hF))⟩
theorem Kept.fill {F : Nat → Prop} {w w' : World} {g t n k : Nat} {f : Nat → Value} (h : Kept F w w') (hf : Fill g t n k f w) (hg : ¬ F g) : Fill g t n k f w' := hf.keep (h.2.2.2.2 g hf.lt hg)
/-- The store behind a step, and what it has turned. -/
def StM (F : Nat → Prop) (s bt bs bw : Nat) (S' : FgS) (n' : Nat) (w w' : World) : Prop := ∃ vl hd F', FgB s bt bs bw vl hd F' S' n' w' ∧ Kept F w w' ∧ (∀ k, F' k → F k ∨ w.heap.size ≤ k) ∧ ∀ k, F k → F' k
/-- How many entries a map has. -/
def mapSize (w : World) (b : Nat) : Nat := match w.heap[b]? with | some (.map es _) => es.size | _ => 0
theorem mapSize_keep {w w' : World} {b : Nat} (h : w'.heap[b]? = w.heap[b]?) : mapSize w' b = mapSize w b := by unfold mapSize; rw [h]
section
variable {α : Type} {k e t : TypeId} {enc : α → Value} {kl : α → Lit} {w : World} {b n : Nat} {f : α → Option Value}
theorem MapF.size (h : MapF k kl w b n f) : mapSize w b ≤ n := by
  obtain ⟨D, ⟨es, clock, h1, _, h3, _⟩, _⟩ := h
  unfold mapSize
  rw [h1]
  exact h3
theorem MapF.tight (h : MapF k kl w b n f) : MapF k kl w b (mapSize w b) f := by
  obtain ⟨D, ⟨es, clock, h1, h2, h3, h4⟩, hD⟩ := h
  refine ⟨D, ⟨es, clock, h1, h2, ?_, h4⟩, hD⟩
  unfold mapSize
  rw [h1]
  exact Nat.le_refl _
end
end Go.Proofs.Ythlbpjkopkicbaa
