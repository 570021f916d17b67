/- A gadget's store in memory. -/
import Derived.Test.YthlbpjkopkicbaaFgPt
namespace Go.Proofs.Ythlbpjkopkicbaa
open Go.ChangeMaps Go.MapKept Go.Maps Go.WideElems Go.RowKit
set_option linter.unusedVariables false
set_option maxRecDepth 100000

theorem ownForm {w : World} {base sz n : Nat} {t : TypeId} {v : Value} {xs : List Value} (h : w.ownsRow base t sz v n xs) : ∃ A c, v = .slice A n c ∧ n ≤ c ∧ c ≤ maxLen ∧ (A = none ∨ ∃ g, A = some ⟨g, 0, none⟩ ∧ base ≤ g ∧ g < w.heap.size) := by
  rcases h.2 with ⟨rfl, rfl⟩ | ⟨g, cap, cur, rfl, h1, h2, h3, h4, _⟩
  · exact ⟨none, 0, rfl, Nat.le_refl _, Nat.zero_le _, .inl rfl⟩
  · exact ⟨_, cap, rfl, h3, h4, .inr ⟨g, rfl, h1, (h.lt g rfl).2⟩⟩
theorem ownKeep {w w' : World} {base sz n : Nat} {t : TypeId} {v : Value} {xs : List Value} (h : w.ownsRow base t sz v n xs) (hk : ∀ g, v.ownBlock = some g → w'.heap[g]? = w.heap[g]?) : w'.ownsRow base t sz v n xs := by
  refine ⟨h.1, ?_⟩
  rcases h.2 with h0 | ⟨g, cap, cur, hv, h1, h2, h3⟩
  · exact .inl h0
  · exact .inr ⟨g, cap, cur, hv, h1, (hk g (by rw [hv]; rfl)).trans h2, h3⟩
theorem ownCells {w : World} {base sz n g : Nat} {t : TypeId} {v : Value} {xs : List Value} (h : w.ownsRow base t sz v n xs) (hg : v.ownBlock = some g) : ∃ cur, w.heap[g]? = some (.cells cur t (0, 0)) := by
  rcases h.2 with ⟨rfl, _⟩ | ⟨g', cap, cur, rfl, h1, h2, h3⟩
  · cases hg
  · injection hg with hg
    subst hg
    exact ⟨cur, h2⟩
/-- Appending what a row of its own holds, nil let in. -/
theorem run_append_row {P : Program} (w : World) (base : Nat) (t ty e : TypeId) (i : TypeInfo) (z : Value) (size bytes : Nat) (ht : P.underlying t = some (.slice e)) (hi : P.info? e = some i) (hz : i.zero = some z)
    (hsize : i.size = size) (hby : i.bytes = bytes) (hzs : z.cells.size = size) (hsz : 0 < size)
    (v : Value) (n : Nat) (xs : List Value) (hown : w.ownsRow base e size v n xs) (base2 : Nat) (v2 : Value) (m : Nat) (ys : List Value) (hown2 : w.ownsRow base2 e size v2 m ys) (h1 : ∀ u ∈ ys, u.oneCell' = true)
    (h63 : n + m ≤ maxLen) (hbytes : (n + m) * bytes ≤ 140737488355328) (hbase : base ≤ w.heap.size) :
    ∃ v' w', (Builtin.append_ #[t, t] ty #[v, v2]).run P w = .ok v' w' ∧ w'.ownsRow base e size v' (n + m) (xs ++ ys) ∧ w.grownBy w' v.ownBlock ∧ (v'.ownBlock = v.ownBlock ∨ v'.ownBlock = some w.heap.size) := by
  obtain ⟨A, c, rfl, _, _, hA⟩ := ownForm hown2
  rcases hA with rfl | ⟨g, rfl, _, _⟩
  · have hm : m = 0 ∧ ys = [] := by
      rcases hown2.2 with ⟨_, h0⟩ | ⟨g, cap, cur, e, _⟩
      · subst h0
        exact ⟨rfl, List.eq_nil_of_length_eq_zero (by simpa using hown2.1)⟩
      · cases e
    obtain ⟨rfl, rfl⟩ := hm
    refine ⟨v, w, ?_, by simpa using hown, World.grownBy.refl w _, .inl rfl⟩
    rcases hown.2 with ⟨rfl, rfl⟩ | ⟨g, cap, cur, rfl, _, _, hnc, _⟩
    · simp [Builtin.append_, run_underlying ht, sizeOf, typeInfo, hi, Builtin.lenOf, Builtin.firstCells]
    · simp [Builtin.append_, run_underlying ht, sizeOf, typeInfo, hi, Builtin.lenOf, Builtin.firstCells, hnc, storeCells]
  · obtain ⟨v', w', hrun, h2, h3, _, h5⟩ := run_append_own_at (P := P) w base t ty e i z size bytes ht hi hz hsize hby hzs hsz v n xs hown ⟨g, 0, none⟩ m c ys hown2.1 (hown2.cells rfl) h1 h63 hbytes hbase
    exact ⟨v', w', hrun, h2, h3, h5⟩

/-- The store, plainly: the links as they were told, those that are in the map of them, how checkpoints stand (1 justified, 2 final), who waits for whom. -/
structure FgS where
  links : List Lk
  told : List Lk
  stands : Pt → Option Nat
  waiting : Pt → Option (List Lk)
def lks (L : List Lk) : List Value := L.flatMap lC
theorem lks_append (a b : List Lk) : lks (a ++ b) = lks a ++ lks b := by unfold lks; exact List.flatMap_append
theorem lks_more (a : List Lk) (x : Lk) : lks a ++ lC x = lks (a ++ [x]) := by rw [lks_append]; unfold lks; simp
theorem lks_len (L : List Lk) : (lks L).length = L.length * 66 := by
  induction L with
  | nil => rfl
  | cons x r ih => unfold lks at *; rw [List.flatMap_cons, List.length_append, lC_len, ih, List.length_cons]; omega
theorem lC_one (x : Lk) : ∀ v ∈ lC x, v.oneCell' = true := fun v hv => by
  unfold lC at hv
  obtain ⟨j, _, rfl⟩ := List.mem_map.1 hv
  exact lkf_one _ _
theorem lks_one (L : List Lk) : ∀ v ∈ lks L, v.oneCell' = true := fun v hv => by
  unfold lks at hv
  obtain ⟨x, _, h⟩ := List.mem_flatMap.1 hv
  exact lC_one x v h
theorem lks_at (L : List Lk) (k j : Nat) (x : Lk) (hk : L[k]? = some x) (hj : j < 66) : (lks L)[k * 66 + j]? = (lC x)[j]? := by
  induction L generalizing k with
  | nil => simp at hk
  | cons y r ih =>
    unfold lks at *
    rw [List.flatMap_cons]
    cases k with
    | zero =>
      injection hk with hk
      subst hk
      rw [Nat.zero_mul, Nat.zero_add, List.getElem?_append_left (by rw [lC_len]; exact hj)]
    | succ k => rw [List.getElem?_append_right (by rw [lC_len]; omega), lC_len, show (k + 1) * 66 + j - 66 = k * 66 + j by omega, ih k hk]
theorem link_row {i : TypeInfo} (h : (Try.prog.info? 36) = some i) : i.zero = some (.agg (lv lkZ)) ∧ i.size = 66 ∧ i.bytes = 80 := by
  have : (Try.prog.info? 36).map (fun i => (i.zero, i.size, i.bytes)) = some (some (.agg (lv lkZ)), 66, 80) := by kernel_rfl
  rw [h] at this
  injection this with this
  injection this with h1 h2
  injection h2 with h2 h3
  exact ⟨h1, h2, h3⟩
def stv (n : Nat) : Value := .int .i64 (n : Int)
def toldF (L : List Lk) (x : Lk) : Option Value := if x ∈ L then some (.agg #[]) else none
def stF (f : Pt → Option Nat) (p : Pt) : Option Value := (f p).map stv
/-- Who waits: a row of its own, or nobody. -/
def WaitAt (w : World) (F : Nat → Prop) (o : Option Value) : Option (List Lk) → Prop
  | none => o = none
  | some L => ∃ v, o = some v ∧ w.ownsRow 0 36 66 v L.length (lks L) ∧ ∀ k, v.ownBlock = some k → F k
structure FgB (s bt bs bw : Nat) (vl : Value) (hd : Pt → Option Value) (F : Nat → Prop) (S : FgS) (n : Nat) (w : World) : Prop where
  cells : w.heap[s]? = some (.cells #[vl, .map (some bt), .map (some bs), .map (some bw)] 73 (0, 0))
  told : MapF 36 klL w bt n (toldF S.told)
  stands : MapF 29 klP w bs n (stF S.stands)
  waits : MapF 29 klP w bw n hd
  links : w.ownsRow 0 36 66 vl S.links.length (lks S.links)
  rows : ∀ p, WaitAt w F (hd p) (S.waiting p)
  apart : ∀ p q v v' k, p ≠ q → hd p = some v → hd q = some v' → v.ownBlock = some k → v'.ownBlock ≠ some k
  apartL : ∀ p v k, hd p = some v → v.ownBlock = some k → vl.ownBlock ≠ some k
  foot : F s ∧ F bt ∧ F bs ∧ F bw ∧ ∀ k, vl.ownBlock = some k → F k
  ne : bt ≠ bs ∧ bt ≠ bw ∧ bs ≠ bw
  fin : ∀ k, F k → k < w.heap.size
section
variable {s bt bs bw : Nat} {vl : Value} {hd : Pt → Option Value} {F : Nat → Prop} {S : FgS} {n : Nat} {w w' : World}
theorem FgB.keep (h : FgB s bt bs bw vl hd F S n w) (hk : ∀ k, F k → w'.heap[k]? = w.heap[k]?) (hs : w.heap.size ≤ w'.heap.size) : FgB s bt bs bw vl hd F S n w' where
  cells := (hk s h.foot.1).trans h.cells
  told := h.told.keep (hk bt h.foot.2.1)
  stands := h.stands.keep (hk bs h.foot.2.2.1)
  waits := h.waits.keep (hk bw h.foot.2.2.2.1)
  links := ownKeep h.links (fun g hg => hk g (h.foot.2.2.2.2 g hg))
  rows p := by
    have := h.rows p
    cases hw : S.waiting p with
    | none => rw [hw] at this; exact this
    | some L =>
      rw [hw] at this
      obtain ⟨v, h1, h2, h3⟩ := this
      exact ⟨v, h1, ownKeep h2 (fun g hg => hk g (h3 g hg)), h3⟩
  apart := h.apart
  apartL := h.apartL
  foot := h.foot
  ne := h.ne
  fin k hF := Nat.lt_of_lt_of_le (h.fin k hF) hs
theorem FgB.below (h : FgB s bt bs bw vl hd F S n w) (hb : Below w.heap.size w w') : FgB s bt bs bw vl hd F S n w' := h.keep (fun k hk => hb.block k (h.fin k hk)) hb.size
theorem FgB.grown {row : Option Nat} (h : FgB s bt bs bw vl hd F S n w) (hg : w.grownBy w' row) (hr : ∀ k, row = some k → ¬ F k) : FgB s bt bs bw vl hd F S n w' :=
  h.keep (fun k hk => hg.block k (h.fin k hk) (fun e => hr k e.symm hk)) hg.size
theorem FgB.mono {n' : Nat} (h : FgB s bt bs bw vl hd F S n w) (hn : n ≤ n') : FgB s bt bs bw vl hd F S n' w := { h with told := h.told.mono hn, stands := h.stands.mono hn, waits := h.waits.mono hn }
theorem turned_block {b : Nat} (h : w.mapTurned w' b) : (∀ k, k ≠ b → w'.heap[k]? = w.heap[k]?) ∧ w'.heap.size = w.heap.size ∧ (∃ es clock, w.heap[b]? = some (.map es clock)) := by
  obtain ⟨es, clock, es', clock', h1, rfl⟩ := h
  exact ⟨fun k hk => heap_setBlock_other h1 _ hk, by simp [setBlock], es, clock, h1⟩
theorem cells_ne {b k : Nat} {cs : Array Value} {t : TypeId} {fr : Nat × Nat} (h : w.heap[k]? = some (.cells cs t fr)) (hm : ∃ es clock, w.heap[b]? = some (.map es clock)) : k ≠ b := fun e => by
  subst e
  obtain ⟨es, clock, hm⟩ := hm
  rw [h] at hm
  injection hm with hm
  cases hm
theorem row_ne {b g base sz m : Nat} {t : TypeId} {v : Value} {xs : List Value} (h : w.ownsRow base t sz v m xs) (hg : v.ownBlock = some g) (hm : ∃ es clock, w.heap[b]? = some (.map es clock)) : g ≠ b := by
  obtain ⟨cur, hc⟩ := ownCells h hg
  exact cells_ne hc hm
/-- One of the three maps has turned. -/
theorem FgB.turnStands (h : FgB s bt bs bw vl hd F S n w) (ht : w.mapTurned w' bs) {st : Pt → Option Nat} {n' : Nat} (hn : n ≤ n') (hm : MapF 29 klP w' bs n' (stF st)) : FgB s bt bs bw vl hd F { S with stands := st } n' w' := by
  obtain ⟨h1, h2, h3⟩ := turned_block ht
  exact {
    cells := (h1 s (cells_ne h.cells h3)).trans h.cells
    told := (h.told.keep (h1 bt h.ne.1)).mono hn
    stands := hm
    waits := (h.waits.keep (h1 bw (fun e => h.ne.2.2 e.symm))).mono hn
    links := ownKeep h.links (fun g hg => h1 g (row_ne h.links hg h3))
    rows := fun p => by
      have := h.rows p
      show WaitAt w' F (hd p) (S.waiting p)
      cases hw : S.waiting p with
      | none => rw [hw] at this; exact this
      | some L =>
        rw [hw] at this
        obtain ⟨v, g1, g2, g3⟩ := this
        exact ⟨v, g1, ownKeep g2 (fun g hg => h1 g (row_ne g2 hg h3)), g3⟩
    apart := h.apart
    apartL := h.apartL
    foot := h.foot
    ne := h.ne
    fin := fun k hk => by rw [h2]; exact h.fin k hk }
theorem FgB.turnTold (h : FgB s bt bs bw vl hd F S n w) (ht : w.mapTurned w' bt) {tl : List Lk} {n' : Nat} (hn : n ≤ n') (hm : MapF 36 klL w' bt n' (toldF tl)) : FgB s bt bs bw vl hd F { S with told := tl } n' w' := by
  obtain ⟨h1, h2, h3⟩ := turned_block ht
  exact {
    cells := (h1 s (cells_ne h.cells h3)).trans h.cells
    told := hm
    stands := (h.stands.keep (h1 bs (fun e => h.ne.1 e.symm))).mono hn
    waits := (h.waits.keep (h1 bw (fun e => h.ne.2.1 e.symm))).mono hn
    links := ownKeep h.links (fun g hg => h1 g (row_ne h.links hg h3))
    rows := fun p => by
      have := h.rows p
      show WaitAt w' F (hd p) (S.waiting p)
      cases hw : S.waiting p with
      | none => rw [hw] at this; exact this
      | some L =>
        rw [hw] at this
        obtain ⟨v, g1, g2, g3⟩ := this
        exact ⟨v, g1, ownKeep g2 (fun g hg => h1 g (row_ne g2 hg h3)), g3⟩
    apart := h.apart
    apartL := h.apartL
    foot := h.foot
    ne := h.ne
    fin := fun k hk => by rw [h2]; exact h.fin k hk }
/-- The map of those who wait has turned at p: it holds o there now. -/
theorem FgB.turnWaits (h : FgB s bt bs bw vl hd F S n w) (ht : w.mapTurned w' bw) (p : Pt) {o : Option Value} {L : Option (List Lk)} {n' : Nat} {F' : Nat → Prop} (hn : n ≤ n') (hm : MapF 29 klP w' bw n' (setF hd p o)) (hF : ∀ k, F k → F' k) (hF' : ∀ k, F' k → k < w.heap.size)
    (ho : WaitAt w F' o L) (hap : ∀ q v v' k, q ≠ p → hd q = some v → o = some v' → v.ownBlock = some k → v'.ownBlock ≠ some k) (hal : ∀ v k, o = some v → v.ownBlock = some k → vl.ownBlock ≠ some k) :
    FgB s bt bs bw vl (setF hd p o) F' { S with waiting := fun q => if q = p then L else S.waiting q } n' w' := by
  obtain ⟨h1, h2, h3⟩ := turned_block ht
  have wk : ∀ o L, WaitAt w F' o L → WaitAt w' F' o L := fun o L hw => by
    cases L with
    | none => exact hw
    | some L =>
      obtain ⟨v, g1, g2, g3⟩ := hw
      exact ⟨v, g1, ownKeep g2 (fun g hg => h1 g (row_ne g2 hg h3)), g3⟩
  exact {
    cells := (h1 s (cells_ne h.cells h3)).trans h.cells
    told := (h.told.keep (h1 bt h.ne.2.1)).mono hn
    stands := (h.stands.keep (h1 bs h.ne.2.2)).mono hn
    waits := hm
    links := ownKeep h.links (fun g hg => h1 g (row_ne h.links hg h3))
    rows := fun q => by
      show WaitAt w' F' (setF hd p o q) (if q = p then L else S.waiting q)
      unfold setF
      by_cases e : q = p
      · rw [if_pos e, if_pos e]
        exact wk _ _ ho
      · rw [if_neg e, if_neg e]
        have := h.rows q
        cases hw : S.waiting q with
        | none => rw [hw] at this; exact this
        | some L =>
          rw [hw] at this
          obtain ⟨v, g1, g2, g3⟩ := this
          exact wk _ _ ⟨v, g1, g2, fun k hk => hF k (g3 k hk)⟩
    apart := fun q r v v' k hqr hv hv' hk => by
      unfold setF at hv hv'
      by_cases e : q = p
      · rw [if_pos e] at hv
        have er : r ≠ p := fun e2 => hqr (e.trans e2.symm)
        rw [if_neg er] at hv'
        intro hk'
        exact hap r v' v k er hv' hv hk' hk
      · rw [if_neg e] at hv
        by_cases er : r = p
        · rw [if_pos er] at hv'
          exact hap q v v' k e hv hv' hk
        · rw [if_neg er] at hv'
          exact h.apart q r v v' k hqr hv hv' hk
    apartL := fun q v k hv hk => by
      unfold setF at hv
      by_cases e : q = p
      · rw [if_pos e] at hv
        exact hal v k hv hk
      · rw [if_neg e] at hv
        exact h.apartL q v k hv hk
    foot := ⟨hF _ h.foot.1, hF _ h.foot.2.1, hF _ h.foot.2.2.1, hF _ h.foot.2.2.2.1, fun k hk => hF k (h.foot.2.2.2.2 k hk)⟩
    ne := h.ne
    fin := fun k hk => by rw [h2]; exact hF' k hk }
end
end Go.Proofs.Ythlbpjkopkicbaa
