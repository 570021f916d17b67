/- Words and laws: a loss of power under way. -/
import Derived.Test.YtcemfpbkaahcmaaFresh
namespace Go.Proofs.Ytcemfpbkaahcmaa
open Go.RowKit Go.Shelf
set_option linter.unusedVariables false

/-- What the loop over a new disk's files holds. -/
structure CB (w wr : World) (pb nb rb n : Nat) (d : Dir) (fl : Nat → Option Fl) (rv : Nat → Value) (ps : List Int) (vn : Value) (names : List Value) : Prop where
  dir : DirAt wr rb n d
  fil : FilesAt wr w.heap.size fl rv
  pk : PicksAt wr w.heap.size pb ps
  fn : wr.heap[nb]? = some (.cells #[nextF pb] 37 (0, 0))
  nms : wr.ownsRow w.heap.size 9 1 vn names.length names
  bel : Below w.heap.size w wr
/-- .. with a file of its own under way, which is in no directory yet. -/
structure CS (w wr : World) (pb nb rb n : Nat) (d : Dir) (fl : Nat → Option Fl) (rv : Nat → Value) (ps : List Int) (vn : Value) (names : List Value) (k : Nat) (v : Value) (m : Nat) (b : List UInt8) : Prop extends CB w wr pb nb rb n d fl rv ps vn names where
  blk : wr.heap[k]? = some (.cells (fileV v m) 71 (0, 0))
  row : wr.ownsRow w.heap.size 5 1 v b.length (b.map bv)
  low : w.heap.size ≤ k
  new : fl k = none
  apart : ∀ i f g, fl i = some f → (rv i).ownBlock = some g → v.ownBlock ≠ some g
section
variable {w wr w2 : World} {pb nb rb n m k : Nat} {d : Dir} {fl : Nat → Option Fl} {rv : Nat → Value} {ps : List Int} {vn v : Value} {names : List Value} {b : List UInt8}
theorem pk_block {hi : Nat} (h : PicksAt wr hi pb ps) : ∃ cs, wr.heap[pb]? = some (.cells cs 23 (0, 0)) := by
  obtain ⟨A, c, hb, _⟩ := h; exact ⟨_, hb⟩
theorem CB.grow (h : CB w wr pb nb rb n d fl rv ps vn names) (hg : wr.grownBy w2 none) : CB w w2 pb nb rb n d fl rv ps vn names where
  dir := h.dir.kept hg (by simp)
  fil := h.fil.kept hg (fun g e => by cases e) (fun g e => by cases e)
  pk := h.pk.kept hg (by simp) (fun g e => by cases e) h.bel.size
  fn := (hg.block nb (lt_of_block h.fn) (by simp)).trans h.fn
  nms := h.nms.kept hg (by cases vn.ownBlock <;> simp)
  bel := h.bel.grown hg h.bel.size (fun g e => by cases e)
theorem CB.next (h : CB w wr pb nb rb n d fl rv ps vn names) (hpb : w.heap.size ≤ pb) (hQ : NextQ wr w.heap.size pb ps w2) : CB w w2 pb nb rb n d fl rv ps.tail vn names := by
  obtain ⟨cs, hc⟩ := pk_block h.pk
  exact {
    dir := h.dir.kept hQ.1 (fun x => by injection x with x; exact ne_map_cells h.dir hc x)
    fil := h.fil.kept hQ.1 (fun g e i f hi x => by injection e with e; rw [← e] at x; exact ne_types (h.fil.blk i f hi) hc (by decide) x) (fun g e i f hi => by injection e with e; rw [← e]; exact row_ne (h.fil.row i f hi) (not_cells_of_type hc (by decide)))
    pk := hQ.2
    fn := (hQ.1.block nb (lt_of_block h.fn) (fun x => by injection x with x; exact ne_types h.fn hc (by decide) x)).trans h.fn
    nms := h.nms.kept hQ.1 (row_ne h.nms (not_cells_of_type hc (by decide)))
    bel := h.bel.grown hQ.1 h.bel.size (fun g e => by cases e; exact hpb) }
theorem CB.set (h : CB w wr pb nb rb n d fl rv ps vn names) {cs : Array Value} (hb : wr.heap[k]? = some (.cells cs 71 (0, 0))) (hlow : w.heap.size ≤ k) (hnew : fl k = none) (hg : wr.grownBy w2 (some k)) : CB w w2 pb nb rb n d fl rv ps vn names := by
  obtain ⟨cp, hc⟩ := pk_block h.pk
  exact {
    dir := h.dir.kept hg (fun x => by injection x with x; exact ne_map_cells h.dir hb x)
    fil := h.fil.kept hg (fun g e i f hi x => by injection e with e; rw [← e] at x; rw [x] at hi; rw [hi] at hnew; cases hnew) (fun g e i f hi => by injection e with e; rw [← e]; exact row_ne (h.fil.row i f hi) (not_cells_of_type hb (by decide)))
    pk := h.pk.kept hg (fun x => by injection x with x; exact ne_types hb hc (by decide) x) (fun g e => by injection e with e; omega) h.bel.size
    fn := (hg.block nb (lt_of_block h.fn) (fun x => by injection x with x; exact ne_types h.fn hb (by decide) x)).trans h.fn
    nms := h.nms.kept hg (row_ne h.nms (not_cells_of_type hb (by decide)))
    bel := h.bel.grown hg h.bel.size (fun g e => by cases e; exact hlow) }
theorem CB.dirTo (h : CB w wr pb nb rb n d fl rv ps vn names) {d' : Dir} {n' : Nat} (hT : DirTo wr rb n' d' w2) (hrb : w.heap.size ≤ rb) : CB w w2 pb nb rb n' d' fl rv ps vn names := by
  obtain ⟨cp, hc⟩ := pk_block h.pk
  exact {
    dir := hT.2
    fil := h.fil.kept hT.1 (fun g e i f hi x => by injection e with e; rw [← e] at x; exact ne_map_cells h.dir (h.fil.blk i f hi) x.symm) (fun g e i f hi => by injection e with e; rw [← e]; exact row_ne (h.fil.row i f hi) (not_cells_of_map h.dir _))
    pk := h.pk.kept hT.1 (fun x => by injection x with x; exact ne_map_cells h.dir hc x) (fun g e => by injection e with e; omega) h.bel.size
    fn := (hT.1.block nb (lt_of_block h.fn) (fun x => by injection x with x; exact ne_map_cells h.dir h.fn x.symm)).trans h.fn
    nms := h.nms.kept hT.1 (row_ne h.nms (not_cells_of_map h.dir _))
    bel := h.bel.grown hT.1 h.bel.size (fun g e => by cases e; exact hrb) }

theorem CS.grow (h : CS w wr pb nb rb n d fl rv ps vn names k v m b) (hg : wr.grownBy w2 none) : CS w w2 pb nb rb n d fl rv ps vn names k v m b where
  toCB := h.toCB.grow hg
  blk := (hg.block k (lt_of_block h.blk) (by simp)).trans h.blk
  row := h.row.kept hg (by cases v.ownBlock <;> simp)
  low := h.low
  new := h.new
  apart := h.apart
theorem CS.next (h : CS w wr pb nb rb n d fl rv ps vn names k v m b) (hpb : w.heap.size ≤ pb) (hQ : NextQ wr w.heap.size pb ps w2) : CS w w2 pb nb rb n d fl rv ps.tail vn names k v m b := by
  obtain ⟨cs, hc⟩ := pk_block h.pk
  exact {
    toCB := h.toCB.next hpb hQ
    blk := (hQ.1.block k (lt_of_block h.blk) (fun x => by injection x with x; exact ne_types h.blk hc (by decide) x)).trans h.blk
    row := h.row.kept hQ.1 (row_ne h.row (not_cells_of_type hc (by decide)))
    low := h.low
    new := h.new
    apart := h.apart }
theorem CS.set0 {A : Option Addr} {c : Nat} (h : CS w wr pb nb rb n d fl rv ps vn names k (.slice A b.length c) m b) (j : Nat) (hj : j ≤ b.length) : CS w (wr.setCell ⟨k, 0, none⟩ (.slice A j c)) pb nb rb n d fl rv ps vn names k (.slice A j c) m (b.take j) where
  toCB := h.toCB.set h.blk h.low h.new (grown_set _ _ _)
  blk := set_block h.blk _
  row := by
    have := ownsRow_setCell_other (row_take h.row j hj) (a := ⟨k, 0, none⟩) (by
      rcases row_ne h.row (not_cells_of_type h.blk (by decide)) with e | e
      · cases A <;> simp [Value.ownBlock] at e ⊢
      · cases A <;> simp [Value.ownBlock] at e ⊢; exact e) (.slice A j c)
    have hl : (b.take j).length = j := by rw [List.length_take]; omega
    rw [hl, List.map_take]
    exact this
  low := h.low
  new := h.new
  apart := fun i f g hi hg x => h.apart i f g hi hg (by cases A with | none => simp [Value.ownBlock] at x | some a => simpa [Value.ownBlock] using x)
theorem CS.set1 (h : CS w wr pb nb rb n d fl rv ps vn names k v m b) (j : Nat) : CS w (wr.setCell ⟨k, 1, none⟩ (.int .i64 (j : Int))) pb nb rb n d fl rv ps vn names k v j b where
  toCB := h.toCB.set h.blk h.low h.new (grown_set _ _ _)
  blk := set_block h.blk _
  row := ownsRow_setCell_other h.row (a := ⟨k, 1, none⟩) (by
      rcases row_ne h.row (not_cells_of_type h.blk (by decide)) with e | e
      · rw [e]; simp
      · exact e) _
  low := h.low
  new := h.new
  apart := h.apart
/-- The file is one of the files from now on. -/
theorem CS.files (h : CS w wr pb nb rb n d fl rv ps vn names k v m b) : CB w wr pb nb rb n d (upd fl k (some ⟨b, m⟩)) (upd rv k v) ps vn names :=
  { h.toCB with
    fil := by
      refine ⟨fun j f hj => ?_, fun j f hj => ?_, fun j f hj => ?_, fun j f j' f' g hj hj' hg hg' => ?_⟩
      · simp only [upd] at hj
        split at hj
        · rename_i e; rw [e]; exact h.low
        · exact h.fil.low j f hj
      · simp only [upd] at hj ⊢
        split at hj
        · rename_i e; subst e; cases hj; rw [if_pos rfl]; exact h.blk
        · rename_i e; rw [if_neg e]; exact h.fil.blk j f hj
      · simp only [upd] at hj ⊢
        split at hj
        · rename_i e; subst e; cases hj; rw [if_pos rfl]; exact h.row
        · rename_i e; rw [if_neg e]; exact h.fil.row j f hj
      · simp only [upd] at hj hj' hg hg'
        by_cases e : j = k
        · by_cases e' : j' = k
          · rw [e, e']
          · rw [if_pos e] at hg
            rw [if_neg e'] at hj' hg'
            exact absurd hg (h.apart j' f' g hj' hg')
        · rw [if_neg e] at hj hg
          by_cases e' : j' = k
          · rw [if_pos e'] at hg'
            exact absurd hg' (h.apart j f g hj hg)
          · rw [if_neg e'] at hj' hg'
            exact h.fil.sep j f j' f' g hj hj' hg hg' }
/-- A copy has been made. -/
theorem CB.copied (h : CB w wr pb nb rb n d fl rv ps vn names) {A : Option Addr} {c : Nat} (hb : w2.heap[k]? = some (.cells (fileV (.slice A b.length c) m) 71 (0, 0))) (hk : wr.heap.size ≤ k)
    (hr : w2.ownsRow wr.heap.size 5 1 (.slice A b.length c) b.length (b.map bv)) (hw : Below wr.heap.size wr w2) : CS w w2 pb nb rb n d fl rv ps vn names k (.slice A b.length c) m b where
  toCB := h.grow (grown_below hw (Nat.le_refl _) _)
  blk := hb
  row := by
    refine ⟨hr.1, ?_⟩
    rcases hr.2 with h1 | ⟨g, cap, cur, h1, h2, h3⟩
    · exact .inl h1
    · exact .inr ⟨g, cap, cur, h1, Nat.le_trans h.bel.size h2, h3⟩
  low := Nat.le_trans h.bel.size hk
  new := by
    cases e : fl k with
    | none => rfl
    | some f => have := h.fil.lt e; omega
  apart := fun i f g hi hg x => by
    have h1 := ((h.fil.row i f hi).lt g hg).2
    have h2 := (hr.lt g x).1
    omega
end
end Go.Proofs.Ytcemfpbkaahcmaa
