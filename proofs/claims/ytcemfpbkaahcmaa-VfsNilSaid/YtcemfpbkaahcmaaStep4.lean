/- Words and laws: a file in memory is written; what a call leaves of a disk. -/
import Derived.Test.YtcemfpbkaahcmaaChange
namespace Go.Proofs.Ytcemfpbkaahcmaa
open Go.RowKit
set_option linter.unusedVariables false

/-- A file's own block is written, and no other. -/
def FileTo (w : World) (k : Nat) (v : Value) (n : Nat) (w' : World) : Prop :=
  w.grownBy w' (some k) ∧ w'.heap[k]? = some (.cells (fileV v n) 71 (0, 0))
/-- A call of a disk's: what it hands back; the disk behind it; nothing below it is touched. -/
def StepP (w : World) (base p : Nat) (r : Int × DS) (m : Nat) (e : Ending) (w' : World) : Prop :=
  e = .returned (.int .i64 r.1) ∧ Holds w' base p r.2 m ∧ Below base w w'

theorem below_grown {w w' : World} {base : Nat} {row : Option Nat} (h : w.grownBy w' row) (hb : base ≤ w.heap.size) (hr : ∀ k, row = some k → base ≤ k) : Below base w w' :=
  (Below.refl base w).grown h hb hr
theorem row_form {w : World} {base sz n : Nat} {t : TypeId} {v : Value} {xs : List Value} (h : w.ownsRow base t sz v n xs) : ∃ A c, v = .slice A n c ∧ n ≤ c := by
  rcases h.2 with ⟨rfl, rfl⟩ | ⟨g, cap, cur, rfl, h1, h2, h3, _⟩
  · exact ⟨none, 0, rfl, Nat.le_refl _⟩
  · exact ⟨_, cap, rfl, h3⟩
theorem grown_below {w w' : World} {B : Nat} (h : Below B w w') (hB : w.heap.size ≤ B) (row : Option Nat) : w.grownBy w' row := ⟨h.os, h.tape, h.output, h.size, fun k hk _ => h.block k (by omega)⟩
theorem grown_drew {w w' : World} {row : Option Nat} (h : w.grownBy w' row) : w.grownBy w'.drew row := ⟨h.os, h.tape, h.output, h.size, h.block⟩
/-- A slice's beginning owns its part. -/
theorem row_take {w : World} {base n c : Nat} {A : Option Addr} {t : TypeId} {xs : List Value} (h : w.ownsRow base t 1 (.slice A n c) n xs) (k : Nat) (hk : k ≤ n) : w.ownsRow base t 1 (.slice A k c) k (xs.take k) := by
  refine ⟨by have := h.1; simp at this ⊢; omega, ?_⟩
  rcases h.2 with ⟨hv, rfl⟩ | ⟨g, cap, cur, hv, h1, h2, h3, h4, h5, h6⟩
  · injection hv with h1 h2 h3
    subst h1 h3
    obtain rfl : k = 0 := by omega
    exact .inl ⟨rfl, rfl⟩
  · injection hv with e1 _ e3
    subst e1 e3
    refine .inr ⟨g, c, cur, rfl, h1, h2, by omega, h4, h5, ?_⟩
    rw [← h6, List.take_take]
    congr 1
    omega

section
variable {w w' : World} {base p : Nat} {S S' : DS} {fb lb m : Nat} {sv : Value} {rv : Nat → Value} {k : Nat} {f f' : Fl}
theorem FileTo.row {v : Value} {n : Nat} (hT : FileTo w k v n w') {t : TypeId} (ht : t ≠ 71) {sz l : Nat} {u : Value} {cs : Array Value} {xs : List Value} (hb : w.heap[k]? = some (.cells cs 71 (0, 0))) (h : w.ownsRow base t sz u l xs) : w'.ownsRow base t sz u l xs :=
  h.kept hT.1 (row_ne h (not_cells_of_type hb ht.symm))
theorem FileTo.refl {v : Value} {n : Nat} (h : w.heap[k]? = some (.cells (fileV v n) 71 (0, 0))) : FileTo w k v n w := ⟨World.grownBy.refl w _, h⟩
theorem FileTo.set0 {v : Value} {n : Nat} (h : FileTo w k v n w') (u : Value) : FileTo w k u n (w'.setCell ⟨k, 0, none⟩ u) := ⟨h.1.trans (grown_set w' ⟨k, 0, none⟩ u), set_block h.2 u⟩
theorem FileTo.set1 {v : Value} {n : Nat} (h : FileTo w k v n w') (n' : Nat) : FileTo w k v n' (w'.setCell ⟨k, 1, none⟩ (.int .i64 (n' : Int))) := ⟨h.1.trans (grown_set w' ⟨k, 1, none⟩ _), set_block h.2 _⟩
theorem FileTo.drew {v : Value} {n : Nat} (h : FileTo w k v n w') : FileTo w k v n w'.drew := ⟨grown_drew h.1, h.2⟩
theorem FileTo.trans {v v' : Value} {n n' : Nat} {w'' : World} (h : FileTo w k v n w') (h' : FileTo w' k v' n' w'') : FileTo w k v' n' w'' := ⟨h.1.trans h'.1, h'.2⟩
/-- A block of another type stays. -/
theorem FileTo.other {v : Value} {n j : Nat} {cs cs' : Array Value} {t : TypeId} (h : FileTo w k v n w') (hk : w.heap[k]? = some (.cells cs 71 (0, 0))) (hj : w.heap[j]? = some (.cells cs' t (0, 0))) (ht : t ≠ 71) : w'.heap[j]? = some (.cells cs' t (0, 0)) :=
  (h.1.block j (lt_of_block hj) (fun e => by injection e with e; exact ne_types hj hk ht e)).trans hj
/-- A file is written. -/
theorem Mem.file {v' : Value} (h : Mem w base p S fb lb sv rv m) (hk : S.fl k = some f) (hT : FileTo w k v' f'.n w') (hr : w'.ownsRow base 5 1 v' f'.b.length (f'.b.map bv))
    (hv : ∀ g, v'.ownBlock = some g → ∀ j fj, S.fl j = some fj → (rv j).ownBlock = some g → j = k) : Mem w' base p (S.setFile k f') fb lb sv (upd rv k v') m where
  low := h.low
  blk := (hT.1.block p (lt_of_block h.blk) (fun e => by injection e with e; exact ne_types h.blk (h.fil.blk k f hk) (by decide) e)).trans h.blk
  fbl := h.fbl
  lbl := h.lbl
  ne := h.ne
  files := h.files.kept hT.1 (fun e => by injection e with e; exact ne_map_cells h.files (h.fil.blk k f hk) e)
  last := h.last.kept hT.1 (fun e => by injection e with e; exact ne_map_cells h.last (h.fil.blk k f hk) e)
  since := hT.row (by decide) (h.fil.blk k f hk) h.since
  fil := by
    refine ⟨fun j fj hj => ?_, fun j fj hj => ?_, fun j fj hj => ?_, fun j fj j' fj' g hj hj' hg hg' => ?_⟩
    · simp only [DS.setFile, upd] at hj
      split at hj
      · rename_i e; subst e; exact h.fil.low j f hk
      · exact h.fil.low j fj hj
    · simp only [DS.setFile, upd] at hj ⊢
      split at hj
      · rename_i e; subst e; cases hj; rw [if_pos rfl]; exact hT.2
      · rename_i e
        rw [if_neg e]
        exact (hT.1.block j (h.fil.lt hj) (fun e' => by injection e' with e'; exact e e')).trans (h.fil.blk j fj hj)
    · simp only [DS.setFile, upd] at hj ⊢
      split at hj
      · rename_i e; subst e; cases hj; rw [if_pos rfl]; exact hr
      · rename_i e
        rw [if_neg e]
        exact hT.row (by decide) (h.fil.blk k f hk) (h.fil.row j fj hj)
    · simp only [DS.setFile, upd] at hj hj' hg hg'
      by_cases e : j = k
      · by_cases e' : j' = k
        · rw [e, e']
        · rw [if_pos e] at hg
          rw [if_neg e'] at hj' hg'
          exact absurd (hv g hg j' fj' hj' hg') e'
      · rw [if_neg e] at hj hg
        by_cases e' : j' = k
        · rw [if_pos e'] at hg'
          exact absurd (hv g hg' j fj hj hg) e
        · rw [if_neg e'] at hj' hg'
          exact h.fil.sep j fj j' fj' g hj hj' hg hg'
theorem setFile_good (hG : Good S m) (hk : S.fl k = some f) (h1 : f'.n ≤ f'.b.length) (h2 : f'.b.length ≤ S.cap) : Good (S.setFile k f') m := by
  have hs : ∀ j, (S.fl j).isSome = true → ((S.setFile k f').fl j).isSome = true := fun j hj => by
    simp only [DS.setFile, upd]
    split
    · rfl
    · exact hj
  exact { hG with
    domD := fun q hq => hs _ (hG.domD q hq), domL := fun q hq => hs _ (hG.domL q hq)
    nmE := fun e he => by obtain ⟨a, b, c, d⟩ := hG.nmE e he; exact ⟨a, b, c, fun h0 => hs _ (d h0)⟩
    las := fun j fj hj => by
      simp only [DS.setFile, upd] at hj
      split at hj
      · cases hj; exact ⟨h1, h2⟩
      · exact hG.las j fj hj }
theorem fileOf_eq {nm : Str} (hl : S.D.look nm = some k) (hk : S.fl k = some f) : S.fileOf nm = f := by simp [DS.fileOf, hl, hk]
theorem numOf_eq {nm : Str} (hl : S.D.look nm = some k) : S.numOf nm = k := by simp [DS.numOf, hl]
theorem file_of (hG : Good S m) {nm : Str} (hl : S.D.look nm = some k) : ∃ f, S.fl k = some f := by
  have := hG.domD _ (look_mem hl)
  exact Option.isSome_iff_exists.1 this
/-- A disk behind what a change met. -/
theorem Mem.met {w2 : World} (h : Mem w base p S fb lb sv rv m) (hT : DiskTo w p S.next.2 fb lb sv w2) : Mem w2 base p S.next.2 fb lb sv rv m := h.disk hT.1 (next_same S) hT.2
theorem box_cell (w : World) (v : Value) (t : TypeId) : (w.alloc (.cells #[v] t)).heap[w.heap.size]? = some (.cells #[v] t (0, 0)) := heap_alloc_new w _
theorem row_cap {n c : Nat} {A : Option Addr} {t : TypeId} {xs : List Value} (h : w.ownsRow base t 1 (.slice A n c) n xs) : c ≤ maxLen := by
  rcases h.2 with ⟨h1, _⟩ | ⟨_, _, _, h1, _, _, _, h4, _⟩
  · injection h1 with _ _ h1; rw [h1]; unfold maxLen; omega
  · injection h1 with _ _ h1; rw [h1]; exact h4
theorem Mem.baseLe (h : Mem w base p S fb lb sv rv m) : base ≤ w.heap.size := by have := lt_of_block h.blk; have := h.low; omega
/-- A call that is refused ahead of its change. -/
theorem StepP.no {e : Ending} {r : Int} (h : Holds w base p S m) (hb : Below base w w') (hw : w.grownBy w' none) (he : e = .returned (.int .i64 r)) : StepP w base p (r, S) (m + 1) e w' := by
  refine ⟨he, ?_, hb⟩
  obtain ⟨hG, fb, lb, sv, rv, hM⟩ := h
  exact ⟨hG.mono (by omega), fb, lb, sv, rv, (hM.kept hw (fun g e => by cases e)).mono (by omega)⟩
end
end Go.Proofs.Ytcemfpbkaahcmaa
