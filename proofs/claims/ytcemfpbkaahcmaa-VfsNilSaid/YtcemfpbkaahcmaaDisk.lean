/- Words for memory: a disk in memory. -/
import Derived.Test.YtcemfpbkaahcmaaMem
import Derived.Test.YtcemfpbkaahcmaaVfs
import Derived.OneCell
namespace Go.Proofs.Ytcemfpbkaahcmaa
open Go.RowKit
open Go.Maps (Keyed string_keyed)
set_option linter.unusedVariables false

/-- How a pointer to a file reads, as a map's element. -/
def ptrR : Value → Option (DataW Unit × List MemPlace)
  | .pointer none => some (.nil, [])
  | .pointer (some a) => if a.off = 0 ∧ a.spot = none then some (datE a.block, []) else none
  | _ => none
theorem ptrR_nil : ptrR (.pointer none) = some (.nil, []) := rfl
theorem ptrR_mk (k : Nat) : ptrR (.pointer (some ⟨k, 0, none⟩)) = some (datE k, []) := by simp [ptrR]
theorem ptrR_inv {v : Value} {y : DataW Unit × List MemPlace} (h : ptrR v = some y) : (v = .pointer none ∧ y = (.nil, [])) ∨ ∃ k, v = .pointer (some ⟨k, 0, none⟩) ∧ y = (datE k, []) := by
  unfold ptrR at h
  split at h
  · cases h; exact .inl ⟨rfl, rfl⟩
  · rename_i a
    split at h
    · rename_i ha
      cases h
      obtain ⟨b, o, s⟩ := a
      obtain ⟨rfl, rfl⟩ := ha
      exact .inr ⟨b, rfl, rfl⟩
    · cases h
  · cases h
theorem datE_inj {a b : Nat} (h : datE a = datE b) : a = b := by
  unfold datE at h
  injection h with h
  injection h with _ h
  exact Int.ofNat_inj.1 h
/-- The pointer that a look in a directory hands back. -/
def ptrOf : Option Nat → Value
  | some k => .pointer (some ⟨k, 0, none⟩)
  | none => .pointer none
theorem ptrR_look {v : Value} {ps : List MemPlace} {d : Dir} {s : Str} (h : ptrR v = some ((toD d).atKey (.string s) .nil, ps)) : v = ptrOf (d.look s) := by
  rw [toD_at] at h
  rcases ptrR_inv h with ⟨rfl, e⟩ | ⟨k, rfl, e⟩
  · cases hl : Dir.look d s with
    | none => rfl
    | some j => rw [hl] at e; simp [datE] at e
  · cases hl : Dir.look d s with
    | none => rw [hl] at e; simp [datE] at e
    | some j =>
      rw [hl] at e
      have := datE_inj (Prod.mk.inj e).1
      subst this
      rfl

/-- A string of these bytes. -/
def strV (l : Str) : Value := .string ⟨l.toArray⟩
theorem law9 : Keyed Try.prog 9 := string_keyed Try.underlying9
theorem key9 (l : Str) (h : l.length ≤ maxLen) : keyOf Try.prog 9 (strV l) = some (.string l) := by
  have := WideMaps.keyOf_string_mk (P := Try.prog) Try.underlying9 (s := ⟨l.toArray⟩) (by show l.toArray.size ≤ _; simpa using h)
  simpa [strV] using this

/-- A block holds a directory. -/
def DirAt (w : World) (b n : Nat) (d : Dir) : Prop := w.ownsMap Try.prog 9 ptrR b n (toD d)
def fileV (v : Value) (n : Nat) : Array Value := #[v, .int .i64 (n : Int)]
def diskV (S : DS) (fb lb : Nat) (sv : Value) : Array Value :=
  #[.int .i64 (S.cap : Int), .map (some fb), .map (some lb), sv, .int .i64 S.fuse, .int .i64 S.fa, .int .i64 S.fc, .bool S.dead, .int .i64 S.ch]
def enV (e : En) : List Value := [.int .i64 (e.kind : Int), strV e.name, strV e.to, if e.kind = 0 then .pointer (some ⟨e.made, 0, none⟩) else .pointer none]

/-- The files in memory: each in a block of its own, its bytes in a row of its own. -/
structure FilesAt (w : World) (base : Nat) (fl : Nat → Option Fl) (rv : Nat → Value) : Prop where
  low : ∀ k f, fl k = some f → base ≤ k
  blk : ∀ k f, fl k = some f → w.heap[k]? = some (.cells (fileV (rv k) f.n) 71 (0, 0))
  row : ∀ k f, fl k = some f → w.ownsRow base 5 1 (rv k) f.b.length (f.b.map bv)
  sep : ∀ k f k' f' g, fl k = some f → fl k' = some f' → (rv k).ownBlock = some g → (rv k').ownBlock = some g → k = k'
structure Mem (w : World) (base p : Nat) (S : DS) (fb lb : Nat) (sv : Value) (rv : Nat → Value) (n : Nat) : Prop where
  low : base ≤ p
  blk : w.heap[p]? = some (.cells (diskV S fb lb sv) 54 (0, 0))
  fbl : base ≤ fb
  lbl : base ≤ lb
  ne : fb ≠ lb
  files : DirAt w fb n S.D
  last : DirAt w lb n S.L
  since : w.ownsRow base 82 4 sv S.es.length (S.es.flatMap enV)
  fil : FilesAt w base S.fl rv
/-- A disk in memory. -/
def Holds (w : World) (base p : Nat) (S : DS) (m : Nat) : Prop := Good S m ∧ ∃ fb lb sv rv, Mem w base p S fb lb sv rv m

/-! ### what a block is not -/
/-- No block that a disk is made of: a box of another type, a walk's object. -/
def OffDisk (w : World) (g : Nat) : Prop :=
  ∀ o, w.heap[g]? = some o → (∀ cs t f, o = .cells cs t f → t ≠ 54 ∧ t ≠ 71 ∧ t ≠ 5 ∧ t ≠ 82) ∧ (∀ es c, o ≠ .map es c)
theorem OffDisk.box {w : World} {g : Nat} {cs : Array Value} {t : TypeId} {f : Nat × Nat} (h : w.heap[g]? = some (.cells cs t f)) (ht : t ≠ 54 ∧ t ≠ 71 ∧ t ≠ 5 ∧ t ≠ 82) : OffDisk w g := fun o ho => by
  rw [h] at ho; cases ho
  exact ⟨fun _ _ _ e => by cases e; exact ht, fun _ _ e => by cases e⟩
theorem OffDisk.far {w : World} {g : Nat} (h : w.heap.size ≤ g) : OffDisk w g := fun o ho => by
  rw [Array.getElem?_eq_none h] at ho; cases ho
theorem OffDisk.ne_disk {w : World} {g p : Nat} {cs : Array Value} (h : OffDisk w g) (hp : w.heap[p]? = some (.cells cs 54 (0, 0))) : p ≠ g := fun e => by
  subst e; exact ((h _ hp).1 _ _ _ rfl).1 rfl
theorem OffDisk.ne_file {w : World} {g p : Nat} {cs : Array Value} (h : OffDisk w g) (hp : w.heap[p]? = some (.cells cs 71 (0, 0))) : p ≠ g := fun e => by
  subst e; exact ((h _ hp).1 _ _ _ rfl).2.1 rfl
theorem OffDisk.ne_map {w : World} {g b n : Nat} {d : Dir} (h : OffDisk w g) (hp : DirAt w b n d) : b ≠ g := fun e => by
  subst e
  obtain ⟨es, c, hb, _⟩ := hp
  exact (h _ hb).2 _ _ rfl
theorem OffDisk.ne_row {w : World} {g base sz n : Nat} {v : Value} {xs : List Value} {t : TypeId} (h : OffDisk w g) (ht : t = 5 ∨ t = 82) (hr : w.ownsRow base t sz v n xs) : v.ownBlock = none ∨ v.ownBlock ≠ some g := by
  rcases hr.2 with ⟨rfl, _⟩ | ⟨g', cap, cur, rfl, _, hb, _⟩
  · exact .inl rfl
  · refine .inr fun e => ?_
    simp only [Value.ownBlock, Option.some.injEq] at e
    subst e
    have := (h _ hb).1 _ _ _ rfl
    rcases ht with rfl | rfl
    · exact this.2.2.1 rfl
    · exact this.2.2.2 rfl

theorem ne_types {w : World} {a b : Nat} {ca cb : Array Value} {ta tb : TypeId} (ha : w.heap[a]? = some (.cells ca ta (0, 0))) (hb : w.heap[b]? = some (.cells cb tb (0, 0))) (h : ta ≠ tb) : a ≠ b := fun e => by
  subst e; rw [ha] at hb; injection hb with hb; injection hb with _ hb; exact h hb
theorem ne_map_cells {w : World} {a b n : Nat} {d : Dir} {cb : Array Value} {tb : TypeId} (ha : DirAt w a n d) (hb : w.heap[b]? = some (.cells cb tb (0, 0))) : a ≠ b := fun e => by
  subst e
  obtain ⟨es, c, h, _⟩ := ha
  rw [h] at hb; cases hb
/-- A row of one type is no block of another. -/
theorem row_ne {w : World} {base sz n g : Nat} {v : Value} {xs : List Value} {t : TypeId} (hr : w.ownsRow base t sz v n xs) (h : ∀ cur, w.heap[g]? ≠ some (.cells cur t (0, 0))) : v.ownBlock = none ∨ v.ownBlock ≠ some g := by
  rcases hr.2 with ⟨rfl, _⟩ | ⟨g', cap, cur, rfl, _, hb, _⟩
  · exact .inl rfl
  · refine .inr fun e => ?_
    simp only [Value.ownBlock, Option.some.injEq] at e
    subst e
    exact h _ hb
theorem not_cells_of_type {w : World} {g : Nat} {cs : Array Value} {t t' : TypeId} (hg : w.heap[g]? = some (.cells cs t (0, 0))) (h : t ≠ t') : ∀ cur, w.heap[g]? ≠ some (.cells cur t' (0, 0)) := fun cur e => by
  rw [hg] at e; injection e with e; injection e with _ e; exact h e
theorem not_cells_of_map {w : World} {g n : Nat} {d : Dir} (hg : DirAt w g n d) (t' : TypeId) : ∀ cur, w.heap[g]? ≠ some (.cells cur t' (0, 0)) := fun cur e => by
  obtain ⟨es, c, hb, _⟩ := hg
  rw [hb] at e; cases e

section
variable {w w' : World} {base p : Nat} {S S' : DS} {fb lb m : Nat} {sv : Value} {rv : Nat → Value}

theorem FilesAt.lt {fl : Nat → Option Fl} (h : FilesAt w base fl rv) {k : Nat} {f : Fl} (hk : fl k = some f) : k < w.heap.size := lt_of_block (h.blk k f hk)
/-- Files stay while nothing of theirs is written. -/
theorem FilesAt.kept {fl : Nat → Option Fl} {row : Option Nat} (h : FilesAt w base fl rv) (hg : w.grownBy w' row)
    (h1 : ∀ g, row = some g → ∀ k f, fl k = some f → k ≠ g) (h2 : ∀ g, row = some g → ∀ k f, fl k = some f → (rv k).ownBlock = none ∨ (rv k).ownBlock ≠ some g) : FilesAt w' base fl rv :=
  ⟨h.low, fun k f hk => (hg.block k (h.lt hk) (fun e => h1 k e.symm k f hk rfl)).trans (h.blk k f hk),
   fun k f hk => (h.row k f hk).kept hg (by
     cases row with
     | none => cases (rv k).ownBlock <;> simp
     | some g => exact h2 g rfl k f hk), h.sep⟩
/-- A disk stays while what is written is no part of it. -/
theorem Mem.kept {row : Option Nat} (h : Mem w base p S fb lb sv rv m) (hg : w.grownBy w' row) (hr : ∀ g, row = some g → OffDisk w g) : Mem w' base p S fb lb sv rv m where
  low := h.low
  blk := (hg.block p (lt_of_block h.blk) (fun e => (hr p e.symm).ne_disk h.blk rfl)).trans h.blk
  fbl := h.fbl
  lbl := h.lbl
  ne := h.ne
  files := h.files.kept hg (fun e => (hr fb e.symm).ne_map h.files rfl)
  last := h.last.kept hg (fun e => (hr lb e.symm).ne_map h.last rfl)
  since := h.since.kept hg (by
    cases row with
    | none => cases sv.ownBlock <;> simp
    | some g => exact (hr g rfl).ne_row (.inr rfl) h.since)
  fil := h.fil.kept hg (fun g e k f hk => (hr g e).ne_file (h.fil.blk k f hk)) (fun g e k f hk => (hr g e).ne_row (.inl rfl) (h.fil.row k f hk))
theorem Mem.below (h : Mem w base p S fb lb sv rv m) {B : Nat} (hb : Below B w w') (hB : w.heap.size ≤ B) : Mem w' base p S fb lb sv rv m :=
  h.kept (row := none) ⟨hb.os, hb.tape, hb.output, hb.size, fun k hk _ => hb.block k (by omega)⟩ (fun g e => by cases e)
theorem Mem.alloc (h : Mem w base p S fb lb sv rv m) (o : Obj) : Mem (w.alloc o) base p S fb lb sv rv m := h.kept (World.grownBy_alloc w o none) (fun g e => by cases e)
theorem Mem.drew (h : Mem w base p S fb lb sv rv m) : Mem w.drew base p S fb lb sv rv m := h.kept (row := none) ⟨rfl, rfl, rfl, Nat.le_refl _, fun _ _ _ => rfl⟩ (fun g e => by cases e)
theorem Mem.mono (h : Mem w base p S fb lb sv rv m) {m' : Nat} (hm : m ≤ m') : Mem w base p S fb lb sv rv m' := { h with files := h.files.mono hm, last := h.last.mono hm }
theorem Holds.mono (h : Holds w base p S m) {m' : Nat} (hm : m ≤ m') : Holds w base p S m' := by
  obtain ⟨hg, fb, lb, sv, rv, hM⟩ := h
  exact ⟨hg.mono hm, fb, lb, sv, rv, hM.mono hm⟩
theorem Holds.below (h : Holds w base p S m) {B : Nat} (hb : Below B w w') (hB : w.heap.size ≤ B) : Holds w' base p S m := by
  obtain ⟨hg, fb, lb, sv, rv, hM⟩ := h
  exact ⟨hg, fb, lb, sv, rv, hM.below hb hB⟩
theorem Holds.lt (h : Holds w base p S m) : base ≤ p ∧ p < w.heap.size := by
  obtain ⟨hg, fb, lb, sv, rv, hM⟩ := h
  exact ⟨hM.low, lt_of_block hM.blk⟩

/-- The disk's own block is written: its numbers turn. -/
theorem Mem.disk (h : Mem w base p S fb lb sv rv m) (hg : w.grownBy w' (some p)) (hs : SameFiles S S') (hb : w'.heap[p]? = some (.cells (diskV S' fb lb sv) 54 (0, 0))) : Mem w' base p S' fb lb sv rv m where
  low := h.low
  blk := hb
  fbl := h.fbl
  lbl := h.lbl
  ne := h.ne
  files := by rw [hs.D]; exact h.files.kept hg (fun e => by cases e; exact ne_map_cells h.files h.blk rfl)
  last := by rw [hs.L]; exact h.last.kept hg (fun e => by cases e; exact ne_map_cells h.last h.blk rfl)
  since := by rw [hs.es]; exact h.since.kept hg (row_ne h.since (not_cells_of_type h.blk (by decide)))
  fil := by
    rw [hs.fl]
    exact h.fil.kept hg (fun g e k f hk => by cases e; exact ne_types (h.fil.blk k f hk) h.blk (by decide)) (fun g e k f hk => by cases e; exact row_ne (h.fil.row k f hk) (not_cells_of_type h.blk (by decide)))

/-! ### the cells -/
theorem disk_cells (h : w.heap[p]? = some (.cells (diskV S fb lb sv) 54 (0, 0))) :
    w.cell? ⟨p, 0, none⟩ = some (.int .i64 (S.cap : Int)) ∧ w.cell? ⟨p, 1, none⟩ = some (.map (some fb)) ∧ w.cell? ⟨p, 2, none⟩ = some (.map (some lb)) ∧ w.cell? ⟨p, 3, none⟩ = some sv ∧
    w.cell? ⟨p, 4, none⟩ = some (.int .i64 S.fuse) ∧ w.cell? ⟨p, 5, none⟩ = some (.int .i64 S.fa) ∧ w.cell? ⟨p, 6, none⟩ = some (.int .i64 S.fc) ∧ w.cell? ⟨p, 7, none⟩ = some (.bool S.dead) ∧ w.cell? ⟨p, 8, none⟩ = some (.int .i64 S.ch) := by
  refine ⟨?_, ?_, ?_, ?_, ?_, ?_, ?_, ?_, ?_⟩ <;> (rw [cell_of_row w p _ _ _ (0, 0) h]; rfl)
theorem free_block {b j : Nat} {cs : Array Value} {t : TypeId} (h : w.heap[b]? = some (.cells cs t (0, 0))) : w.frozen? ⟨b, j, none⟩ = false := by simp [World.frozen?, h]
theorem set_block {b j : Nat} {cs : Array Value} {t : TypeId} (h : w.heap[b]? = some (.cells cs t (0, 0))) (v : Value) : (w.setCell ⟨b, j, none⟩ v).heap[b]? = some (.cells (cs.setIfInBounds j v) t (0, 0)) := by
  simp [World.setCell, Array.getElem?_modify, h]
theorem grown_set (w : World) (a : Addr) (v : Value) : w.grownBy (w.setCell a v) (some a.block) :=
  ⟨rfl, rfl, rfl, by simp, fun k _ hk => Below.heap_setCell _ _ _ _ (fun e => hk (by rw [e]))⟩
theorem file_cells {k n : Nat} {v : Value} (h : w.heap[k]? = some (.cells (fileV v n) 71 (0, 0))) : w.cell? ⟨k, 0, none⟩ = some v ∧ w.cell? ⟨k, 1, none⟩ = some (.int .i64 (n : Int)) := by
  refine ⟨?_, ?_⟩ <;> (rw [cell_of_row w k _ _ _ (0, 0) h]; rfl)
end
end Go.Proofs.Ytcemfpbkaahcmaa
