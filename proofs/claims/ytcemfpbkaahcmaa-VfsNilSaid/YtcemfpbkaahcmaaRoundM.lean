/- What a round of a range over a function keeps; a count in a box. -/
import Derived.Test.YtcemfpbkaahcmaaRound
import Derived.Test.YtcemfpbkaahcmaaStep4
namespace Go.Proofs.Ytcemfpbkaahcmaa
open Go.RowKit
set_option linter.unusedVariables false

theorem below_drew {w u : World} {B : Nat} (h : Below B w.drew u) : Below B w u := Below.trans (show Below B w w.drew from ⟨rfl, rfl, rfl, Nat.le_refl _, fun _ _ => rfl⟩) h
/-- A round keeps the cells from lo up to hi. -/
def KpC (lo hi : Nat) (W W' : World) : Prop := ∀ q : Addr, lo ≤ q.block → q.block < hi → W'.cell? q = W.cell? q
theorem kpC_t {lo hi : Nat} {A B C : World} (h : KpC lo hi A B) (k : KpC lo hi B C) : KpC lo hi A C := fun q h1 h2 => (k q h1 h2).trans (h q h1 h2)
theorem kpC_b {lo hi : Nat} (W : World) (l : Nat) (o o' : Obj) (hl : hi ≤ l) : KpC lo hi W (W.putObj l o') := fun q h1 h2 =>
  World.cell?_of_block (World.putObj_heap_other (by omega))
theorem kpC_grown {lo hi bn : Nat} {W W' : World} (h : W.grownBy W' (some bn)) (hb : bn < lo) (hs : hi ≤ W.heap.size) : KpC lo hi W W' := fun q h1 h2 =>
  World.cell?_of_block (h.block q.block (by omega) (fun e => by injection e with e; omega))
theorem grown_none {w w' : World} (h : w.grownBy w' none) (row : Option Nat) : w.grownBy w' row := ⟨h.os, h.tape, h.output, h.size, fun k hk _ => h.block k hk (by simp)⟩
/-- A box of a number is no part of a disk. -/
theorem Holds.box {w w' : World} {base p m bn : Nat} {S : DS} {cs : Array Value} (h : Holds w base p S m) (hb : w.heap[bn]? = some (.cells cs 3 (0, 0))) (hg : w.grownBy w' (some bn)) : Holds w' base p S m := by
  obtain ⟨hG, fb, lb, sv, rv, hM⟩ := h
  refine ⟨hG, fb, lb, sv, rv, hM.kept hg (fun g e => ?_)⟩
  injection e with e
  subst e
  exact OffDisk.box hb (by decide)
/-- Between two rounds: n counts, all else that was there ahead of the loop lies as it lay. -/
def CountI (w : World) (bn : Nat) {α : Type} (pre : List α) (W : World) : Prop := w.grownBy W (some bn) ∧ W.heap[bn]? = some (.cells #[.int .i64 (pre.length : Int)] 3 (0, 0))
theorem countI_from {w : World} {bn : Nat} {α : Type} (hbn : bn < w.heap.size) : OwnFrom w.heap.size (CountI w bn (α := α)) := fun s A B row hs hg hr => by
  refine ⟨⟨hg.os.trans hs.1.os, hg.tape.trans hs.1.tape, hg.output.trans hs.1.output, Nat.le_trans hs.1.size hg.size, fun k hk hne => ?_⟩, ?_⟩
  · exact (hg.block k (Nat.lt_of_lt_of_le hk hs.1.size) (fun e => by have := (hr k e.symm).1; omega)).trans (hs.1.block k hk hne)
  · exact (hg.block bn (Nat.lt_of_lt_of_le hbn hs.1.size) (fun e => by have := (hr bn e.symm).1; omega)).trans hs.2
end Go.Proofs.Ytcemfpbkaahcmaa
