/- Contracts: the reference's Join, Much (at a bound of 2500), Sum. -/
import Derived.Test.YthjeanjodhafjaaDoorRsSum
import Derived.Test.YthjeanjodhafjaaDoorStr
import Derived.Laws.Concat
namespace Go.Proofs.YthjeanjodhafjaaDoor
open Go.ChangeShapes Go.WideShapes Go.ChangeAt Go.RowKit
set_option linter.unusedVariables false

theorem flat_le (L : List Pc) (k : Nat) : (flat (L.take k)).length ≤ (flat L).length := flat_take_le L k
/-- What Join answers: a slice of its own that reads as all pieces. -/
def JoinP (l : List UInt8) (w : World) (e : Ending) (w' : World) : Prop := ∃ A c, e = .returned (.slice A l.length c) ∧ l.length ≤ c ∧ (∃ g, A = some ⟨g, 0, none⟩) ∧ Rd w' w.heap.size w'.heap.size A l ∧ Below w.heap.size w w'

/-- What Much answers: where it says no, there is little. -/
def MuchP (B : Nat) (L : List Pc) (w : World) (e : Ending) (w' : World) : Prop := ∃ b : Bool, e = .returned (.bool b) ∧ w = w' ∧ (b = false → L.length + (flat L).length ≤ B)

/-- What is left behind k lists. -/
def Lft (B : Nat) (L : List Pc) (k : Nat) (z : Int) : Prop := 0 ≤ z → (L.length : Int) + ((flat (L.take k)).length : Int) + z = (B : Int)
theorem Lft.step {B : Nat} {L : List Pc} {k : Nat} {z m : Int} (h : Lft B L k z) (hk : k < L.length) (h0 : 0 ≤ z) (hz : z ≤ B) (hm : m = min (L[k].2.2.length : Int) ((B : Int) + 1)) : Lft B L (k + 1) (z - m) := by
  intro h1
  have := h h0
  rw [flat_take L k hk, List.length_append]
  omega



set_option maxRecDepth 100000 in
set_option maxHeartbeats 1000000 in
theorem refSum_any (A : Option Addr) (c lo : Nat) (l : List UInt8) (w : World) (hr : Rd w lo w.heap.size A l) (hl : l.length < 1000000000) :
    Calls Tryd.prog 27 #[.slice A l.length c] w fun e w' => e = .returned (.agg (hashV (shaL l))) ∧ Below w.heap.size w w' := by
  have hz := zero_begun
  have hz2 := zero_hash
  go_enter Tryd.func27, Tryd.ntmps27
  go_wp2_with fail
  have g0 : Fill w.heap.size 25 32 32 z8 (w.alloc (.cells (rowV 32 z8) 25)) := Fill.of_row (heap_alloc_new w _)
  have b0 : Below w.heap.size w (w.alloc (.cells (rowV 32 z8) 25)) := (Below.refl _ _).alloc (Nat.le_refl _) _
  generalize w.alloc (.cells (rowV 32 z8) 25) = W at *
  refine (begin_any W).mono ?_
  rintro e w1 ⟨rfl, b1⟩
  have G1 := g0.below b1 g0.lt
  have B1 := b0.trans (b1.mono b0.size)
  clear g0 b0 b1
  have h1 := heap_at w1 (.cells (rowV 72 bgT) 53)
  have HH := Lib.hid h1
  clear h1
  go_wp2_with (first | (refine wpList_store_row rfl 53 (.tmp 3) (.tmp 4) rfl w1.heap.size (rowV 72 bgT) rfl rfl 53 (rowV 72 z32) (heap_alloc_new _ _) (begun_size _) (by rw [rowV_size, rowV_size]) (rowV_one 72 _ (fun i => by unfold bgT rv; split <;> rfl)) ?_; rw [World.setRow_alloc_new]) | (refine wpList_load_row rfl 53 (.tmp 3) rfl w1.heap.size rfl 53 (rowV 72 bgT) (0, 0) _ HH.out Tryd.underlying53 rfl (begun_size _) ?_))
  have ba := (Below.refl w1.heap.size w1).alloc (Nat.le_refl _) (.cells (rowV 72 bgT) 53)
  have B2 := B1.trans (ba.mono B1.size)
  have G2 := G1.below ba G1.lt
  clear ba HH G1 B1 hz hz2
  generalize w1.alloc (.cells (rowV 72 bgT) 53) = w2 at *
  refine (begunSum_any A c lo l w2 ((hr.below B2 (Nat.le_refl _)).wide (Nat.le_refl _) B2.size) hl).mono ?_
  rintro e w3 ⟨rfl, b3⟩
  have h2 := (G2.below b3 G2.lt).done
  have B3 := B2.trans (b3.mono B2.size)
  clear b3 B2 G2
  go_wp2_with (refine wpList_store_row rfl 25 (.tmp 2) (.tmp 7) rfl w.heap.size (hashV (shaL l)) rfl rfl 25 (rowV 32 z8) h2 (hash_size _) (by unfold hashV; rw [rowV_size, rowV_size]) (rowV_one 32 _ (fun i => rfl)) ?_)
  exact bodyPost_ret (v := .agg (hashV (shaL l))) (results_cell_row rfl _ _ w.heap.size 25 (hashV (shaL l)) (0, 0) _ rfl (setRow_heap _ _ _ _ _ _ h2) Tryd.underlying25 rfl (hash_size _)) rfl ⟨rfl, below_setRow B3 (Nat.le_refl _) _⟩
end Go.Proofs.YthjeanjodhafjaaDoor
