/- The chapter's rows are answered as it says: 'known' answers true, and changes nothing that was there. -/
import Derived.Test.YthjeanjodhafjaaDoorSha
import Derived.Test.YthjeanjodhafjaaDoorRefGet
import Derived.Test.YthjeanjodhafjaaDoorShaRows
import Derived.Lib.SlBytesConst
import Derived.Laws.BytesArg
namespace Go.Proofs.YthjeanjodhafjaaDoor
open Go.ChangeShapes Go.WideShapes Go.ChangeAt Go.RowKit
set_option linter.unusedVariables false

theorem hash_rd (w : World) (l : List UInt8) (hl : l.length = 32) (k : Nat) (t : TypeId) (fr : Nat × Nat) : Rd (w.alloc (.cells (hashV l) t fr)) 0 (w.alloc (.cells (hashV l) t fr)).heap.size (some ⟨w.heap.size, 0, none⟩) (l.take k) := fun hn => by
  refine ⟨w.heap.size, 0, rfl, Nat.zero_le _, by simp, fun j x hx => ?_⟩
  rw [List.getElem?_take] at hx
  split at hx
  · have hj : j < 32 := by
      rcases Nat.lt_or_ge j 32 with h | h
      · exact h
      · rw [List.getElem?_eq_none (by omega)] at hx; cases hx
    rw [Nat.zero_add, cell_of_row _ w.heap.size j _ _ fr (heap_alloc_new w _)]
    unfold hashV
    rw [rowV_at 32 _ j hj]
    unfold hF
    rw [List.getD_eq_getElem?_getD, hx]
    rfl
  · cases hx


theorem Rd.lit (w : World) (l : List UInt8) (fr : Nat × Nat) : Rd (w.alloc (.cells (l.map bv).toArray 5 fr)) 0 (w.heap.size + 1) (some ⟨w.heap.size, 0, none⟩) l := fun hn => by
  refine ⟨w.heap.size, 0, rfl, Nat.zero_le _, by omega, fun j x hx => ?_⟩
  rw [Nat.zero_add, cell_of_row _ w.heap.size j _ _ fr (heap_alloc_new w _)]
  simp [hx]

/-- Sum of one list as a call lays it; of none; of a constant's bytes. -/
theorem sum1 (A1 : Option Addr) (c1 n1 : Nat) (l1 : List UInt8) (w : World) (e1 : n1 = l1.length) (r1 : Rd w 0 w.heap.size A1 l1) (hc : l1.length ≤ c1) (hl : l1.length < 1000000000) (ht : Tabs w) :
    Calls Tryd.prog 28 #[.slice (some ⟨w.heap.size, 0, none⟩) 1 1] (w.alloc (.cells #[.slice A1 n1 c1] 56)) fun e w' => e = .returned (.agg (hashV (shaL l1))) ∧ Below w.heap.size w w' := by
  subst e1
  have hb : Below w.heap.size w (w.alloc (.cells #[.slice A1 l1.length c1] 56)) := (Below.refl _ _).alloc (Nat.le_refl _) _
  have hf : flat [(A1, c1, l1)] = l1 := by simp [flat]
  refine (sum_any _ 1 [(A1, c1, l1)] _ (RdL.one A1 c1 l1 w 56 r1) (by simp) (by simpa using hc) (by rw [hf]; exact hl) (ht.below hb ht.2.2.1 ht.2.2.2)).mono ?_
  rw [hf]
  rintro e w' ⟨he, hbw⟩
  exact ⟨he, hb.trans (hbw.mono hb.size)⟩
theorem sum0 (w : World) (ht : Tabs w) :
    Calls Tryd.prog 28 #[.slice none 0 0] w fun e w' => e = .returned (.agg (hashV (shaL []))) ∧ Below w.heap.size w w' := by
  refine (sum_any none 0 [] w (RdL.nothing _ _ _) (by simp) (fun x hx => by cases hx) (by simp [flat]) ht).mono ?_
  rintro e w' ⟨he, hbw⟩
  exact ⟨he, hbw⟩
theorem sumLit (w : World) (l : List UInt8) (C : Array Value) (n : Nat) (fr : Nat × Nat) (hC : C = (l.map bv).toArray) (hn : n = l.length) (hl : l.length < 1000000000) (ht : Tabs w) :
    Calls Tryd.prog 28 #[.slice (some ⟨w.heap.size + 1, 0, none⟩) 1 1] ((w.alloc (.cells C 5 fr)).alloc (.cells #[.slice (some ⟨w.heap.size, 0, none⟩) n n] 56)) fun e w' => e = .returned (.agg (hashV (shaL l))) ∧ Below w.heap.size w w' := by
  subst hC
  have hb : Below w.heap.size w (w.alloc (.cells (l.map bv).toArray 5 fr)) := (Below.refl _ _).alloc (Nat.le_refl _) _
  have hsz : (w.alloc (.cells (l.map bv).toArray 5 fr)).heap.size = w.heap.size + 1 := by simp
  have h := sum1 (some ⟨w.heap.size, 0, none⟩) n n l (w.alloc (.cells (l.map bv).toArray 5 fr)) hn (by rw [hsz]; exact Rd.lit w l fr) (by omega) hl (ht.below hb ht.2.2.1 ht.2.2.2)
  rw [hsz] at h
  refine h.mono ?_
  rintro e w' ⟨he, hbw⟩
  exact ⟨he, hb.trans (hbw.mono (by omega))⟩

theorem kfirst0 : num ((shaL []).take 4) = 3820012610 := by rw [sha_none]; decide
theorem kfirst1 : num ((shaL [97, 98, 99]).take 4) = 3128432319 := by rw [sha_abc]; decide

end Go.Proofs.YthjeanjodhafjaaDoor
