/- The chapter's rows are answered as it says. -/
import Derived.Test.YtgdiffjobkfmoaaDoorRRWoRefDig
namespace Go.Proofs.YtgdiffjobkfmoaaDoorRR
open Go.RowKit
set_option linter.unusedVariables false

def kn6 : List UInt8 := 27 :: List.replicate 31 0
theorem kn6_at : dg kn6 0 = 0 ∧ dg kn6 1 = 1 ∧ dg kn6 2 = 2 ∧ dg kn6 3 = 3 ∧ dg kn6 4 = 0 ∧ dg kn6 64 = 2 ∧ dg kn6 65 = 3 ∧ dg kn6 66 = 2 ∧ dg kn6 67 = 2 := by decide +kernel
/-- The digits as they lie in memory. -/
def DigAt (w : World) (base : Nat) (v : Value) (l : List UInt8) : Prop := w.ownsRow base 3 1 v 68 ((List.range 68).map fun i => natI (dg l i))
theorem DigAt.at_ {w : World} {base c : Nat} {A : Option Addr} {l : List UInt8} (h : DigAt w base (.slice A 68 c) l) : ∃ g, A = some ⟨g, 0, none⟩ ∧ base ≤ g ∧ g < w.heap.size ∧ ∀ i, i < 68 → w.cell? ⟨g, i, none⟩ = some (.int .i64 (dg l i : Int)) := by
  obtain ⟨g, hA, h1, h2, _⟩ := rowAt h (j := 0) (u := natI (dg l 0)) rfl
  refine ⟨g, hA, h1, h2, fun i hi => ?_⟩
  obtain ⟨g', hA', _, _, hc⟩ := rowAt h (j := i) (u := natI (dg l i)) (by rw [List.getElem?_map, List.getElem?_range hi]; rfl)
  rw [hA] at hA'
  injection hA' with e
  injection e with e _ _
  subst e
  exact hc
set_option maxHeartbeats 2000000 in
theorem known6 (w : World) : Calls Tryd.prog 9 #[] w fun e w' => e = .returned (.bool true) ∧ Below w.heap.size w w' := by
  have hd := fun u => digits_c kn6 rfl u
  have hlit : hashV kn6 = #[.int .u8 27, .int .u8 0, .int .u8 0, .int .u8 0, .int .u8 0, .int .u8 0, .int .u8 0, .int .u8 0, .int .u8 0, .int .u8 0, .int .u8 0, .int .u8 0, .int .u8 0, .int .u8 0, .int .u8 0, .int .u8 0, .int .u8 0, .int .u8 0, .int .u8 0, .int .u8 0, .int .u8 0, .int .u8 0, .int .u8 0, .int .u8 0, .int .u8 0, .int .u8 0, .int .u8 0, .int .u8 0, .int .u8 0, .int .u8 0, .int .u8 0, .int .u8 0] := by kernel_rfl
  rw [hlit] at hd
  obtain ⟨e0, e1, e2, e3, e4, e64, e65, e66, e67⟩ := kn6_at
  have HK : Hid (∀ (u : World) (g : Nat), (∀ i, i < 68 → u.cell? ⟨g, i, none⟩ = some (.int .i64 (dg kn6 i : Int))) → u.cell? ⟨g, 0, none⟩ = some (.int .i64 0) ∧ u.cell? ⟨g, 1, none⟩ = some (.int .i64 1) ∧ u.cell? ⟨g, 2, none⟩ = some (.int .i64 2) ∧ u.cell? ⟨g, 3, none⟩ = some (.int .i64 3) ∧ u.cell? ⟨g, 4, none⟩ = some (.int .i64 0) ∧ u.cell? ⟨g, 64, none⟩ = some (.int .i64 2) ∧ u.cell? ⟨g, 65, none⟩ = some (.int .i64 3) ∧ u.cell? ⟨g, 66, none⟩ = some (.int .i64 2) ∧ u.cell? ⟨g, 67, none⟩ = some (.int .i64 2)) := fun u g h => by
    have a0 := h 0 (by omega)
    have a1 := h 1 (by omega)
    have a2 := h 2 (by omega)
    have a3 := h 3 (by omega)
    have a4 := h 4 (by omega)
    have a64 := h 64 (by omega)
    have a65 := h 65 (by omega)
    have a66 := h 66 (by omega)
    have a67 := h 67 (by omega)
    rw [e0] at a0
    rw [e1] at a1
    rw [e2] at a2
    rw [e3] at a3
    rw [e4] at a4
    rw [e64] at a64
    rw [e65] at a65
    rw [e66] at a66
    rw [e67] at a67
    exact ⟨a0, a1, a2, a3, a4, a64, a65, a66, a67⟩
  clear hlit e0 e1 e2 e3 e4 e64 e65 e66 e67
  go_enter Tryd.func9, Tryd.ntmps9
  go_wp2_with (first | (go_at_call 10; refine (hd _).mono ?_; rintro e w1 ⟨v, rfl, hb, hrow⟩; obtain ⟨A, c, rfl, hc, hA⟩ := rowForm hrow; have hrow' : DigAt w1 w.heap.size (.slice A 68 c) kn6 := hrow; obtain ⟨g, rfl, hg1, hg2, hcell⟩ := hrow'.at_; obtain ⟨a0, a1, a2, a3, a4, a64, a65, a66, a67⟩ := HK.out w1 g hcell; have HB := Lib.hid hb; clear hrow hrow' hb hA hcell) | fail)
  go_ret
  exact ⟨rfl, HB.out⟩
end Go.Proofs.YtgdiffjobkfmoaaDoorRR
