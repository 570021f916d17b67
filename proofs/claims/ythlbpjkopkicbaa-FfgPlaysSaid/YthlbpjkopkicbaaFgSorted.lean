/- All that are justified, all that are final. -/
import Derived.Test.YthlbpjkopkicbaaFgSort
namespace Go.Proofs.Ythlbpjkopkicbaa
open Go.ChangeMaps Go.MapKept Go.Maps Go.WideElems Go.RowKit Go.ChangeShapes Go.WideShapes Go.ChangeAt
set_option linter.unusedVariables false
set_option maxRecDepth 100000

set_option maxHeartbeats 4000000 in
theorem sorted_c (w : World) (s bt bs bw n least : Nat) (vl : Value) (hd : Pt → Option Value) (F : Nat → Prop) (S : FgS) (h : FgB s bt bs bw vl hd F S n w) (hl : 1 ≤ least) (hn : n ≤ 1000000000) :
    Calls Try.prog 36 #[.pointer (some ⟨s, 0, none⟩), .int .i64 (least : Int)] w fun e w' => ∃ A c Lp, e = .returned (.slice A Lp.length c) ∧ (∀ p, p ∈ Lp ↔ least ≤ stN S.stands p) ∧ w'.ownsRow w.heap.size 29 33 (.slice A Lp.length c) Lp.length (pts Lp) ∧ Below w.heap.size w w' ∧ Lp.length ≤ n := by
  have CA := Lib.hid (all_c w s bt bs bw n least vl hd F S h hl hn)
  clear h
  go_enter Try.func36, Try.ntmps36
  go_wp2_with fail
  refine CA.out.mono ?_
  rintro e w1 ⟨A, c, Lp, rfl, m1, o1, b1, l1⟩
  have o1' : w1.ownsRow w.heap.size 29 33 (.slice A Lp.length c) Lp.length (pts Lp) := by
    refine ⟨o1.1, ?_⟩
    rcases o1.2 with h0 | ⟨g, cap, cur, hv, h1, h2⟩
    · exact .inl h0
    · exact .inr ⟨g, cap, cur, hv, by omega, h2⟩
  have CS := Lib.hid (sort_c w1 A c w.heap.size Lp.length Lp o1' rfl (by omega) b1.size)
  have M1 := Lib.hid m1
  have B1 := Lib.hid b1
  clear m1 o1 o1' b1
  go_wp2_with fail
  refine CS.out.mono ?_
  rintro e w2 ⟨rfl, b2, o2⟩
  have O2 := Lib.hid o2
  have B2 := Lib.hid (B1.out.trans b2)
  clear o2 b2 CS
  go_wp2_with fail
  go_ret
  have e1 := sortP_len Lp
  refine ⟨A, c, sortP Lp, by rw [e1]; rfl, fun p => (sortP_mem Lp p).trans (M1.out p), by rw [e1]; exact O2.out, B2.out, by omega⟩
variable {a : Pt} {g : Nat} {F : Nat → Prop} {S : FgS} {w w' : World}
/-- What is told of those that stand so at least. -/
def AllE (S : FgS) (least : Nat) (w : World) (e : Ending) (w' : World) : Prop := ∃ A c Lp, e = .returned (.slice A Lp.length c) ∧ (∀ p, p ∈ Lp ↔ least ≤ stN S.stands p) ∧ w'.ownsRow w.heap.size 29 33 (.slice A Lp.length c) Lp.length (pts Lp) ∧ Below w.heap.size w w' ∧ Lp.length ≤ 800000
theorem allJustified_c (h : GadG a g F S w) (hl : S.told.length ≤ 59) : Calls Try.prog 17 #[.pointer (some ⟨g, 0, none⟩)] w (AllE S 1 w) := by
  obtain ⟨_, _, p3, _⟩ := h.pre hl
  obtain ⟨s, bt, bs, bw, vl, hd, ga, hgF, hgl, hB, _, _⟩ := h.mem
  have CS := Lib.hid (sorted_c w s bt bs bw _ 1 vl hd F S hB (Nat.le_refl _) (by omega))
  have GA := Lib.hid ga
  clear hB h ga
  go_enter Try.func17, Try.ntmps17
  go_wp2_with fail
  refine (seen_c g s w GA.out).mono ?_
  rintro e w1 ⟨rfl, rfl⟩
  go_wp2_with fail
  refine CS.out.mono ?_
  rintro e w2 ⟨A', c', Lp, rfl, m2, o2, b2, l2⟩
  go_wp2_with fail
  go_ret
  exact ⟨A', c', Lp, rfl, m2, o2, b2, by omega⟩
theorem allFinal_c (h : GadG a g F S w) (hl : S.told.length ≤ 59) : Calls Try.prog 18 #[.pointer (some ⟨g, 0, none⟩)] w (AllE S 2 w) := by
  obtain ⟨_, _, p3, _⟩ := h.pre hl
  obtain ⟨s, bt, bs, bw, vl, hd, ga, hgF, hgl, hB, _, _⟩ := h.mem
  have CS := Lib.hid (sorted_c w s bt bs bw _ 2 vl hd F S hB (by omega) (by omega))
  have GA := Lib.hid ga
  clear hB h ga
  go_enter Try.func18, Try.ntmps18
  go_wp2_with fail
  refine (seen_c g s w GA.out).mono ?_
  rintro e w1 ⟨rfl, rfl⟩
  go_wp2_with fail
  refine CS.out.mono ?_
  rintro e w2 ⟨A', c', Lp, rfl, m2, o2, b2, l2⟩
  go_wp2_with fail
  go_ret
  exact ⟨A', c', Lp, rfl, m2, o2, b2, by omega⟩
end Go.Proofs.Ythlbpjkopkicbaa
