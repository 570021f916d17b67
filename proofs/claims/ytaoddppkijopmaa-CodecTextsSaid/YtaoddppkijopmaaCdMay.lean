/- Contracts: MayVote. -/
import Derived.Test.YtaoddppkijopmaaCdRead
import Derived.BigFrame
namespace Go.Proofs.Ytaoddppkijopmaa
open Go.ChangeShapes Go.WideShapes Go.ChangeAt Go.RowKit
set_option linter.unusedVariables false
set_option maxRecDepth 100000

/-- A part of a block, loaded under its own name. -/
theorem wp_load_midC {P : Program} {op : Oper} {a : Act} {w : World} {K : Act → World → Prop} {Q : Exit → Act → World → Prop} (ty : TypeId) (x : Operand) (ho : op.op = .load ty x)
    (b o : Nat) (hx : a.eval x = .pointer (some ⟨b, o, none⟩)) (cs : List Value) (C : Array Value) (hC : cs.toArray = C) (d : TypeDesc) (hc : w.rangeAt b o cs)
    (hu : P.underlying ty = some d) (hd : d.isRow = true) (hi : (P.info? ty).map (·.size) = some C.size) (h : K (a.put op.dst (.agg C)) w) : op.wp P a w K Q := by
  subst hC
  exact wp_load_mid ty x ho b o hx cs d hc hu hd (by rw [hi]; simp) h
def ptC (e : Nat) (l : List UInt8) : List Value := (List.range 33).map (ptF e l)
theorem ptC_arr (e : Nat) (l : List UInt8) : (ptC e l).toArray = ptV e l := rfl
/-- A vote in a block of its own. -/
def VtB (g : Nat) (n : Int) (e1 : Nat) (l1 : List UInt8) (e2 : Nat) (l2 : List UInt8) (sv : Value) (w : World) : Prop := Fill g 32 68 68 (vtF n e1 l1 e2 l2 sv) w
section
variable {g : Nat} {n : Int} {e1 e2 : Nat} {l1 l2 : List UInt8} {sv : Value} {w : World}
theorem VtB.new : VtB w.heap.size n e1 l1 e2 l2 sv (w.alloc (.cells (vtV n e1 l1 e2 l2 sv) 32)) := Fill.of_row (heap_alloc_new w _)
theorem VtB.num (h : VtB g n e1 l1 e2 l2 sv w) : w.cell? ⟨g, 0, none⟩ = some (.int .i64 n) := Fill.at_ h 0 (by omega)
theorem VtB.sig (h : VtB g n e1 l1 e2 l2 sv w) : w.cell? ⟨g, 67, none⟩ = some sv := Fill.at_ h 67 (by omega)
theorem VtB.src (h : VtB g n e1 l1 e2 l2 sv w) : w.rangeAt g 1 (ptC e1 l1) := fun j v hv => by
  have hj : j < 33 := by
    rcases Nat.lt_or_ge j 33 with h | h
    · exact h
    · rw [List.getElem?_eq_none (by simp [ptC]; omega)] at hv; cases hv
  unfold ptC at hv
  rw [List.getElem?_map, List.getElem?_range hj] at hv
  have := Fill.at_ h (1 + j) (by omega)
  rw [this, ← hv]
  unfold vtF
  rw [if_neg (by omega), if_pos (by omega), show 1 + j - 1 = j by omega]
  rfl
theorem VtB.tgt (h : VtB g n e1 l1 e2 l2 sv w) : w.rangeAt g 34 (ptC e2 l2) := fun j v hv => by
  have hj : j < 33 := by
    rcases Nat.lt_or_ge j 33 with h | h
    · exact h
    · rw [List.getElem?_eq_none (by simp [ptC]; omega)] at hv; cases hv
  unfold ptC at hv
  rw [List.getElem?_map, List.getElem?_range hj] at hv
  have := Fill.at_ h (34 + j) (by omega)
  rw [this, ← hv]
  unfold vtF
  rw [if_neg (by omega), if_neg (by omega), if_pos (by omega), show 34 + j - 34 = j by omega]
  rfl
theorem VtB.below {B : Nat} {w' : World} (h : VtB g n e1 l1 e2 l2 sv w) (hb : Below B w w') (hg : g < B) : VtB g n e1 l1 e2 l2 sv w' := Fill.below h hb hg
theorem VtB.lt (h : VtB g n e1 l1 e2 l2 sv w) : g < w.heap.size := Fill.lt h
theorem VtB.row (h : VtB g n e1 l1 e2 l2 sv w) : w.heap[g]? = some (.cells (vtV n e1 l1 e2 l2 sv) 32 (0, 0)) := Fill.done h
end
/-- May it be a validator's number? -/
def mayVal (n : Int) : Bool := decide (1 ≤ n) && decide (n ≤ 64)
def mayEp (e : Nat) : Bool := decide (e ≤ 4611686018427387904)
theorem mayValidator_c (n : Int) (w : World) : Calls Try.prog 47 #[.int .i64 n] w fun e w' => e = .returned (.bool (mayVal n)) ∧ w = w' := by
  by_cases h1 : 1 ≤ n
  · have d1 : decide (1 ≤ n) = true := by simpa using h1
    have HC := Lib.hid (show mayVal n = decide (n ≤ 64) by simp [mayVal, h1])
    go_enter Try.func47, Try.ntmps47
    go_wp2
    go_ret
    exact ⟨by rw [HC.out]; rfl, rfl⟩
  · have d1 : decide (1 ≤ n) = false := by simpa using h1
    have HC := Lib.hid (show mayVal n = false by simp [mayVal, h1])
    go_enter Try.func47, Try.ntmps47
    go_wp2
    go_ret
    exact ⟨by rw [HC.out]; rfl, rfl⟩
theorem mayPoint_b (e : Nat) (l : List UInt8) (w : World) :
    Calls Try.prog 41 #[.agg (ptV e l)] w fun x w' => x = .returned (.bool (mayEp e)) ∧ Below w.heap.size w w' := mayPoint_c e l w
/-- May a vote be? -/
def mayVt (n : Int) (e1 e2 k : Nat) : Bool := mayVal n && mayEp e1 && mayEp e2 && decide (k ≤ 4096)

set_option maxHeartbeats 4000000 in
theorem mayVote_c (n : Int) (e1 : Nat) (l1 : List UInt8) (e2 : Nat) (l2 : List UInt8) (A : Option Addr) (k c : Nat) (w : World) :
    Calls Try.prog 30 #[.agg (vtV n e1 l1 e2 l2 (.slice A k c))] w fun x w' => x = .returned (.bool (mayVt n e1 e2 k)) ∧ Below w.heap.size w w' := by
  obtain ⟨W, hW⟩ : ∃ W, W = w.alloc (.cells (vtV n e1 l1 e2 l2 (.slice A k c)) 32) := ⟨_, rfl⟩
  have hb : Below w.heap.size w W := by rw [hW]; exact (Below.refl _ _).alloc (Nat.le_refl _) _
  have v0 : VtB w.heap.size n e1 l1 e2 l2 (.slice A k c) W := by rw [hW]; exact VtB.new
  have hlt : w.heap.size < W.heap.size := v0.lt
  have HW := Lib.hid hW
  have HB := Lib.hid hb
  have V0 := Lib.hid v0
  have hnum : (w.alloc (.cells (vtV n e1 l1 e2 l2 (.slice A k c)) 32)).cell? ⟨w.heap.size, 0, none⟩ = some (.int .i64 n) := VtB.new.num
  have HL := Lib.hid hlt
  clear hW hb v0 hlt
  have HV := Lib.hid (mayValidator_c n)
  have HP1 : Hid (∀ u, Calls Try.prog 41 #[.agg (ptV e1 l1)] u fun x w' => x = .returned (.bool (mayEp e1)) ∧ Below u.heap.size u w') := fun u => mayPoint_b e1 l1 u
  have HP2 : Hid (∀ u, Calls Try.prog 41 #[.agg (ptV e2 l2)] u fun x w' => x = .returned (.bool (mayEp e2)) ∧ Below u.heap.size u w') := fun u => mayPoint_b e2 l2 u
  have HE := Lib.hid (show mayVt n e1 e2 k = (mayVal n && mayEp e1 && mayEp e2 && decide (k ≤ 4096)) from rfl)
  generalize mayVal n = q at *
  generalize mayEp e1 = q1 at *
  generalize mayEp e2 = q2 at *
  cases q
  · go_enter Try.func30, Try.ntmps30
    go_wp2_with (first
      | (go_at_call 47; rw [← HW.out]; refine (HV.out _).mono ?_; rintro e w1 ⟨rfl, rfl⟩))
    go_ret
    exact ⟨by rw [HE.out]; rfl, HB.out⟩
  · cases q1
    · go_enter Try.func30, Try.ntmps30
      go_wp2_with (first
        | (go_at_call 47; rw [← HW.out]; refine (HV.out _).mono ?_; rintro e w1 ⟨rfl, rfl⟩)
        | (refine BigFrame.wpList_want rfl (fun K hK => ?_); refine wp_load_midC 29 (.tmp 7) rfl w.heap.size 1 rfl (ptC e1 l1) (ptV e1 l1) rfl _ V0.out.src Try.underlying29 rfl (size_ptV _ _) ?_; refine hK _ _ ?_; clear hK K)
        | (go_at_call 41; refine (HP1.out _).mono ?_; rintro e w2 ⟨rfl, b2⟩))
      go_ret
      exact ⟨by rw [HE.out]; rfl, HB.out.trans (b2.mono HB.out.size)⟩
    · cases q2
      · go_enter Try.func30, Try.ntmps30
        go_wp2_with (first
          | (go_at_call 47; rw [← HW.out]; refine (HV.out _).mono ?_; rintro e w1 ⟨rfl, rfl⟩)
          | (refine BigFrame.wpList_want rfl (fun K hK => ?_); refine wp_load_midC 29 (.tmp 7) rfl w.heap.size 1 rfl (ptC e1 l1) (ptV e1 l1) rfl _ V0.out.src Try.underlying29 rfl (size_ptV _ _) ?_; refine hK _ _ ?_; clear hK K)
          | (refine BigFrame.wpList_want rfl (fun K hK => ?_); refine wp_load_midC 29 (.tmp 12) rfl w.heap.size 34 rfl (ptC e2 l2) (ptV e2 l2) rfl _ (V0.out.below b2 HL.out).tgt Try.underlying29 rfl (size_ptV _ _) ?_; refine hK _ _ ?_; clear hK K)
          | (go_at_call 41; refine (HP1.out _).mono ?_; rintro e w2 ⟨rfl, b2⟩)
          | (go_at_call 41; refine (HP2.out _).mono ?_; rintro e w3 ⟨rfl, b3⟩; have hsig := ((V0.out.below b2 HL.out).below b3 (Nat.lt_of_lt_of_le HL.out b2.size)).sig))
        go_ret
        exact ⟨by rw [HE.out]; rfl, (HB.out.trans (b2.mono HB.out.size)).trans (b3.mono (HB.out.trans (b2.mono HB.out.size)).size)⟩
      · go_enter Try.func30, Try.ntmps30
        go_wp2_with (first
          | (go_at_call 47; rw [← HW.out]; refine (HV.out _).mono ?_; rintro e w1 ⟨rfl, rfl⟩)
          | (refine BigFrame.wpList_want rfl (fun K hK => ?_); refine wp_load_midC 29 (.tmp 7) rfl w.heap.size 1 rfl (ptC e1 l1) (ptV e1 l1) rfl _ V0.out.src Try.underlying29 rfl (size_ptV _ _) ?_; refine hK _ _ ?_; clear hK K)
          | (refine BigFrame.wpList_want rfl (fun K hK => ?_); refine wp_load_midC 29 (.tmp 12) rfl w.heap.size 34 rfl (ptC e2 l2) (ptV e2 l2) rfl _ (V0.out.below b2 HL.out).tgt Try.underlying29 rfl (size_ptV _ _) ?_; refine hK _ _ ?_; clear hK K)
          | (go_at_call 41; refine (HP1.out _).mono ?_; rintro e w2 ⟨rfl, b2⟩)
          | (go_at_call 41; refine (HP2.out _).mono ?_; rintro e w3 ⟨rfl, b3⟩; have hsig := ((V0.out.below b2 HL.out).below b3 (Nat.lt_of_lt_of_le HL.out b2.size)).sig))
        go_ret
        exact ⟨by rw [HE.out]; simp; omega, (HB.out.trans (b2.mono HB.out.size)).trans (b3.mono (HB.out.trans (b2.mono HB.out.size)).size)⟩
end Go.Proofs.Ytaoddppkijopmaa
