/- Contracts: the reference's reader. -/
import Derived.Test.YtmebppfbdeokeaaRowsPlain
import Derived.Deep.DeepCutAuto
import Derived.Deep.QuietTactic
import Derived.BigQuiet
import Derived.BigRegion
import Derived.IntWalk
import Derived.StillTailTactics
namespace Go.Proofs.Ytmebppfbdeokeaa
open Go.ChangeShapes Go.WideShapes Go.ChangeAt Go.RowKit
set_option linter.unusedVariables false

/-- The reference's reader at block p, over b at A: as the state st. -/
def RR (w : World) (p : Nat) (A : Option Addr) (c : Nat) (b : List UInt8) (st : Option (List UInt8)) : Prop :=
  ∃ k : Nat, k ≤ b.length ∧ w.heap[p]? = some (.cells #[.slice A b.length c, .int .i64 (k : Int), .bool st.isNone] 70 (0, 0)) ∧ ∀ l, st = some l → l = b.drop k

theorem cells3 {w : World} {p : Nat} {x y z : Value} (h : w.heap[p]? = some (.cells #[x, y, z] 70 (0, 0))) :
    w.cell? ⟨p, 0, none⟩ = some x ∧ w.cell? ⟨p, 1, none⟩ = some y ∧ w.cell? ⟨p, 2, none⟩ = some z ∧ w.frozen? ⟨p, 1, none⟩ = false ∧ w.frozen? ⟨p, 2, none⟩ = false := by
  refine ⟨?_, ?_, ?_, by simp [World.frozen?, h], by simp [World.frozen?, h]⟩
  · rw [cell_of_row w p 0 _ _ (0, 0) h]; rfl
  · rw [cell_of_row w p 1 _ _ (0, 0) h]; rfl
  · rw [cell_of_row w p 2 _ _ (0, 0) h]; rfl

/-- What the reference's Bytes answers. -/
def RefP (w : World) (p : Nat) (A : Option Addr) (c : Nat) (b : List UInt8) (r : List UInt8 × Option (List UInt8)) (e : Ending) (w' : World) : Prop :=
  ∃ A' c', e = .returned (.slice A' r.1.length c') ∧ RR w' p A c b r.2 ∧ (∀ (W : World) (lo hi : Nat), Rd W lo hi A b → Rd W lo hi A' r.1) ∧ w.grownBy w' (some p)

theorem set_same {w : World} (a : Addr) (v : Value) {u : Value} (h : w.cell? a = some u) : ((w.setCell a v).drew).cell? a = some v := World.cell?_setCell_same w a v h
theorem grown_drew {a w : World} {row : Option Nat} (h : a.grownBy w row) : a.grownBy w.drew row := ⟨h.os, h.tape, h.output, h.size, h.block⟩
theorem set_flag {w : World} {p : Nat} {x y z : Value} (h : w.heap[p]? = some (.cells #[x, y, z] 70 (0, 0))) (q : Bool) :
    ((w.setCell ⟨p, 2, none⟩ (.bool q)).drew).heap[p]? = some (.cells #[x, y, .bool q] 70 (0, 0)) := by
  show (w.setCell ⟨p, 2, none⟩ (.bool q)).heap[p]? = _
  simp [World.setCell, Array.getElem?_modify, h]
theorem RR.failed {w : World} {p k : Nat} {A : Option Addr} {c : Nat} {b : List UInt8} {z : Value} (hk : k ≤ b.length) (h : w.heap[p]? = some (.cells #[.slice A b.length c, .int .i64 (k : Int), z] 70 (0, 0))) :
    RR ((w.setCell ⟨p, 2, none⟩ (.bool true)).drew) p A c b none := ⟨k, hk, set_flag h true, fun l e => by cases e⟩

set_option maxHeartbeats 1000000 in
theorem refBytes_none (p : Nat) (A : Option Addr) (c : Nat) (b : List UInt8) (n : Int) (w : World) (h : RR w p A c b none) :
    Calls Try.prog 75 #[.pointer (some ⟨p, 0, none⟩), .int .i64 n] w (RefP w p A c b ([], none)) := by
  obtain ⟨k, hk, hh, _⟩ := h
  obtain ⟨h0, h1, h2, f1, f2⟩ := cells3 hh
  have HH := Lib.hid hh
  clear hh
  go_enter Try.func75, Try.ntmps75
  go_wp2_with fail
  go_region
  have g2 : ((w.setCell ⟨p, 2, none⟩ (.bool true)).drew).cell? ⟨p, 2, none⟩ = some (.bool true) := set_same _ _ h2
  go_wp2
  go_ret
  exact ⟨none, 0, rfl, RR.failed hk HH.out, fun _ _ _ _ => Rd.nil, grown_drew (grown_set w ⟨p, 2, none⟩ _)⟩

set_option maxHeartbeats 1000000 in
/-- A piece that is not there. -/
theorem refBytes_no (p k : Nat) (A : Option Addr) (c : Nat) (b : List UInt8) (n : Int) (w : World) (hk : k ≤ b.length) (hb : b.length ≤ 100000)
    (hh : w.heap[p]? = some (.cells #[.slice A b.length c, .int .i64 (k : Int), .bool false] 70 (0, 0))) (hn : n < 0 ∨ (b.length : Int) < n ∨ (b.length : Int) - n < (k : Int)) :
    Calls Try.prog 75 #[.pointer (some ⟨p, 0, none⟩), .int .i64 n] w (RefP w p A c b ([], none)) := by
  obtain ⟨h0, h1, h2, f1, f2⟩ := cells3 hh
  have HH := Lib.hid hh
  clear hh
  have g2 : ((w.setCell ⟨p, 2, none⟩ (.bool true)).drew).cell? ⟨p, 2, none⟩ = some (.bool true) := set_same _ _ h2
  by_cases c1 : n < 0
  · have d1 : decide (n < 0) = true := by simpa using c1
    clear hn
    go_enter Try.func75, Try.ntmps75
    go_wp2_with fail
    go_region
    go_wp2
    go_ret
    exact ⟨none, 0, rfl, RR.failed hk HH.out, fun _ _ _ _ => Rd.nil, grown_drew (grown_set w ⟨p, 2, none⟩ _)⟩
  · have d1 : decide (n < 0) = false := by simpa using c1
    by_cases c2 : (b.length : Int) < n
    · have d2 : decide ((b.length : Int) < n) = true := by simpa using c2
      clear hn
      go_enter Try.func75, Try.ntmps75
      go_wp2_with fail
      go_region
      go_wp2
      go_ret
      exact ⟨none, 0, rfl, RR.failed hk HH.out, fun _ _ _ _ => Rd.nil, grown_drew (grown_set w ⟨p, 2, none⟩ _)⟩
    · have d2 : decide ((b.length : Int) < n) = false := by simpa using c2
      have d3 : decide ((b.length : Int) - n < (k : Int)) = true := by simp; omega
      have wA : IntKind.i64.wrap ((b.length : Int) - n) = (b.length : Int) - n := IntWalk.i64_in _ (by omega)
      clear hn
      go_enter Try.func75, Try.ntmps75
      go_wp2_with fail
      go_region
      go_wp2
      go_ret
      exact ⟨none, 0, rfl, RR.failed hk HH.out, fun _ _ _ _ => Rd.nil, grown_drew (grown_set w ⟨p, 2, none⟩ _)⟩

set_option maxHeartbeats 1000000 in
/-- A piece that is there. -/
theorem refBytes_yes (p k m : Nat) (A : Option Addr) (c : Nat) (b : List UInt8) (w : World) (hb : b.length ≤ 100000) (hc : b.length ≤ c) (hm : k + m ≤ b.length)
    (hh : w.heap[p]? = some (.cells #[.slice A b.length c, .int .i64 (k : Int), .bool false] 70 (0, 0))) :
    Calls Try.prog 75 #[.pointer (some ⟨p, 0, none⟩), .int .i64 (m : Int)] w (RefP w p A c b ((b.drop k).take m, some ((b.drop k).drop m))) := by
  obtain ⟨h0, h1, h2, f1, f2⟩ := cells3 hh
  have HH := Lib.hid hh
  clear hh
  have d1 : decide ((m : Int) < 0) = false := by simp
  have d2 : decide ((b.length : Int) < (m : Int)) = false := by simp; omega
  have d2' : decide (b.length < m) = false := by simp; omega
  have d3 : decide ((b.length : Int) - (m : Int) < (k : Int)) = false := by simp; omega
  have wA : IntKind.i64.wrap ((b.length : Int) - (m : Int)) = (b.length : Int) - (m : Int) := IntWalk.i64_in _ (by omega)
  go_enter Try.func75, Try.ntmps75
  go_wp2_with fail
  go_region
  clear wA
  obtain ⟨w1, hw1⟩ : ∃ w1, w1 = (w.setCell ⟨p, 2, none⟩ (.bool false)).drew := ⟨_, rfl⟩
  rw [← hw1]
  have hh1 : w1.heap[p]? = some (.cells #[.slice A b.length c, .int .i64 (k : Int), .bool false] 70 (0, 0)) := by
    rw [hw1]
    exact set_flag HH.out false
  have hg1 : w.grownBy w1 (some p) := by rw [hw1]; exact grown_drew (grown_set w ⟨p, 2, none⟩ _)
  clear hw1 h0 h1 h2 f1 f2 HH
  obtain ⟨h0, h1, h2, f1, f2⟩ := cells3 hh1
  have HH := Lib.hid hh1
  clear hh1
  go_wp2_with fail
  obtain ⟨w2, hw2⟩ : ∃ w2, w2 = w1.setCell ⟨p, 1, none⟩ (.int .i64 ((k : Int) + (m : Int))) := ⟨_, rfl⟩
  rw [← hw2]
  have hh2 : w2.heap[p]? = some (.cells #[.slice A b.length c, .int .i64 ((k : Int) + (m : Int)), .bool false] 70 (0, 0)) := by
    rw [hw2]
    simp [World.setCell, Array.getElem?_modify, HH.out]
  have hg2 : w.grownBy w2 (some p) := by rw [hw2]; exact hg1.trans (grown_set w1 ⟨p, 1, none⟩ _)
  clear hw2 h0 h1 h2 f1 f2 HH hg1
  obtain ⟨h0, h1, h2, f1, f2⟩ := cells3 hh2
  have HH := Lib.hid hh2
  clear hh2
  have i1 : (k : Int) ≤ (k : Int) + (m : Int) := by omega
  have i2 : (k : Int) + (m : Int) ≤ (c : Int) := by omega
  go_region
  go_wp2_with fail
  all_goals go_ret
  · have hl : (List.take m (List.drop k b)).length = m := by rw [List.length_take, List.length_drop]; omega
    have hck : c = k := by assumption
    refine ⟨A, 0, by rw [hl]; rfl, ⟨k + m, by omega, ?_, fun l e => by injection e with e; exact e.symm⟩, fun W lo hi h => ?_, grown_drew hg2⟩
    · have := HH.out
      rw [hck, show (k : Int) + (m : Int) = ((k + m : Nat) : Int) by omega] at this
      exact this
    · have : List.drop k b = [] := List.drop_of_length_le (by omega)
      rw [this, List.take_nil]
      exact Rd.nil
  · have hl : (List.take m (List.drop k b)).length = m := by rw [List.length_take, List.length_drop]; omega
    refine ⟨A.map (·.add k), c - k, by rw [hl]; rfl, ⟨k + m, by omega, ?_, fun l e => by injection e with e; exact e.symm⟩, fun W lo hi h => ?_, grown_drew hg2⟩
    · have := HH.out
      rw [show (k : Int) + (m : Int) = ((k + m : Nat) : Int) by omega] at this
      exact this
    · have h3 := (h.drop (k := k) (cap := c) hc).take m
      rwa [if_neg (by assumption)] at h3

/-- The reference's Bytes, whatever the state. -/
theorem refBytes_any (p : Nat) (A : Option Addr) (c : Nat) (b : List UInt8) (st : Option (List UInt8)) (n : Int) (w : World) (hb : b.length ≤ 100000) (hc : b.length ≤ c) (h : RR w p A c b st) :
    Calls Try.prog 75 #[.pointer (some ⟨p, 0, none⟩), .int .i64 n] w (RefP w p A c b (cutS st n)) := by
  cases st with
  | none => exact refBytes_none p A c b n w h
  | some l =>
    obtain ⟨k, hk, hh, hl⟩ := h
    have hl := hl l rfl
    subst hl
    by_cases h1 : 0 ≤ n ∧ n ≤ ((b.drop k).length : Int)
    · obtain ⟨m, rfl⟩ := Int.eq_ofNat_of_zero_le h1.1
      have hm : m ≤ (b.drop k).length := by omega
      rw [cut_yes _ _ hm]
      rw [List.length_drop] at hm
      exact refBytes_yes p k m A c b w hb hc (by omega) hh
    · have e : cutS (some (b.drop k)) n = ([], none) := by simp only [cutS]; rw [if_neg h1]
      rw [e]
      rw [List.length_drop] at h1
      exact refBytes_no p k A c b n w hk hb hh (by omega)
end Go.Proofs.Ytmebppfbdeokeaa
