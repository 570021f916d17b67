/- Contracts: a reader's methods. -/
import Derived.Test.YtaoddppkijopmaaPut
namespace Go.Proofs.Ytaoddppkijopmaa
open Go.ChangeShapes Go.WideShapes Go.ChangeAt Go.RowKit
set_option linter.unusedVariables false

/-- A reader at block p: none: it is not whole; some l: it is whole, and l is its rest. -/
def RS (w : World) (lo p : Nat) (st : Option (List UInt8)) : Prop :=
  match st with
  | none => w.heap[p]? = some (.cells #[.slice none 0 0, .bool false] 100 (0, 0))
  | some l => ∃ A, w.heap[p]? = some (.cells #[.slice A l.length l.length, .bool true] 100 (0, 0)) ∧ Rd w lo p A l ∧ l.length ≤ 140737488355328

/-- What comes of asking for n bytes: the piece, and the state behind it. -/
def cutS (st : Option (List UInt8)) (n : Int) : List UInt8 × Option (List UInt8) :=
  match st with
  | none => ([], none)
  | some l => if 0 ≤ n ∧ n ≤ l.length then (l.take n.toNat, some (l.drop n.toNat)) else ([], none)
def numS (st : Option (List UInt8)) (n : Int) : Nat × Option (List UInt8) :=
  if 1 ≤ n ∧ n ≤ 8 then (num (cutS st n).1, (cutS st n).2) else (0, none)
def blobS (st : Option (List UInt8)) : List UInt8 × Option (List UInt8) := cutS (numS st 2).2 (numS st 2).1
def leftS (st : Option (List UInt8)) : Nat := (st.map List.length).getD 0
def endS (st : Option (List UInt8)) : Int := match st with | some [] => 0 | _ => 4

section
variable {w w' : World} {lo p : Nat} {st : Option (List UInt8)}
theorem RS.lt (h : RS w lo p st) : p < w.heap.size := by
  have : ∃ o, w.heap[p]? = some o := by
    cases st with
    | none => exact ⟨_, h⟩
    | some l => obtain ⟨A, h, _⟩ := h; exact ⟨_, h⟩
  obtain ⟨o, ho⟩ := this
  rcases Nat.lt_or_ge p w.heap.size with hlt | hge
  · exact hlt
  · rw [Array.getElem?_eq_none hge] at ho; cases ho
theorem RS.below {B : Nat} (h : RS w lo p st) (hb : Below B w w') (hp : p < B) : RS w' lo p st := by
  cases st with
  | none => exact (hb.block p hp).trans h
  | some l =>
    obtain ⟨A, h1, h2, h3⟩ := h
    exact ⟨A, (hb.block p hp).trans h1, h2.below hb (by omega), h3⟩
theorem RS.piece (h : RS w lo p st) (n : Int) : (cutS st n).1.length ≤ 140737488355328 := by
  cases st with
  | none => simp [cutS]
  | some l =>
    obtain ⟨A, h1, h2, h3⟩ := h
    simp only [cutS]
    split
    · simp; omega
    · simp
theorem cells2 {a b : Value} (h : w.heap[p]? = some (.cells #[a, b] 100 (0, 0))) :
    w.cell? ⟨p, 0, none⟩ = some a ∧ w.cell? ⟨p, 1, none⟩ = some b ∧ w.frozen? ⟨p, 0, none⟩ = false ∧ w.frozen? ⟨p, 1, none⟩ = false := by
  refine ⟨?_, ?_, by simp [World.frozen?, h], by simp [World.frozen?, h]⟩
  · rw [cell_of_row w p 0 _ _ (0, 0) h]; rfl
  · rw [cell_of_row w p 1 _ _ (0, 0) h]; rfl
end

theorem grown_set (w : World) (a : Addr) (v : Value) : w.grownBy (w.setCell a v) (some a.block) :=
  ⟨rfl, rfl, rfl, by simp [World.setCell], fun k _ hne => Below.heap_setCell w a v k (fun e => hne (by rw [e]))⟩

theorem fail_nil (w : World) : Calls Try.prog 78 #[.pointer none] w fun e w' => e = .returned (.tuple #[]) ∧ w = w' := by
  go_enter Try.func78, Try.ntmps78
  go_wp2
  go_end0
  exact ⟨rfl, rfl⟩

theorem fail_at (lo p : Nat) (st : Option (List UInt8)) (w : World) (h : RS w lo p st) :
    Calls Try.prog 78 #[.pointer (some ⟨p, 0, none⟩)] w fun e w' => e = .returned (.tuple #[]) ∧ RS w' lo p none ∧ w.grownBy w' (some p) := by
  obtain ⟨a, b, hh⟩ : ∃ a b, w.heap[p]? = some (.cells #[a, b] 100 (0, 0)) := by
    cases st with
    | none => exact ⟨_, _, h⟩
    | some l => obtain ⟨A, h, _⟩ := h; exact ⟨_, _, h⟩
  obtain ⟨h1, h2, h3, h4⟩ := cells2 hh
  have HH := Lib.hid hh
  clear hh
  go_enter Try.func78, Try.ntmps78
  go_wp2
  go_end0
  exact ⟨rfl, by simp [RS, World.setCell, Array.getElem?_modify, HH.out], (grown_set w ⟨p, 0, none⟩ _).trans (grown_set _ ⟨p, 1, none⟩ _)⟩

/-- What cut answers. -/
def CutP (w : World) (lo p : Nat) (st : Option (List UInt8)) (n : Int) (e : Ending) (w' : World) : Prop :=
  ∃ A, e = .returned (.slice A (cutS st n).1.length (cutS st n).1.length) ∧ RS w' lo p (cutS st n).2 ∧ Rd w' lo p A (cutS st n).1 ∧ w.grownBy w' (some p)

theorem cut_close {w : World} {lo p : Nat} {A : Option Addr} {l : List UInt8} {k : Nat} (hh : w.heap[p]? = some (.cells #[.slice A l.length l.length, .bool true] 100 (0, 0))) (hrd : Rd w lo p A l) (hl : l.length ≤ 140737488355328)
    (hk : k ≤ l.length) (A2 : Option Addr) (m : Nat) (hA : A2 = if l.length = k then A else A.map (·.add k)) (hm : m = l.length - k) :
    RS (w.setCell ⟨p, 0, none⟩ (.slice A2 m m)) lo p (some (l.drop k)) ∧ Rd (w.setCell ⟨p, 0, none⟩ (.slice A2 m m)) lo p A (l.take k) ∧ w.grownBy (w.setCell ⟨p, 0, none⟩ (.slice A2 m m)) (some p) := by
  refine ⟨⟨A2, ?_, ?_, by simp; omega⟩, (hrd.take k).setCell (Nat.le_refl _) _, grown_set w ⟨p, 0, none⟩ _⟩
  · subst hm
    simp [World.setCell, Array.getElem?_modify, hh]
  · rw [hA]
    exact (hrd.drop (Nat.le_refl _)).setCell (Nat.le_refl _) _

theorem cut_nil (n : Int) (w : World) : Calls Try.prog 80 #[.pointer none, .int .i64 n] w fun e w' => e = .returned (.slice none 0 0) ∧ w = w' := by
  go_enter Try.func80, Try.ntmps80
  go_wp2_with (first | (go_at_call 81; refine (failed_nil _).mono ?_; rintro e w' ⟨rfl, rfl⟩) | (go_at_call 78; refine (fail_nil _).mono ?_; rintro e w' ⟨rfl, rfl⟩))
  go_ret
  exact ⟨rfl, rfl⟩

set_option maxHeartbeats 400000 in
theorem cut_at (lo p : Nat) (st : Option (List UInt8)) (n : Int) (w : World) (h : RS w lo p st) :
    Calls Try.prog 80 #[.pointer (some ⟨p, 0, none⟩), .int .i64 n] w (CutP w lo p st n) := by
  cases st with
  | none =>
    obtain ⟨h1, h2, h3, h4⟩ := cells2 h
    go_enter Try.func80, Try.ntmps80
    go_wp2_with (first | (go_at_call 81; refine (failed_yes _ _ h2).mono ?_; rintro e w' ⟨rfl, rfl⟩) | (go_at_call 78; refine (fail_at _ _ _ _ h).mono ?_; rintro e w1 ⟨rfl, hR, hg⟩))
    go_ret
    exact ⟨none, rfl, hR, Rd.nil, hg⟩
  | some l =>
    have hRS := h
    obtain ⟨A, hh, hrd, hl⟩ := h
    obtain ⟨h1, h2, h3, h4⟩ := cells2 hh
    have HH := Lib.hid hh
    clear hh
    by_cases hn : n < 0
    · have hn' : decide (n < 0) = true := by simpa using hn
      have Hc := Lib.hid (show cutS (some l) n = ([], none) by simp only [cutS]; rw [if_neg (by omega)])
      go_enter Try.func80, Try.ntmps80
      go_wp2_with (first | (go_at_call 81; refine (failed_no _ _ h2).mono ?_; rintro e w' ⟨rfl, rfl⟩) | (go_at_call 78; refine (fail_at _ _ _ _ hRS).mono ?_; rintro e w1 ⟨rfl, hR, hg⟩))
      go_ret
      refine ⟨none, ?_, ?_, ?_, hg⟩
      · rw [Hc.out]; rfl
      · rw [Hc.out]; exact hR
      · rw [Hc.out]; exact Rd.nil
    · have hn' : decide (n < 0) = false := by simpa using hn
      obtain ⟨k, rfl⟩ := Int.eq_ofNat_of_zero_le (by omega : 0 ≤ n)
      by_cases hk : l.length < k
      · have hk' : decide (l.length < k) = true := by simpa using hk
        have hk2 : decide ((l.length : Int) < (k : Int)) = true := by simpa using hk
        have Hc := Lib.hid (show cutS (some l) (k : Int) = ([], none) by simp only [cutS]; rw [if_neg (by omega)])
        go_enter Try.func80, Try.ntmps80
        go_wp2_with (first | (go_at_call 81; refine (failed_no _ _ h2).mono ?_; rintro e w' ⟨rfl, rfl⟩) | (go_at_call 78; refine (fail_at _ _ _ _ hRS).mono ?_; rintro e w1 ⟨rfl, hR, hg⟩))
        go_ret
        refine ⟨none, ?_, ?_, ?_, hg⟩
        · rw [Hc.out]; rfl
        · rw [Hc.out]; exact hR
        · rw [Hc.out]; exact Rd.nil
      · have hk' : decide (l.length < k) = false := by simpa using hk
        have hk2 : decide ((l.length : Int) < (k : Int)) = false := by simpa using hk
        have Hc := Lib.hid (show cutS (some l) (k : Int) = (l.take k, some (l.drop k)) by simp only [cutS]; rw [if_pos (by omega)]; rfl)
        go_enter Try.func80, Try.ntmps80
        go_wp2_with (go_at_call 81; refine (failed_no _ _ h2).mono ?_; rintro e w' ⟨rfl, rfl⟩)
        all_goals go_ret
        · have hc := cut_close HH.out hrd hl (by omega : k ≤ l.length) A 0 (by rw [if_pos (by assumption)]) (by omega)
          refine ⟨A, ?_, ?_, ?_, hc.2.2⟩ <;> rw [Hc.out]
          · exact congrArg (fun n => Ending.returned (.slice A n n)) (by simp; omega)
          · exact hc.1
          · exact hc.2.1
        · have hc := cut_close HH.out hrd hl (by omega : k ≤ l.length) (A.map (·.add k)) (l.length - k) (by rw [if_neg (by assumption)]) rfl
          refine ⟨A, ?_, ?_, ?_, hc.2.2⟩ <;> rw [Hc.out]
          · exact congrArg (fun n => Ending.returned (.slice A n n)) (by simp; omega)
          · exact hc.1
          · exact hc.2.1

/-- What Number answers. -/
def NumP (w : World) (lo p : Nat) (st : Option (List UInt8)) (n : Int) (e : Ending) (w' : World) : Prop :=
  e = .returned (.int .u64 (numS st n).1) ∧ RS w' lo p (numS st n).2 ∧ w.grownBy w' (some p)

theorem cut_len (st : Option (List UInt8)) (n : Int) (hn : 0 ≤ n) : (cutS st n).1.length = 0 ∨ ((cutS st n).1.length : Int) = n := by
  cases st with
  | none => exact .inl rfl
  | some l =>
    simp only [cutS]
    split
    · right; simp; omega
    · left; rfl

theorem number_nil (n : Int) (w : World) : Calls Try.prog 58 #[.pointer none, .int .i64 n] w fun e w' => e = .returned (.int .u64 0) ∧ w = w' := by
  have hg := get_no none 0 0
  by_cases hn : 1 ≤ n ∧ n ≤ 8
  · have hw : widthB n = true := by unfold widthB; simp; omega
    go_enter Try.func58, Try.ntmps58
    go_wp2_with (first | (go_at_call 77; refine (isWidth_any _ _).mono ?_; rintro e w' ⟨rfl, rfl⟩) | (go_at_call 80; refine (cut_nil _ _).mono ?_; rintro e w' ⟨rfl, rfl⟩) | (go_at_call 79; refine (get_no none 0 0 _ (.inl rfl) (by omega)).mono ?_; rintro e w' ⟨rfl, rfl⟩))
    go_ret
    exact ⟨rfl, rfl⟩
  · have hw : widthB n = false := by unfold widthB; simp; omega
    go_enter Try.func58, Try.ntmps58
    go_wp2_with (first | (go_at_call 77; refine (isWidth_any _ _).mono ?_; rintro e w' ⟨rfl, rfl⟩) | (go_at_call 78; refine (fail_nil _).mono ?_; rintro e w' ⟨rfl, rfl⟩))
    go_ret
    exact ⟨rfl, rfl⟩

set_option maxHeartbeats 400000 in
theorem number_at (lo p : Nat) (st : Option (List UInt8)) (n : Int) (w : World) (h : RS w lo p st) :
    Calls Try.prog 58 #[.pointer (some ⟨p, 0, none⟩), .int .i64 n] w (NumP w lo p st n) := by
  by_cases hn : 1 ≤ n ∧ n ≤ 8
  · have hw : widthB n = true := by unfold widthB; simp; omega
    have Hs := Lib.hid (show numS st n = (num (cutS st n).1, (cutS st n).2) by simp only [numS]; rw [if_pos hn])
    rcases cut_len st n (by omega) with h0 | h0
    · have H0 := Lib.hid h0
      clear h0
      go_enter Try.func58, Try.ntmps58
      go_wp2_with (first | (go_at_call 77; refine (isWidth_any _ _).mono ?_; rintro e w' ⟨rfl, rfl⟩) | (go_at_call 80; refine (cut_at lo p st n _ h).mono ?_; rintro e w1 ⟨A, rfl, hR, hr, hg⟩) | (go_at_call 79; refine (get_no _ _ _ _ (.inl H0.out) (by rw [H0.out]; omega)).mono ?_; rintro e w' ⟨rfl, rfl⟩))
      go_ret
      refine ⟨?_, by rw [Hs.out]; exact hR, hg⟩
      rw [Hs.out, List.eq_nil_of_length_eq_zero H0.out]
      rfl
    · have H0 := Lib.hid h0
      clear h0
      go_enter Try.func58, Try.ntmps58
      go_wp2_with (first | (go_at_call 77; refine (isWidth_any _ _).mono ?_; rintro e w' ⟨rfl, rfl⟩) | (go_at_call 80; refine (cut_at lo p st n _ h).mono ?_; rintro e w1 ⟨A, rfl, hR, hr, hg⟩) | (go_at_call 79; refine (get_ok _ _ lo p _ _ hr (by have := H0.out; omega) (by have := H0.out; omega)).mono ?_; rintro e w' ⟨rfl, rfl⟩))
      go_ret
      refine ⟨?_, by rw [Hs.out]; exact hR, hg⟩
      rw [Hs.out]
      rfl
  · have hw : widthB n = false := by unfold widthB; simp; omega
    have Hs := Lib.hid (show numS st n = (0, none) by simp only [numS]; rw [if_neg hn])
    go_enter Try.func58, Try.ntmps58
    go_wp2_with (first | (go_at_call 77; refine (isWidth_any _ _).mono ?_; rintro e w' ⟨rfl, rfl⟩) | (go_at_call 78; refine (fail_at _ _ _ _ h).mono ?_; rintro e w1 ⟨rfl, hR, hg⟩))
    go_ret
    refine ⟨?_, by rw [Hs.out]; exact hR, hg⟩
    rw [Hs.out]
    rfl

/-- What Bytes and Blob answer: a piece of its own. -/
def PieceP (w : World) (lo p : Nat) (r : List UInt8 × Option (List UInt8)) (e : Ending) (w' : World) : Prop :=
  ∃ A, e = .returned (.slice A r.1.length r.1.length) ∧ Ow w' w.heap.size A r.1 ∧ RS w' lo p r.2 ∧ w.grownBy w' (some p)

theorem grown_of_below {a b : World} (h : Below a.heap.size a b) (row : Option Nat) : a.grownBy b row := ⟨h.os, h.tape, h.output, h.size, fun i hi _ => h.block i hi⟩

theorem bytes_nil (n : Int) (w : World) : Calls Try.prog 76 #[.pointer none, .int .i64 n] w (OwnP w []) := by
  go_enter Try.func76, Try.ntmps76
  go_wp2_with (first | (go_at_call 80; refine (cut_nil _ _).mono ?_; rintro e w' ⟨rfl, rfl⟩) | (go_at_call 75; refine (own_any none 0 [] _ Rd.nil (by simp)).mono ?_; rintro e w1 ⟨A, rfl, ho, hb⟩))
  go_ret
  exact ⟨A, rfl, ho, hb⟩

set_option maxHeartbeats 400000 in
theorem bytes_at (lo p : Nat) (st : Option (List UInt8)) (n : Int) (w : World) (h : RS w lo p st) :
    Calls Try.prog 76 #[.pointer (some ⟨p, 0, none⟩), .int .i64 n] w (PieceP w lo p (cutS st n)) := by
  have HL := Lib.hid (h.piece n)
  go_enter Try.func76, Try.ntmps76
  go_wp2_with (first | (go_at_call 80; refine (cut_at lo p st n _ h).mono ?_; rintro e w1 ⟨A, rfl, hR, hr, hg⟩) | (go_at_call 75; refine (own_any _ _ _ _ (hr.wide (Nat.zero_le _) (Nat.le_of_lt hR.lt)) HL.out).mono ?_; rintro e w2 ⟨A2, rfl, ho, hb⟩))
  go_ret
  exact ⟨A2, rfl, ho.wide hg.size, hR.below hb hR.lt, hg.trans (grown_of_below hb _)⟩

theorem blob_nil (w : World) : Calls Try.prog 66 #[.pointer none] w (OwnP w []) := by
  go_enter Try.func66, Try.ntmps66
  go_wp2_with (first | (go_at_call 58; refine (number_nil _ _).mono ?_; rintro e w' ⟨rfl, rfl⟩) | (go_at_call 76; refine (bytes_nil _ _).mono ?_; rintro e w1 ⟨A, rfl, ho, hb⟩))
  go_ret
  exact ⟨A, rfl, ho, hb⟩

theorem num2 (st : Option (List UInt8)) : (numS st 2).1 < 65536 := by
  simp only [numS]
  rw [if_pos (by omega)]
  have h1 := num_lt (cutS st 2).1
  rcases cut_len st 2 (by omega) with h | h
  · rw [h] at h1; simp only [] at h1 ⊢; omega
  · have e : (cutS st 2).1.length = 2 := by omega
    rw [e] at h1; simp only [] at h1 ⊢; omega

set_option maxHeartbeats 400000 in
theorem blob_at (lo p : Nat) (st : Option (List UInt8)) (w : World) (h : RS w lo p st) :
    Calls Try.prog 66 #[.pointer (some ⟨p, 0, none⟩)] w (PieceP w lo p (blobS st)) := by
  have h2 := num2 st
  go_enter Try.func66, Try.ntmps66
  go_wp2_with (first | (go_at_call 58; refine (number_at lo p st 2 _ h).mono ?_; rintro e w1 ⟨rfl, hR, hg⟩) | (go_at_call 76; refine (bytes_at lo p _ _ _ hR).mono ?_; rintro e w2 ⟨A2, rfl, ho, hR2, hg2⟩))
  go_ret
  exact ⟨A2, rfl, ho.wide hg.size, hR2, hg.trans hg2⟩
end Go.Proofs.Ytaoddppkijopmaa
