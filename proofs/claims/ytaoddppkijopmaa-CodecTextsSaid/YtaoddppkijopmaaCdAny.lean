/- What the votes' bytes and texts are, in either case. -/
import Derived.Test.YtaoddppkijopmaaCdVrow
namespace Go.Proofs.Ytaoddppkijopmaa
open Go.ChangeShapes Go.WideShapes Go.ChangeAt Go.RowKit
set_option linter.unusedVariables false
set_option maxRecDepth 100000

/-- What is told of bytes: they, or a refusal. -/
def ToldV (m : Bool) (X : Value) (en : Int) (L : List UInt8) (w : World) : Prop := (m = true ∧ en = 0 ∧ ∃ A c, X = .slice A L.length c ∧ Rd w 0 w.heap.size A L) ∨ (m = false ∧ en = 2 ∧ X = .slice none 0 0)
/-- What the reference has of them, if they may be. -/
def HasV (m : Bool) (X : Value) (L : List UInt8) (w : World) : Prop := m = true → ∃ A c, X = .slice A L.length c ∧ Rd w 0 w.heap.size A L
section
variable {m : Bool} {X Y : Value} {en : Int} {L : List UInt8} {w w' : World}
theorem ToldV.below (h : ToldV m X en L w) (hb : Below w.heap.size w w') : ToldV m X en L w' := by
  rcases h with ⟨h1, h2, A, c, h3, h4⟩ | h
  · exact .inl ⟨h1, h2, A, c, h3, (h4.below hb (Nat.le_refl _)).wide (Nat.le_refl _) hb.size⟩
  · exact .inr h
theorem HasV.below (h : HasV m X L w) (hb : Below w.heap.size w w') : HasV m X L w' := fun e => by
  obtain ⟨A, c, h3, h4⟩ := h e
  exact ⟨A, c, h3, (h4.below hb (Nat.le_refl _)).wide (Nat.le_refl _) hb.size⟩
end
theorem mayVt_nat {n : Int} {e1 e2 k : Nat} (h : mayVt n e1 e2 k = true) : ∃ n' : Nat, n = (n' : Int) ∧ n' < 256 := by
  unfold mayVt mayVal at h
  simp only [Bool.and_eq_true, decide_eq_true_eq] at h
  exact ⟨n.toNat, by omega, by omega⟩
theorem voteBytes_any (n : Int) (e1 : Nat) (l1 : List UInt8) (e2 : Nat) (l2 s : List UInt8) (A : Option Addr) (c : Nat) (w : World) (hl1 : l1.length = 32) (hl2 : l2.length = 32) (h : Rd w 0 w.heap.size A s) :
    Calls Try.prog 13 #[.agg (vtV n e1 l1 e2 l2 (.slice A s.length c))] w fun e w' => ∃ X en, e = .returned (.tuple #[X, .int .i64 en]) ∧ ToldV (mayVt n e1 e2 s.length) X en (vtL n.toNat e1 l1 e2 l2 s) w' ∧ Below w.heap.size w w' := by
  cases hm : mayVt n e1 e2 s.length
  · refine (voteBytes_no n e1 l1 e2 l2 A s.length c w hm).mono ?_
    rintro e w' ⟨rfl, hb⟩
    exact ⟨_, _, rfl, .inr ⟨rfl, rfl, rfl⟩, hb⟩
  · obtain ⟨n', rfl, _⟩ := mayVt_nat hm
    refine (voteBytes_ok n' e1 l1 e2 l2 s A c w hm hl1 hl2 h).mono ?_
    rintro e w' ⟨A', c', rfl, _, ho, hb⟩
    exact ⟨_, _, rfl, .inl ⟨rfl, rfl, A', c', rfl, ho.rd.wide (Nat.zero_le _) (Nat.le_refl _)⟩, hb⟩
theorem text_any (n : Int) (e1 : Nat) (l1 : List UInt8) (e2 : Nat) (l2 : List UInt8) (k : Nat) (A : Option Addr) (c : Nat) (w : World) (hl1 : l1.length = 32) (hl2 : l2.length = 32) :
    Calls Try.prog 16 #[.agg (vtV n e1 l1 e2 l2 (.slice A k c))] w fun e w' => ∃ X en, e = .returned (.tuple #[X, .int .i64 en]) ∧ ToldV (mayVt n e1 e2 k) X en (txL n.toNat e1 l1 e2 l2) w' ∧ Below w.heap.size w w' := by
  cases hm : mayVt n e1 e2 k
  · refine (text_no n e1 l1 e2 l2 A k c w hm).mono ?_
    rintro e w' ⟨rfl, hb⟩
    exact ⟨_, _, rfl, .inr ⟨rfl, rfl, rfl⟩, hb⟩
  · obtain ⟨n', rfl, _⟩ := mayVt_nat hm
    refine (text_ok n' e1 l1 e2 l2 A k c w hm hl1 hl2).mono ?_
    rintro e w' ⟨A', c', rfl, _, ho, hb⟩
    exact ⟨_, _, rfl, .inl ⟨rfl, rfl, A', c', rfl, ho.rd.wide (Nat.zero_le _) (Nat.le_refl _)⟩, hb⟩
end Go.Proofs.Ytaoddppkijopmaa
