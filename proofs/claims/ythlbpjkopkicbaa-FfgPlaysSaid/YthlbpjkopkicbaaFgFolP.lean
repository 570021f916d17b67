/- What follows of a link, plainly; how many wait. -/
import Derived.Test.YthlbpjkopkicbaaFgPutR
namespace Go.Proofs.Ythlbpjkopkicbaa
open Go.ChangeMaps Go.MapKept Go.Maps Go.WideElems Go.RowKit
set_option linter.unusedVariables false
set_option maxRecDepth 100000

def setSt (f : Pt → Option Nat) (p : Pt) (v : Option Nat) (q : Pt) : Option Nat := if q = p then v else f q
theorem stF_set (f : Pt → Option Nat) (p : Pt) (v : Nat) : setF (stF f) p (some (.int .i64 (v : Int))) = stF (setSt f p (some v)) := by
  funext q
  unfold setF stF setSt stv
  split <;> rfl
def setWt (f : Pt → Option (List Lk)) (p : Pt) (v : Option (List Lk)) (q : Pt) : Option (List Lk) := if q = p then v else f q
/-- Is the target's epoch the source's and one? -/
def near (l : Lk) : Bool := decide (l.t.e = (l.s.e + 1) % 18446744073709551616)
def stepA (S : FgS) (l : Lk) : FgS := if near l = true then { S with stands := setSt S.stands l.s (some 2) } else S
def stepB (S : FgS) (l : Lk) : FgS := if stN S.stands l.t = 0 then { S with stands := setSt S.stands l.t (some 1), waiting := setWt S.waiting l.t none } else S
def stepN (S : FgS) (l : Lk) : List Lk := if stN S.stands l.t = 0 then (S.waiting l.t).getD [] else []
/-- One link of a round, and the next round's. -/
def stepS (c : FgS × List Lk) (l : Lk) : FgS × List Lk := (stepB (stepA c.1 l) l, c.2 ++ stepN (stepA c.1 l) l)
def roundS (S : FgS) (L : List Lk) : FgS × List Lk := L.foldl stepS (S, [])
/-- What becomes of it all. -/
inductive Follows : FgS → List Lk → FgS → Prop
  | done (S : FgS) (L : List Lk) (h : (roundS S L).2 = []) : Follows S L (roundS S L).1
  | more (S : FgS) (L : List Lk) (S' : FgS) (h : (roundS S L).2 ≠ []) (h' : Follows (roundS S L).1 (roundS S L).2 S') : Follows S L S'
theorem round_take (S : FgS) (L : List Lk) (k : Nat) (x : Lk) (hk : L[k]? = some x) : roundS S (L.take (k + 1)) = stepS (roundS S (L.take k)) x := by
  have hlt : k < L.length := (List.getElem?_eq_some_iff.1 hk).1
  have hx : L[k] = x := (List.getElem?_eq_some_iff.1 hk).2
  unfold roundS
  rw [List.take_succ_eq_append_getElem hlt, List.foldl_append, hx]
  rfl
section
variable {α : Type} {k e t : TypeId} {enc : α → Value} {kl : α → Lit} {w : World} {b n : Nat} {f : α → Option Value}
theorem MapF.del_size [DecidableEq α] (F : KeyF k enc kl) (h : MapF k kl w b n f) (ht : Try.prog.underlying t = some (.map k e)) (ty : TypeId) (a : α) : ∃ w', (Builtin.delete_ #[t, k] ty #[.map (some b), enc a]).run Try.prog w = .ok (.tuple #[]) w' ∧ MapF k kl w' b n (setF f a none) ∧ w.mapTurned w' b ∧ mapSize w' b + (if (f a).isSome = true then 1 else 0) = mapSize w b := by
  obtain ⟨w2, hr2, h2, h3⟩ := h.del F ht ty a
  refine ⟨w2, hr2, h2, h3, ?_⟩
  obtain ⟨D, h, hD⟩ := h
  obtain ⟨w', hr, h1, _⟩ := h.drop F.law ht (F.at_ a) ty
  rw [hr2] at hr
  injection hr with _ hr
  subst hr
  have s1 : mapSize w b = Maps.size D := by
    obtain ⟨es, clock, q1, _, _, q4⟩ := h
    unfold mapSize
    rw [q1, q4]
    simp [Maps.size, length_sorted]
  have s2 : mapSize w2 b = Maps.size (D.del (kl a)) := by
    obtain ⟨es, clock, q1, _, _, q4⟩ := h1
    unfold mapSize
    rw [q1, q4]
    simp [Maps.size, length_sorted]
  rw [s1, s2, ← has_f F hD a]
  exact Maps.size_del (h.tidy F.law)
end
end Go.Proofs.Ythlbpjkopkicbaa
