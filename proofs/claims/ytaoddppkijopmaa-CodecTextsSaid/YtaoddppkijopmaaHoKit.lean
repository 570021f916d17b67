/- Headers, operations and their evidence: what they are, and where they lie. -/
import Derived.Test.YtaoddppkijopmaaCdOp
import Derived.Test.YtaoddppkijopmaaCdVby
import Derived.BigFrame
import Derived.Deep.Cut
import Derived.Deep.CutBlock
namespace Go.Proofs.Ytaoddppkijopmaa
open Go.ChangeShapes Go.WideShapes Go.ChangeAt Go.RowKit
set_option linter.unusedVariables false
set_option maxRecDepth 100000

/-- A vote of an operation's evidence. -/
structure Ve where
  n : Int
  e1 : Nat
  l1 : List UInt8
  e2 : Nat
  l2 : List UInt8
  s : List UInt8
  h1 : l1.length = 32
  h2 : l2.length = 32
  b1 : e1 < 18446744073709551616
  b2 : e2 < 18446744073709551616
def Ve.f (v : Ve) (B : Option Addr) (c : Nat) (i : Nat) : Value := vtF v.n v.e1 v.l1 v.e2 v.l2 (.slice B v.s.length c) i
def Ve.c (v : Ve) (B : Option Addr) (c : Nat) : List Value := (List.range 68).map (v.f B c)
def Ve.v (v : Ve) (B : Option Addr) (c : Nat) : Array Value := vtV v.n v.e1 v.l1 v.e2 v.l2 (.slice B v.s.length c)
theorem Ve.c_arr (v : Ve) (B : Option Addr) (c : Nat) : (v.c B c).toArray = v.v B c := rfl
theorem Ve.c_len (v : Ve) (B : Option Addr) (c : Nat) : (v.c B c).length = 68 := by simp [Ve.c]
theorem Ve.size (v : Ve) (B : Option Addr) (c : Nat) : (Try.prog.info? 32).map (·.size) = some (v.v B c).size := size_vtV _ _ _ _ _ _
/-- May it be? -/
def Ve.may (v : Ve) : Bool := mayVt v.n v.e1 v.e2 v.s.length
/-- Its bytes. -/
def Ve.b (v : Ve) : List UInt8 := vtL v.n.toNat v.e1 v.l1 v.e2 v.l2 v.s
/-- An operation. -/
structure Ho where
  k : Int
  key : List UInt8
  st : Nat
  n : Int
  ev : List Ve
  hk : key.length = 32
  hs : st < 18446744073709551616
def Ho.f (o : Ho) (B : Option Addr) (c : Nat) (i : Nat) : Value := opF o.k o.key o.st o.n (.slice B o.ev.length c) i
def Ho.c (o : Ho) (B : Option Addr) (c : Nat) : List Value := (List.range 36).map (o.f B c)
def Ho.v (o : Ho) (B : Option Addr) (c : Nat) : Array Value := opV o.k o.key o.st o.n (.slice B o.ev.length c)
theorem Ho.c_arr (o : Ho) (B : Option Addr) (c : Nat) : (o.c B c).toArray = o.v B c := rfl
theorem Ho.c_len (o : Ho) (B : Option Addr) (c : Nat) : (o.c B c).length = 36 := by simp [Ho.c]
theorem Ho.size (o : Ho) (B : Option Addr) (c : Nat) : (Try.prog.info? 53).map (·.size) = some (o.v B c).size := size_opV _ _ _ _ _
/-- Has it neither key nor stake? -/
def Ho.bare (o : Ho) : Bool := decide (o.key = zeros) && decide (o.st = 0)
/-- May it be? -/
def Ho.may (o : Ho) : Bool :=
  if o.k = 1 then decide (o.n = 0) && decide (o.ev.length = 0) && (decide (1 ≤ o.st) && decide (o.st ≤ 4294967296))
  else if o.k = 2 then o.bare && decide (o.ev.length = 0) && mayVal o.n
  else if o.k = 3 then o.bare && mayVal o.n && decide (o.ev.length = 2) && o.ev.all Ve.may
  else false
/-- Its bytes, if it may be. -/
def Ho.b (o : Ho) : List UInt8 :=
  if o.k = 1 then putL 1 1 ++ (o.key ++ putL o.st 8) else putL o.k.toNat 1 ++ putL o.n.toNat 1 ++ (o.ev.map Ve.b).flatten
/-- A header. -/
structure Hd where
  par : List UInt8
  ep : Nat
  ops : List Ho
  hp : par.length = 32
  he : ep < 18446744073709551616
def Hd.v (h : Hd) (A : Option Addr) (c : Nat) : Array Value := hdV h.par h.ep (.slice A h.ops.length c)
theorem Hd.size (h : Hd) (A : Option Addr) (c : Nat) : (Try.prog.info? 27).map (·.size) = some (h.v A c).size := size_hdV _ _ _
def Hd.may (h : Hd) : Bool := decide (1 ≤ h.ep) && decide (h.ep ≤ 4611686018427387904) && decide (h.ops.length ≤ 16) && h.ops.all Ho.may
def Hd.b (h : Hd) : List UInt8 := h.par ++ (putL h.ep 8 ++ putL h.ops.length 1) ++ (h.ops.map Ho.b).flatten
/-- Lists of votes, and of operations, that stay in memory. -/
def VesAt (w : World) (A : Option Addr) (L : List Ve) : Prop := ∀ u, Below w.heap.size w u → ∀ (i : Nat) v, L[i]? = some v → ∃ g o B c, A = some ⟨g, o, none⟩ ∧ g < u.heap.size ∧ u.rangeAt g (o + i * 68) (v.c B c) ∧ Rd u 0 u.heap.size B v.s
def HosAt (w : World) (A : Option Addr) (L : List Ho) : Prop := ∀ u, Below w.heap.size w u → ∀ (i : Nat) o, L[i]? = some o → ∃ g q B c, A = some ⟨g, q, none⟩ ∧ g < u.heap.size ∧ u.rangeAt g (q + i * 36) (o.c B c) ∧ VesAt u B o.ev
theorem VesAt.below {w u : World} {A : Option Addr} {L : List Ve} (h : VesAt w A L) (hb : Below w.heap.size w u) : VesAt u A L := fun v hv => h v (hb.trans (hv.mono hb.size))
theorem HosAt.below {w u : World} {A : Option Addr} {L : List Ho} (h : HosAt w A L) (hb : Below w.heap.size w u) : HosAt u A L := fun v hv => h v (hb.trans (hv.mono hb.size))
/-- Single cells of them. -/
theorem range_cell {w : World} {g o : Nat} {f : Nat → Value} {n : Nat} (h : w.rangeAt g o ((List.range n).map f)) (j : Nat) (hj : j < n) : w.cell? ⟨g, o + j, none⟩ = some (f j) :=
  h j _ (by rw [List.getElem?_map, List.getElem?_range hj]; rfl)
theorem range_part {w : World} {g o : Nat} {f : Nat → Value} {n : Nat} (h : w.rangeAt g o ((List.range n).map f)) (a m : Nat) (hm : a + m ≤ n) (f' : Nat → Value) (hf : ∀ j, j < m → f' j = f (a + j)) : w.rangeAt g (o + a) ((List.range m).map f') := fun j v hv => by
  have hj : j < m := by
    rcases Nat.lt_or_ge j m with h | h
    · exact h
    · rw [List.getElem?_eq_none (by simp; omega)] at hv; cases hv
  rw [List.getElem?_map, List.getElem?_range hj] at hv
  rw [Nat.add_assoc, range_cell h (a + j) (by omega), ← hv, ← hf j hj]
  rfl
end Go.Proofs.Ytaoddppkijopmaa
