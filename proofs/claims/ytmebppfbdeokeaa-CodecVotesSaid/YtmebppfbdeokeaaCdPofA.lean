/- The plain part: Contract: PointOf, of any bytes. -/
import Derived.Test.YtmebppfbdeokeaaCdRead
import Derived.Test.YtmebppfbdeokeaaCdVoteOf
import Derived.Test.YtmebppfbdeokeaaCdPt
import Derived.Test.YtmebppfbdeokeaaSeen
namespace Go.Proofs.Ytmebppfbdeokeaa
open Go.ChangeShapes Go.WideShapes Go.ChangeAt Go.RowKit
set_option linter.unusedVariables false
set_option maxRecDepth 100000

theorem str_toListD (l : List UInt8) : (ByteArray.mk l.toArray).toList = l := by rw [ByteArray.toList_eq]
theorem bytesEqual_c {w : World} {lo hi lo' hi' : Nat} {A B : Option Addr} {a b : List UInt8} (ha : Rd w lo hi A a) (hb : Rd w lo' hi' B b) (c d n m : Nat) (en : n = a.length) (em : m = b.length) :
    Calls Try.prog 34 #[.slice A n c, .slice B m d] w fun e w' => e = .returned (.bool (a == b)) ∧ w = w' := by
  have h1 := run_str ha n c en
  have h2 := run_str hb m d em
  obtain ⟨sx, hsx⟩ : ∃ sx : ByteArray, sx = ⟨a.toArray⟩ := ⟨_, rfl⟩
  obtain ⟨sy, hsy⟩ : ∃ sy : ByteArray, sy = ⟨b.toArray⟩ := ⟨_, rfl⟩
  have he : (sx.toList == sy.toList) = (a == b) := by rw [hsx, hsy, str_toListD, str_toListD]
  unfold strOf at h1 h2
  rw [← hsx] at h1
  rw [← hsy] at h2
  have HE := Lib.hid he
  clear hsx hsy ha hb en em he
  go_enter Try.func34, Try.ntmps34
  go_wp2
  go_ret
  exact ⟨congrArg (fun b => Ending.returned (.bool b)) HE.out, rfl⟩

/-- A zero checkpoint. -/
def pt0 : Array Value := ptV 0 zeros
theorem size_pt0 : (Try.prog.info? 26).map (·.size) = some pt0.size := size_ptV _ _
theorem one_pt0 : pt0.all (·.oneCell') = true := rowV_one 33 _ (ptF_one _ _)
theorem zero_pt0 (u : World) : (zeroValue 26).run Try.prog u = .ok (.agg pt0) u := zero_pointC u
/-- Are they a checkpoint's bytes, and whose? -/
def pofOk (b : List UInt8) : Bool := decide ((ptR (some b)).1 ≤ 4611686018427387904) && (ptL (ptR (some b)).1 (ptR (some b)).2 == b)
def pofV (b : List UInt8) : Array Value := if pofOk b = true then ptV (ptR (some b)).1 (ptR (some b)).2 else pt0
def pofN (b : List UInt8) : Int := if pofOk b = true then 0 else 4
def PofP (w : World) (b : List UInt8) (e : Ending) (w' : World) : Prop := e = .returned (.tuple #[.agg (pofV b), .int .i64 (pofN b)]) ∧ Below w.heap.size w w'
theorem num8_lt (st : Option (List UInt8)) : (numS st 8).1 < 18446744073709551616 := by
  simp only [numS]
  rw [if_pos (by omega)]
  have h1 := num_lt (cutS st 8).1
  rcases cut_len st 8 (by omega) with h | h
  · rw [h] at h1; simp only [] at h1 ⊢; omega
  · have e : (cutS st 8).1.length = 8 := by omega
    rw [e] at h1; simp only [] at h1 ⊢; omega
end Go.Proofs.Ytmebppfbdeokeaa
