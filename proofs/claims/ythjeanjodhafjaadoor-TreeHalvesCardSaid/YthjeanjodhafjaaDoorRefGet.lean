/- Contracts: the reference's Power and Get (without wire). -/
import Derived.Test.YthjeanjodhafjaaDoorMem
import Derived.WalkKit
import Derived.ProofKit
import Derived.OpenShut
import Derived.Lib.Hide
import Derived.Outline
import Derived.WalkSpells
import Derived.WalkLawsBesides
import Derived.Deep.QuietTactic
import Derived.BigQuiet
import Derived.IntWalk
namespace Go.Proofs.YthjeanjodhafjaaDoor
open Go.ChangeShapes Go.WideShapes Go.ChangeAt Go.RowKit
set_option linter.unusedVariables false

/-- The number that bytes are, the highest first. -/
def num (l : List UInt8) : Nat := l.foldl (fun n x => n * 256 + x.toNat) 0
theorem num_snoc (l : List UInt8) (x : UInt8) : num (l ++ [x]) = num l * 256 + x.toNat := by simp [num, List.foldl_append]
theorem num_take (l : List UInt8) (k : Nat) (h : k < l.length) : num (l.take (k + 1)) = num (l.take k) * 256 + l[k].toNat := by
  rw [List.take_succ_eq_append_getElem h, num_snoc]
theorem num_lt (l : List UInt8) : num l < 256 ^ l.length := by
  have key : ∀ (l : List UInt8) (a k : Nat), a < 256 ^ k → l.foldl (fun n x => n * 256 + x.toNat) a < 256 ^ (k + l.length) := by
    intro l
    induction l with
    | nil => intro a k h; simpa using h
    | cons x l ih =>
      intro a k h
      have hx := x.toNat_lt
      have h2 : a * 256 + x.toNat < 256 ^ (k + 1) := by rw [Nat.pow_succ]; omega
      have := ih _ _ h2
      simp only [List.foldl_cons, List.length_cons]
      rw [show k + (l.length + 1) = k + 1 + l.length by omega]
      exact this
  have := key l 0 0 (by simp)
  simpa [num] using this
theorem pow_lt7 (k : Nat) (h : k < 7) : 256 ^ k < 72057594037927936 := by
  have h2 : 256 ^ k ≤ 256 ^ 6 := Nat.pow_le_pow_right (by omega) (by omega)
  have h3 : (256 : Nat) ^ 6 = 281474976710656 := by decide
  omega
set_option maxHeartbeats 400000 in
theorem power_any (n : Nat) (w : World) (hn : n ≤ 7) :
    Calls Tryd.prog 42 #[.int .i64 n] w fun e w' => e = .returned (.int .u64 ((256 ^ n : Nat) : Int)) ∧ w = w' := by
  go_enter Tryd.func42, Tryd.ntmps42
  go_wp2
  go_loop [3, 4] (fun p i => ∃ k : Nat, k ≤ n ∧ i = .int .i64 k ∧ p = .int .u64 ((256 ^ k : Nat) : Int)) (fun _ i => n - (intOf i).toNat)
  case atStart => exact ⟨0, Nat.zero_le _, rfl, rfl⟩
  case round =>
    obtain ⟨k, hk, rfl, rfl⟩ := hrel
    by_cases hlt : k < n
    · have hb := pow_lt7 k (by omega)
      have HP := Lib.hid (Nat.pow_succ 256 k)
      generalize 256 ^ k = q at *
      go_wp2
      exact ⟨⟨k + 1, by omega, by go_num, by rw [HP.out]; go_num⟩, by simp [intOf]; omega⟩
    · obtain rfl : k = n := by omega
      go_wp2
      go_ret
      exact ⟨rfl, rfl⟩
theorem power_same (n : Int) (k : Nat) (w : World) (hk : n = (k : Int)) (hn : k ≤ 7) :
    Calls Tryd.prog 42 #[.int .i64 n] w fun e w' => e = .returned (.int .u64 ((256 ^ k : Nat) : Int)) ∧ w' = w := by
  subst hk
  exact (power_any k w hn).mono fun _ _ h => ⟨h.1, h.2.symm⟩

/-- A call that draws nothing, in a world behind draws. -/
theorem quiet_more {P : Program} {f : FuncId} {args : Array Value} {w : World} {a n : Nat} {v : Value} (h : Calls P f args (w.drewN (a + n)) fun e w' => e = .returned v ∧ w' = w.drewN (a + n)) :
    Calls P f args (w.drewN (a + n)) fun e w'' => e = .returned v ∧ ∃ m, w'' = w.drewN (a + m) := h.mono fun _ _ ⟨he, hm⟩ => ⟨he, n, hm⟩
theorem u64_in (n : Int) (h0 : 0 ≤ n) (h1 : n < 18446744073709551616) : IntKind.u64.wrap n = n := by
  rw [IntKind.wrap_u64]
  omega

/-- The sum behind k bytes. -/
def part (l : List UInt8) (k : Nat) : Nat := num (l.take k) * 256 ^ (l.length - k)
theorem part_step (l : List UInt8) (k : Nat) (h : k < l.length) : part l (k + 1) = part l k + l[k].toNat * 256 ^ (l.length - 1 - k) := by
  unfold part
  rw [num_take l k h, show l.length - k = (l.length - 1 - k) + 1 by omega, show l.length - (k + 1) = l.length - 1 - k by omega, Nat.pow_succ, Nat.add_mul, Nat.mul_assoc, Nat.mul_comm 256]
theorem part_end (l : List UInt8) : part l l.length = num l := by simp [part]
theorem part_lt (l : List UInt8) (k : Nat) (hk : k ≤ l.length) (h8 : l.length ≤ 8) : part l k < 18446744073709551616 := by
  unfold part
  have h1 := num_lt (l.take k)
  rw [List.length_take, Nat.min_eq_left hk] at h1
  have h2 : 0 < 256 ^ (l.length - k) := Nat.pow_pos (by omega)
  have h3 : num (l.take k) * 256 ^ (l.length - k) < 256 ^ k * 256 ^ (l.length - k) := Nat.mul_lt_mul_of_pos_right h1 h2
  rw [← Nat.pow_add, show k + (l.length - k) = l.length by omega] at h3
  have h4 : 256 ^ l.length ≤ 256 ^ 8 := Nat.pow_le_pow_right (by omega) h8
  have h5 : (256 : Nat) ^ 8 = 18446744073709551616 := by decide
  omega

set_option maxHeartbeats 1000000 in
theorem refGet_any (A : Option Addr) (c lo hi : Nat) (l : List UInt8) (w : World) (h : Rd w lo hi A l) (h8 : l.length ≤ 8) :
    Calls Tryd.prog 33 #[.slice A l.length c] w fun e w' => e = .returned (.int .u64 (num l)) ∧ ∃ m, w' = w.drewN m := by
  go_enter Tryd.func33, Tryd.ntmps33
  go_wp2
  go_loopw [3, 4] (fun s i wr => ∃ k m : Nat, k ≤ l.length ∧ i = .int .i64 k ∧ s = .int .u64 ((part l k : Nat) : Int) ∧ w.drewN m = wr) (fun _ i _ => l.length - (intOf i).toNat)
  case atStart => exact ⟨0, 0, Nat.zero_le _, rfl, by simp [part, num], rfl⟩
  case round =>
    obtain ⟨k, m, hk, rfl, rfl, rfl⟩ := hrel
    by_cases hlt : k < l.length
    · obtain ⟨b, off, rfl, _, _, hc⟩ := h.at_ hlt
      unfold bv at hc
      have HS := Lib.hid (part_step l k hlt)
      have hp1 := part_lt l (k + 1) (by omega) h8
      rw [HS.out] at hp1
      have hx := l[k].toNat_lt
      have HPW := Lib.hid (fun u => power_same ((l.length : Int) - 1 - (k : Int)) (l.length - 1 - k) u (by omega) (by omega))
      generalize l[k].toNat = x at *
      generalize part l k = s at *
      have hq : 256 ^ (l.length - 1 - k) ≤ 72057594037927936 := by
        have h2 : 256 ^ (l.length - 1 - k) ≤ 256 ^ 7 := Nat.pow_le_pow_right (by omega) (by omega)
        have h3 : (256 : Nat) ^ 7 = 72057594037927936 := by decide
        omega
      generalize 256 ^ (l.length - 1 - k) = q at *
      have hcq : ∀ nq, (w.drewN nq).cell? ⟨b, off + k, none⟩ = some (.int .u8 (x : Int)) := fun nq => hc
      have hmul : (x : Int) * (q : Int) = ((x * q : Nat) : Int) := by simp
      have HM := Lib.hid hmul
      clear hmul
      have m1 : (0 : Int) ≤ (x : Int) * (q : Int) := by rw [HM.out]; omega
      have m2 : (s : Int) + (x : Int) * (q : Int) < 18446744073709551616 := by rw [HM.out]; omega
      have i3 : (k : Int) < (l.length : Int) := by omega
      go_wp2_with fail
      have wA : IntKind.i64.wrap ((l.length : Int) - 1) = (l.length : Int) - 1 := IntWalk.i64_in _ (by omega)
      have wB : IntKind.i64.wrap ((l.length : Int) - 1 - (k : Int)) = (l.length : Int) - 1 - (k : Int) := IntWalk.i64_in _ (by omega)
      have wC : IntKind.u64.wrap ((x : Int) * (q : Int)) = (x : Int) * (q : Int) := u64_in _ m1 (by omega)
      have wD : IntKind.u64.wrap ((s : Int) + (x : Int) * (q : Int)) = (s : Int) + (x : Int) * (q : Int) := u64_in _ (by omega) m2
      have wE : IntKind.u64.wrap (x : Int) = (x : Int) := u64_in _ (by omega) (by omega)
      go_quiet ((go_at_call 42; exact quiet_more (HPW.out _)))
      clear wA wB wC wD wE
      go_wp2_with fail
      exact ⟨⟨k + 1, m + nq, by omega, by go_num, congrArg (Value.int .u64) (by rw [HS.out, HM.out]; omega), rfl⟩, by simp [intOf]; omega⟩
    · obtain rfl : k = l.length := by omega
      rw [part_end]
      go_wp2
      go_ret
      exact ⟨rfl, m, rfl⟩
end Go.Proofs.YthjeanjodhafjaaDoor
