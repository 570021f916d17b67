/- Contracts: the reference's Get, Number, Blob, Left and End. -/
import Derived.Test.YtmebppfbdeokeaaRefB
namespace Go.Proofs.Ytmebppfbdeokeaa
open Go.ChangeShapes Go.WideShapes Go.ChangeAt Go.RowKit
set_option linter.unusedVariables false

theorem power_same (n : Int) (k : Nat) (w : World) (hk : n = (k : Int)) (hn : k ≤ 7) :
    Calls Try.prog 69 #[.int .i64 n] w fun e w' => e = .returned (.int .u64 ((256 ^ k : Nat) : Int)) ∧ w' = w := by
  subst hk
  exact (power_any k w hn).mono fun _ _ h => ⟨h.1, h.2.symm⟩

/-- A call that draws nothing, in a world behind draws. -/
theorem quiet_more {P : Program} {f : FuncId} {args : Array Value} {w : World} {a n : Nat} {v : Value} (h : Calls P f args (w.drewN (a + n)) fun e w' => e = .returned v ∧ w' = w.drewN (a + n)) :
    Calls P f args (w.drewN (a + n)) fun e w'' => e = .returned v ∧ ∃ m, w'' = w.drewN (a + m) := h.mono fun _ _ ⟨he, hm⟩ => ⟨he, n, hm⟩
theorem u64_in (n : Int) (h0 : 0 ≤ n) (h1 : n < 18446744073709551616) : IntKind.u64.wrap n = n := by
  rw [IntKind.wrap_u64]
  omega

/-- The sum behind k bytes. -/
def part (l : List UInt8) (k : Nat) : Nat := num (l.take k) * 256 ^ (l.length - k)
theorem part_step (l : List UInt8) (k : Nat) (h : k < l.length) : part l (k + 1) = part l k + l[k].toNat * 256 ^ (l.length - 1 - k) := by
  unfold part
  rw [num_take l k h, show l.length - k = (l.length - 1 - k) + 1 by omega, show l.length - (k + 1) = l.length - 1 - k by omega, Nat.pow_succ, Nat.add_mul, Nat.mul_assoc, Nat.mul_comm 256]
theorem part_end (l : List UInt8) : part l l.length = num l := by simp [part]
theorem part_lt (l : List UInt8) (k : Nat) (hk : k ≤ l.length) (h8 : l.length ≤ 8) : part l k < 18446744073709551616 := by
  unfold part
  have h1 := num_lt (l.take k)
  rw [List.length_take, Nat.min_eq_left hk] at h1
  have h2 : 0 < 256 ^ (l.length - k) := Nat.pow_pos (by omega)
  have h3 : num (l.take k) * 256 ^ (l.length - k) < 256 ^ k * 256 ^ (l.length - k) := Nat.mul_lt_mul_of_pos_right h1 h2
  rw [← Nat.pow_add, show k + (l.length - k) = l.length by omega] at h3
  have h4 : 256 ^ l.length ≤ 256 ^ 8 := Nat.pow_le_pow_right (by omega) h8
  have h5 : (256 : Nat) ^ 8 = 18446744073709551616 := by decide
  omega

set_option maxHeartbeats 1000000 in
theorem refGet_any (A : Option Addr) (c lo hi : Nat) (l : List UInt8) (w : World) (h : Rd w lo hi A l) (h8 : l.length ≤ 8) :
    Calls Try.prog 74 #[.slice A l.length c] w fun e w' => e = .returned (.int .u64 (num l)) ∧ ∃ m, w' = w.drewN m := by
  go_enter Try.func74, Try.ntmps74
  go_wp2
  go_loopw [3, 4] (fun s i wr => ∃ k m : Nat, k ≤ l.length ∧ i = .int .i64 k ∧ s = .int .u64 ((part l k : Nat) : Int) ∧ w.drewN m = wr) (fun _ i _ => l.length - (intOf i).toNat)
  case atStart => exact ⟨0, 0, Nat.zero_le _, rfl, by simp [part, num], rfl⟩
  case round =>
    obtain ⟨k, m, hk, rfl, rfl, rfl⟩ := hrel
    by_cases hlt : k < l.length
    · obtain ⟨b, off, rfl, _, _, hc⟩ := h.at_ hlt
      unfold bv at hc
      have HS := Lib.hid (part_step l k hlt)
      have hp1 := part_lt l (k + 1) (by omega) h8
      rw [HS.out] at hp1
      have hx := l[k].toNat_lt
      have HPW := Lib.hid (fun u => power_same ((l.length : Int) - 1 - (k : Int)) (l.length - 1 - k) u (by omega) (by omega))
      generalize l[k].toNat = x at *
      generalize part l k = s at *
      have hq : 256 ^ (l.length - 1 - k) ≤ 72057594037927936 := by
        have h2 : 256 ^ (l.length - 1 - k) ≤ 256 ^ 7 := Nat.pow_le_pow_right (by omega) (by omega)
        have h3 : (256 : Nat) ^ 7 = 72057594037927936 := by decide
        omega
      generalize 256 ^ (l.length - 1 - k) = q at *
      have hcq : ∀ nq, (w.drewN nq).cell? ⟨b, off + k, none⟩ = some (.int .u8 (x : Int)) := fun nq => hc
      have hmul : (x : Int) * (q : Int) = ((x * q : Nat) : Int) := by simp
      have HM := Lib.hid hmul
      clear hmul
      have m1 : (0 : Int) ≤ (x : Int) * (q : Int) := by rw [HM.out]; omega
      have m2 : (s : Int) + (x : Int) * (q : Int) < 18446744073709551616 := by rw [HM.out]; omega
      have i3 : (k : Int) < (l.length : Int) := by omega
      go_wp2_with fail
      have wA : IntKind.i64.wrap ((l.length : Int) - 1) = (l.length : Int) - 1 := IntWalk.i64_in _ (by omega)
      have wB : IntKind.i64.wrap ((l.length : Int) - 1 - (k : Int)) = (l.length : Int) - 1 - (k : Int) := IntWalk.i64_in _ (by omega)
      have wC : IntKind.u64.wrap ((x : Int) * (q : Int)) = (x : Int) * (q : Int) := u64_in _ m1 (by omega)
      have wD : IntKind.u64.wrap ((s : Int) + (x : Int) * (q : Int)) = (s : Int) + (x : Int) * (q : Int) := u64_in _ (by omega) m2
      have wE : IntKind.u64.wrap (x : Int) = (x : Int) := u64_in _ (by omega) (by omega)
      go_quiet ((go_at_call 69; exact quiet_more (HPW.out _)))
      clear wA wB wC wD wE
      go_wp2_with fail
      exact ⟨⟨k + 1, m + nq, by omega, by go_num, congrArg (Value.int .u64) (by rw [HS.out, HM.out]; omega), rfl⟩, by simp [intOf]; omega⟩
    · obtain rfl : k = l.length := by omega
      rw [part_end]
      go_wp2
      go_ret
      exact ⟨rfl, m, rfl⟩

theorem RR.drewN {w : World} {p : Nat} {A : Option Addr} {c : Nat} {b : List UInt8} {st : Option (List UInt8)} (h : RR w p A c b st) (n : Nat) : RR (w.drewN n) p A c b st := h
theorem grown_drewN {a w : World} {row : Option Nat} (h : a.grownBy w row) (n : Nat) : a.grownBy (w.drewN n) row := ⟨h.os, h.tape, h.output, h.size, h.block⟩

/-- What the reference's Number answers. -/
def RNumP (w : World) (p : Nat) (A : Option Addr) (c : Nat) (b : List UInt8) (r : Nat × Option (List UInt8)) (e : Ending) (w' : World) : Prop :=
  e = .returned (.int .u64 (r.1 : Int)) ∧ RR w' p A c b r.2 ∧ w.grownBy w' (some p)

set_option maxHeartbeats 1000000 in
theorem refNumber_any (p : Nat) (A : Option Addr) (c lo hi : Nat) (b : List UInt8) (st : Option (List UInt8)) (n : Int) (w : World) (hb : b.length ≤ 100000) (hc : b.length ≤ c) (h : RR w p A c b st)
    (hr : Rd w lo hi A b) (hp : hi ≤ p) (hs : p < w.heap.size) :
    Calls Try.prog 58 #[.pointer (some ⟨p, 0, none⟩), .int .i64 n] w (RNumP w p A c b (numS st n)) := by
  by_cases hn : 1 ≤ n ∧ n ≤ 8
  · have d1 : decide (n < 1) = false := by simp; omega
    have d2 : decide (8 < n) = false := by simp; omega
    have Hs := Lib.hid (show numS st n = (num (cutS st n).1, (cutS st n).2) by simp only [numS]; rw [if_pos hn])
    have HB := Lib.hid (refBytes_any p A c b st n w hb hc h)
    have h8 : (cutS st n).1.length ≤ 8 := by rcases cut_len st n (by omega) with h0 | h0 <;> omega
    have H8 := Lib.hid h8
    clear h8
    go_enter Try.func58, Try.ntmps58
    go_wp2_with (go_at_call 75; refine HB.out.mono ?_; rintro e w1 ⟨A1, c1, rfl, hR1, ht1, hg1⟩)
    have hr1 := ht1 w1 lo hi (hr.grown hg1 (by omega) (fun g hg => by injection hg with hg; omega))
    refine (refGet_any A1 c1 lo hi _ w1 hr1 H8.out).mono ?_
    rintro e w2 ⟨rfl, m, rfl⟩
    go_wp2_with fail
    go_ret
    refine ⟨?_, by rw [Hs.out]; exact hR1.drewN m, grown_drewN hg1 m⟩
    rw [Hs.out]
    rfl
  · have Hs := Lib.hid (show numS st n = (0, none) by simp only [numS]; rw [if_neg hn])
    have hcut : cutS st (-1) = ([], none) := by
      cases st with
      | none => rfl
      | some l => simp only [cutS]; rw [if_neg (by omega)]
    have HB := Lib.hid (refBytes_any p A c b st (-1) w hb hc h)
    rw [hcut] at HB
    clear hcut
    have HG := Lib.hid (fun (A1 : Option Addr) (c1 : Nat) (w1 : World) => refGet_any A1 c1 0 0 [] w1 Rd.nil (by simp))
    by_cases h1 : n < 1
    · have d1 : decide (n < 1) = true := by simpa using h1
      go_enter Try.func58, Try.ntmps58
      go_wp2_with (go_at_call 75; refine HB.out.mono ?_; rintro e w1 ⟨A1, c1, rfl, hR1, ht1, hg1⟩)
      refine (HG.out A1 c1 w1).mono ?_
      rintro e w2 ⟨rfl, m, rfl⟩
      go_wp2_with fail
      go_ret
      refine ⟨?_, by rw [Hs.out]; exact hR1.drewN m, grown_drewN hg1 m⟩
      rw [Hs.out]
      rfl
    · have d1 : decide (n < 1) = false := by simpa using h1
      have d2 : decide (8 < n) = true := by simp; omega
      go_enter Try.func58, Try.ntmps58
      go_wp2_with (go_at_call 75; refine HB.out.mono ?_; rintro e w1 ⟨A1, c1, rfl, hR1, ht1, hg1⟩)
      refine (HG.out A1 c1 w1).mono ?_
      rintro e w2 ⟨rfl, m, rfl⟩
      go_wp2_with fail
      go_ret
      refine ⟨?_, by rw [Hs.out]; exact hR1.drewN m, grown_drewN hg1 m⟩
      rw [Hs.out]
      rfl

set_option maxHeartbeats 1000000 in
theorem refBlob_any (p : Nat) (A : Option Addr) (c lo hi : Nat) (b : List UInt8) (st : Option (List UInt8)) (w : World) (hb : b.length ≤ 100000) (hc : b.length ≤ c) (h : RR w p A c b st)
    (hr : Rd w lo hi A b) (hp : hi ≤ p) (hs : p < w.heap.size) :
    Calls Try.prog 60 #[.pointer (some ⟨p, 0, none⟩)] w (RefP w p A c b (blobS st)) := by
  have h2 := num2 st
  go_enter Try.func60, Try.ntmps60
  go_wp2_with (first | (go_at_call 58; refine (refNumber_any p A c lo hi b st 2 _ hb hc h hr hp hs).mono ?_; rintro e w1 ⟨rfl, hR1, hg1⟩) | (go_at_call 75; refine (refBytes_any p A c b _ _ _ hb hc hR1).mono ?_; rintro e w2 ⟨A2, c2, rfl, hR2, ht2, hg2⟩))
  go_ret
  exact ⟨A2, c2, rfl, hR2, ht2, hg1.trans hg2⟩


end Go.Proofs.Ytmebppfbdeokeaa
