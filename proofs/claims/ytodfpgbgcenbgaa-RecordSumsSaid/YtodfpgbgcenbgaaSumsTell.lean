/- The walk of SumsTell. -/
import Derived.Test.YtodfpgbgcenbgaaSumKnown
import Derived.Test.YtodfpgbgcenbgaaSumFlip
import Derived.Deep.DeepCutAuto
namespace Go.Proofs.Ytodfpgbgcenbgaa
open Go.ChangeShapes Go.WideShapes Go.ChangeAt Go.RowKit
set_option linter.unusedVariables false

/-- A row of the call's own that is not empty. -/
theorem own_some {w : World} {base n : Nat} {v : Value} {xs : List Value} (h : w.ownsRow base 5 1 v n xs) (hn : 0 < n) : ∃ g cap, v = .slice (some ⟨g, 0, none⟩) n cap ∧ base ≤ g := by
  rcases h.2 with ⟨_, h0⟩ | ⟨g, cap, cur, hv, hb, _⟩
  · omega
  · exact ⟨g, cap, hv, hb⟩

def badT (n : Nat) (at_ : Int) : Bool := decide (n < 4 ∨ 5000 < n ∨ at_ < 0 ∨ 8 * (n : Int) - 32 < at_)

set_option maxRecDepth 100000 in
set_option maxHeartbeats 8000000 in
theorem sumsTell_zero (A : Option Addr) (c : Nat) (l : List UInt8) (at_ : Int) (w : World) (h1 : -9223372036854775808 ≤ at_) (h2 : at_ ≤ 9223372036854775807) (hl : l.length ≤ 9223372036854775807) :
    Calls Try.prog 6 #[.slice A l.length c, .int .i64 at_, .int .u32 0] w fun e w' => e = .returned (.bool true) ∧ Below w.heap.size w w' := by
  go_enter Try.func6, Try.ntmps6
  go_upto_region 1 with fail
  go_cut [32] (fun s32 wx => s32 = .bool true ∧ w = wx)
  case first =>
    go_wp2
    all_goals go_meet
    all_goals exact ⟨rfl, rfl⟩
  case rest =>
    obtain ⟨rfl, rfl⟩ := hcut
    go_wp2_with (go_at_call 8; refine (known_any _).mono ?_; rintro e w3 ⟨rfl, hb3⟩)
    go_ret
    exact ⟨rfl, hb3⟩

/-- The byte with a bit turned over, as the code makes it. -/
theorem flip_bits (x : UInt8) (b : Nat) (hb : b < 8) : Value.int .u8 (bits .xor .u8 (x.toNat : Int) (2 ^ b % 256)) = bv (flipB x b) := by
  have hp : (2 : Nat) ^ b < 2 ^ 8 := Nat.pow_lt_pow_right (by omega) hb
  rw [show (2 : Nat) ^ 8 = 256 by rfl] at hp
  have e : (2 : Int) ^ b % 256 = ((2 ^ b : Nat) : Int) := by
    rw [show (2 : Int) ^ b = ((2 ^ b : Nat) : Int) by simp]
    generalize 2 ^ b = y at *
    omega
  unfold bv
  rw [flipB_toNat x b hb, e]
  apply congrArg
  exact u8_xor_nat x.toNat (2 ^ b) x.toNat_lt (Nat.pow_lt_pow_right (by omega) hb)

theorem tmod_bit (f k : Nat) : ((f : Int) / 2 ^ k).tmod 2 = ((f / 2 ^ k % 2 : Nat) : Int) := by
  rw [← cast_bit, Int.tmod_eq_emod_of_nonneg (Int.ediv_nonneg (by omega) (by rw [show (2 : Int) ^ k = ((2 ^ k : Nat) : Int) by simp]; exact Int.natCast_nonneg _))]

set_option maxRecDepth 100000 in
set_option maxHeartbeats 8000000 in
theorem sumsTell_any (A : Option Addr) (c : Nat) (l : List UInt8) (at_ : Int) (f : Nat) (w : World) (h1 : -9223372036854775808 ≤ at_) (h2 : at_ ≤ 9223372036854775807) (hf : f < 4294967296) (h : Rd w 0 w.heap.size A l) (hl : l.length ≤ 9223372036854775807) :
    Calls Try.prog 6 #[.slice A l.length c, .int .i64 at_, .int .u32 (f : Int)] w fun e w' => e = .returned (.bool true) ∧ Below w.heap.size w w' := by
  rcases Nat.eq_zero_or_pos f with h0 | h0
  · subst h0
    exact sumsTell_zero A c l at_ w h1 h2 hl
  have d0 : ((f : Int) == 0) = false := by simp; omega
  obtain ⟨i0, hi0, hz0, hz1, hz2⟩ := info_parts byte_info
  go_enter Try.func6, Try.ntmps6
  go_upto_region 1 with fail
  go_cut [32] (fun s32 wx => s32 = .bool (badT l.length at_) ∧ w = wx)
  case first =>
    go_wp2
    all_goals go_meet
    all_goals refine ⟨congrArg Value.bool ?_, rfl⟩
    all_goals unfold badT
    all_goals first | (exact (decide_eq_true (by omega)).symm) | (exact (decide_eq_false (by omega)).symm) | (rw [Bool.eq_iff_iff]; simp only [Bool.or_eq_true, decide_eq_true_eq]; omega)
  case rest =>
    obtain ⟨hu, rfl⟩ := hcut
    by_cases hbad : l.length < 4 ∨ 5000 < l.length ∨ at_ < 0 ∨ 8 * (l.length : Int) - 32 < at_
    · rw [show badT l.length at_ = true from decide_eq_true hbad] at hu
      subst hu
      clear hbad
      go_wp2_with (go_at_call 8; refine (known_any _).mono ?_; rintro e w3 ⟨rfl, hb3⟩)
      go_ret
      exact ⟨rfl, hb3⟩
    · rw [show badT l.length at_ = false from decide_eq_false hbad] at hu
      subst hu
      have hl4 : 4 ≤ l.length := by omega
      have hl5 : l.length ≤ 5000 := by omega
      have ha0 : 0 ≤ at_ := by omega
      obtain ⟨a, rfl⟩ := Int.eq_ofNat_of_zero_le ha0
      have ha : a + 32 ≤ 8 * l.length := by omega
      clear hbad h1 h2 hl ha0
      have HN := Lib.hid (World.ownsRow_nil w w.heap.size 5 1)
      have HR := Lib.hid h
      clear h
      go_wp2_with (at_builtin; refine wpList_append_rd _ rfl (.const (.slice none 0 0)) (.tmp 34) _ rfl w.heap.size 5 i0 _ Try.underlying24 hi0 hz0 hz1 hz2 rfl (.slice none 0 0) 0 [] rfl HN.out 0 w.heap.size A c l rfl HR.out (by omega) (Nat.le_refl _) ?_; intro v1 w1 hown1 hg1 hat1)
      simp only [Nat.zero_add, List.nil_append] at hown1
      have hb1 : Below w.heap.size w w1 := (Below.refl _ _).grown hg1 (Nat.le_refl _) (by simp [Value.ownBlock])
      obtain ⟨g, cap, rfl, hgb⟩ := own_some hown1 (by omega)
      clear hg1 hat1 HN
      go_loopw [8] (fun i wr => ∃ k : Nat, k ≤ 32 ∧ i = .int .i64 k ∧ wr.ownsRow w.heap.size 5 1 (.slice (some ⟨g, 0, none⟩) l.length cap) l.length ((flipTo l a f k).map bv) ∧ Below w.heap.size w wr) (fun i _ => 32 - (intOf i).toNat)
      case atStart => exact ⟨0, by omega, rfl, hown1, hb1⟩
      case round =>
        obtain ⟨k, hk, rfl, hown, hb⟩ := hrel
        clear hown1 hb1
        by_cases hlt : k < 32
        · have HS : Hid (flipTo l a f (k + 1) = if f / 2 ^ k % 2 = 1 then flipL (flipTo l a f k) ((a + k) / 8) ((a + k) % 8) else flipTo l a f k) := rfl
          have hlen := flipTo_length l a f k
          have hj : (a + k) / 8 < (flipTo l a f k).length := by omega
          have HF := Lib.hid (flipL_set (flipTo l a f k) ((a + k) / 8) ((a + k) % 8) hj)
          have hc := hown.cellAt ((a + k) / 8) (by omega)
          rw [List.getElem?_map, List.getElem?_eq_getElem hj, Option.map_some] at hc
          have hfz := hown.frozenAt ((a + k) / 8)
          have HB := Lib.hid (flip_bits ((flipTo l a f k)[(a + k) / 8]) ((a + k) % 8) (by omega))
          unfold bv at hc
          have HL := Lib.hid hlen
          clear hlen
          generalize hx : (flipTo l a f k)[(a + k) / 8] = x at *
          have HX := Lib.hid hx
          clear hx
          by_cases hbit : f / 2 ^ k % 2 = 1
          · have d1 : (((f : Int) / 2 ^ k).tmod 2 == 1) = true := by rw [tmod_bit, hbit]; rfl
            have HBT := Lib.hid hbit
            clear hbit
            go_wp2
            rw [HB.out]
            obtain ⟨hst, hgr⟩ := hown.stored ((a + k) / 8) (bv (flipB x ((a + k) % 8)))
            refine ⟨⟨k + 1, by omega, by go_num, ?_, hb.setCell hgb _⟩, by simp [intOf]; omega⟩
            rw [HS.out, if_pos HBT.out, HF.out, List.map_set]
            exact hst
          · have d1 : (((f : Int) / 2 ^ k).tmod 2 == 1) = false := by rw [tmod_bit, show f / 2 ^ k % 2 = 0 by omega]; rfl
            have HBT := Lib.hid hbit
            clear hbit
            go_wp2
            refine ⟨⟨k + 1, by omega, by go_num, ?_, hb⟩, by simp [intOf]; omega⟩
            rw [HS.out, if_neg HBT.out]
            exact hown
        · obtain rfl : k = 32 := by omega
          have HT := Lib.hid (flip_told l a f hf (by omega) ha)
          have hlen := flipTo_length l a f 32
          generalize flipTo l a f 32 = m at *
          obtain ⟨ho, e1, e2⟩ := Ow.of_own (l := m) hown
          clear e1 e2
          have hrm := ho.rd.wide (Nat.zero_le _) (Nat.le_refl _)
          have hrl := (HR.out.below hb (Nat.le_refl _)).wide (Nat.le_refl _) hb.size
          have HE := Lib.hid hlen
          have hm : m.length ≤ 5000 := by omega
          clear ho hown hlen HR
          go_wp2_with fail
          refine (sum1 _ _ _ m wr HE.out.symm hrm (by omega)).mono ?_
          unfold rv
          rintro e w2 ⟨rfl, b2⟩
          replace hrl := (hrl.below b2 (Nat.le_refl _)).wide (Nat.le_refl _) b2.size
          replace b2 := hb.trans (b2.mono hb.size)
          clear hb hrm
          go_wp2_with fail
          refine (sum1 _ _ _ l w2 rfl hrl (by omega)).mono ?_
          unfold rv
          rintro e w3 ⟨rfl, b3⟩
          replace b3 := b2.trans (b3.mono b2.size)
          clear b2 hrl
          have d3 : (((moreS 0 m : Nat) : Int) != ((moreS 0 l : Nat) : Int)) = true := by have := HT.out; simp; omega
          have d4 : (moreS 0 m != moreS 0 l) = true := by have := HT.out; simp; omega
          generalize moreS 0 m = sm at *
          generalize moreS 0 l = sl at *
          go_wp2_with (go_at_call 8; refine (known_any _).mono ?_; rintro e w4 ⟨rfl, b4⟩)
          go_ret
          exact ⟨rfl, b3.trans (b4.mono b3.size)⟩
end Go.Proofs.Ytodfpgbgcenbgaa
