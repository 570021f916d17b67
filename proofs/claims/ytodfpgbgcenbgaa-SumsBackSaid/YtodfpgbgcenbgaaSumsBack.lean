/- The walk of SumsBack. -/
import Derived.Test.YtodfpgbgcenbgaaSumKnown
namespace Go.Proofs.Ytodfpgbgcenbgaa
open Go.ChangeShapes Go.WideShapes Go.ChangeAt Go.RowKit
set_option linter.unusedVariables false

set_option maxRecDepth 100000 in
set_option maxHeartbeats 4000000 in
theorem sumsBack_any (s : Nat) (A : Option Addr) (c : Nat) (l : List UInt8) (w : World) (hs : s < 4294967296) (h : Rd w 0 w.heap.size A l) (hl : l.length ≤ 9223372036854775807) :
    Calls Try.prog 4 #[.int .u32 (s : Int), .slice A l.length c] w fun e w' => e = .returned (.bool true) ∧ Below w.heap.size w w' := by
  by_cases hbig : 5000 < l.length
  · go_enter Try.func4, Try.ntmps4
    go_wp2_with (go_at_call 8; refine (known_any _).mono ?_; rintro e w3 ⟨rfl, hb3⟩)
    go_ret
    exact ⟨rfl, hb3⟩
  · have hbig' : l.length ≤ 5000 := by omega
    clear hbig
    have H1 := Lib.hid (less_more l hs)
    have H2 := Lib.hid (more_less l hs)
    have hm := moreS_lt s l
    have ha := lessS_lt s l
    go_enter Try.func4, Try.ntmps4
    go_wp2_with fail
    refine (less_any s A c l w hs h hl).mono ?_
    unfold rv
    rintro e w1 ⟨rfl, b1⟩
    have q := (h.below b1 (Nat.le_refl _)).wide (Nat.le_refl _) b1.size
    clear h
    generalize hz : lessS s l = z at *
    have HZ := Lib.hid hz
    clear hz
    go_wp2_with fail
    refine (more_any s A c l w1 hs q hl).mono ?_
    unfold rv
    rintro e w2 ⟨rfl, b2⟩
    have q := (q.below b2 (Nat.le_refl _)).wide (Nat.le_refl _) b2.size
    replace b2 := b1.trans (b2.mono b1.size)
    clear b1
    generalize moreS s l = y at *
    go_wp2_with fail
    refine (less_any y A c l w2 hm q hl).mono ?_
    rw [H1.out]
    unfold rv
    rintro e w3 ⟨rfl, b3⟩
    have q := (q.below b3 (Nat.le_refl _)).wide (Nat.le_refl _) b3.size
    replace b3 := b2.trans (b3.mono b2.size)
    clear b2
    go_wp2_with fail
    refine (more_any z A c l w3 ha q hl).mono ?_
    rw [H2.out]
    unfold rv
    rintro e w4 ⟨rfl, b4⟩
    have q := (q.below b4 (Nat.le_refl _)).wide (Nat.le_refl _) b4.size
    replace b4 := b3.trans (b4.mono b3.size)
    clear b3
    go_wp2_with fail
    refine (refLess_any s A c l w4 _ hs q hl).mono ?_
    rw [HZ.out]
    unfold rv
    rintro e w5 ⟨rfl, rfl⟩
    go_wp2_with fail
    refine (known_any _).mono ?_
    rintro e w6 ⟨rfl, b6⟩
    replace b6 := b4.trans (b6.mono b4.size)
    clear b4
    go_wp2_with fail
    go_ret
    exact ⟨rfl, b6⟩
end Go.Proofs.Ytodfpgbgcenbgaa
