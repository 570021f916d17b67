/- Proved: FieldWidths answers true. -/
import Derived.Test.YthbnnhnnldakeaaPower
import Derived.Deep.DeepCutAuto
namespace Go.Proofs.Ythbnnhnnldakeaa
open Go.ChangeShapes Go.WideShapes Go.ChangeAt Go.RowKit
set_option linter.unusedVariables false

def bad4 (a b : Nat) : Bool := decide (a < 1 ∨ 4 < a ∨ b < 1 ∨ 4 < b)

/-- What stands behind the first Put: refused, or the number's bytes. -/
def W6 (w : World) (n m : Nat) (size : Int) (b e : Value) (wx : World) : Prop :=
  ((size < m ∨ 8 < size) ∧ b = .slice none 0 0 ∧ e = .int .i64 2 ∧ w = wx) ∨
  ∃ (sz g : Nat), size = sz ∧ m ≤ sz ∧ sz ≤ 8 ∧ n < 256 ^ sz ∧ b = .slice (some ⟨g, 0, none⟩) sz sz ∧ e = .int .i64 0 ∧ Ow wx w.heap.size (some ⟨g, 0, none⟩) (putL n sz) ∧ Below w.heap.size w wx

theorem cons_str (l : List UInt8) : (({ data := #[0] } : ByteArray) ++ { data := l.toArray }).toList = 0 :: l := by
  rw [ByteArray.toList_eq, ByteArray.data_append]
  simp

set_option maxRecDepth 100000 in
set_option maxHeartbeats 8000000 in
theorem fieldWidths_any (n : Nat) (size : Int) (A1 A2 : Option Addr) (c1 c2 : Nat) (x y : List UInt8) (w : World) (hn : n < 18446744073709551616) (hs1 : -9223372036854775808 ≤ size) (hs2 : size ≤ 9223372036854775807)
    (r1 : Rd w 0 w.heap.size A1 x) (r2 : Rd w 0 w.heap.size A2 y) (hx : x.length ≤ 9223372036854775807) (hy : y.length ≤ 9223372036854775807) :
    Calls Try.prog 3 #[.int .u64 n, .int .i64 size, .slice A1 x.length c1, .slice A2 y.length c2] w fun e w' => e = .returned (.bool true) ∧ Below w.heap.size w w' := by
  go_enter Try.func3, Try.ntmps3
  go_wp2
  go_loop [9, 10] (fun s t => ∃ m : Nat, 1 ≤ m ∧ m ≤ 8 ∧ s = .int .i64 m ∧ t = .int .u64 ((n / 256 ^ m : Nat) : Int) ∧ Hid (m = 1 ∨ 256 ^ (m - 1) ≤ n)) (fun s _ => 8 - (intOf s).toNat)
  case atStart => exact ⟨1, by omega, by omega, rfl, rfl, .inl rfl⟩
  case round =>
    obtain ⟨m, hm1, hm8, rfl, rfl, hm⟩ := hrel
    by_cases hlt : 0 < n / 256 ^ m
    · have HD := Lib.hid (div_step n m)
      have HG := Lib.hid (show 256 ^ m ≤ n by rcases Nat.lt_or_ge n (256 ^ m) with h | h; (rw [Nat.div_eq_of_lt h] at hlt; omega); exact h)
      have h9 : m + 1 ≤ 8 := need_le n (m + 1) hn (.inr HG.out)
      have hqn : n / 256 ^ m ≤ n := Nat.div_le_self _ _
      generalize n / 256 ^ m = q at *
      go_wp2
      exact ⟨⟨m + 1, by omega, by omega, by go_num, by rw [← HD.out]; go_num, .inr HG.out⟩, by simp [intOf]; omega⟩
    · have HR := Lib.hid (show n < 256 ^ m by rcases Nat.lt_or_ge n (256 ^ m) with h | h; exact h; (exfalso; exact hlt (Nat.div_pos h (Nat.pow_pos (by omega)))))
      obtain ⟨q, hq⟩ : ∃ q, q = n / 256 ^ m := ⟨_, rfl⟩
      rw [← hq] at hlt ⊢
      clear hq
      obtain rfl : q = 0 := by omega
      clear hlt
      go_upto_region 6 with fail
      go_cut [11, 12] (fun s11 s12 wx => W6 w n m size s11 s12 wx)
      case first =>
        by_cases hc : size < 1 ∨ 8 < size
        · go_wp2_with (go_at_call 9; refine (put_width _ _ _ hc).mono ?_; rintro e w' ⟨rfl, rfl⟩)
          go_meet
          exact .inl ⟨by omega, rfl, rfl, rfl⟩
        · obtain ⟨sz, rfl⟩ := Int.eq_ofNat_of_zero_le (by omega : 0 ≤ size)
          by_cases hc2 : sz < m
          · have hN := none_mono n m sz (by rcases hm.out with h | h; omega; exact h) hc2
            go_wp2_with (go_at_call 9; refine (put_room _ _ _ (by omega) (by omega) hn hN).mono ?_; rintro e w' ⟨rfl, rfl⟩)
            go_meet
            exact .inl ⟨by omega, rfl, rfl, rfl⟩
          · have hN := room_mono n m sz HR.out (by omega)
            go_wp2_with (go_at_call 9; refine (put_ok _ _ _ (by omega) (by omega) hn hN).mono ?_; rintro e w' ⟨rfl, ho, hb⟩)
            go_meet
            exact .inr ⟨sz, w.heap.size, rfl, by omega, by omega, hN, rfl, rfl, ho, hb⟩
      case rest =>
        obtain ⟨wa, rfl⟩ : ∃ wa : World, wa = wc := ⟨_, rfl⟩
        have hW := hcut
        clear hcut
        go_upto_region 7 with fail
        go_cut [48] (fun s48 wx => s48 = .bool (decide (size < m ∨ 8 < size)) ∧ wa = wx)
        case first =>
          by_cases h1 : size < m
          · have d1 : decide (size < (m : Int)) = true := by simpa using h1
            have HD := Lib.hid (show decide (size < m ∨ 8 < size) = true by simp [h1])
            go_wp2
            go_meet
            exact ⟨by rw [HD.out], rfl⟩
          · have d1 : decide (size < (m : Int)) = false := by simpa using h1
            by_cases h2 : 8 < size
            · have d2 : decide (8 < size) = true := by simpa using h2
              have HD := Lib.hid (show decide (size < m ∨ 8 < size) = true by simp [h2])
              go_wp2
              go_meet
              exact ⟨by rw [HD.out], rfl⟩
            · have d2 : decide (8 < size) = false := by simpa using h2
              have HD := Lib.hid (show decide (size < m ∨ 8 < size) = false by simp; omega)
              go_wp2
              go_meet
              exact ⟨by rw [HD.out], rfl⟩
        case rest =>
          obtain ⟨rfl, rfl⟩ := hcut
          go_upto_if 48 with fail
          go_cut [] (fun wx => Below w.heap.size w wx)
          case first =>
            rcases hW with ⟨h1, rfl, rfl, rfl⟩ | ⟨sz, g, rfl, h1, h2, hN, rfl, rfl, ho, hb⟩
            · have d1 : decide (size < m ∨ 8 < size) = true := by simpa using h1
              go_wp2_with (go_at_call 10; refine (code_any _ _).mono ?_; rintro e w' ⟨rfl, rfl⟩)
              go_meet
              exact Below.refl _ _
            · have d1 : decide ((sz : Int) < m ∨ 8 < (sz : Int)) = false := by simp; omega
              go_wp2_with (go_at_call 10; refine (code_any _ _).mono ?_; rintro e w' ⟨rfl, rfl⟩)
              go_loop [13] (fun i => ∃ k : Nat, k ≤ sz - m ∧ i = .int .i64 k) (fun i => sz - m - (intOf i).toNat)
              case atStart => exact ⟨0, by omega, rfl⟩
              case round =>
                obtain ⟨k, hk, rfl⟩ := hrel
                by_cases hlt : k < sz - m
                · have hcell : wa.cell? ⟨g, k, none⟩ = some (.int .u8 0) := by
                    obtain ⟨b, off, e, _, _, hc⟩ := ho.rd (by rw [putL_length]; omega)
                    injection e with e
                    injection e with e1 e2
                    subst e1 e2
                    have := hc k 0 (putL_zero n sz m k HR.out (by omega))
                    rwa [Nat.zero_add] at this
                  go_wp2
                  exact ⟨⟨k + 1, by omega, by go_num⟩, by simp [intOf]; omega⟩
                · have hge : ¬ ((k : Int) < (sz : Int) - (m : Int)) := by omega
                  clear hlt
                  by_cases h8 : sz < 8
                  · go_wp2_with fail
                    rw [show ((sz : Int) + 1) = ((sz + 1 : Nat) : Int) by omega]
                    refine (put_ok n (sz + 1) _ (by omega) (by omega) hn (room_mono n sz (sz + 1) hN (by omega))).mono ?_
                    rintro e w2 ⟨rfl, ho2, hb2⟩
                    have s1 := run_str ho2.rd (sz + 1) (sz + 1) (putL_length _ _).symm
                    have s2 := run_str (ho.below hb2 (Nat.le_refl _)).rd sz sz (putL_length _ _).symm
                    unfold strOf at s1 s2
                    have hL : 1 + (putL n sz).length ≤ 9 := by rw [putL_length]; omega
                    have hE : (putL n (sz + 1) == (({ data := #[0] } : ByteArray) ++ { data := (putL n sz).toArray }).toList) = true := by rw [cons_str, putL_cons n sz hN]; simp
                    have hG := get_ok (some ⟨g, 0, none⟩) sz _ _ _ w2 (ho.below hb2 (Nat.le_refl _)).rd (by rw [putL_length]; omega) (by rw [putL_length]; omega)
                    rw [putL_length, num_put n sz hN] at hG
                    have HG := Lib.hid hG
                    clear hG
                    go_wp2_with (first | (go_at_call 10; refine (code_any _ _).mono ?_; rintro e w' ⟨rfl, rfl⟩) | (go_at_call 11; refine HG.out.mono ?_; rintro e w' ⟨rfl, rfl⟩))
                    go_meet
                    exact hb.trans (hb2.mono hb.size)
                  · have hG := get_ok (some ⟨g, 0, none⟩) sz _ _ _ wa ho.rd (by rw [putL_length]; omega) (by rw [putL_length]; omega)
                    rw [putL_length, num_put n sz hN] at hG
                    have HG := Lib.hid hG
                    clear hG
                    go_wp2_with (first | (go_at_call 10; refine (code_any _ _).mono ?_; rintro e w' ⟨rfl, rfl⟩) | (go_at_call 11; refine HG.out.mono ?_; rintro e w' ⟨rfl, rfl⟩))
                    go_meet
                    exact hb
          case rest =>
            obtain ⟨wb, rfl⟩ : ∃ wb : World, wb = wc := ⟨_, rfl⟩
            have hb := hcut
            clear hcut hW hm HR hm1 hm8 hs1 hs2
            have q1 := r1.below hb (Nat.le_refl _)
            have q2 := r2.below hb (Nat.le_refl _)
            clear r1 r2
            have hbs := hb.size
            have hmk : ∀ u : World, (Instr.makeSlice 23 (.int .i64 9) (.int .i64 9)).run Try.prog u = .ok (.slice (some ⟨u.heap.size, 0, none⟩) 9 9) (u.alloc (.cells (madeCells #[.int .u8 0] 9) 5)) := fun u => run_make_row' (P := Try.prog) 23 5 (.int .u8 0) 1 Try.underlying23 byte_info rfl .i64 .i64 9 (by omega) (by omega) u
            go_upto_region 24 with fail
            go_cut [128] (fun s128 wx => s128 = .bool (bad4 x.length y.length) ∧ wb = wx)
            case first =>
              go_wp2
              all_goals go_meet
              all_goals refine ⟨congrArg Value.bool ?_, rfl⟩
              all_goals unfold bad4
              all_goals first | (exact (decide_eq_true (by omega)).symm) | (rw [Bool.eq_iff_iff]; simp only [Bool.or_eq_true, decide_eq_true_eq]; omega)
            case rest =>
              obtain ⟨hu, rfl⟩ := hcut
              by_cases hbad : x.length < 1 ∨ 4 < x.length ∨ y.length < 1 ∨ 4 < y.length
              · have d1 : bad4 x.length y.length = true := by simpa [bad4] using hbad
                rw [d1] at hu
                subst hu
                clear hbad d1
                go_wp2_with fail
                refine (get_no none 0 0 _ (.inl rfl) (by omega)).mono ?_
                rintro e w' ⟨rfl, rfl⟩
                go_wp2_with fail
                refine (get_no _ _ 9 _ (.inr (by omega)) (by omega)).mono ?_
                rintro e w' ⟨rfl, rfl⟩
                go_wp2_with (first | (go_at_call 10; refine (code_any _ _).mono ?_; rintro e w' ⟨rfl, rfl⟩) | (go_at_call 12; refine (known_any _).mono ?_; rintro e w3 ⟨rfl, hb3⟩))
                go_ret
                refine ⟨rfl, (hb.alloc hbs _).trans (hb3.mono (by simp; omega))⟩
              · have d1 : bad4 x.length y.length = false := by simpa [bad4] using hbad
                have hx1 : 1 ≤ x.length := by omega
                have hx4 : x.length ≤ 4 := by omega
                have hy1 : 1 ≤ y.length := by omega
                have hy4 : y.length ≤ 4 := by omega
                rw [d1] at hu
                subst hu
                clear hbad d1
                have b1 := num_lt4 x hx4
                have b2 := num_lt4 y hy4
                have b3 := pow_lt4 y.length hy4
                have HN := Lib.hid (num_append x y)
                have HP := Lib.hid (power_any y.length)
                go_wp2_with fail
                refine (get_ok _ _ _ _ x _ q1 (by omega) (by omega)).mono ?_
                rintro e w' ⟨rfl, rfl⟩
                go_wp2_with fail
                refine (get_ok _ _ _ _ y _ q2 (by omega) (by omega)).mono ?_
                rintro e w' ⟨rfl, rfl⟩
                go_wp2_with fail
                refine (join2 _ _ _ _ _ _ x y _ rfl rfl (q1.wide (Nat.le_refl _) hbs) (q2.wide (Nat.le_refl _) hbs) (by omega)).mono ?_
                rintro e w3 ⟨A3, c3, rfl, hc3, ho3, hb3⟩
                have hG := get_ok A3 c3 _ _ (x ++ y) w3 ho3.rd (by simp; omega) (by simp; omega)
                rw [List.length_append, HN.out] at hG
                have HG := Lib.hid hG
                have HQ := Lib.hid (HP.out w3 (by omega))
                clear hG HP HN
                generalize 256 ^ y.length = q at *
                generalize num x = nx at *
                generalize num y = ny at *
                have m1 : (0 : Int) ≤ (nx : Int) * (q : Int) := Int.mul_nonneg (by omega) (by omega)
                have m2 : (nx : Int) * (q : Int) + (ny : Int) < 18446744073709551616 := by
                  have : nx * q ≤ 4294967295 * 4294967296 := Nat.mul_le_mul (by omega) b3
                  have e : (nx : Int) * (q : Int) = ((nx * q : Nat) : Int) := by simp
                  rw [e]; omega
                go_wp2_with (first | (go_at_call 10; refine (code_any _ _).mono ?_; rintro e w' ⟨rfl, rfl⟩) | (go_at_call 11; refine HG.out.mono ?_; rintro e w' ⟨rfl, rfl⟩) | (go_at_call 14; refine HQ.out.mono ?_; rintro e w' ⟨rfl, rfl⟩) | (go_at_call 12; refine (known_any _).mono ?_; rintro e w4 ⟨rfl, hb4⟩))
                go_ret
                exact ⟨rfl, (hb.trans (hb3.mono hbs)).trans (hb4.mono (by have := hb3.size; omega))⟩
end Go.Proofs.Ythbnnhnnldakeaa
