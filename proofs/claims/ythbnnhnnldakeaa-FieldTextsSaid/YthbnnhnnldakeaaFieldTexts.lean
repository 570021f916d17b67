/- The walk of FieldTexts. -/
import Derived.Test.YthbnnhnnldakeaaUnhex
namespace Go.Proofs.Ythbnnhnnldakeaa
open Go.ChangeShapes Go.WideShapes Go.ChangeAt Go.RowKit
set_option linter.unusedVariables false

def big3 (a b c : Nat) : Bool := decide (4000 < a ∨ 4000 < b ∨ 4000 < c)
/-- Is it a sign? As the statement asks it. -/
def sgB (x : Nat) : Bool := decide (48 ≤ x ∧ x ≤ 57 ∨ 97 ≤ x ∧ x ≤ 102)
theorem sgB_sv (c : UInt8) : sgB c.toNat = true ↔ sv c ≠ none := by
  unfold sgB sv
  rw [decide_eq_true_eq]
  constructor
  · rintro (h | h)
    · rw [if_pos h]; simp
    · rw [if_neg (by omega), if_pos h]; simp
  · intro h
    by_cases h1 : 48 ≤ c.toNat ∧ c.toNat ≤ 57
    · exact .inl h1
    · rw [if_neg h1] at h
      by_cases h2 : 97 ≤ c.toNat ∧ c.toNat ≤ 102
      · exact .inr h2
      · rw [if_neg h2] at h; exact absurd rfl h
/-- Behind k signs: an even number in all, and all of these are signs. -/
def goodTo (S : List UInt8) (k : Nat) : Bool := decide (S.length % 2 = 0) && (S.take k).all fun c => sgB c.toNat
theorem goodTo_step (S : List UInt8) (k : Nat) (h : k < S.length) : goodTo S (k + 1) = (goodTo S k && sgB S[k].toNat) := by
  unfold goodTo
  rw [List.take_succ_eq_append_getElem h, List.all_append]
  simp [Bool.and_assoc]
theorem goodTo_all (S : List UInt8) : goodTo S S.length = true ↔ Good S := by
  unfold goodTo Good
  rw [List.take_length, Bool.and_eq_true, decide_eq_true_eq, List.all_eq_true]
  exact ⟨fun h => ⟨h.1, fun c hc => (sgB_sv c).1 (h.2 c hc)⟩, fun h => ⟨h.1, fun c hc => (sgB_sv c).2 (h.2 c hc)⟩⟩

/-- What stands behind Unhex, and what the statement takes it for. -/
def T8 (w : World) (S : List UInt8) (x e : Value) (wx : World) : Prop :=
  (∃ A c l, x = .slice A l.length c ∧ e = .int .i64 0 ∧ hexL l = S ∧ Ow wx w.heap.size A l ∧ Below w.heap.size w wx) ∨
  (¬ Good S ∧ x = .slice none 0 0 ∧ e = .int .i64 4 ∧ Below w.heap.size w wx)

theorem str_add (a b : List UInt8) : (({ data := a.toArray } : ByteArray) ++ { data := b.toArray }).toList = a ++ b := by
  rw [ByteArray.toList_eq, ByteArray.data_append]
  simp

set_option maxRecDepth 100000 in
set_option maxHeartbeats 8000000 in
theorem fieldTexts_any (s : ByteArray) (A1 A2 : Option Addr) (c1 c2 : Nat) (a b : List UInt8) (w : World) (hs : s.size ≤ 9223372036854775807)
    (r1 : Rd w 0 w.heap.size A1 a) (r2 : Rd w 0 w.heap.size A2 b) (ha : a.length ≤ 9223372036854775807) (hb : b.length ≤ 9223372036854775807) :
    Calls Try.prog 5 #[.string s, .slice A1 a.length c1, .slice A2 b.length c2] w fun e w' => e = .returned (.bool true) ∧ Below w.heap.size w w' := by
  go_enter Try.func5, Try.ntmps5
  go_upto_region 1 with fail
  go_cut [24] (fun s24 wx => s24 = .bool (big3 s.size a.length b.length) ∧ w = wx)
  case first =>
    go_wp2
    all_goals go_meet
    all_goals refine ⟨congrArg Value.bool ?_, rfl⟩
    all_goals unfold big3
    all_goals first | (exact (decide_eq_true (by omega)).symm) | (rw [Bool.eq_iff_iff]; simp only [Bool.or_eq_true, decide_eq_true_eq]; omega)
  case rest =>
    obtain ⟨hu, rfl⟩ := hcut
    by_cases hbig : 4000 < s.size ∨ 4000 < a.length ∨ 4000 < b.length
    · rw [show big3 s.size a.length b.length = true from decide_eq_true hbig] at hu
      subst hu
      clear hbig
      go_wp2_with (go_at_call 12; refine (known_any _).mono ?_; rintro e w3 ⟨rfl, hb3⟩)
      go_ret
      exact ⟨rfl, hb3⟩
    · rw [show big3 s.size a.length b.length = false from decide_eq_false hbig] at hu
      subst hu
      have hs4 : s.size ≤ 4000 := by omega
      have ha4 : a.length ≤ 4000 := by omega
      have hb4 : b.length ≤ 4000 := by omega
      clear hbig hs ha hb
      obtain ⟨g0, hg0⟩ : ∃ g0 : Bool, g0 = ((s.size : Int) % 2 == 0) := ⟨_, rfl⟩
      have HL := Lib.hid (show s.data.toList.length = s.size by rw [Array.length_toList]; rfl)
      have HG0 := Lib.hid (show ((s.size : Int) % 2 == 0) = goodTo s.data.toList 0 by unfold goodTo; rw [HL.out]; simp only [List.take_zero, List.all_nil, Bool.and_true]; rw [Bool.eq_iff_iff, beq_iff_eq, decide_eq_true_eq]; omega)
      clear hg0
      go_wp2
      go_loop [7, 8] (fun g i => ∃ k : Nat, k ≤ s.size ∧ i = .int .i64 k ∧ g = .bool (goodTo s.data.toList k)) (fun _ i => s.size - (intOf i).toNat)
      case atStart => exact ⟨0, Nat.zero_le _, rfl, by rw [← HG0.out]⟩
      case round =>
        obtain ⟨k, hk, rfl, rfl⟩ := hrel
        by_cases hlt : k < s.size
        · have HS := Lib.hid (goodTo_step s.data.toList k (by rw [HL.out]; exact hlt))
          have E : Hid (s.data.toList[k]'(by rw [HL.out]; exact hlt) = s[k]) := rfl
          have hx := s[k].toNat_lt
          obtain ⟨x, hxd⟩ : ∃ x : Nat, x = s[k].toNat := ⟨_, rfl⟩
          have HXD := Lib.hid hxd
          clear hxd
          rcases hgk : goodTo s.data.toList k with _ | _
          · go_wp2
            refine ⟨⟨k + 1, by omega, by go_num, congrArg Value.bool ?_⟩, by simp [intOf]; omega⟩
            rw [HS.out, hgk]
            rfl
          · go_wp2
            all_goals refine ⟨⟨k + 1, by omega, by go_num, congrArg Value.bool ?_⟩, by simp [intOf]; omega⟩
            all_goals rw [HS.out, hgk, Bool.true_and, E.out]
            all_goals unfold sgB
            all_goals first | (exact (decide_eq_true (by omega)).symm) | (exact (decide_eq_false (by omega)).symm) | (rw [Bool.eq_iff_iff]; simp only [Bool.or_eq_true, decide_eq_true_eq]; omega)
        · obtain rfl : k = s.size := by omega
          have HGA := Lib.hid (goodTo_all s.data.toList)
          rw [← HL.out]
          obtain ⟨gd, hgd⟩ : ∃ gd : Bool, gd = goodTo s.data.toList s.data.toList.length := ⟨_, rfl⟩
          rw [← hgd]
          have HGD := Lib.hid hgd
          clear hgd
          rw [HL.out]
          go_upto_region 8 with fail
          go_cut [9, 10] (fun s9 s10 wx => T8 w s.data.toList s9 s10 wx)
          case first =>
            go_wp2_with (go_at_call 17; refine (unhex_any s _ (by omega)).mono ?_; rintro e w1 (⟨A, c, l, rfl, h1, h2, h3⟩ | ⟨h1, rfl, h2⟩))
            · go_meet
              exact .inl ⟨A, c, l, rfl, rfl, h1, h2, h3⟩
            · go_meet
              exact .inr ⟨h1, rfl, rfl, h2⟩
          case rest =>
            obtain ⟨wa, rfl⟩ : ∃ wa : World, wa = wc := ⟨_, rfl⟩
            have hT := hcut
            clear hcut
            go_upto_if 66 with fail
            go_cut [] (fun wx => Below w.heap.size w wx)
            case first =>
              rcases hT with ⟨A, c, l, rfl, rfl, hl, ho, hbw⟩ | ⟨hng, rfl, rfl, hbw⟩
              · have hgt : gd = true := by rw [HGD.out]; exact HGA.out.2 (by rw [← hl]; exact good_hex l)
                subst hgt
                have hsz : 2 * l.length = s.size := by rw [← hexL_length, hl, HL.out]
                have HX := Lib.hid (hex_any A c l wa (ho.rd.wide (Nat.zero_le _) (Nat.le_refl _)) (by omega))
                have d1 : ((l.length : Int) != (s.size : Int) / 2) = false := by simp; omega
                have d2 : (hexL l == s.toList) = true := by rw [hl, ByteArray.toList_eq]; simp
                have HZ := Lib.hid hsz
                clear hsz hl
                unfold strOf at HX
                go_wp2_with (first | (go_at_call 10; refine (code_any _ _).mono ?_; rintro e w' ⟨rfl, rfl⟩) | (go_at_call 18; refine HX.out.mono ?_; rintro e w2 ⟨rfl, hb2⟩))
                go_meet
                exact hbw.trans (hb2.mono hbw.size)
              · have hgf : gd = false := by
                  rcases gd with _ | _
                  · rfl
                  · exact absurd (HGA.out.1 HGD.out.symm) hng
                subst hgf
                go_wp2_with (go_at_call 10; refine (code_any _ _).mono ?_; rintro e w' ⟨rfl, rfl⟩)
                go_meet
                exact hbw
            case rest =>
              obtain ⟨wb, rfl⟩ : ∃ wb : World, wb = wc := ⟨_, rfl⟩
              have hbw := hcut
              clear hcut hT HGD HGA HG0
              have hbs := hbw.size
              have q1 := (r1.below hbw (Nat.le_refl _)).wide (Nat.le_refl _) hbs
              have q2 := (r2.below hbw (Nat.le_refl _)).wide (Nat.le_refl _) hbs
              clear r1 r2
              have l1 : (hexL a).length ≤ 8000 := by rw [hexL_length]; omega
              have l2 : (hexL b).length ≤ 8000 := by rw [hexL_length]; omega
              have l3 : (hexL (a ++ b)).length ≤ 16000 := by rw [hexL_length, List.length_append]; omega
              have e1 : (hexL (a ++ b) == (({ data := (hexL a).toArray } : ByteArray) ++ { data := (hexL b).toArray }).toList) = true := by rw [str_add, hexL_append]; simp
              have e2 : (((hexL (a ++ b)).length : Int) != 2 * ((a.length : Int) + (b.length : Int))) = false := by rw [hexL_length, List.length_append]; simp
              go_wp2_with fail
              refine (join2 _ _ _ _ _ _ a b _ rfl rfl q1 q2 (by omega)).mono ?_
              rintro e w3 ⟨A3, c3, rfl, hc3, ho3, hb3⟩
              have HH := Lib.hid (hex_any A3 c3 (a ++ b) w3 (ho3.rd.wide (Nat.zero_le _) (Nat.le_refl _)) (by rw [List.length_append]; omega))
              rw [List.length_append] at HH
              have hs3 := hb3.size
              have p1 := (q1.below hb3 (Nat.le_refl _)).wide (Nat.le_refl _) hs3
              have p2 := (q2.below hb3 (Nat.le_refl _)).wide (Nat.le_refl _) hs3
              have hbw3 := hbw.trans (hb3.mono hbs)
              clear q1 q2 ho3 hc3 hb3 hbw
              unfold strOf at HH
              go_wp2_with fail
              refine HH.out.mono ?_
              rintro e w4 ⟨rfl, hb4'⟩
              have hs4' := hb4'.size
              have t1 := (p1.below hb4' (Nat.le_refl _)).wide (Nat.le_refl _) hs4'
              have t2 := (p2.below hb4' (Nat.le_refl _)).wide (Nat.le_refl _) hs4'
              have hbw4 := hbw3.trans (hb4'.mono hbw3.size)
              clear p1 p2 hb4' hbw3 HH
              go_wp2_with fail
              have HA := Lib.hid (hex_any A1 c1 a w4 t1 (by omega))
              unfold strOf at HA
              refine HA.out.mono ?_
              rintro e w5 ⟨rfl, hb5⟩
              have hs5 := hb5.size
              have t1 := (t1.below hb5 (Nat.le_refl _)).wide (Nat.le_refl _) hs5
              have t2 := (t2.below hb5 (Nat.le_refl _)).wide (Nat.le_refl _) hs5
              have hbw5 := hbw4.trans (hb5.mono hbw4.size)
              clear hb5 hbw4 HA
              go_wp2_with fail
              have HA := Lib.hid (hex_any A2 c2 b w5 t2 (by omega))
              unfold strOf at HA
              refine HA.out.mono ?_
              rintro e w6 ⟨rfl, hb6⟩
              have hs6 := hb6.size
              have t1 := (t1.below hb6 (Nat.le_refl _)).wide (Nat.le_refl _) hs6
              have t2 := (t2.below hb6 (Nat.le_refl _)).wide (Nat.le_refl _) hs6
              have hbw6 := hbw5.trans (hb6.mono hbw5.size)
              clear hb6 hbw5 HA
              go_wp2_with fail
              have HA := Lib.hid (refHex_any A1 c1 a w6 t1 (by omega))
              unfold strOf at HA
              refine HA.out.mono ?_
              rintro e w7 ⟨rfl, hb7⟩
              have hs7 := hb7.size
              have t2 := (t2.below hb7 (Nat.le_refl _)).wide (Nat.le_refl _) hs7
              have hbw7 := hbw6.trans (hb7.mono hbw6.size)
              clear hb7 hbw6 HA
              go_wp2_with fail
              have HA := Lib.hid (refHex_any A2 c2 b w7 t2 (by omega))
              unfold strOf at HA
              refine HA.out.mono ?_
              rintro e w8 ⟨rfl, hb8⟩
              have hbw8 := hbw7.trans (hb8.mono hbw7.size)
              clear hb8 hbw7 HA
              go_wp2_with (go_at_call 12; refine (known_any _).mono ?_; rintro e w9 ⟨rfl, hb9⟩)
              go_ret
              exact ⟨rfl, hbw8.trans (hb9.mono hbw8.size)⟩
end Go.Proofs.Ythbnnhnnldakeaa
