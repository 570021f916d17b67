/- The walk of SumsTorn. -/
import Derived.Test.YtodfpgbgcenbgaaSumsTell
import Derived.Test.YtodfpgbgcenbgaaStr
import Derived.Deep.RegionHeld3
import Derived.IntWalk
namespace Go.Proofs.Ytodfpgbgcenbgaa
open Go.ChangeShapes Go.WideShapes Go.ChangeAt Go.RowKit
set_option linter.unusedVariables false

def badN (n : Nat) (t : Int) : Bool := decide (n < 4 ∨ 3000 < n ∨ t < 1 ∨ (n : Int) < t)
/-- Noughts from p on, so far to k. -/
def tornTo (l : List UInt8) (p k : Nat) : List UInt8 := l.take p ++ (List.replicate (k - p) 0 ++ l.drop k)
theorem tornTo_length (l : List UInt8) (p k : Nat) (h1 : p ≤ k) (h2 : k ≤ l.length) : (tornTo l p k).length = l.length := by
  simp [tornTo]; omega
theorem tornTo_start (l : List UInt8) (p : Nat) : tornTo l p p = l := by simp [tornTo]
theorem tornTo_step (l : List UInt8) (p k : Nat) (h1 : p ≤ k) (h2 : k < l.length) : tornTo l p (k + 1) = (tornTo l p k).set k 0 := by
  apply List.ext_getElem?
  intro j
  simp only [tornTo, List.getElem?_set, List.getElem?_append, List.length_take, List.length_replicate, List.getElem?_replicate, List.getElem?_drop, List.getElem?_take, List.length_append, List.length_drop]
  repeat' split
  all_goals first | rfl | omega | (congr 1; omega)
theorem tornTo_end (l : List UInt8) (p : Nat) : tornTo l p l.length = l.take p ++ List.replicate (l.length - p) 0 := by simp [tornTo]

theorem Rd.drop0 {w : World} {lo hi g : Nat} {m : List UInt8} (h : Rd w lo hi (some ⟨g, 0, none⟩) m) (p : Nat) : Rd w lo hi (some ⟨g, p, none⟩) (m.drop p) := fun hn => by
  simp at hn
  obtain ⟨b, off, e, h1, h2, hc⟩ := h (by omega)
  injection e with e
  injection e with e1 e2
  subst e1 e2
  refine ⟨g, p, rfl, h1, h2, fun j x hx => ?_⟩
  rw [List.getElem?_drop] at hx
  have := hc (p + j) x hx
  rwa [Nat.zero_add] at this
theorem less_n (s : Nat) (A : Option Addr) (c n : Nat) (l : List UInt8) (w : World) (X : Nat) (hX : lessS s l = X) (e : n = l.length) (hs : s < 4294967296) (h : Rd w 0 w.heap.size A l) (hl : l.length ≤ 9223372036854775807) :
    Calls Try.prog 12 #[.int .u32 (s : Int), .slice A n c] w fun e w' => e = .returned (.int .u32 (X : Int)) ∧ Below w.heap.size w w' := by
  subst e hX
  exact less_any s A c l w hs h hl
/-- What is told of noughts, and when. -/
theorem torn_told (a x y : List UInt8) (S : Nat) (hS : S = moreS 0 (a ++ x)) : (moreS 0 (a ++ y) = S) ↔ (lessS S x = lessS S y) := by
  have h1 : lessS S x = moreS 0 a := by rw [hS, moreS_append]; exact less_more x (moreS_lt _ _)
  have hS' : S < 4294967296 := by rw [hS]; exact moreS_lt _ _
  rw [h1, moreS_append]
  constructor
  · intro h; rw [← h, less_more y (moreS_lt _ _)]
  · intro h; rw [h, more_less y hS']
theorem torn_four (a x y : List UInt8) (hl : x.length = y.length) (h4 : x.length ≤ 4) : (moreS 0 (a ++ y) = moreS 0 (a ++ x)) ↔ y = x := by
  rw [moreS_append, moreS_append]
  constructor
  · intro h; exact (moreS_tell hl h4 h.symm).symm
  · intro h; rw [h]

set_option maxRecDepth 100000 in
set_option maxHeartbeats 8000000 in
theorem sumsTorn_any (A : Option Addr) (c : Nat) (l : List UInt8) (t_ : Int) (w : World) (h1 : -9223372036854775808 ≤ t_) (h2 : t_ ≤ 9223372036854775807) (h : Rd w 0 w.heap.size A l) (hlc : l.length ≤ c) (hc : c ≤ 9223372036854775807) :
    Calls Try.prog 7 #[.slice A l.length c, .int .i64 t_] w fun e w' => e = .returned (.bool true) ∧ Below w.heap.size w w' := by
  obtain ⟨i0, hi0, hz0, hz1, hz2⟩ := info_parts byte_info
  have hl : l.length ≤ 9223372036854775807 := by omega
  go_enter Try.func7, Try.ntmps7
  go_upto_region 1 with fail
  go_cut [26] (fun s26 wx => s26 = .bool (badN l.length t_) ∧ w = wx)
  case first =>
    go_wp2
    all_goals go_meet
    all_goals refine ⟨congrArg Value.bool ?_, rfl⟩
    all_goals unfold badN
    all_goals first | (exact (decide_eq_true (by omega)).symm) | (exact (decide_eq_false (by omega)).symm) | (rw [Bool.eq_iff_iff]; simp only [Bool.or_eq_true, decide_eq_true_eq]; omega)
  case rest =>
    obtain ⟨hu, rfl⟩ := hcut
    by_cases hbad : l.length < 4 ∨ 3000 < l.length ∨ t_ < 1 ∨ (l.length : Int) < t_
    · rw [show badN l.length t_ = true from decide_eq_true hbad] at hu
      subst hu
      clear hbad
      go_wp2_with (go_at_call 8; refine (known_any _).mono ?_; rintro e w3 ⟨rfl, hb3⟩)
      go_ret
      exact ⟨rfl, hb3⟩
    · rw [show badN l.length t_ = false from decide_eq_false hbad] at hu
      subst hu
      have hl4 : 4 ≤ l.length := by omega
      have hl5 : l.length ≤ 3000 := by omega
      obtain ⟨t, rfl⟩ := Int.eq_ofNat_of_zero_le (show 0 ≤ t_ by omega)
      have ht1 : 1 ≤ t := by omega
      have htl : t ≤ l.length := by omega
      obtain ⟨p, hp⟩ : ∃ p, l.length = p + t := ⟨l.length - t, by omega⟩
      have HP := Lib.hid hp
      have hpl : p < l.length := by omega
      have hE : (l.length : Int) - (t : Int) = (p : Int) := by omega
      have HE := Lib.hid hE
      clear hbad h1 h2 hl hp hE
      have HN := Lib.hid (World.ownsRow_nil w w.heap.size 5 1)
      have HR := Lib.hid h
      clear h
      go_wp2_with (at_builtin; refine wpList_append_rd _ rfl (.const (.slice none 0 0)) (.tmp 28) _ rfl w.heap.size 5 i0 _ Try.underlying24 hi0 hz0 hz1 hz2 rfl (.slice none 0 0) 0 [] rfl HN.out 0 w.heap.size A c l rfl HR.out (by omega) (Nat.le_refl _) ?_; intro v1 w1 hown1 hg1 hat1; simp only [Nat.zero_add, List.nil_append] at hown1; have hb1 := (Below.refl w.heap.size w).grown hg1 (Nat.le_refl _) (by simp [Value.ownBlock]); obtain ⟨g, cap, rfl, hgb⟩ := own_some hown1 (by omega); clear hg1 hat1 HN)
      rw [HE.out]
      go_loopw [6] (fun i wr => ∃ k : Nat, p ≤ k ∧ k ≤ l.length ∧ i = .int .i64 k ∧ wr.ownsRow w.heap.size 5 1 (.slice (some ⟨g, 0, none⟩) l.length cap) l.length ((tornTo l p k).map bv) ∧ Below w.heap.size w wr) (fun i _ => l.length - (intOf i).toNat)
      case atStart => exact ⟨p, Nat.le_refl _, by omega, rfl, by rw [tornTo_start]; exact hown1, hb1⟩
      case round =>
        obtain ⟨k, hpk, hk, rfl, hown, hb⟩ := hrel
        clear hown1 hb1
        by_cases hlt : k < l.length
        · have HS := Lib.hid (tornTo_step l p k hpk hlt)
          have hc := hown.cellAt k (by omega)
          have HL := Lib.hid (tornTo_length l p k hpk hk)
          rw [List.getElem?_map, List.getElem?_eq_getElem (by rw [HL.out]; exact hlt), Option.map_some] at hc
          have hfz := hown.frozenAt k
          obtain ⟨hst, hgr⟩ := hown.stored k (bv 0)
          unfold bv at hc
          have HST := Lib.hid hst
          clear hst hgr
          go_wp2
          refine ⟨⟨k + 1, by omega, by omega, by go_num, ?_, hb.setCell hgb _⟩, by simp [intOf]; omega⟩
          rw [HS.out, List.map_set]
          exact HST.out
        · obtain rfl : k = l.length := by omega
          have HZE := Lib.hid (tornTo_end l p)
          have hlen := tornTo_length l p l.length hpk hk
          generalize tornTo l p l.length = m at *
          obtain ⟨ho, e1, e2⟩ := Ow.of_own (l := m) hown
          clear e1
          have hrm := ho.rd.wide (Nat.zero_le _) (Nat.le_refl _)
          have hrl := (HR.out.below hb (Nat.le_refl _)).wide (Nat.le_refl _) hb.size
          have HM := Lib.hid hlen
          clear ho hown hlen HR
          go_wp2_with fail
          refine (sum1 _ _ _ l wr rfl hrl (by omega)).mono ?_
          unfold rv
          rintro e w2 ⟨rfl, b2⟩
          replace hrl := (hrl.below b2 (Nat.le_refl _)).wide (Nat.le_refl _) b2.size
          replace hrm := (hrm.below b2 (Nat.le_refl _)).wide (Nat.le_refl _) b2.size
          replace b2 := hb.trans (b2.mono hb.size)
          clear hb
          have hS := moreS_lt 0 l
          obtain ⟨S, hSd⟩ : ∃ S, S = moreS 0 l := ⟨_, rfl⟩
          rw [← hSd] at hS ⊢
          have HSD := Lib.hid hSd
          clear hSd
          obtain ⟨X, hX⟩ : ∃ X, lessS S (l.drop p) = X := ⟨_, rfl⟩
          obtain ⟨Y, hY⟩ : ∃ Y, lessS S (m.drop p) = Y := ⟨_, rfl⟩
          obtain ⟨M, hM⟩ : ∃ M, moreS 0 m = M := ⟨_, rfl⟩
          have hmt : m.take p = l.take p := by rw [HZE.out, List.take_append_of_le_length (by simp; omega), List.take_take, Nat.min_self]
          have hml : m.length = l.length := HM.out
          have el : l.take p ++ l.drop p = l := List.take_append_drop p l
          have em : l.take p ++ m.drop p = m := by rw [← hmt]; exact List.take_append_drop p m
          have HT1 : Hid (M = S ↔ X = Y) := by
            have := torn_told (l.take p) (l.drop p) (m.drop p) S (by rw [el]; exact HSD.out)
            rw [em, hM, hX, hY] at this
            exact this
          have HT2 : Hid (t ≤ 4 → (M = S ↔ m = l)) := fun h4 => by
            have := torn_four (l.take p) (l.drop p) (m.drop p) (by simp; omega) (by simp; have := HP.out; omega)
            rw [em, el, hM, ← HSD.out] at this
            rw [this]
            constructor
            · intro h; rw [← em, h, el]
            · intro h; rw [h]
          have HL1 := Lib.hid (fun (u : World) (hu : Below w2.heap.size w2 u) => less_n S (if c = p then A else A.map (·.add p)) (c - p) (l.length - p) (l.drop p) u X hX (by simp) hS (((hrl.drop (k := p) hlc).below hu (Nat.le_refl _)).wide (Nat.le_refl _) hu.size) (by simp; omega))
          have HL2 := Lib.hid (fun (u : World) (hu : Below w2.heap.size w2 u) => less_n S (some ⟨g, p, none⟩) (cap - p) (l.length - p) (m.drop p) u Y hY (by simp; omega) hS (((hrm.drop0 p).below hu (Nat.le_refl _)).wide (Nat.le_refl _) hu.size) (by simp; omega))
          have HM2 := Lib.hid hM
          clear hX hY hM hmt hml el em
          have i1 : (0 : Int) ≤ (l.length : Int) - (t : Int) := by omega
          have i2 : (l.length : Int) - (t : Int) ≤ (l.length : Int) := by omega
          have i3 : (l.length : Int) - (t : Int) ≤ (c : Int) := by omega
          have i4 : (l.length : Int) - (t : Int) ≤ (cap : Int) := by omega
          have i5 : ((l.length : Int) - (t : Int)).toNat = p := by have := HE.out; omega
          have wA : IntKind.i64.wrap ((l.length : Int) - (t : Int)) = (l.length : Int) - (t : Int) := IntWalk.i64_in _ (by omega)
          go_wp2_with fail
          go_region_held3 (fun _ => True) (trivial) (first | (go_at_call 12; (with_reducible refine (HL1.out _ (Below.refl w2.heap.size w2).drew).mono ?_); rintro e w4 ⟨rfl, b4⟩; have b5 := Lib.hid ((Below.refl w2.heap.size w2).drew.trans b4)) | (go_at_call 12; (with_reducible refine (HL2.out _ b5.out).mono ?_); rintro e w5 ⟨rfl, b6⟩; have b7 := Lib.hid (b5.out.trans (b6.mono b5.out.size))))
          have hb5 := b2.trans (b7.out.mono b2.size)
          replace hrl := (hrl.below b7.out (Nat.le_refl _)).wide (Nat.le_refl _) b7.out.size
          replace hrm := (hrm.below b7.out (Nat.le_refl _)).wide (Nat.le_refl _) b7.out.size
          clear b7 b5 b4 b6 HL1 HL2 i1 i2 i3 i4 i5 wA b2
          have hml : m.length ≤ 3000 := by have := HM.out; omega
          go_wp2_with fail
          have hq1 : ((X : Int) == (Y : Int)) = decide (X = Y) := by rw [Bool.eq_iff_iff, beq_iff_eq, decide_eq_true_eq]; omega
          have hq2 : ((M : Int) == (S : Int)) = decide (X = Y) := by rw [Bool.eq_iff_iff, beq_iff_eq, decide_eq_true_eq, ← HT1.out]; omega
          have hq3 : t ≤ 4 → (m == l) = decide (X = Y) := fun h4 => by rw [Bool.eq_iff_iff, beq_iff_eq, decide_eq_true_eq, ← HT1.out, HT2.out h4]
          rw [hq1]
          obtain ⟨q, hq⟩ : ∃ q : Bool, q = decide (X = Y) := ⟨_, rfl⟩
          rw [← hq] at hq2 hq3 ⊢
          have HQ2 := Lib.hid hq2
          have HQ3 := Lib.hid hq3
          clear hq1 hq2 hq3 hq HT1 HT2 HZE
          refine (sum1 _ _ _ m w5 HM.out.symm hrm (by omega)).mono ?_
          rw [HM2.out]
          unfold rv
          rintro e w6 ⟨rfl, b6⟩
          replace hrl := (hrl.below b6 (Nat.le_refl _)).wide (Nat.le_refl _) b6.size
          replace hrm := (hrm.below b6 (Nat.le_refl _)).wide (Nat.le_refl _) b6.size
          have hb6 := hb5.trans (b6.mono hb5.size)
          clear b6 hb5
          have s1 := run_str hrm l.length cap HM.out.symm
          have s2 := run_str hrl l.length c rfl
          have d2 := HQ2.out
          unfold strOf at s1 s2
          by_cases h4 : t ≤ 4
          · have d3 := HQ3.out h4
            have d4 : decide ((4 : Int) < (t : Int)) = false := by simp; omega
            have d4' : decide (4 < t) = false := by simp; omega
            rcases q with _ | _
            all_goals
              go_wp2_with (go_at_call 8; refine (known_any _).mono ?_; rintro e w7 ⟨rfl, b7⟩)
              go_ret
              exact ⟨rfl, hb6.trans (b7.mono hb6.size)⟩
          · have d4 : decide ((4 : Int) < (t : Int)) = true := by simp; omega
            have d4' : decide (4 < t) = true := by simp; omega
            rcases q with _ | _
            all_goals
              go_wp2_with (go_at_call 8; refine (known_any _).mono ?_; rintro e w7 ⟨rfl, b7⟩)
              go_ret
              exact ⟨rfl, hb6.trans (b7.mono hb6.size)⟩
end Go.Proofs.Ytodfpgbgcenbgaa
