/- Contract: Unhex. -/
import Derived.Test.YthbnnhnnldakeaaRefHex
import Derived.Deep.LoopGhost
import Derived.WalkMore
namespace Go.Proofs.Ythbnnhnnldakeaa
open Go.ChangeShapes Go.WideShapes Go.ChangeAt Go.RowKit
set_option linter.unusedVariables false

/-- An even number of signs. -/
def Good (S : List UInt8) : Prop := S.length % 2 = 0 ∧ ∀ c ∈ S, sv c ≠ none
theorem sv_sg (v : Nat) (h : v < 16) : sv (sg v) ≠ none := by
  obtain rfl | rfl | rfl | rfl | rfl | rfl | rfl | rfl | rfl | rfl | rfl | rfl | rfl | rfl | rfl | rfl : v = 0 ∨ v = 1 ∨ v = 2 ∨ v = 3 ∨ v = 4 ∨ v = 5 ∨ v = 6 ∨ v = 7 ∨ v = 8 ∨ v = 9 ∨ v = 10 ∨ v = 11 ∨ v = 12 ∨ v = 13 ∨ v = 14 ∨ v = 15 := by omega
  all_goals decide
theorem good_hex (x : List UInt8) : Good (hexL x) := by
  refine ⟨by rw [hexL_length]; omega, fun c hc => ?_⟩
  unfold hexL at hc
  obtain ⟨y, _, hy⟩ := List.mem_flatMap.1 hc
  have := y.toNat_lt
  simp at hy
  rcases hy with rfl | rfl
  · exact sv_sg _ (by omega)
  · exact sv_sg _ (by omega)

/-- What Unhex answers. -/
def UnhexP (w : World) (S : List UInt8) (e : Ending) (w' : World) : Prop :=
  (∃ A c x, e = .returned (.tuple #[.slice A x.length c, .int .i64 0]) ∧ hexL x = S ∧ Ow w' w.heap.size A x ∧ Below w.heap.size w w') ∨
  (¬ Good S ∧ e = .returned (.tuple #[.slice none 0 0, .int .i64 4]) ∧ Below w.heap.size w w')

theorem pair_step (S : List UInt8) (k v0 v1 : Nat) (x : List UInt8) (h : 2 * k + 1 < S.length) (hx : hexL x = S.take (2 * k)) (h0 : sv S[2 * k] = some v0) (h1 : sv S[2 * k + 1] = some v1) :
    hexL (x ++ [UInt8.ofNat (v0 * 16 + v1)]) = S.take (2 * (k + 1)) := by
  have l0 := sv_lt h0
  have l1 := sv_lt h1
  have e : (UInt8.ofNat (v0 * 16 + v1)).toNat = v0 * 16 + v1 := by rw [UInt8.toNat_ofNat']; show (v0 * 16 + v1) % 256 = _; omega
  have e2 : hexL [UInt8.ofNat (v0 * 16 + v1)] = [sg ((v0 * 16 + v1) / 16), sg ((v0 * 16 + v1) % 16)] := by simp only [hexL, List.flatMap_cons, List.flatMap_nil, List.append_nil, e]
  rw [hexL_append, hx, e2, show (v0 * 16 + v1) / 16 = v0 by omega, show (v0 * 16 + v1) % 16 = v1 by omega, sg_sv h0, sg_sv h1, show 2 * (k + 1) = 2 * k + 1 + 1 by omega, List.take_succ_eq_append_getElem h, List.take_succ_eq_append_getElem (by omega : 2 * k < S.length), List.append_assoc]
  rfl

theorem or8 (a b : Nat) (ha : a < 16) (hb : b < 16) : bits .or .u8 ((a : Int) * 16) (b : Int) = (a : Int) * 16 + (b : Int) := by
  have e : ((a : Int) * 16) = ((a * 16 : Nat) : Int) := by omega
  have e2 : (a : Int) * 16 + (b : Int) = ((a * 16 + b : Nat) : Int) := by omega
  rw [e2, e, u8_or_nat _ _ (by omega) (by omega)]
  have := Nat.two_pow_add_eq_or_of_lt (i := 4) (b := b) hb a
  congr 1
  rw [show a * 16 = 2 ^ 4 * a by omega, ← this]
theorem or0 (b : Nat) (hb : b < 16) : bits .or .u8 0 (b : Int) = (b : Int) := by
  have := or8 0 b (by omega) hb
  simpa using this
theorem rd_one (w : World) (a b : Nat) (ha : a < 16) (hb : b < 16) : Rd (w.alloc (.cells #[.int .u8 ((a : Int) * 16 + (b : Int))] 5)) 0 (w.heap.size + 1) (some ⟨w.heap.size, 0, none⟩) [UInt8.ofNat (a * 16 + b)] := by
  have h := Rd.lit w [UInt8.ofNat (a * 16 + b)] (0, 0)
  have e : bv (UInt8.ofNat (a * 16 + b)) = .int .u8 ((a : Int) * 16 + (b : Int)) := by
    unfold bv
    rw [UInt8.toNat_ofNat']
    congr 1
    show (((a * 16 + b) % 256 : Nat) : Int) = _
    omega
  simp only [List.map_cons, List.map_nil, e] at h
  exact h

set_option maxHeartbeats 1000000 in
theorem unhex_any (s : ByteArray) (w : World) (hs : s.size ≤ 140737488355328) :
    Calls Try.prog 17 #[.string s] w (UnhexP w s.data.toList) := by
  obtain ⟨i0, hi0, hz0, hz1, hz2⟩ := info_parts byte_info
  have hmk : ∀ u : World, (Instr.makeSlice 23 (.int .i64 0) (.int .i64 ((s.size : Int) / 2))).run Try.prog u = .ok (.slice (some ⟨u.heap.size, 0, none⟩) 0 (s.size / 2)) (u.alloc (.cells (madeCells #[.int .u8 0] (s.size / 2)) 5)) := fun u => by
    have h := run_make (P := Try.prog) u 23 5 i0 (.int .u8 0) Try.underlying23 hi0 hz0 .i64 .i64 0 ((s.size : Int) / 2) (by omega) (by omega) (by rw [hz2]; omega) (by omega)
    rw [show ((s.size : Int) / 2).toNat = s.size / 2 by omega] at h
    simpa [hz1, Value.cells] using h
  go_enter Try.func17, Try.ntmps17
  go_wp2
  go_step3
  go_wp2
  go_step3
  go_wp2
  go_loopg [4, 5] s.size (fun g v i wr => ∃ (k : Nat) (x : List UInt8), 2 * k ≤ s.size ∧ 2 * k + g = s.size ∧ i = .int .i64 (2 * (k : Int)) ∧ Hid (x.length = k) ∧ Hid (hexL x = s.data.toList.take (2 * k)) ∧ wr.ownsRow w.heap.size 5 1 v k (x.map bv) ∧ Below w.heap.size w wr)
  case atStart => exact ⟨0, [], by omega, by omega, rfl, rfl, rfl, World.ownsRow_made (base := w.heap.size) (e := 5) (size := 1) w _ _ (Nat.le_refl _) (by simp only [maxLen]; omega) (by simp [madeCells]), (Below.refl _ _).alloc (Nat.le_refl _) _⟩
  case round =>
    obtain ⟨k, x, hk, hg, rfl, hxl, hxs, hown, hb⟩ := hrel
    obtain ⟨A', c', e, hblk⟩ := own_form hown
    subst e
    by_cases hlt : 2 * k + 1 < s.size
    · have hL : s.data.toList.length = s.size := by rw [Array.length_toList]; rfl
      have HL := Lib.hid hL
      clear hL
      have dne : (2 * (k : Int) != (s.size : Int)) = true := by simp; omega
      have E0 : Hid (s.data.toList[2 * k]'(by rw [HL.out]; omega) = s[2 * k]) := rfl
      have E1 : Hid (s.data.toList[2 * k + 1]'(by rw [HL.out]; omega) = s[2 * k + 1]) := rfl
      rcases h0 : sv s[2 * k] with _ | v0
      · have HN := Lib.hid (show ¬ Good s.data.toList from fun h => h.2 (s.data.toList[2 * k]'(by rw [HL.out]; omega)) (List.getElem_mem _) (by rw [E0.out]; exact h0))
        have HC := Lib.hid (signValue_no s[2 * k] wr h0)
        clear h0
        go_wp2
        refine wp_loop_rounds 3 ?_
        rw [rounds_succ]
        go_wp2_with (go_at_call 34; refine HC.out.mono ?_; rintro e w' ⟨rfl, rfl⟩)
        try rw [Exit.noGoto_ret]
        go_ret2
        exact .inr ⟨HN.out, rfl, hb⟩
      · have l0 := sv_lt h0
        rcases h1 : sv s[2 * k + 1] with _ | v1
        · have HN := Lib.hid (show ¬ Good s.data.toList from fun h => h.2 (s.data.toList[2 * k + 1]'(by rw [HL.out]; omega)) (List.getElem_mem _) (by rw [E1.out]; exact h1))
          have HC := Lib.hid (signValue_yes s[2 * k] v0 wr h0)
          have HC1 := Lib.hid (signValue_no s[2 * k + 1] wr h1)
          have o1 := or0 v0 l0
          clear h0 h1
          go_wp2
          refine wp_loop_rounds 3 ?_
          rw [rounds_succ]
          go_wp2_with (go_at_call 34; refine HC.out.mono ?_; rintro e w' ⟨rfl, rfl⟩)
          rw [rounds_succ]
          go_wp2_with (go_at_call 34; refine HC1.out.mono ?_; rintro e w' ⟨rfl, rfl⟩)
          try rw [Exit.noGoto_ret]
          go_ret2
          exact .inr ⟨HN.out, rfl, hb⟩
        · have l1 := sv_lt h1
          have HX := Lib.hid (pair_step s.data.toList k v0 v1 x (by rw [HL.out]; omega) hxs.out (by rw [E0.out]; exact h0) (by rw [E1.out]; exact h1))
          have HC := Lib.hid (signValue_yes s[2 * k] v0 wr h0)
          have HC1 := Lib.hid (signValue_yes s[2 * k + 1] v1 wr h1)
          have o1 := or0 v0 l0
          have o2 := or8 v0 v1 l0 l1
          have HRD := Lib.hid (rd_one wr v0 v1 l0 l1)
          have HO := Lib.hid (hown.alloc (.cells #[.int .u8 ((v0 : Int) * 16 + (v1 : Int))] 5))
          clear h0 h1
          go_wp2
          refine wp_loop_rounds 3 ?_
          rw [rounds_succ]
          go_wp2_with (go_at_call 34; refine HC.out.mono ?_; rintro e w' ⟨rfl, rfl⟩)
          rw [rounds_succ]
          go_wp2_with (go_at_call 34; refine HC1.out.mono ?_; rintro e w' ⟨rfl, rfl⟩)
          rw [rounds_succ]
          go_wp2_with (at_builtin; refine wpList_append_rd _ rfl (.tmp 40) (.tmp 42) _ rfl w.heap.size 5 i0 _ Try.underlying23 hi0 hz0 hz1 hz2 rfl (.slice A' k c') k (x.map bv) rfl HO.out 0 (wr.heap.size + 1) (some ⟨wr.heap.size, 0, none⟩) 1 [UInt8.ofNat (v0 * 16 + v1)] rfl HRD.out (by simp; omega) (by simp; have := hb.size; omega) ?_; intro v1' w1 hown1 hg1 hat1)
          go_roundg (gk - 2)
          case measure => omega
          case rel =>
            refine ⟨k + 1, x ++ [UInt8.ofNat (v0 * 16 + v1)], by omega, by omega, by go_num, by unfold Hid; rw [List.length_append, hxl.out]; rfl, HX.out, ?_, ?_⟩
            · rw [List.map_append]; exact hown1
            · exact (hb.alloc hb.size _).grown hg1 (by simp; have := hb.size; omega) (fun g hg => (hown.lt g hg).1)
    · by_cases h2 : 2 * k = s.size
      · have d1 : (2 * (k : Int) != (s.size : Int)) = false := by simp; omega
        have HS := Lib.hid (show s.data.toList.take (2 * k) = s.data.toList from List.take_of_length_le (by rw [Array.length_toList]; have e : s.data.size = s.size := rfl; omega))
        have H2 := Lib.hid h2
        clear h2
        go_wp2
        try rw [Exit.noGoto_ret]
        go_ret2
        obtain ⟨h1, h2, h3⟩ := Ow.of_own hown
        exact .inl ⟨A', c', x, by rw [hxl.out]; rfl, hxs.out.trans HS.out, h1, hb⟩
      · have d1 : (2 * (k : Int) != (s.size : Int)) = true := by simp; omega
        have HN := Lib.hid (show ¬ Good s.data.toList from fun h => by have := h.1; rw [Array.length_toList] at this; have e : s.data.size = s.size := rfl; omega)
        go_wp2
        try rw [Exit.noGoto_ret]
        go_ret2
        exact .inr ⟨HN.out, rfl, hb⟩
end Go.Proofs.Ythbnnhnnldakeaa
