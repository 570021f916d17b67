/- Contract: the closed law of layer 4. -/
import Derived.Test.YtcemfpbkaahcmaaNothing
import Derived.Test.YtcemfpbkaahcmaaStr
import Derived.Test.YtcemfpbkaahcmaaSteps
namespace Go.Proofs.Ytcemfpbkaahcmaa
open Go.RowKit Go.Shelf
set_option linter.unusedVariables false

theorem name_val (j : Nat) : Value.string (({ data := #[102] } : ByteArray) ++ { data := #[97 + UInt8.ofNat (j / 26), 97 + UInt8.ofNat (j % 26)] }) = strV (nameK j) := by
  unfold strV nameK
  refine congrArg Value.string (ByteArray.ext ?_)
  simp [UInt8.ofNat_add]
theorem make_zeros (w : World) (N : Nat) (hN : N ≤ 16777216) : ∃ w', (Instr.makeSlice 33 (.int .i64 (N : Int)) (.int .i64 (N : Int))).run Try.prog w = .ok (.slice (some ⟨w.heap.size, 0, none⟩) N N) w' ∧ Rd w' w.heap.size w'.heap.size (some ⟨w.heap.size, 0, none⟩) (List.replicate N 0) ∧ w.grownBy w' none := by
  obtain ⟨i0, hi0, hz0, hz1, hz2⟩ := info_parts byte_info
  obtain ⟨w', h1, h2, h3⟩ := run_make_full (P := Try.prog) w w.heap.size 33 5 i0 (.int .u8 0) 1 Try.underlying33 hi0 hz0 hz1 .i64 .i64 N (by rw [hz2]; omega) (by unfold maxLen; omega) (Nat.le_refl _)
  refine ⟨w', h1, ?_, h3⟩
  have e : (madeCells (Value.cells (.int .u8 0)) (N * 1)).toList = (List.replicate N (0 : UInt8)).map bv := by
    rw [show Value.cells (.int .u8 0) = #[.int .u8 0] from rfl, toList_madeCells_one, Nat.mul_one, List.map_replicate]
    rfl
  rw [e] at h2
  exact (Ow.of_own h2).1.rd
theorem append_zeros {w w' : World} {base p m : Nat} {S : DS} {A : Option Addr} (h : Holds w base p S m) (hm : m ≤ 1073741824) (nm : Str) (hn : nm.length ≤ maxLen) (hr : Rd w' w.heap.size w'.heap.size A (List.replicate 16777216 0)) (hg : w.grownBy w' none) :
    Calls Try.prog 23 #[.pointer (some ⟨p, 0, none⟩), strV nm, .slice A 16777216 16777216] w' (StepP w' base p (S.append nm (List.replicate 16777216 0)) (m + 1)) := by
  have hlt := h.lt
  have h2 := append_any (h.grow hg) hm nm hn A 16777216 w.heap.size w'.heap.size (List.replicate 16777216 0) hr (Nat.le_refl _) (fun g h1 h2 e => by omega) (by rw [List.length_replicate]; exact Nat.le_refl _) (by unfold maxLen; omega)
  rwa [List.length_replicate] at h2
set_option maxRecDepth 100000 in
set_option maxHeartbeats 4000000 in
theorem vfsNil_any (w : World) : Calls Try.prog 5 #[] w (TruP w) := by
  have hnum := fun e u => num_any e u
  have hnew := new_any (w := w) 16777216 (by omega) (by omega)
  go_enter Try.func5, Try.ntmps5
  go_wp2_with (first
    | (go_at_call 9; refine hnew.mono ?_; rintro e w1 ⟨p, rfl, hh, hb⟩; have HH := Lib.hid hh; have HB := Lib.hid hb; clear hh hb hnew)
    | (go_at_call 10; refine (hnum _ _).mono ?_; rintro e w5 ⟨rfl, rfl⟩)
    | fail)
  go_loopw [3] (fun i wr => ∃ (j m : Nat) (S : DS), i = .int .i64 (j : Int) ∧ j ≤ 64 ∧ m ≤ j ∧ Holds wr w.heap.size p S m ∧ Many S j ∧ Below w.heap.size w wr) (fun i _ => 64 - (intOf i).toNat)
  case atStart => exact ⟨0, 0, _, rfl, by omega, by omega, HH.out, Many.new, HB.out⟩
  case round =>
    obtain ⟨j, m, S, rfl, hj, hm, hh, hS, hb⟩ := hrel
    have HH := Lib.hid hh
    have HS := Lib.hid hS
    have HB := Lib.hid hb
    by_cases hlt : j < 64
    · have q1 : (j : Int) < 64 := by omega
      clear hh hS hb
      have e1 : bv (UInt8.ofNat (97 + j / 26)) = .int .u8 (97 + (j : Int) / 26) := by
        unfold bv
        rw [UInt8.toNat_ofNat', Nat.mod_eq_of_lt (by omega)]
        congr 1
      have e2 : bv (UInt8.ofNat (97 + j % 26)) = .int .u8 (97 + (j : Int) % 26) := by
        unfold bv
        rw [UInt8.toNat_ofNat', Nat.mod_eq_of_lt (by omega)]
        congr 1
      have hcv := run_str (Rd.two wr (UInt8.ofNat (97 + j / 26)) (UInt8.ofNat (97 + j % 26))) 2 2 rfl
      rw [e1, e2] at hcv
      unfold strOf at hcv
      have hmk := make_any (HH.out.alloc (.cells #[.int .u8 (97 + (j : Int) / 26), .int .u8 (97 + (j : Int) % 26)] 5)) (by omega) (nameK j) (by simp [nameK, maxLen])
      have HMK := Lib.hid hmk
      clear e1 e2 hmk
      go_wp2_with fail
      rw [name_val]
      obtain ⟨hr0, hS1⟩ := HS.out.make hlt (wr.alloc (.cells #[.int .u8 (97 + (j : Int) / 26), .int .u8 (97 + (j : Int) % 26)] 5)).heap.size
      refine HMK.out.mono ?_
      rintro e w2 ⟨rfl, h2, b2⟩
      rw [hr0]
      have H2 := Lib.hid h2
      have HS1 := Lib.hid hS1
      have HB2 := Lib.hid ((HB.out.alloc HB.out.size _).trans b2)
      clear h2 hS1 b2 hr0 HMK hcv
      go_wp2_with (go_at_call 10; refine (hnum _ _).mono ?_; rintro e w5 ⟨rfl, rfl⟩)
      exact ⟨⟨j + 1, m + 1, _, by go_num, by omega, by omega, H2.out, HS1.out, HB2.out⟩, by simp [intOf]; omega⟩
    · obtain rfl : j = 64 := by omega
      have q1 : ¬ ((64 : Nat) : Int) < 64 := by omega
      clear hh hS hb
      go_wp2_with fail
      refine (make_any HH.out (by omega) sOne (by decide)).mono ?_
      rintro e w2 hs
      obtain ⟨rfl, h1, b2⟩ := step_eq (HS.out.full _) hs
      have H1 := Lib.hid h1
      have B2 := Lib.hid (HB.out.trans b2)
      clear hs h1 b2 HH HB
      go_wp2_with (go_at_call 10; refine (hnum _ _).mono ?_; rintro e w5 ⟨rfl, rfl⟩)
      obtain ⟨k0, hr0, hmv⟩ := HS.out.rename
      have HMV := Lib.hid hmv
      refine (rename_any H1.out (by omega) sFaa sOne (by decide) (by decide)).mono ?_
      rintro e w3 ⟨rfl, h1, b2⟩
      rw [hr0]
      have H2 := Lib.hid h1
      have B3 := Lib.hid (B2.out.trans b2)
      clear h1 b2 H1 B2 HS hr0 hmv
      obtain ⟨w4, hmk, hrd, hg⟩ := make_zeros w3 16777216 (Nat.le_refl _)
      simp only [Int.cast_ofNat_Int] at hmk
      go_wp2_with (go_at_call 10; refine (hnum _ _).mono ?_; rintro e w5 ⟨rfl, rfl⟩)
      obtain ⟨hr0, hnr⟩ := HMV.out.append (List.replicate 16777216 0) List.length_replicate
      have HNR := Lib.hid hnr
      have B4 := Lib.hid (B3.out.trans (below_grown hg B3.out.size (fun k e => by cases e)))
      refine (append_zeros H2.out (by omega) sOne (by decide) hrd hg).mono ?_
      rintro e w5 ⟨rfl, h1, b2⟩
      rw [hr0]
      have H3 := Lib.hid h1
      have B5 := Lib.hid (B4.out.trans b2)
      clear h1 b2 H2 B3 B4 hr0 hnr hmk hrd hg HMV
      generalize List.replicate 16777216 (0 : UInt8) = x0 at HNR H3
      obtain ⟨S3, hS3⟩ : ∃ T, T = ((S.rename sFaa sOne).2.append sOne x0).2 := ⟨_, rfl⟩
      rw [← hS3] at HNR H3
      clear hS3
      go_wp2_with (go_at_call 10; refine (hnum _ _).mono ?_; rintro e w9 ⟨rfl, rfl⟩)
      refine (append_lit H3.out (by omega) sFab (by decide) [1] #[.int .u8 1] (by rfl) 1 rfl (by decide) _).mono ?_
      rintro e w6 hs
      obtain ⟨rfl, h1, b2⟩ := step_eq (HNR.out.append1 [1] (by simp)) hs
      have H4 := Lib.hid h1
      have B6 := Lib.hid ((B5.out.alloc B5.out.size _).trans b2)
      clear hs h1 b2 H3 B5
      have hroom : Calls Try.prog 20 #[.pointer (some ⟨p, 0, none⟩)] w6 (RoomP w6 0) := by
        obtain ⟨hG, fb, lb, sv, rv, hM⟩ := H4.out
        have := room_any hG hM (by omega)
        rwa [HNR.out.room] at this
      go_wp2_with (first
        | (go_at_call 10; refine (hnum _ _).mono ?_; rintro e w9 ⟨rfl, rfl⟩)
        | (go_at_call 20; refine hroom.mono ?_; rintro e w7 ⟨rfl, hb⟩; have H5 := Lib.hid (H4.out.below hb (Nat.le_refl _)); have B7 := Lib.hid (B6.out.trans (hb.mono B6.out.size)); clear hb hroom)
        | fail)
      refine (append_any H5.out (by omega) sNon (by decide) none 0 0 0 [] Rd.nil (Nat.zero_le _) (fun g _ h => by omega) (Nat.le_refl _) (by unfold maxLen; omega)).mono ?_
      rintro e w8 hs
      obtain ⟨rfl, h1, b2⟩ := step_eq (HNR.out.append0 []) hs
      have H6 := Lib.hid h1
      have B8 := Lib.hid (B7.out.trans b2)
      clear hs h1 b2 H4 H5 B6 B7
      go_wp2_with (go_at_call 10; refine (hnum _ _).mono ?_; rintro e w9 ⟨rfl, rfl⟩)
      refine (lay_disk H6.out (-1) 9 (by omega)).mono ?_
      rintro e w9 hs
      obtain ⟨rfl, h1, b2⟩ := step_eq (lay_no _ _ (by omega)) hs
      have H7 := Lib.hid h1
      have B9 := Lib.hid (B8.out.trans b2)
      clear hs h1 b2 H6 B8
      go_wp2_with (go_at_call 10; refine (hnum _ _).mono ?_; rintro e w10 ⟨rfl, rfl⟩)
      refine (lay_disk H7.out 0 8 (by omega)).mono ?_
      rintro e w10 hs
      obtain ⟨rfl, h1, b2⟩ := step_eq (lay_no _ _ (by omega)) hs
      have H8 := Lib.hid h1
      have B10 := Lib.hid (B9.out.trans b2)
      clear hs h1 b2 H7 B9
      go_wp2_with (go_at_call 10; refine (hnum _ _).mono ?_; rintro e w11 ⟨rfl, rfl⟩)
      refine (lay_disk H8.out 0 0 (by omega)).mono ?_
      rintro e w11 hs
      obtain ⟨rfl, h1, b2⟩ := step_eq (lay_no _ _ (by omega)) hs
      have B11 := Lib.hid (B10.out.trans b2)
      clear hs h1 b2 H8 B10
      go_wp2_with (go_at_call 10; refine (hnum _ _).mono ?_; rintro e w12 ⟨rfl, rfl⟩)
      refine (nothing_any (NoneAt.nil (w := w11))).mono ?_
      rintro e w12 ⟨rfl, hb⟩
      have B12 := Lib.hid (B11.out.trans (hb.mono B11.out.size))
      clear hb B11
      go_wp2_with fail
      refine (nothing_any (NoneAt.zero (p := w12.heap.size) (by simp) (by rw [cell_of_row _ _ _ _ _ (0, 0) (heap_alloc_new w12 _)]; rfl))).mono ?_
      rintro e w13 ⟨rfl, hb⟩
      have B13 := Lib.hid ((B12.out.alloc B12.out.size _).trans (hb.mono (by have := B12.out.size; simp; omega)))
      clear hb B12
      have hkn := known_any w13
      go_wp2_with (go_at_call 7; refine hkn.mono ?_; rintro e w14 ⟨rfl, hb⟩; have B14 := Lib.hid (B13.out.trans (hb.mono B13.out.size)); clear hb hkn)
      go_ret
      exact ⟨rfl, B14.out⟩
end Go.Proofs.Ytcemfpbkaahcmaa
