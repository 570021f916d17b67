/- Contract: the law of what lasts. -/
import Derived.Test.YtcemfpbkaahcmaaAgain
import Derived.Test.YtcemfpbkaahcmaaDoBack
namespace Go.Proofs.Ytcemfpbkaahcmaa
open Go.RowKit Go.Shelf
set_option linter.unusedVariables false

section
theorem RdB.all {w : World} {hi : Nat} {A : Option Addr} {L : List Stp} (h : RdS w hi A L) {j : Nat} (hj : j < L.length) :
    ∃ b off, A = some ⟨b, off, none⟩ ∧ b < hi ∧ ∀ u : World, Below hi w u → StepOk u hi L[j] ∧ u.cell? ⟨b, off + j * 7, none⟩ = some (.int .i64 L[j].kind) ∧ u.cell? ⟨b, off + j * 7 + 1, none⟩ = some (.int .i64 L[j].n) ∧ u.cell? ⟨b, off + j * 7 + 2, none⟩ = some (.int .i64 L[j].e) ∧
      u.cell? ⟨b, off + j * 7 + 3, none⟩ = some (strV L[j].name) ∧ u.cell? ⟨b, off + j * 7 + 4, none⟩ = some (strV L[j].to) ∧ u.cell? ⟨b, off + j * 7 + 5, none⟩ = some (.slice L[j].A L[j].b.length L[j].bc) ∧ u.cell? ⟨b, off + j * 7 + 6, none⟩ = some (.slice L[j].P L[j].picks.length L[j].pc) := by
  obtain ⟨b, off, e, h1, hc⟩ := h (by omega)
  refine ⟨b, off, e, h1, fun u hu => ?_⟩
  obtain ⟨h2, h3⟩ := hc j _ (List.getElem?_eq_getElem hj)
  have hk : ∀ i v, (stepV L[j])[i]? = some v → u.cell? ⟨b, off + j * 7 + i, none⟩ = some v := fun i v hv => (hu.cell (p := ⟨b, off + j * 7 + i, none⟩) h1).trans (h3 i v hv)
  exact ⟨h2.below hu (Nat.le_refl _), hk 0 _ rfl, hk 1 _ rfl, hk 2 _ rfl, hk 3 _ rfl, hk 4 _ rfl, hk 5 _ rfl, hk 6 _ rfl⟩
/-- Behind a loss of power: a disk of its own, on which all lasts. -/
theorem crash_fresh {w : World} {base p m : Nat} {S : DS} (h : Holds w base p S m) (hM : MayS S) (hm : m ≤ 268435456) (A : Option Addr) (c : Nat) (ps : List Int) (hr : RdI w w.heap.size A ps) (hc : ps.length ≤ c) (hcm : c ≤ maxLen) :
    Calls Try.prog 12 #[.pointer (some ⟨p, 0, none⟩), .slice A ps.length c] w fun e w' =>
      ∃ p' S', e = .returned (.pointer (some ⟨p', 0, none⟩)) ∧ Holds w' w.heap.size p' S' m ∧ Crashed S ps S' ∧ MayS S' ∧ Below w.heap.size w w' := by
  refine (crash_any h hm A c ps hr hc hcm).mono ?_
  rintro e w' ⟨p', S', he, hh, hcr, hb⟩
  exact ⟨p', S', he, hh, hcr, hM.crashed hcr, hb⟩
/-- A disk and the one behind its loss of power are the same again. -/
theorem again_crashed {w : World} {base1 base2 p1 p2 m : Nat} {S T : DS} {c : Nat} {l : List (Str × List UInt8)} {ps : List Int} (h1 : Holds w base1 p1 S m) (h2 : Holds w base2 p2 T m) (hm : m ≤ 1073741824) (hf : Fresh S c l) (hM : MayS S) (hcr : Crashed S ps T) :
    Calls Try.prog 15 #[.pointer (some ⟨p1, 0, none⟩), .pointer (some ⟨p2, 0, none⟩)] w (TruP w) := by
  have hf2 := fresh_crashed hf hcr
  exact again_any h1 h2 hm hm hf.es hf2.es (twin_of hf hf2 h1.1 h2.1 hM) (twin_len hf hf2)
set_option maxRecDepth 100000 in
set_option maxHeartbeats 4000000 in
theorem vfsBack_any (w : World) (A P : Option Addr) (cp pc : Nat) (L : List Stp) (ps : List Int) (nm : Str) (hR : RdS w w.heap.size A L) (hl : L.length ≤ 9223372036854775807) (hP : RdI w w.heap.size P ps) (hcp : ps.length ≤ pc) (hpm : pc ≤ maxLen) (hn : nm.length ≤ maxLen) :
    Calls Try.prog 3 #[.slice A L.length cp, .slice P ps.length pc, strV nm] w (TruP w) := by
  have hnum := fun e u => num_any e u
  have hkn := known_any w
  have hnew := fun (u : World) => new_any (w := u) 30000 (by omega) (by omega)
  have hmuch := fun (u : World) (hu : Below w.heap.size w u) => much_any u A cp L 150 (by omega) ((fun hn => by obtain ⟨b, off, e, h1, h2⟩ := (hR.below hu (Nat.le_refl _)) hn; exact ⟨b, off, e, Nat.lt_of_lt_of_le h1 hu.size, fun j s hs => ⟨{ (h2 j s hs).1 with rb := (h2 j s hs).1.rb.wide (Nat.le_refl _) hu.size, rp := fun hn => by obtain ⟨b, off, e, h1, h2⟩ := (h2 j s hs).1.rp hn; exact ⟨b, off, e, Nat.lt_of_lt_of_le h1 hu.size, h2⟩ }, (h2 j s hs).2⟩⟩) : RdS u u.heap.size A L) hl
  have HPM := Lib.hid hpm
  have HMU := Lib.hid hmuch
  have HNM := Lib.hid hn
  have HR := Lib.hid hR
  have HP := Lib.hid hP
  have hp63 : ps.length ≤ 9223372036854775807 := by unfold maxLen at hpm; omega
  clear hmuch hR hP
  go_enter Try.func3, Try.ntmps3
  go_upto_region 3 with (first
    | (go_at_call 7; refine hkn.mono ?_; rintro e w1 ⟨rfl, hb1⟩; have HB1 := Lib.hid hb1; have hmu := HMU.out w1 hb1; clear hkn hb1))
  by_cases hps : 300 < ps.length
  · have q0 : (300 : Int) < (ps.length : Int) := by omega
    go_wp2_with (go_at_call 8; refine hmu.mono ?_; rintro e w2 ⟨b, rfl, hg, _⟩; have HG := Lib.hid hg; clear hg hmu; rcases b with _ | _)
    all_goals
      go_ret
      exact ⟨rfl, HB1.out.trans (below_grown HG.out HB1.out.size (fun k e => by cases e))⟩
  have q0 : ¬ (300 : Int) < (ps.length : Int) := by omega
  go_upto_region 5 with (go_at_call 8; refine hmu.mono ?_; rintro e w2 ⟨b, rfl, hg, hs⟩; have HG := Lib.hid hg; have HS := Lib.hid hs; clear hg hs hmu; rcases b with _ | _)
  · have hL := HS.out (by simp)
    have HL := Lib.hid hL
    have HB2 := Lib.hid (HB1.out.trans (below_grown HG.out HB1.out.size (fun k e => by cases e)))
    clear hL HS HG HB1 hps
    go_wp2_with (first
      | (go_at_call 9; refine (hnew _).mono ?_; rintro e w3 ⟨p, rfl, hh, hb⟩; have HH3 := Lib.hid hh; have HB3 := Lib.hid (HB2.out.trans (hb.mono HB2.out.size)); clear hb hh)
      | (go_at_call 10; refine (hnum _ _).mono ?_; rintro e w5 ⟨rfl, rfl⟩)
      | fail)
    have HSZ := Lib.hid (show w.heap.size ≤ w2.heap.size from HB2.out.size)
    clear hnew HB2
    go_loopw [7, 9] (fun d i wr => ∃ (j m p base : Nat) (S : DS), d = .pointer (some ⟨p, 0, none⟩) ∧ i = .int .i64 (j : Int) ∧ j ≤ L.length ∧ m ≤ j ∧ w.heap.size ≤ base ∧ Holds wr base p S m ∧ MayS S ∧ Below w.heap.size w wr) (fun _ i _ => L.length - (intOf i).toNat)
    case atStart => exact ⟨0, 0, p, w2.heap.size, newS 30000, rfl, rfl, by omega, by omega, HSZ.out, HH3.out, MayS.new _, HB3.out⟩
    case round =>
      obtain ⟨j, m, p, base, S, rfl, rfl, hj, hmj, hba, hH, hM, hB⟩ := hrel
      have HH := Lib.hid hH
      have HM := Lib.hid hM
      have HB := Lib.hid hB
      have HBA := Lib.hid hba
      by_cases hlt : j < L.length
      · have q2 : (j : Int) < (L.length : Int) := by omega
        obtain ⟨b, off, rfl, hbw, hall⟩ := RdB.all HR.out hlt
        have hbb := HL.out.2 _ (List.getElem_mem hlt)
        obtain ⟨s, hss⟩ : ∃ s, s = L[j] := ⟨_, rfl⟩
        rw [← hss] at hall hbb
        have h2 := hall _ hB
        obtain ⟨hok, c0, c1, c2, c3, c4, c5, c6⟩ := h2
        have hdo := do_back hH (by have := HL.out.1; omega) s hok hba hbb.1 hM
        clear hss hall hbb hH hM hB hba hbw hok
        go_wp2_with (first
          | (go_at_call 11; refine hdo.mono ?_; rintro e w5 ⟨r, p5, base5, S5, rfl, hb5, hH5, hM5, hB5⟩; have HH5 := Lib.hid hH5; have HB5 := Lib.hid hB5; have HM5 := Lib.hid hM5; have HBA5 := Lib.hid hb5; clear hdo hb5 hM5 hB5 hH5 c0 c1 c2 c3 c4 c5 c6)
          | fail)
        exact ⟨⟨j + 1, m + 1, p5, base5, S5, rfl, by go_num, by omega, by omega, Nat.le_trans HBA.out HBA5.out, HH5.out, HM5.out, HB.out.trans (HB5.out.mono HBA.out)⟩, by simp [intOf]; omega⟩
      · have hjl : j = L.length := by omega
        subst hjl
        have q2 : ¬ (L.length : Int) < (L.length : Int) := by omega
        have hm8 : m ≤ 150 := by have := HL.out.1; omega
        have hm9 : m ≤ 268435456 := by omega
        clear hlt hH hM hB hba
        have HRI := Lib.hid (fun (u : World) (hu : Below w.heap.size w u) => (fun hn => by obtain ⟨b, off, e, h1, h2⟩ := (HP.out.below hu (Nat.le_refl _)) hn; exact ⟨b, off, e, Nat.lt_of_lt_of_le h1 hu.size, h2⟩ : RdI u u.heap.size P ps))
        go_wp2_with fail
        refine (crash_fresh HH.out HM.out hm9 P pc ps (HRI.out _ HB.out) hcp hpm).mono ?_
        rintro e w5 ⟨p5, S5, rfl, h5, hcr5, hM5, hb5⟩
        have hfr : Fresh S5 S.cap _ := hcr5
        have hdead := dead_disk h5
        rw [hfr.dead] at hdead
        have hchg := changes_disk h5
        rw [hfr.ch] at hchg
        have H5 := Lib.hid h5
        have HF5 := Lib.hid hfr
        have HM5 := Lib.hid hM5
        have HH5 := Lib.hid (HH.out.below hb5 (Nat.le_refl _))
        have HB5 := Lib.hid (HB.out.trans (hb5.mono HB.out.size))
        clear h5 hcr5 hM5 hb5 hfr HH HB
        go_wp2_with (first
          | (go_at_call 13; refine hdead.mono ?_; rintro e w6 ⟨rfl, rfl⟩)
          | (go_at_call 14; refine hchg.mono ?_; rintro e w6 ⟨rfl, rfl⟩)
          | fail)
        clear hdead hchg
        refine (crash_any H5.out hm9 none 0 [] (fun h => absurd h (by simp)) (Nat.le_refl _) (by unfold maxLen; omega)).mono ?_
        rintro e w6 ⟨p6, S6, rfl, h6, hcr6, hb6⟩
        have hag := again_crashed (H5.out.below hb6 (Nat.le_refl _)) h6 (by omega) HF5.out HM5.out hcr6
        have H6 := Lib.hid (H5.out.below hb6 (Nat.le_refl _))
        have HH6 := Lib.hid (HH5.out.below hb6 (Nat.le_refl _))
        have HB6 := Lib.hid (HB5.out.trans (hb6.mono HB5.out.size))
        clear h6 hcr6 hb6 H5 HH5 HB5
        go_wp2_with fail
        refine hag.mono ?_
        rintro e w7 ⟨rfl, hb7⟩
        have H7 := Lib.hid (H6.out.below hb7 (Nat.le_refl _))
        have HH7 := Lib.hid (HH6.out.below hb7 (Nat.le_refl _))
        have HB7 := Lib.hid (HB6.out.trans (hb7.mono HB6.out.size))
        clear hag hb7 H6 HH6 HB6
        go_wp2_with fail
        refine (crash_lit H7.out hm9 [1, 1, 1] #[.int .i64 1, .int .i64 1, .int .i64 1] (by rfl) 3 rfl (by decide)).mono ?_
        rintro e w8 ⟨p8, S8, rfl, h8, hcr8, hb8⟩
        have hb78 : Below w7.heap.size w7 w8 := ((Below.refl _ w7).alloc (Nat.le_refl _) (.cells #[.int .i64 1, .int .i64 1, .int .i64 1] 3)).trans (hb8.mono (by simp))
        have hag := again_crashed (H7.out.below hb78 (Nat.le_refl _)) h8 (by omega) HF5.out HM5.out hcr8
        have HH8 := Lib.hid (HH7.out.below hb78 (Nat.le_refl _))
        have HB8 := Lib.hid (HB7.out.trans (hb78.mono HB7.out.size))
        clear h8 hcr8 hb8 hb78 H7 HH7 HB7 HF5 HM5
        go_wp2_with fail
        refine hag.mono ?_
        rintro e w9 ⟨rfl, hb9⟩
        have HH9 := Lib.hid (HH8.out.below hb9 (Nat.le_refl _))
        have HB9 := Lib.hid (HB8.out.trans (hb9.mono HB8.out.size))
        clear hag hb9 HH8 HB8
        have hsy := sync_any HH9.out (by omega) nm HNM.out
        have hsl := sync_lasts (nm := nm) HH9.out.1
        unfold StepP at hsy
        obtain ⟨r1, hr1⟩ : ∃ r, r = (S.sync nm).1 := ⟨_, rfl⟩
        obtain ⟨S1, hS1⟩ : ∃ T, T = (S.sync nm).2 := ⟨_, rfl⟩
        rw [← hr1, ← hS1] at hsl
        rw [← hr1, ← hS1] at hsy
        have HSL := Lib.hid hsl
        clear hr1 hS1 hsl HM
        by_cases h0 : r1 = 0
        · subst h0
          obtain ⟨hmay, bb, kk, hin, hfl⟩ := HSL.out rfl
          have HMAY := Lib.hid hmay
          have HIN := Lib.hid hin
          have HFL := Lib.hid hfl
          clear hmay hin hfl HSL
          go_wp2_with (first
            | (go_at_call 16; refine hsy.mono ?_; rintro e w10 ⟨rfl, h10, hb10⟩; have H10 := Lib.hid h10; have HB10 := Lib.hid (HB9.out.trans (hb10.mono HBA.out)); clear hb10 h10 hsy)
            | (go_at_call 10; refine (hnum _ _).mono ?_; rintro e w11 ⟨rfl, rfl⟩))
          have hsd := syncDir_any H10.out (by omega)
          have hsl := syncDir_lasts HMAY.out HIN.out HFL.out
          unfold StepP at hsd
          obtain ⟨r2, hr2⟩ : ∃ r, r = S1.syncDir.1 := ⟨_, rfl⟩
          obtain ⟨S2, hS2⟩ : ∃ T, T = S1.syncDir.2 := ⟨_, rfl⟩
          rw [← hr2, ← hS2] at hsl
          rw [← hr2, ← hS2] at hsd
          have HSL := Lib.hid hsl
          clear hr2 hS2 hsl
          refine hsd.mono ?_
          rintro e w11 ⟨rfl, h11, hb11⟩
          have H11 := Lib.hid h11
          have HB11 := Lib.hid (HB10.out.trans (hb11.mono HBA.out))
          clear hsd h11 hb11 H10 HB10 HMAY HIN HFL HH9 HB9
          by_cases h0 : r2 = 0
          · subst h0
            have HLA := Lib.hid (HSL.out rfl)
            clear HSL
            have hrd := read_here H11.out (HLA.out.reads H11.out.1) HNM.out
            go_wp2_with (first
              | (go_at_call 10; refine (hnum _ _).mono ?_; rintro e w12 ⟨rfl, rfl⟩)
              | (go_at_call 18; refine hrd.mono ?_; rintro e w12 ⟨rfl, h12, hb12⟩; have H12 := Lib.hid h12; have HB12 := Lib.hid (HB11.out.trans (hb12.mono HB11.out.size)); clear h12 hb12 hrd)
              | fail)
            refine (crash_any H12.out (by omega) P pc ps (HRI.out _ HB12.out) hcp hpm).mono ?_
            rintro e w13 ⟨p13, S13, rfl, h13, hcr13, hb13⟩
            have hrd := read_here h13 (HLA.out.crashed hcr13 h13.1) HNM.out
            have HH13 := Lib.hid (H12.out.below hb13 (Nat.le_refl _))
            have HB13 := Lib.hid (HB12.out.trans (hb13.mono HB12.out.size))
            clear h13 hcr13 hb13 H12 HB12 H11 HB11
            unfold strV at *
            go_wp2_with (first
              | (go_at_call 18; refine hrd.mono ?_; rintro e w14 ⟨rfl, _, hb14⟩; have H14 := Lib.hid (HH13.out.below hb14 (Nat.le_refl _)); have HB14 := Lib.hid (HB13.out.trans (hb14.mono HB13.out.size)); clear hb14 hrd)
              | fail)
            refine (crash_any H14.out (by omega) none 0 [] (fun h => absurd h (by simp)) (Nat.le_refl _) (by unfold maxLen; omega)).mono ?_
            rintro e w15 ⟨p15, S15, rfl, h15, hcr15, hb15⟩
            have hrd := read_here h15 (HLA.out.crashed hcr15 h15.1) HNM.out
            have HB15 := Lib.hid (HB14.out.trans (hb15.mono HB14.out.size))
            clear h15 hcr15 hb15 H14 HB14 HH13 HB13
            unfold strV at hrd
            go_wp2_with (first
              | (go_at_call 18; refine hrd.mono ?_; rintro e w16 ⟨rfl, _, hb16⟩; have HB16 := Lib.hid (HB15.out.trans (hb16.mono HB15.out.size)); clear hb16 hrd)
              | fail)
            go_ret
            exact ⟨rfl, HB16.out⟩
          · have q4 : (r2 != 0) = true := by simpa using h0
            clear h0 HSL
            go_wp2_with (go_at_call 10; refine (hnum _ _).mono ?_; rintro e w12 ⟨rfl, rfl⟩)
            go_ret
            exact ⟨rfl, HB11.out⟩
        · have q4 : (r1 != 0) = true := by simpa using h0
          clear h0 HSL
          go_wp2_with (first
            | (go_at_call 16; refine hsy.mono ?_; rintro e w10 ⟨rfl, _, hb10⟩; have HB10 := Lib.hid (HB9.out.trans (hb10.mono HBA.out)); clear hb10)
            | (go_at_call 10; refine (hnum _ _).mono ?_; rintro e w11 ⟨rfl, rfl⟩))
          go_ret
          exact ⟨rfl, HB10.out⟩
  · go_ret
    exact ⟨rfl, HB1.out.trans (below_grown HG.out HB1.out.size (fun k e => by cases e))⟩
end
end Go.Proofs.Ytcemfpbkaahcmaa
