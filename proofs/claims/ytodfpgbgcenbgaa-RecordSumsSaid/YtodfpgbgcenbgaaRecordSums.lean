/- The walk of RecordSums. -/
import Derived.Test.YtodfpgbgcenbgaaSumsTell
import Derived.Test.YtodfpgbgcenbgaaStep
import Derived.Deep.RegionHeld3
import Derived.IntWalk
namespace Go.Proofs.Ytodfpgbgcenbgaa
open Go.ChangeShapes Go.WideShapes Go.ChangeAt Go.RowKit
set_option linter.unusedVariables false

/-- The records so far. -/
def pcAt (L : List Pc) (k : Nat) : List UInt8 := (L[k]?.getD (none, 0, [])).2.2
def recs (H B : List Pc) : Nat → List UInt8
  | 0 => []
  | k + 1 => (recs H B k ++ pcAt H k) ++ pcAt B k
theorem pcAt_eq {L : List Pc} {k : Nat} (h : k < L.length) : pcAt L k = L[k].2.2 := by simp [pcAt, List.getElem?_eq_getElem h]

theorem own_below {w w' : World} {base n : Nat} {v : Value} {xs : List Value} (h : w.ownsRow base 5 1 v n xs) (hb : Below w.heap.size w w') : w'.ownsRow base 5 1 v n xs := by
  refine ⟨h.1, ?_⟩
  rcases h.2 with h0 | ⟨g, cap, cur, hv, h1, h2, h3⟩
  · exact .inl h0
  · have hlt : g < w.heap.size := by
      rcases Nat.lt_or_ge g w.heap.size with hlt | hge
      · exact hlt
      · rw [Array.getElem?_eq_none hge] at h2; cases h2
    exact .inr ⟨g, cap, cur, hv, h1, (hb.block g hlt).trans h2, h3⟩
theorem own_apart_nil {w : World} {base n : Nat} {v : Value} {xs : List Value} (h : w.ownsRow base 5 1 v n xs) : v.ownBlock = none ∨ v.ownBlock ≠ (Value.slice none 0 0).ownBlock := by
  rcases hv : v.ownBlock with _ | g
  · exact .inl rfl
  · exact .inr (by simp [Value.ownBlock])
theorem own_apart {w w3 : World} {base n m : Nat} {v v3 : Value} {xs ys : List Value} (h : w.ownsRow base 5 1 v n xs) (h3 : w3.ownsRow w.heap.size 5 1 v3 m ys) : v.ownBlock = none ∨ v.ownBlock ≠ v3.ownBlock := by
  rcases hv : v.ownBlock with _ | g
  · exact .inl rfl
  · right
    intro e
    have h1 := (h.lt g hv).2
    have h2 := (h3.lt g e.symm).1
    omega

set_option maxRecDepth 100000 in
set_option maxHeartbeats 8000000 in
theorem recordSums_any (A1 A2 : Option Addr) (c1 c2 : Nat) (H B : List Pc) (w : World) (r1 : RdL w w.heap.size A1 H) (r2 : RdL w w.heap.size A2 B)
    (hH : H.length ≤ 9223372036854775807) (hB : B.length ≤ 9223372036854775807) (hh : ∀ x ∈ H, x.2.2.length ≤ 140737488355328) (hb : ∀ x ∈ B, x.2.2.length ≤ 140737488355328) :
    Calls Try.prog 3 #[.slice A1 H.length c1, .slice A2 B.length c2] w fun e w' => e = .returned (.bool true) ∧ Below w.heap.size w w' := by
  obtain ⟨i0, hi0, hz0, hz1, hz2⟩ := info_parts byte_info
  by_cases hbad : 20 < H.length ∨ B.length ≠ H.length
  · by_cases h20 : 20 < H.length
    · have d1 : decide ((20 : Int) < (H.length : Int)) = true := by simp; omega
      go_enter Try.func3, Try.ntmps3
      go_wp2_with (go_at_call 8; refine (known_any _).mono ?_; rintro e w3 ⟨rfl, hb3⟩)
      go_ret
      exact ⟨rfl, hb3⟩
    · have d1 : decide ((20 : Int) < (H.length : Int)) = false := by simp; omega
      have d2 : ((B.length : Int) != (H.length : Int)) = true := by simp; omega
      have d3 : (B.length != H.length) = true := by simp; omega
      clear hbad
      go_enter Try.func3, Try.ntmps3
      go_wp2_with (go_at_call 8; refine (known_any _).mono ?_; rintro e w3 ⟨rfl, hb3⟩)
      go_ret
      exact ⟨rfl, hb3⟩
  · have d1 : decide ((20 : Int) < (H.length : Int)) = false := by simp; omega
    have d2 : ((B.length : Int) != (H.length : Int)) = false := by simp; omega
    have hBH : B.length = H.length := by omega
    have d3 : (B.length != H.length) = false := by simp; omega
    have h20 : H.length ≤ 20 := by omega
    have HBH := Lib.hid hBH
    clear hbad hBH hH hB
    go_enter Try.func3, Try.ntmps3
    go_wp2_with fail
    go_loopw [6, 7, 8] (fun v s i wr => ∃ k : Nat, k ≤ H.length ∧ i = .int .i64 k ∧ s = rv (moreS 0 (recs H B k)) ∧ wr.ownsRow w.heap.size 5 1 v (recs H B k).length ((recs H B k).map bv) ∧ (recs H B k).length ≤ 20000 ∧ Below w.heap.size w wr) (fun _ _ i _ => H.length - (intOf i).toNat)
    case atStart => exact ⟨0, Nat.zero_le _, rfl, by rw [show recs H B 0 = [] from rfl, moreS_nil (by omega)]; rfl, World.ownsRow_nil _ _ _ _, by simp [recs], Below.refl _ _⟩
    case round =>
      clear d1 d2 d3
      obtain ⟨k, hk, rfl, rfl, hown, hlen, hbw⟩ := hrel
      unfold rv
      by_cases hlt : k < H.length
      · have hltB : k < B.length := by rw [HBH.out]; exact hlt
        obtain ⟨b1, o1, rfl, hb1, hc1, hr1⟩ := r1.at_ hlt
        obtain ⟨b2, o2, rfl, hb2, hc2, hr2⟩ := r2.at_ hltB
        have hm1 := hh _ (List.getElem_mem hlt)
        have hm2 := hb _ (List.getElem_mem hltB)
        have HR : Hid (recs H B (k + 1) = (recs H B k ++ H[k].2.2) ++ B[k].2.2) := by
          show (recs H B k ++ pcAt H k) ++ pcAt B k = _
          rw [pcAt_eq hlt, pcAt_eq hltB]
        obtain ⟨A, c', e1, _⟩ := own_form hown
        subst e1
        generalize H[k].2.2 = hd at *
        generalize H[k].2.1 = chd at *
        generalize H[k].1 = Ahd at *
        generalize B[k].2.2 = bd at *
        generalize B[k].2.1 = cbd at *
        generalize B[k].1 = Abd at *
        generalize recs H B k = R at *
        have HC1 : Hid (∀ u : World, Below w.heap.size w u → u.cell? ⟨b1, o1 + k, none⟩ = some (.slice Ahd hd.length chd)) := fun u hu => (hu.cell hb1).trans hc1
        have HC2 : Hid (∀ u : World, Below w.heap.size w u → u.cell? ⟨b2, o2 + k, none⟩ = some (.slice Abd bd.length cbd)) := fun u hu => (hu.cell hb2).trans hc2
        have HD1 : Hid (∀ u : World, Below w.heap.size w u → Rd u 0 w.heap.size Ahd hd) := fun u hu => hr1.below hu (Nat.le_refl _)
        have HD2 : Hid (∀ u : World, Below w.heap.size w u → Rd u 0 w.heap.size Abd bd) := fun u hu => hr2.below hu (Nat.le_refl _)
        clear hc1 hc2 hr1 hr2 r1 r2 hh hb
        have i1 : (0 : Int) ≤ (k : Int) := by omega
        have i2 : (k : Int) < (H.length : Int) := by omega
        have i3 : (k : Int) < (B.length : Int) := by omega
        have hc1' : ∀ m, (wr.drewN m).cell? ⟨b1, o1 + k, none⟩ = some (.slice Ahd hd.length chd) := fun m => HC1.out _ (below_drewN hbw m)
        have hc2' : ∀ m, (wr.drewN m).cell? ⟨b2, o2 + k, none⟩ = some (.slice Abd bd.length cbd) := fun m => HC2.out _ (below_drewN hbw m)
        obtain ⟨g40, hg40⟩ : ∃ g : Bool, decide ((20000 : Int) < (R.length : Int) + (hd.length : Int) + (bd.length : Int)) = g := ⟨_, rfl⟩
        have HG := Lib.hid hg40
        have wA : IntKind.i64.wrap ((R.length : Int) + (hd.length : Int)) = (R.length : Int) + (hd.length : Int) := IntWalk.i64_in _ (by omega)
        have wB : IntKind.i64.wrap ((R.length : Int) + (hd.length : Int) + (bd.length : Int)) = (R.length : Int) + (hd.length : Int) + (bd.length : Int) := IntWalk.i64_in _ (by omega)
        go_wp2_with fail
        go_quiet (fail)
        clear wA wB hc1' hc2' hg40
        rcases g40 with _ | _
        · have hsum : R.length + hd.length + bd.length ≤ 20000 := by have := of_decide_eq_false HG.out; omega
          clear HG
          have hownq : (wr.drewN nq).ownsRow w.heap.size 5 1 (.slice A R.length c') R.length (R.map bv) := hown
          have hbq := below_drewN hbw nq
          clear hown hbw
          generalize wr.drewN nq = wq at *
          have H0 := Lib.hid hownq.drew
          have hb0 := hbq.drew
          have hs0 : w.heap.size ≤ wq.drew.heap.size := hbq.size
          have k0 := HC1.out _ hb0
          have k0' := HC2.out _ hb0
          clear hownq
          go_wp2_with fail
          go_region_held3 (fun u => u.cell? ⟨b1, o1 + k, none⟩ = some (.slice Ahd hd.length chd) ∧ u.cell? ⟨b2, o2 + k, none⟩ = some (.slice Abd bd.length cbd)) (first | exact ⟨k0, k0'⟩ | exact ⟨k2, k2'⟩ | exact ⟨k1, k1'⟩)
            (first
              | (refine step_append_rd _ rfl (.tmp 42) (.tmp 46) _ rfl w.heap.size 5 i0 _ Try.underlying24 hi0 hz0 hz1 hz2 rfl (.slice A R.length c') _ _ (by simp [Act.eval]) H0.out 0 w.heap.size Ahd chd hd.length hd rfl (by simp [Act.eval]) (HD1.out _ hb0) (by omega) hs0 ?_; intro v1 w1 hown1 hg1; have H1 := Lib.hid hown1; have bb1 := hb0.grown hg1 hs0 (fun g hg => (H0.out.lt g hg).1); have k1 := HC1.out _ bb1; have k1' := HC2.out _ bb1; clear hown1 hg1)
              | (refine step_append_rd _ rfl (.tmp 47) (.tmp 51) _ rfl w.heap.size 5 i0 _ Try.underlying24 hi0 hz0 hz1 hz2 rfl v1 _ _ (by simp [Act.eval]) H1.out 0 w.heap.size Abd cbd bd.length bd rfl (by simp [Act.eval]) (HD2.out _ bb1) (by omega) bb1.size ?_; intro v2 w2 hown2 hg2; have H2 := Lib.hid hown2; have bb2 := bb1.grown hg2 bb1.size (fun g hg => (H1.out.lt g hg).1); have k2 := HC1.out _ bb2; have k2' := HC2.out _ bb2; clear hown2 hg2))
          clear k0 k0' k1 k1' k2 k2' H0 H1 bb1 hb0 hs0 hbq
          have bb3 := bb2.drew
          have hs3 : w.heap.size ≤ w2.drew.heap.size := bb2.size
          have H2d := Lib.hid H2.out.drew
          have k0 := HC1.out _ bb3
          have k0' := HC2.out _ bb3
          have HN := Lib.hid (World.ownsRow_nil w2.drew w2.drew.heap.size 5 1)
          clear bb2 H2
          go_wp2_with fail
          go_region_held3 (fun u => u.cell? ⟨b1, o1 + k, none⟩ = some (.slice Ahd hd.length chd) ∧ u.cell? ⟨b2, o2 + k, none⟩ = some (.slice Abd bd.length cbd)) (first | exact ⟨k0, k0'⟩ | exact ⟨k2, k2'⟩ | exact ⟨k1, k1'⟩)
            (first
              | (refine step_append_rd _ rfl (.const (.slice none 0 0)) (.tmp 56) _ rfl w2.drew.heap.size 5 i0 _ Try.underlying24 hi0 hz0 hz1 hz2 rfl (.slice none 0 0) 0 [] (by simp [Act.eval]) HN.out 0 w.heap.size Ahd chd hd.length hd rfl (by simp [Act.eval]) (HD1.out _ bb3) (by omega) (Nat.le_refl _) ?_; intro v3 w3 hown3 hg3; have H3 := Lib.hid hown3; have H23 := Lib.hid (H2d.out.kept hg3 (own_apart_nil H2d.out)); have bb4 := bb3.grown hg3 hs3 (fun g hg => by cases hg); have hs4 := Lib.hid hg3.size; have k1 := HC1.out _ bb4; have k1' := HC2.out _ bb4; clear hown3 hg3)
              | (refine step_append_rd _ rfl (.tmp 57) (.tmp 61) _ rfl w2.drew.heap.size 5 i0 _ Try.underlying24 hi0 hz0 hz1 hz2 rfl v3 _ _ (by simp [Act.eval]) H3.out 0 w.heap.size Abd cbd bd.length bd rfl (by simp [Act.eval]) (HD2.out _ bb4) (by omega) hs4.out ?_; intro v4 w4 hown4 hg4; have H4 := Lib.hid hown4; have H24 := Lib.hid (H23.out.kept hg4 (own_apart H2d.out H3.out)); have bb5 := bb4.grown hg4 bb4.size (fun g hg => Nat.le_trans hs3 (H3.out.lt g hg).1); have k2 := HC1.out _ bb5; have k2' := HC2.out _ bb5; clear hown4 hg4))
          clear k0 k0' k1 k1' k2 k2' H23 H2d HN H3 hs4 bb4 bb3
          obtain ⟨E, hE⟩ : ∃ E, hd ++ bd = E := ⟨_, rfl⟩
          obtain ⟨T, hT⟩ : ∃ T, (R ++ hd) ++ bd = T := ⟨_, rfl⟩
          have O4 : w4.ownsRow w2.drew.heap.size 5 1 v4 E.length (E.map bv) := by
            have := H4.out
            rw [List.nil_append, Nat.zero_add, ← List.map_append, ← List.length_append, hE] at this
            exact this
          have O2 : w4.ownsRow w.heap.size 5 1 v2 T.length (T.map bv) := by
            have := H24.out
            rw [← List.map_append, ← List.map_append, ← List.length_append, ← List.length_append, hT] at this
            exact this
          have hEl : E.length ≤ 20000 := by rw [← hE, List.length_append]; omega
          have hTl : T.length ≤ 20000 := by rw [← hT, List.length_append, List.length_append]; omega
          obtain ⟨A4, c4, e4, _⟩ := own_form O4
          subst e4
          obtain ⟨A5, c5, e5, _⟩ := own_form O2
          subst e5
          obtain ⟨ho4, x1, x2⟩ := Ow.of_own (l := E) O4
          obtain ⟨ho5, x3, x4⟩ := Ow.of_own (l := T) O2
          clear x1 x2 x3 x4 O4 H4 H24
          obtain ⟨S0, hS0⟩ : ∃ S0, moreS 0 R = S0 := ⟨_, rfl⟩
          obtain ⟨S1, hS1⟩ : ∃ S1, moreS S0 hd = S1 := ⟨_, rfl⟩
          obtain ⟨S2, hS2⟩ : ∃ S2, moreS S1 bd = S2 := ⟨_, rfl⟩
          obtain ⟨Z, hZ⟩ : ∃ Z, moreS 0 E = Z := ⟨_, rfl⟩
          have hS0l : S0 < 4294967296 := by rw [← hS0]; exact moreS_lt _ _
          have hS1l : S1 < 4294967296 := by rw [← hS1]; exact moreS_lt _ _
          have hTS : moreS 0 T = S2 := by rw [← hT, moreS_append, moreS_append, hS0, hS1, hS2]
          have HS2 := Lib.hid (fun (u : World) (hu : Below w.heap.size w u) => sum2 Ahd Abd chd cbd hd.length bd.length hd bd u rfl rfl ((HD1.out u hu).wide (Nat.le_refl _) hu.size) ((HD2.out u hu).wide (Nat.le_refl _) hu.size) (by omega) (by omega))
          have HRS := Lib.hid (fun (u : World) (hu : Below w4.heap.size w4 u) => refSum_any A4 c4 E u u.heap.size (((ho4.rd.wide (Nat.zero_le _) (Nat.le_refl _)).below hu (Nat.le_refl _)).wide (Nat.le_refl _) hu.size) (by omega))
          have HRT := Lib.hid (fun (u : World) (hu : Below w4.heap.size w4 u) => refSum_any A5 c5 T u u.heap.size (((ho5.rd.wide (Nat.zero_le _) (Nat.le_refl _)).below hu (Nat.le_refl _)).wide (Nat.le_refl _) hu.size) (by omega))
          have HST := Lib.hid (fun (u : World) (hu : Below w4.heap.size w4 u) => sum1 A5 c5 T.length T u rfl (((ho5.rd.wide (Nat.zero_le _) (Nat.le_refl _)).below hu (Nat.le_refl _)).wide (Nat.le_refl _) hu.size) (by omega))
          have HM1 := Lib.hid (fun (u : World) (hu : Below w.heap.size w u) => more_any S0 Ahd chd hd u hS0l ((HD1.out u hu).wide (Nat.le_refl _) hu.size) (by omega))
          have HM2 := Lib.hid (fun (u : World) (hu : Below w.heap.size w u) => more_any S1 Abd cbd bd u hS1l ((HD2.out u hu).wide (Nat.le_refl _) hu.size) (by omega))
          rw [hE, hZ] at HS2
          rw [hZ] at HRS
          rw [hTS] at HRT HST
          rw [hS1] at HM1
          rw [hS2] at HM2
          rw [hS0]
          unfold rv at HS2 HRS HRT HST HM1 HM2
          have HO2 := Lib.hid O2
          have HTT := Lib.hid hT
          have HTS := Lib.hid hTS
          clear hE hT hS0 hS1 hS2 hZ hTS ho4 ho5 O2 HD1 HD2
          have b40 := (Below.refl w4.heap.size w4).drew
          have bb6 := bb5.drew
          have k0 := HC1.out _ bb6
          have k0' := HC2.out _ bb6
          have bb7 := bb6.alloc (show w.heap.size ≤ w4.drew.heap.size from bb5.size) (.cells #[.slice Ahd hd.length chd, .slice Abd bd.length cbd] 24)
          have k1 := HC1.out _ bb7
          have k1' := HC2.out _ bb7
          go_wp2_with fail
          go_region_held3 (fun u => u.cell? ⟨b1, o1 + k, none⟩ = some (.slice Ahd hd.length chd) ∧ u.cell? ⟨b2, o2 + k, none⟩ = some (.slice Abd bd.length cbd)) (first | exact ⟨k0, k0'⟩ | exact ⟨k1, k1'⟩ | exact ⟨k2, k2'⟩)
            (first
              | (go_at_call 9; (refine (HS2.out w4.drew bb6).mono ?_); rintro e w6 ⟨rfl, b6⟩; have b46 := Lib.hid (b40.trans b6); have bb8 := bb6.trans (b6.mono bb6.size); have k2 := HC1.out _ bb8; have k2' := HC2.out _ bb8; clear b6)
              | (go_at_call 10; (with_reducible refine (HRS.out _ b46.out).mono ?_); rintro e w7 ⟨rfl, rfl⟩))
          clear k0 k0' k1 k1' k2 k2' bb7 b40 bb6 HS2 HRS
          have bb9 := bb8.drew
          have b49 := b46.out.drew
          have k0 := HC1.out _ bb9
          have k0' := HC2.out _ bb9
          clear b46
          go_wp2_with fail
          go_region_held3 (fun u => u.cell? ⟨b1, o1 + k, none⟩ = some (.slice Ahd hd.length chd) ∧ u.cell? ⟨b2, o2 + k, none⟩ = some (.slice Abd bd.length cbd)) (first | exact ⟨k0, k0'⟩ | exact ⟨k2, k2'⟩ | exact ⟨k1, k1'⟩)
            (first
              | (go_at_call 11; (with_reducible refine (HM1.out _ bb9).mono ?_); rintro e w8 ⟨rfl, b8⟩; have b48 := Lib.hid (b49.trans (b8.mono b49.size)); have bb10 := bb9.trans (b8.mono bb9.size); have k1 := HC1.out _ bb10; have k1' := HC2.out _ bb10; clear b8)
              | (go_at_call 11; (with_reducible refine (HM2.out _ bb10).mono ?_); rintro e w9 ⟨rfl, b9⟩; have b410 := Lib.hid (b48.out.trans (b9.mono b48.out.size)); have bb11 := bb10.trans (b9.mono bb10.size); have k2 := HC1.out _ bb11; have k2' := HC2.out _ bb11; clear b9))
          clear k0 k0' k1 k1' k2 k2' bb8 bb9 bb10 b48 b49 HM1 HM2
          go_wp2_with fail
          refine (HRT.out _ b410.out).mono ?_
          rintro e w10 ⟨rfl, rfl⟩
          go_wp2_with fail
          refine (HST.out _ b410.out).mono ?_
          rintro e w11 ⟨rfl, b11⟩
          have b411 := b410.out.trans (b11.mono b410.out.size)
          have bb12 := bb11.trans (b11.mono bb11.size)
          have hfin := own_below HO2.out b411
          clear b410 b11 bb11 HRT HST b411
          go_wp2_with fail
          refine ⟨⟨k + 1, by omega, by go_num, ?_, ?_, ?_, bb12⟩, by simp [intOf]; omega⟩
          · rw [HR.out, HTT.out, HTS.out]
          · rw [HR.out, HTT.out]
            exact hfin
          · rw [HR.out, HTT.out]
            exact hTl
        · clear HG
          go_wp2_with (go_at_call 8; refine (known_any _).mono ?_; rintro e w3 ⟨rfl, hb3⟩)
          go_ret
          have hbq := below_drewN hbw nq
          exact ⟨rfl, hbq.trans (hb3.mono hbq.size)⟩
      · obtain rfl : k = H.length := by omega
        clear hown hh hb r1 r2
        go_wp2_with (go_at_call 8; refine (known_any _).mono ?_; rintro e w3 ⟨rfl, hb3⟩)
        go_ret
        exact ⟨rfl, hbw.trans (hb3.mono hbw.size)⟩
end Go.Proofs.Ytodfpgbgcenbgaa
