/- The reference's MayOp, MayHeader, Op, Header, NameText. -/
import Derived.Test.YtaoddppkijopmaaHoKit
import Derived.Test.YtaoddppkijopmaaCdRMayV
import Derived.Test.YtaoddppkijopmaaEqRow
import Derived.Test.YtaoddppkijopmaaCdOp0
import Derived.Test.YtaoddppkijopmaaCode
import Derived.Test.YtaoddppkijopmaaCdRJoin
import Derived.Test.YtaoddppkijopmaaCdRVote
import Derived.Test.YtaoddppkijopmaaApM
import Derived.Test.YtaoddppkijopmaaCdTake
import Derived.Lib.SlBytesConst
namespace Go.Proofs.Ytaoddppkijopmaa
open Go.ChangeShapes Go.WideShapes Go.ChangeAt Go.RowKit
set_option linter.unusedVariables false
set_option maxRecDepth 100000

theorem zeros_lit : hashV zeros = (#[.int .u8 0, .int .u8 0, .int .u8 0, .int .u8 0, .int .u8 0, .int .u8 0, .int .u8 0, .int .u8 0, .int .u8 0, .int .u8 0, .int .u8 0, .int .u8 0, .int .u8 0, .int .u8 0, .int .u8 0, .int .u8 0, .int .u8 0, .int .u8 0, .int .u8 0, .int .u8 0, .int .u8 0, .int .u8 0, .int .u8 0, .int .u8 0, .int .u8 0, .int .u8 0, .int .u8 0, .int .u8 0, .int .u8 0, .int .u8 0, .int .u8 0, .int .u8 0] : Array Value) := by kernel_rfl
theorem eq_key (a b : List UInt8) (ha : a.length = 32) (hb : b.length = 32) (w : World) : (Op.equalIn 10000 23 (.agg (hashV a)) (.agg (hashV b))).run Try.prog w = .ok (a == b) w := eq_row 32 23 Try.underlying23 a b ha hb w
noncomputable def rmo_r1C : Code := ((Try.f19.body.bind (regionOf 1))).getD .skip
set_option maxRecDepth 1000000 in
set_option maxHeartbeats 16000000 in
theorem rmo_r1 (sl0 sl2 sl3 sl4 sl5 sl6 sl7 sl8 sl9 sl10 sl11 sl12 sl13 sl14 sl15 sl16 sl17 sl18 sl19 sl20 sl21 sl22 sl23 sl24 sl25 sl26 sl27 sl28 sl29 sl30 sl31 sl32 sl33 sl34 sl35 sl36 sl37 sl38 sl39 sl40 sl41 sl42 sl43 sl44 sl45 sl46 sl47 sl48 sl49 sl50 sl51 sl52 sl53 sl54 sl55 sl56 sl57 sl58 sl59 sl60 sl61 sl62 sl63 sl64 sl65 sl66 sl67 sl68 sl69 sl70 sl71 sl72 sl73 sl74 sl75 sl76 sl77 sl78 sl79 sl80 sl81 sl82 sl83 sl84 sl85 sl86 sl87 : Value) (w : World) (x st : Nat) (key : List UInt8) (hkey : key.length = 32) (hst : st < 18446744073709551616) (k1 : w.rangeAt x 1 (hsC key)) (k2 : w.cell? ⟨x, 33, none⟩ = some (.int .u64 (st : Int)))
    (Q : Exit → Act → World → Prop) (hQ : ∀ (u4 u5 u6 u7 u8 u9 u10 u11 u12 : Value) (w' : World), w' = w → Q .normal ⟨#[sl0, .pointer (some ⟨x, 0, none⟩), sl2, .bool (decide (key = zeros) && decide (st = 0)), u4, u5, u6, u7, u8, u9, u10, u11, u12, sl13, sl14, sl15, sl16, sl17, sl18, sl19, sl20, sl21, sl22, sl23, sl24, sl25, sl26, sl27, sl28, sl29, sl30, sl31, sl32, sl33, sl34, sl35, sl36, sl37, sl38, sl39, sl40, sl41, sl42, sl43, sl44, sl45, sl46, sl47, sl48, sl49, sl50, sl51, sl52, sl53, sl54, sl55, sl56, sl57, sl58, sl59, sl60, sl61, sl62, sl63, sl64, sl65, sl66, sl67, sl68, sl69, sl70, sl71, sl72, sl73, sl74, sl75, sl76, sl77, sl78, sl79, sl80, sl81, sl82, sl83, sl84, sl85, sl86, sl87], []⟩ w') :
    Code.wp Try.prog rmo_r1C Q ⟨#[sl0, .pointer (some ⟨x, 0, none⟩), sl2, sl3, sl4, sl5, sl6, sl7, sl8, sl9, sl10, sl11, sl12, sl13, sl14, sl15, sl16, sl17, sl18, sl19, sl20, sl21, sl22, sl23, sl24, sl25, sl26, sl27, sl28, sl29, sl30, sl31, sl32, sl33, sl34, sl35, sl36, sl37, sl38, sl39, sl40, sl41, sl42, sl43, sl44, sl45, sl46, sl47, sl48, sl49, sl50, sl51, sl52, sl53, sl54, sl55, sl56, sl57, sl58, sl59, sl60, sl61, sl62, sl63, sl64, sl65, sl66, sl67, sl68, sl69, sl70, sl71, sl72, sl73, sl74, sl75, sl76, sl77, sl78, sl79, sl80, sl81, sl82, sl83, sl84, sl85, sl86, sl87], []⟩ w := by
  conv => arg 2; whnf
  try dsimp only at hQ ⊢
  have HQ := Lib.hid (hQ)
  obtain ⟨KH, hKH⟩ : ∃ K, K = hashV key := ⟨_, rfl⟩
  obtain ⟨b, hb⟩ : ∃ b, b = (key == zeros) := ⟨_, rfl⟩
  have heq : ∀ u : World, (Op.equalIn 10000 23 (.agg KH) (.agg (#[.int .u8 0, .int .u8 0, .int .u8 0, .int .u8 0, .int .u8 0, .int .u8 0, .int .u8 0, .int .u8 0, .int .u8 0, .int .u8 0, .int .u8 0, .int .u8 0, .int .u8 0, .int .u8 0, .int .u8 0, .int .u8 0, .int .u8 0, .int .u8 0, .int .u8 0, .int .u8 0, .int .u8 0, .int .u8 0, .int .u8 0, .int .u8 0, .int .u8 0, .int .u8 0, .int .u8 0, .int .u8 0, .int .u8 0, .int .u8 0, .int .u8 0, .int .u8 0] : Array Value))).run Try.prog u = .ok b u := fun u => by rw [hKH, ← zeros_lit, hb]; exact eq_key key zeros hkey zeros_len u
  have HSZ : Hid ((Try.prog.info? 23).map (·.size) = some KH.size) := by rw [hKH]; exact size_hashVW _
  have HAR : Hid ((hsC key).toArray = KH) := hKH.symm
  have K1 := Lib.hid k1
  have hd : decide (key = zeros) = b := by rw [hb, Bool.eq_iff_iff, decide_eq_true_eq, beq_iff_eq]
  rw [hd] at HQ
  clear hQ hKH hb k1 hkey hd
  cases b
  · rw [Bool.false_and] at HQ
    go_wp2_with (first
      | (refine wpList_load_mid rfl 23 (.tmp 4) rfl x 1 (by go_simp) (hsC key) _ K1.out Try.underlying23 rfl (by rw [← List.size_toArray, HAR.out]; exact HSZ.out) ?_; rw [HAR.out])
      | fail)
    exact HQ.out _ _ _ _ _ _ _ _ _ _ rfl
  · by_cases h0 : st = 0
    · subst h0
      rw [show (true && decide ((0 : Nat) = 0)) = true from rfl] at HQ
      go_wp2_with (first
        | (refine wpList_load_mid rfl 23 (.tmp 4) rfl x 1 (by go_simp) (hsC key) _ K1.out Try.underlying23 rfl (by rw [← List.size_toArray, HAR.out]; exact HSZ.out) ?_; rw [HAR.out])
          | fail)
      exact HQ.out _ _ _ _ _ _ _ _ _ _ rfl
    · have d0 : decide (st = 0) = false := by simpa using h0
      have d1 : ((st : Int) == 0) = false := by rw [beq_eq_false_iff_ne]; omega
      rw [d0, show (true && false) = false from rfl] at HQ
      go_wp2_with (first
        | (refine wpList_load_mid rfl 23 (.tmp 4) rfl x 1 (by go_simp) (hsC key) _ K1.out Try.underlying23 rfl (by rw [← List.size_toArray, HAR.out]; exact HSZ.out) ?_; rw [HAR.out])
          | fail)
      exact HQ.out _ _ _ _ _ _ _ _ _ _ rfl
theorem Ho.may_1 {o : Ho} (h : o.k = 1) : o.may = (decide (o.n = 0) && decide (o.ev.length = 0) && (decide (1 ≤ o.st) && decide (o.st ≤ 4294967296))) := by unfold Ho.may; rw [if_pos h]
theorem Ho.may_2 {o : Ho} (h : o.k = 2) : o.may = (o.bare && decide (o.ev.length = 0) && mayVal o.n) := by unfold Ho.may; rw [if_neg (by omega), if_pos h]
theorem Ho.may_3 {o : Ho} (h : o.k = 3) : o.may = (o.bare && mayVal o.n && decide (o.ev.length = 2) && o.ev.all Ve.may) := by unfold Ho.may; rw [if_neg (by omega), if_neg (by omega), if_pos h]
theorem Ho.may_0 {o : Ho} (h1 : o.k ≠ 1) (h2 : o.k ≠ 2) (h3 : o.k ≠ 3) : o.may = false := by unfold Ho.may; rw [if_neg h1, if_neg h2, if_neg h3]
set_option maxRecDepth 1000000 in
set_option maxHeartbeats 16000000 in
theorem refMayOp_c (o : Ho) (B : Option Addr) (c : Nat) (w : World) (hE : VesAt w B o.ev) :
    Calls Try.prog 19 #[.agg (o.v B c)] w fun e w' => e = .returned (.bool o.may) ∧ Below w.heap.size w w' := by
  obtain ⟨m, hm⟩ : ∃ m, m = o.ev.length := ⟨_, rfl⟩
  obtain ⟨W, hW⟩ : ∃ W, W = w.alloc (.cells (opV o.k o.key o.st o.n (.slice B m c)) 53) := ⟨_, rfl⟩
  have hb : Below w.heap.size w W := by rw [hW]; exact (Below.refl _ _).alloc (Nat.le_refl _) _
  have h0 : OpB w.heap.size o.k o.key o.st o.n (.slice B m c) W := by rw [hW]; exact OpB.new
  have k0 := h0.kind
  have k2 := h0.stake
  have k3 := h0.val
  have k4 := h0.ev
  obtain ⟨x, hx⟩ : ∃ x, x = w.heap.size := ⟨_, rfl⟩
  rw [← hx] at k0 k2 k3 k4
  have K1 := Lib.hid (show W.rangeAt x 1 (hsC o.key) by rw [hx]; exact h0.key)
  have HV := Lib.hid (show o.v B c = opV o.k o.key o.st o.n (.slice B m c) by rw [hm]; rfl)
  have HE := Lib.hid (hE.below hb)
  have HB := Lib.hid hb
  have HW := Lib.hid hW
  have HM := Lib.hid hm
  have HX := Lib.hid hx
  have HK := Lib.hid o.hk
  have HS := Lib.hid o.hs
  obtain ⟨r, hr⟩ : ∃ r, r = o.may := ⟨_, rfl⟩
  obtain ⟨k, hk⟩ : ∃ k, k = o.k := ⟨_, rfl⟩
  obtain ⟨n, hn⟩ : ∃ n, n = o.n := ⟨_, rfl⟩
  obtain ⟨st, hst⟩ : ∃ st, st = o.st := ⟨_, rfl⟩
  obtain ⟨bare, hbare⟩ : ∃ b, b = o.bare := ⟨_, rfl⟩
  have HBA := Lib.hid (show (decide (o.key = zeros) && decide (o.st = 0)) = bare by rw [hbare]; rfl)
  have M1 := Lib.hid (fun h => Ho.may_1 (o := o) h)
  have M2 := Lib.hid (fun h => Ho.may_2 (o := o) h)
  have M3 := Lib.hid (fun h => Ho.may_3 (o := o) h)
  have M0 := Lib.hid (fun h => Ho.may_0 (o := o) h)
  rw [← hr, ← hk, ← hn, ← hst, ← hm] at M1
  rw [← hr, ← hk, ← hn, ← hm, ← hbare] at M2
  rw [← hr, ← hk, ← hn, ← hm, ← hbare] at M3
  rw [← hr, ← hk] at M0
  rw [← hk] at k0
  rw [← hst] at k2
  rw [← hst] at HBA
  rw [← hn] at k3
  rw [HV.out]
  rw [← hr]
  have HST := Lib.hid hst
  rw [← hk, ← hst, ← hn] at HW ⊢
  clear h0 hb hE hW hr hk hn hst hm hbare
  go_enter Try.func19, Try.ntmps19
  go_upto_region 1 with fail
  rw [← HW.out, ← hx]
  clear hx
  refine rmo_r1 _ _ _ _ _ _ _ _ _ _ _ _ _ _ _ _ _ _ _ _ _ _ _ _ _ _ _ _ _ _ _ _ _ _ _ _ _ _ _ _ _ _ _ _ _ _ _ _ _ _ _ _ _ _ _ _ _ _ _ _ _ _ _ _ _ _ _ _ _ _ _ _ _ _ _ _ _ _ _ _ _ _ _ _ _ _ _ W x st o.key HK.out (by rw [HST.out]; exact HS.out) K1.out k2 _ ?_
  intro t4 t5 t6 t7 t8 t9 t10 t11 t12 W' eW
  obtain rfl : W' = W := eW
  dsimp only
  rw [HBA.out]
  by_cases h1 : k = 1
  · subst h1
    have M := Lib.hid (M1.out rfl)
    clear M1 M2 M3 M0 HBA
    by_cases en : n = 0
    · subst en
      skip
      by_cases em : m = 0
      · subst em
        skip
        by_cases pst : 1 ≤ st
        · have gst : decide ((1 : Int) ≤ (st : Int)) = true := by simp; omega
          have gst2 : decide (1 ≤ st) = true := by simp; omega
          skip
          by_cases qst : st ≤ 4294967296
          · have lst : decide ((st : Int) ≤ 4294967296) = true := by simp; omega
            have lst2 : decide (st ≤ 4294967296) = true := by simp; omega
            skip
            have HR := Lib.hid (show r = true by rw [M.out]; simp; try omega)
            go_wp2_with fail
            go_ret
            exact ⟨by rw [HR.out]; rfl, HB.out⟩
          · have lst : decide ((st : Int) ≤ 4294967296) = false := by simp; omega
            have lst2 : decide (st ≤ 4294967296) = false := by simp; omega
            have HR := Lib.hid (show r = false by rw [M.out]; simp; try omega)
            go_wp2_with fail
            go_ret
            exact ⟨by rw [HR.out]; rfl, HB.out⟩
        · have gst : decide ((1 : Int) ≤ (st : Int)) = false := by simp; omega
          have gst2 : decide (1 ≤ st) = false := by simp; omega
          have HR := Lib.hid (show r = false by rw [M.out]; simp; try omega)
          go_wp2_with fail
          go_ret
          exact ⟨by rw [HR.out]; rfl, HB.out⟩
      · have dm : ((m : Int) == 0) = false := by rw [beq_eq_false_iff_ne]; omega
        have HR := Lib.hid (show r = false by rw [M.out]; simp; try omega)
        go_wp2_with fail
        go_ret
        exact ⟨by rw [HR.out]; rfl, HB.out⟩
    · have dn : ((n : Int) == 0) = false := by rw [beq_eq_false_iff_ne]; omega
      have HR := Lib.hid (show r = false by rw [M.out]; simp; try omega)
      go_wp2_with fail
      go_ret
      exact ⟨by rw [HR.out]; rfl, HB.out⟩
  by_cases h2 : k = 2
  · subst h2
    have M := Lib.hid (M2.out rfl)
    clear M1 M2 M3 M0 HBA
    have e1 : ((2 : Int) == 1) = false := by decide
    cases bare
    · have HR := Lib.hid (show r = false by rw [M.out]; rfl)
      go_wp2_with fail
      go_ret
      exact ⟨by rw [HR.out]; rfl, HB.out⟩
    · skip
      by_cases em : m = 0
      · subst em
        skip
        by_cases pn : 1 ≤ n
        · have gn : decide ((1 : Int) ≤ (n : Int)) = true := by simp; omega
          skip
          by_cases qn : n ≤ 64
          · have ln : decide ((n : Int) ≤ 64) = true := by simp; omega
            skip
            have HR := Lib.hid (show r = true by rw [M.out]; simp [mayVal]; try omega)
            go_wp2_with fail
            go_ret
            exact ⟨by rw [HR.out]; rfl, HB.out⟩
          · have ln : decide ((n : Int) ≤ 64) = false := by simp; omega
            have HR := Lib.hid (show r = false by rw [M.out]; simp [mayVal]; try omega)
            go_wp2_with fail
            go_ret
            exact ⟨by rw [HR.out]; rfl, HB.out⟩
        · have gn : decide ((1 : Int) ≤ (n : Int)) = false := by simp; omega
          have HR := Lib.hid (show r = false by rw [M.out]; simp [mayVal]; try omega)
          go_wp2_with fail
          go_ret
          exact ⟨by rw [HR.out]; rfl, HB.out⟩
      · have dm : ((m : Int) == 0) = false := by rw [beq_eq_false_iff_ne]; omega
        have HR := Lib.hid (show r = false by rw [M.out]; simp [mayVal]; try omega)
        go_wp2_with fail
        go_ret
        exact ⟨by rw [HR.out]; rfl, HB.out⟩
  by_cases h3 : k = 3
  · subst h3
    have M := Lib.hid (M3.out rfl)
    clear M1 M2 M3 M0 HBA
    have e1 : ((3 : Int) == 1) = false := by decide
    have e2 : ((3 : Int) == 2) = false := by decide
    cases bare
    · have HR := Lib.hid (show r = false by rw [M.out]; rfl)
      go_wp2_with fail
      go_ret
      exact ⟨by rw [HR.out]; rfl, HB.out⟩
    · skip
      by_cases pn : 1 ≤ n
      rotate_left
      · have gn : decide ((1 : Int) ≤ (n : Int)) = false := by simp; omega
        have HR := Lib.hid (show r = false by rw [M.out]; simp [mayVal]; try omega)
        go_wp2_with fail
        go_ret
        exact ⟨by rw [HR.out]; rfl, HB.out⟩
      have gn : decide ((1 : Int) ≤ (n : Int)) = true := by simp; omega
      by_cases qn : n ≤ 64
      rotate_left
      · have ln : decide ((n : Int) ≤ 64) = false := by simp; omega
        have HR := Lib.hid (show r = false by rw [M.out]; simp [mayVal]; try omega)
        go_wp2_with fail
        go_ret
        exact ⟨by rw [HR.out]; rfl, HB.out⟩
      have ln : decide ((n : Int) ≤ 64) = true := by simp; omega
      by_cases em : m = 2
      rotate_left
      · have dm : ((m : Int) == 2) = false := by rw [beq_eq_false_iff_ne]; omega
        have HR := Lib.hid (show r = false by rw [M.out]; simp [mayVal]; try omega)
        go_wp2_with fail
        go_ret
        exact ⟨by rw [HR.out]; rfl, HB.out⟩
      subst em
      obtain ⟨v0, v1, hev⟩ : ∃ v0 v1, o.ev = [v0, v1] := by
        have hl := HM.out
        rcases hh : o.ev with _ | ⟨v0, _ | ⟨v1, _ | ⟨v2, l⟩⟩⟩
        · rw [hh] at hl; simp at hl
        · rw [hh] at hl; simp at hl
        · exact ⟨v0, v1, rfl⟩
        · rw [hh] at hl; simp at hl
      have HE2 := HE.out
      rw [hev] at HE2
      obtain ⟨g, q, B0, c0, rfl, hg, r0, s0⟩ := HE2 W' (Below.refl _ _) 0 v0 rfl
      have HE3 := Lib.hid HE2
      have C0 : Hid (∀ u, Calls Try.prog 36 #[.agg (v0.v B0 c0)] u fun x w' => x = .returned (.bool v0.may) ∧ Below u.heap.size u w') := fun u => refMayVote_c v0.n v0.e1 v0.l1 v0.e2 v0.l2 B0 v0.s.length c0 u
      have R0 := Lib.hid r0
      have HR : Hid (r = (v0.may && v1.may)) := by
        have h := M.out
        rw [hev] at h
        show _ = _
        rw [h]
        have : mayVal n = true := by simp [mayVal]; omega
        rw [this]
        simp
      have K4 := Lib.hid k4
      obtain ⟨y0, hy0⟩ : ∃ y, y = v0.may := ⟨_, rfl⟩
      obtain ⟨y1, hy1⟩ : ∃ y, y = v1.may := ⟨_, rfl⟩
      have HY1 := Lib.hid hy1
      rw [← hy0] at C0 HR
      rw [← hy1] at HR
      clear r0 s0 HE2 hev hy0 hy1 hg M HE
      go_wp2_with (first
        | (refine BigFrame.wpList_want rfl (fun K hK => ?_); refine wp_load_midC 32 (.tmp 77) rfl g (q + 0 * 68) (by go_simp) (v0.c B0 c0) (v0.v B0 c0) rfl _ R0.out Try.underlying32 rfl (v0.size B0 c0) ?_; refine hK _ _ ?_; clear hK K)
        | fail)
      refine (C0.out _).mono ?_
      rintro e w2 ⟨rfl, b2⟩
      have B2 := Lib.hid (HB.out.trans (b2.mono HB.out.size))
      cases y0
      · clear b2
        go_wp2_with fail
        go_ret
        exact ⟨by rw [HR.out]; rfl, B2.out⟩
      · have k5 : w2.cell? ⟨x, 35, none⟩ = some (.slice (some ⟨g, q, none⟩) 2 c) := (b2.cell (World.block_lt_of_cell? W' _ K4.out)).trans K4.out
        obtain ⟨g', q', B1, c1, eA, hg, r1, s1⟩ := HE3.out w2 b2 1 v1 rfl
        injection eA with eA
        injection eA with e1 e2 _
        subst e1
        subst e2
        have C1 : Hid (∀ u, Calls Try.prog 36 #[.agg (v1.v B1 c1)] u fun x w' => x = .returned (.bool v1.may) ∧ Below u.heap.size u w') := fun u => refMayVote_c v1.n v1.e1 v1.l1 v1.e2 v1.l2 B1 v1.s.length c1 u
        rw [← HY1.out] at C1
        have R1 := Lib.hid r1
        clear r1 s1 hg b2 k4
        go_wp2_with (first
          | (refine BigFrame.wpList_want rfl (fun K hK => ?_); refine wp_load_midC 32 (.tmp 84) rfl g (q + 1 * 68) (by go_simp) (v1.c B1 c1) (v1.v B1 c1) rfl _ R1.out Try.underlying32 rfl (v1.size B1 c1) ?_; refine hK _ _ ?_; clear hK K)
          | fail)
        refine (C1.out _).mono ?_
        rintro e w3 ⟨rfl, b3⟩
        have B3 := Lib.hid (B2.out.trans (b3.mono B2.out.size))
        go_wp2_with fail
        go_ret
        exact ⟨by rw [HR.out, Bool.true_and]; rfl, B3.out⟩

  have M := Lib.hid (M0.out h1 h2 h3)
  have e1 : (k == 1) = false := by rw [beq_eq_false_iff_ne]; omega
  have e2 : (k == 2) = false := by rw [beq_eq_false_iff_ne]; omega
  have e3 : (k == 3) = false := by rw [beq_eq_false_iff_ne]; omega
  clear h1 h2 h3
  have HR := Lib.hid (show r = false from M.out)
  go_wp2_with fail
  go_ret
  exact ⟨by rw [HR.out]; rfl, HB.out⟩
end Go.Proofs.Ytaoddppkijopmaa
namespace Go.Proofs.Ytaoddppkijopmaa
open Go.ChangeShapes Go.WideShapes Go.ChangeAt Go.RowKit
set_option linter.unusedVariables false
set_option maxRecDepth 100000

set_option maxRecDepth 1000000 in
set_option maxHeartbeats 16000000 in
theorem refMayHeader_c (h : Hd) (A : Option Addr) (c : Nat) (w : World) (hA : HosAt w A h.ops) :
    Calls Try.prog 17 #[.agg (h.v A c)] w fun e w' => e = .returned (.bool h.may) ∧ Below w.heap.size w w' := by
  obtain ⟨n, hn⟩ : ∃ n, n = h.ops.length := ⟨_, rfl⟩
  obtain ⟨W, hW⟩ : ∃ W, W = w.alloc (.cells (hdV h.par h.ep (.slice A n c)) 27) := ⟨_, rfl⟩
  have hb : Below w.heap.size w W := by rw [hW]; exact (Below.refl _ _).alloc (Nat.le_refl _) _
  have h0 : HdB w.heap.size h.par h.ep (.slice A n c) W := by rw [hW]; exact HdB.new
  have k1 := h0.epoch
  have k2 := h0.ops
  have lt := h0.lt
  obtain ⟨x, hx⟩ : ∃ x, x = w.heap.size := ⟨_, rfl⟩
  rw [← hx] at k1 k2 lt
  have HX := Lib.hid hx
  have HV := Lib.hid (show h.v A c = hdV h.par h.ep (.slice A n c) by rw [hn]; rfl)
  obtain ⟨r, hr⟩ : ∃ r, r = h.may := ⟨_, rfl⟩
  have M := Lib.hid (show r = (decide (1 ≤ h.ep) && decide (h.ep ≤ 4611686018427387904) && decide (n ≤ 16) && h.ops.all Ho.may) by rw [hr, hn]; rfl)
  obtain ⟨ep, hep⟩ : ∃ ep, ep = h.ep := ⟨_, rfl⟩
  obtain ⟨L, hL⟩ : ∃ L, L = h.ops := ⟨_, rfl⟩
  rw [← hep] at k1 M
  rw [← hL] at M hA hn
  have HA := Lib.hid (hA.below hb)
  have HB := Lib.hid hb
  have HN := Lib.hid hn
  rw [HV.out, ← hr, ← hep]
  rw [← hep] at hW
  have HW := Lib.hid hW
  clear h0 hb hA hW hn hr hep hL
  go_enter Try.func17, Try.ntmps17
  go_upto_region 1 with fail
  rw [← HW.out, ← hx]
  clear hx
  by_cases p1 : 1 ≤ ep
  rotate_left
  · have g1 : decide ((ep : Int) < 1) = true := by simp; omega
    have g2 : decide (ep < 1) = true := by simp; omega
    have HR := Lib.hid (show r = false by rw [M.out]; simp; omega)
    go_wp2_with fail
    go_ret
    exact ⟨by rw [HR.out]; rfl, HB.out⟩
  have g1 : decide ((ep : Int) < 1) = false := by simp; omega
  have g2 : decide (ep < 1) = false := by simp; omega
  by_cases p2 : ep ≤ 4611686018427387904
  rotate_left
  · have l1 : decide (4611686018427387904 < (ep : Int)) = true := by simp; omega
    have l2 : decide (4611686018427387904 < ep) = true := by simp; omega
    have HR := Lib.hid (show r = false by rw [M.out]; simp; omega)
    go_wp2_with fail
    go_ret
    exact ⟨by rw [HR.out]; rfl, HB.out⟩
  have l1 : decide (4611686018427387904 < (ep : Int)) = false := by simp; omega
  have l2 : decide (4611686018427387904 < ep) = false := by simp; omega
  by_cases p3 : n ≤ 16
  rotate_left
  · have q1 : decide ((16 : Int) < (n : Int)) = true := by simp; omega
    have q2 : decide (16 < n) = true := by simp; omega
    have HR := Lib.hid (show r = false by rw [M.out]; simp; omega)
    go_wp2_with fail
    go_ret
    exact ⟨by rw [HR.out]; rfl, HB.out⟩
  have q1 : decide ((16 : Int) < (n : Int)) = false := by simp; omega
  have q2 : decide (16 < n) = false := by simp; omega
  have HR := Lib.hid (show r = L.all Ho.may by rw [M.out]; simp [p1, p2, p3])
  clear M
  go_wp2_with fail
  clear g1 g2 l1 l2 q1 q2
  go_loopw [3] (fun v3 u => ∃ i : Nat, i ≤ n ∧ v3 = .int .i64 (i : Int) ∧ (L.take i).all Ho.may = true ∧ Below W.heap.size W u) (fun v3 _ => n - (intOf v3).toNat)
  case atStart => exact ⟨0, Nat.zero_le _, rfl, rfl, Below.refl _ _⟩
  case round =>
    obtain ⟨i, hi, rfl, ha, bx⟩ := hrel
    have k3 : wr.cell? ⟨x, 33, none⟩ = some (.slice A n c) := (bx.cell lt).trans k2
    have AL := Lib.hid ha
    have BX := Lib.hid bx
    clear ha bx
    by_cases hin : i < n
    · obtain ⟨o, ho⟩ : ∃ o, L[i]? = some o := ⟨_, List.getElem?_eq_getElem (by have := HN.out; omega)⟩
      obtain ⟨g, q, B, d, rfl, hg, hrr, hv⟩ := HA.out wr BX.out i o ho
      have CO := Lib.hid (refMayOp_c o B d wr hv)
      have RR := Lib.hid hrr
      have HO := Lib.hid ho
      have t1 : (i : Int) < (n : Int) := by omega
      clear hrr hv ho hg
      go_wp2_with (first
        | (refine wpList_load_mid rfl 53 (.tmp 28) rfl g (q + i * 36) (by go_simp) (o.c B d) _ RR.out Try.underlying53 rfl (by rw [Ho.c_len]; exact size_op) ?_; rw [Ho.c_arr])
        | fail)
      refine CO.out.mono ?_
      rintro e w2 ⟨rfl, b2⟩
      have B2 := Lib.hid (BX.out.trans (b2.mono BX.out.size))
      have tk : L.take (i + 1) = L.take i ++ [o] := by rw [List.take_add_one, HO.out]; rfl
      have TK := Lib.hid tk
      obtain ⟨y, hy⟩ : ∃ y, y = o.may := ⟨_, rfl⟩
      have HY := Lib.hid hy
      rw [← hy]
      clear b2 tk hy CO
      cases y
      · have HF := Lib.hid (show r = false by
          rw [HR.out, Bool.eq_false_iff]
          intro h
          rw [List.all_eq_true] at h
          have := h o (List.mem_of_getElem? HO.out)
          rw [← HY.out] at this
          cases this)
        go_wp2_with fail
        go_ret
        exact ⟨by rw [HF.out]; rfl, HB.out.trans (B2.out.mono HB.out.size)⟩
      · go_wp2_with fail
        exact ⟨⟨i + 1, by omega, by go_num, by rw [TK.out, List.all_append, AL.out]; simp [← HY.out], B2.out⟩, by simp [intOf]; omega⟩
    · obtain rfl : i = n := by omega
      have t1 : ¬ (i : Int) < (i : Int) := by omega
      have HF := Lib.hid (show r = true by
        rw [HR.out]
        have h := AL.out
        rw [List.take_of_length_le (by have := HN.out; omega)] at h
        exact h)
      go_wp2_with fail
      go_ret
      exact ⟨by rw [HF.out]; rfl, HB.out.trans (BX.out.mono HB.out.size)⟩
end Go.Proofs.Ytaoddppkijopmaa
namespace Go.Proofs.Ytaoddppkijopmaa
open Go.ChangeShapes Go.WideShapes Go.ChangeAt Go.RowKit
set_option linter.unusedVariables false
set_option maxRecDepth 100000

/-- What Join answers: a slice of its own that reads as all pieces, and may be appended to. -/
def JoinM (l : List UInt8) (w : World) (e : Ending) (w' : World) : Prop := ∃ A c, e = .returned (.slice A l.length c) ∧ OwM w' w.heap.size A l.length c l ∧ Below w.heap.size w w'
theorem bytesRow_sz (s : ByteArray) (c : Nat) (h : s.size ≤ c) : (bytesRow s c).size = c := by
  unfold bytesRow
  rw [Array.size_append, Array.size_map, Array.size_replicate]
  have : s.data.size = s.size := rfl
  omega
theorem bytesRow_tk (l : List UInt8) (c : Nat) : (bytesRow ⟨l.toArray⟩ c).toList.take l.length = l.map bv := by
  unfold bytesRow
  rw [Array.toList_append]
  have e : ((l.toArray.map fun b => Value.int .u8 (b.toNat : Int)).toList) = l.map bv := by simp [bv]
  have e2 : ((ByteArray.mk l.toArray).data.map fun b => Value.int .u8 (b.toNat : Int)).toList = l.map bv := e
  rw [e2, show l.length = (l.map bv).length by simp]
  exact List.take_left
set_option maxRecDepth 100000 in
set_option maxHeartbeats 1000000 in
theorem refJoin_m (A : Option Addr) (c : Nat) (L : List Pc) (w : World) (h : RdL w w.heap.size A L) (hL : L.length ≤ 9223372036854775807) (hl : (flat L).length ≤ 8388608) :
    Calls Try.prog 37 #[.slice A L.length c] w (JoinM (flat L) w) := by
  go_enter Try.func37, Try.ntmps37
  go_wp2_with fail
  go_loop [3, 4] (fun s i => ∃ k : Nat, k ≤ L.length ∧ i = .int .i64 k ∧ s = .string ⟨(flat (L.take k)).toArray⟩) (fun _ i => L.length - (intOf i).toNat)
  case atStart => exact ⟨0, by omega, rfl, rfl⟩
  case round =>
    obtain ⟨k, hk, rfl, rfl⟩ := hrel
    by_cases hlt : k < L.length
    · obtain ⟨b, off, rfl, hb, hc, hr⟩ := h.at_ hlt
      have HS := Lib.hid (flat_take L k hlt)
      have h1 := flat_le L k
      have h2 := flat_le L (k + 1)
      rw [HS.out, List.length_append] at h2
      have kc := run_str (A := L[k].1) (l := L[k].2.2) hr L[k].2.2.length L[k].2.1 rfl
      have ka := fun u => run_string_add_lists (P := Try.prog) (w := u) (flat (L.take k)) L[k].2.2 (by omega) (by omega)
      unfold strOf at kc
      rw [← HS.out] at ka
      go_wp2_with fail
      exact ⟨⟨k + 1, by omega, by go_num, rfl⟩, by simp [intOf]; omega⟩
    · obtain rfl : k = L.length := by omega
      rw [List.take_length]
      have kb := run_bytes_of_string (P := Try.prog) w 9 30 5 ⟨(flat L).toArray⟩ Try.underlying9 Try.underlying30 Try.underlying5
      have hz : (ByteArray.mk (flat L).toArray).size = (flat L).length := by simp [ByteArray.size]
      rw [hz] at kb
      have hge := grownCap_ge w (flat L).length 0 5
      have HOW : Hid (OwM (w.drew.alloc (.cells (bytesRow ⟨(flat L).toArray⟩ (grownCap w (flat L).length 0 5)) 5 ((bytesRow ⟨(flat L).toArray⟩ (grownCap w (flat L).length 0 5)).size, (bytesRow ⟨(flat L).toArray⟩ (grownCap w (flat L).length 0 5)).size + 1))) w.heap.size (some ⟨w.heap.size, 0, none⟩) (flat L).length (grownCap w (flat L).length 0 5) (flat L)) := by
        refine ⟨rfl, w.heap.size, _, _, rfl, Nat.le_refl _, heap_alloc_new w.drew _, .inr (Nat.le_refl _), hge, grownCap_le_maxLen w _ 0 _ (by simp only [maxLen]; omega), ?_, ?_⟩
        · exact bytesRow_sz _ _ (by rw [hz]; exact hge)
        · exact bytesRow_tk _ _
      clear hz
      generalize grownCap w (flat L).length 0 5 = cp at *
      generalize bytesRow ⟨(flat L).toArray⟩ cp = BR at *
      generalize flat L = F at *
      go_wp2_with fail
      go_ret
      exact ⟨_, cp, rfl, HOW.out, (Below.refl _ _).drew.alloc (Nat.le_refl _) _⟩
theorem joinRLm (L : List Pc) (w : World) (C : Array Value) (hC : C = (L.map fun x => Value.slice x.1 x.2.2.length x.2.1).toArray) (hr : ∀ x ∈ L, Rd w 0 w.heap.size x.1 x.2.2) (n : Nat) (hn : n = L.length) (hL : L.length ≤ 9223372036854775807) (hl : (flat L).length ≤ 8388608) :
    Calls Try.prog 37 #[.slice (some ⟨w.heap.size, 0, none⟩) n n] (w.alloc (.cells C 30)) (JoinM (flat L) w) := by
  subst hn
  have hb : Below w.heap.size w (w.alloc (.cells C 30)) := (Below.refl _ _).alloc (Nat.le_refl _) _
  have hh : (w.alloc (.cells C 30)).heap[w.heap.size]? = some (.cells C 30 (0, 0)) := heap_alloc_new w _
  have hsz : (w.alloc (.cells C 30)).heap.size = w.heap.size + 1 := by simp
  have hR : RdL (w.alloc (.cells C 30)) (w.alloc (.cells C 30)).heap.size (some ⟨w.heap.size, 0, none⟩) L := by
    refine ⟨fun _ => ⟨w.heap.size, 0, rfl, by omega, fun j x hx => ?_⟩, fun x hx => ((hr x hx).below hb (Nat.le_refl _)).wide (Nat.le_refl _) (by omega)⟩
    rw [Nat.zero_add, cell_of_row _ w.heap.size j _ _ (0, 0) hh, hC]
    simp [hx]
  refine (refJoin_m (some ⟨w.heap.size, 0, none⟩) L.length L _ hR hL hl).mono ?_
  rintro e w' ⟨A, c, he, ho, hbw⟩
  exact ⟨A, c, he, ho.wide (by omega), hb.trans (hbw.mono (by omega))⟩
end Go.Proofs.Ytaoddppkijopmaa
namespace Go.Proofs.Ytaoddppkijopmaa
open Go.ChangeShapes Go.WideShapes Go.ChangeAt Go.RowKit
set_option linter.unusedVariables false
set_option maxRecDepth 100000

theorem OpB.rdkey {g : Nat} {k : Int} {l : List UInt8} {s : Nat} {v : Int} {sv : Value} {w : World} (h : OpB g k l s v sv w) (hl : l.length = 32) {lo hi : Nat} (h1 : lo ≤ g) (h2 : g < hi) : Rd w lo hi (some ⟨g, 1, none⟩) l := fun _ =>
  ⟨g, 1, rfl, h1, h2, fun j x hx => by
    have hj : j < 32 := by
      rcases Nat.lt_or_ge j 32 with h | h
      · exact h
      · rw [List.getElem?_eq_none (by omega)] at hx; cases hx
    have := Fill.at_ h (1 + j) (by omega)
    rw [this]
    unfold opF
    rw [if_neg (by omega), if_pos (by omega), show 1 + j - 1 = j by omega, List.getD_eq_getElem?_getD, hx]
    rfl⟩
theorem OwM.cap {w : World} {base n c : Nat} {A : Option Addr} {l : List UInt8} (h : OwM w base A n c l) : n ≤ c := by
  obtain ⟨_, _, _, _, _, _, _, _, h4, _⟩ := h
  exact h4
set_option maxRecDepth 1000000 in
set_option maxHeartbeats 16000000 in
theorem refOp1_c (key : List UInt8) (st : Nat) (n : Int) (sv : Value) (w : World) (hkey : key.length = 32) (hst : st < 18446744073709551616) :
    Calls Try.prog 20 #[.agg (opV 1 key st n sv)] w (RNewP w (putL 1 1 ++ (key ++ putL st 8))) := by
  obtain ⟨W, hW⟩ : ∃ W, W = w.alloc (.cells (opV 1 key st n sv) 53) := ⟨_, rfl⟩
  have hb : Below w.heap.size w W := by rw [hW]; exact (Below.refl _ _).alloc (Nat.le_refl _) _
  have h0 : OpB w.heap.size 1 key st n sv W := by rw [hW]; exact OpB.new
  obtain ⟨x, hx⟩ : ∃ x, x = w.heap.size := ⟨_, rfl⟩
  rw [← hx] at h0
  have k0 := h0.kind
  have HB := Lib.hid hb
  have H0 := Lib.hid h0
  have HW := Lib.hid hW
  have HS := Lib.hid hst
  have HKL := Lib.hid hkey
  have HFL : Hid (∀ (gb : Nat) (A1 : Option Addr) (c1 : Nat), flat [(some ⟨gb, 0, none⟩, 1, putL 1 1), (some ⟨x, 1, none⟩, 32, key), (A1, c1, putL st 8)] = putL 1 1 ++ (key ++ putL st 8)) := fun gb A1 c1 => by simp [flat]
  have HXW := Lib.hid hx
  clear hb h0 hW hst hkey
  go_enter Try.func20, Try.ntmps20
  go_upto_region 1 with fail
  rw [← HW.out, ← hx]
  clear hx
  go_upto_region 2 with fail
  rename_i K1 hK1
  obtain ⟨w2, hw2⟩ : ∃ w2, w2 = W.drew := ⟨_, rfl⟩
  have DB : Hid (Below W.heap.size W w2) := by rw [hw2]; exact (Below.refl _ _).drew
  have BX : Hid (Below w2.heap.size w2 w2) := Below.refl _ _
  have KP : Hid (∀ u : World, Below w2.heap.size w2 u → OpB x 1 key st n sv u) := fun u hu => (H0.out.below DB.out H0.out.lt).below hu (Nat.lt_of_lt_of_le H0.out.lt DB.out.size)
  refine wp_region_noPanic ?_
  refine wp_region_held_drew (S := (fun u => OpB x 1 key st n sv u)) (by kernel_rfl) (by rw [← hw2]; exact KP.out _ BX.out) (fun hHeld => ?_)
  rw [← hw2]
  rw [← hw2] at hHeld
  clear hw2 k0
  refine takeH (i := 1) (d := 9) (oi := _) (v := .pointer (some ⟨x, 1, none⟩)) rfl (by kernel_rfl) (by kernel_rfl) (by kernel_rfl) (by kernel_rfl) (fun _ _ _ h => h) (Or.inl ⟨by kernel_rfl, by intro u hSw; clear hSw; go_simp⟩) hHeld ?_
  try simp only [List.setIfInBounds_toArray, List.set_cons_zero, List.set_cons_succ]
  refine takeH (i := 2) (d := 10) (oi := _) (v := .slice (some ⟨x, 1, none⟩) 32 32) rfl (by kernel_rfl) (by kernel_rfl) (by kernel_rfl) (by kernel_rfl) (fun _ _ _ h => h) (Or.inl ⟨by kernel_rfl, by intro u hSw; clear hSw; go_simp⟩) hHeld ?_
  try simp only [List.setIfInBounds_toArray, List.set_cons_zero, List.set_cons_succ]
  refine takeH (i := 3) (d := 11) (oi := _) (v := .pointer (some ⟨x, 33, none⟩)) rfl (by kernel_rfl) (by kernel_rfl) (by kernel_rfl) (by kernel_rfl) (fun _ _ _ h => h) (Or.inl ⟨by kernel_rfl, by intro u hSw; clear hSw; go_simp⟩) hHeld ?_
  try simp only [List.setIfInBounds_toArray, List.set_cons_zero, List.set_cons_succ]
  refine takeH (i := 4) (d := 12) (oi := _) (v := .int .u64 (st : Int)) rfl (by kernel_rfl) (by kernel_rfl) (by kernel_rfl) (by kernel_rfl) (fun _ _ _ h => h) (Or.inl ⟨by kernel_rfl, by intro u hSw; (have hc := hSw.stake; clear hSw; go_simp)⟩) hHeld ?_
  try simp only [List.setIfInBounds_toArray, List.set_cons_zero, List.set_cons_succ]
  refine wpAnyH_ready (rs := [0, 5]) (by kernel_rfl) (by simp) ?_
  refine AllReadyH.cons (o := _) rfl (fun K hK => ?_) (AllReadyH.cons (o := _) rfl (fun K hK => ?_) (AllReadyH.nil))
  · go_simp
    obtain ⟨gb, hgb⟩ : ∃ g0, g0 = w2.heap.size := ⟨_, rfl⟩
    have bb : Below w2.heap.size w2 (w2.alloc (.cells #[.int .u8 (1 : Int)] 5)) := (Below.refl _ _).alloc (Nat.le_refl _) _
    have OB : Hid (Rd (w2.alloc (.cells #[.int .u8 (1 : Int)] 5)) 0 (w2.alloc (.cells #[.int .u8 (1 : Int)] 5)).heap.size (some ⟨gb, 0, none⟩) (putL 1 1)) := oneByte 1 (by rw [hgb]; exact heap_alloc_new w2 _) (by omega)
    (try have OP := Lib.hid ((OP.out.below bb (Nat.le_refl _)).wide (Nat.le_refl _) bb.size))
    have BX := Lib.hid (BX.out.trans (bb.mono BX.out.size))
    rw [← hgb]
    obtain ⟨w2, hwb⟩ : ∃ x, x = (w2.alloc (.cells #[.int .u8 (1 : Int)] 5)) := ⟨_, rfl⟩
    rw [← hwb] at OB BX ⊢
    (try rw [← hwb] at OP)
    clear bb hwb hgb
    go_simp
    refine hK.out _ _ (KP.out _ BX.out) (fun hHeld => ?_)
    clear hK K
    try simp only [Act.put, List.setIfInBounds_toArray, List.set_cons_zero, List.set_cons_succ]
    refine wpAnyH_ready (rs := [5]) (by kernel_rfl) (by simp) ?_
    refine AllReadyH.cons (o := _) rfl (fun K hK => ?_) (AllReadyH.nil)
    go_simp
    go_at_call 38
    refine (refPut_any st 8 _ HS.out (by omega)).mono ?_
    rintro y w2 ⟨A1, c1, rfl, o1, b1⟩
    have OP : Hid (Rd w2 0 w2.heap.size A1 (putL st 8)) := (Ow.of_own o1).1.rd.wide (Nat.zero_le _) (Nat.le_refl _)
    (try have OB := Lib.hid ((OB.out.below b1 (Nat.le_refl _)).wide (Nat.le_refl _) b1.size))
    have BX := Lib.hid (BX.out.trans (b1.mono BX.out.size))
    clear b1 o1
    go_simp
    refine hK.out _ _ (KP.out _ BX.out) (fun hHeld => ?_)
    clear hK K
    try simp only [Act.put, List.setIfInBounds_toArray, List.set_cons_zero, List.set_cons_succ]
    refine wpAnyH_ready (rs := [6]) (by kernel_rfl) (by simp) ?_
    refine AllReadyH.cons (o := _) rfl (fun K hK => ?_) (AllReadyH.nil)
    go_simp
    go_simp
    refine hK.out _ _ (KP.out _ (BX.out.alloc BX.out.size _)) (fun hHeld => ?_)
    clear hK K
    try simp only [Act.put, List.setIfInBounds_toArray, List.set_cons_zero, List.set_cons_succ]
    refine wpAnyH_ready (rs := [7]) (by kernel_rfl) (by simp) ?_
    refine AllReadyH.cons (o := _) rfl (fun K hK => ?_) (AllReadyH.nil)
    go_simp
    go_at_call 37
    refine (joinRLm [(some ⟨gb, 0, none⟩, 1, putL 1 1), (some ⟨x, 1, none⟩, 32, key), (A1, c1, putL st 8)] w2 _ (by simp [putL_length, HKL.out]) (fun y hy => by
        simp only [List.mem_cons, List.not_mem_nil, or_false] at hy
        rcases hy with rfl | rfl | rfl
        · exact OB.out
        · exact (KP.out _ BX.out).rdkey HKL.out (Nat.zero_le _) (KP.out _ BX.out).lt
        · exact OP.out) 3 rfl (by simp) (by have h1 := HKL.out; simp [flat, putL_length, h1])).mono ?_
    rintro y w3 ⟨A4, c4, rfl, o4, b4⟩
    have O4 := Lib.hid o4
    have S4 := Lib.hid BX.out.size
    have BX := Lib.hid (BX.out.trans (b4.mono BX.out.size))
    clear b4 o4
    go_simp
    refine hK.out _ _ (KP.out _ BX.out) (fun hHeld => ?_)
    clear hK K
    try simp only [Act.put, List.setIfInBounds_toArray, List.set_cons_zero, List.set_cons_succ]
    refine takeH (i := 8) (d := 2) (oi := _) (v := .slice A4 (flat [(some ⟨gb, 0, none⟩, 1, putL 1 1), (some ⟨x, 1, none⟩, 32, key), (A1, c1, putL st 8)]).length c4) rfl (by kernel_rfl) (by kernel_rfl) (by kernel_rfl) (by kernel_rfl) (fun _ _ _ h => h) (Or.inl ⟨by kernel_rfl, by intro u hSw; clear hSw; go_simp⟩) hHeld ?_
    try simp only [List.setIfInBounds_toArray, List.set_cons_zero, List.set_cons_succ]
    refine wpAnyH_done (by kernel_rfl) ?_ _
    refine NoPanic.normal ?_
    apply hK1
    clear hK1 K1
    go_wp2_with fail
    go_ret
    have o4 := O4.out
    rw [HFL.out] at o4 ⊢
    exact ⟨A4, c4, rfl, OwM.cap o4, o4.rd.wide (Nat.le_trans HB.out.size (Nat.le_trans DB.out.size S4.out)) (Nat.le_refl _), HB.out.trans ((DB.out.trans (BX.out.mono DB.out.size)).mono HB.out.size)⟩
  · go_simp
    go_at_call 38
    refine (refPut_any st 8 _ HS.out (by omega)).mono ?_
    rintro y w2 ⟨A1, c1, rfl, o1, b1⟩
    have OP : Hid (Rd w2 0 w2.heap.size A1 (putL st 8)) := (Ow.of_own o1).1.rd.wide (Nat.zero_le _) (Nat.le_refl _)
    (try have OB := Lib.hid ((OB.out.below b1 (Nat.le_refl _)).wide (Nat.le_refl _) b1.size))
    have BX := Lib.hid (BX.out.trans (b1.mono BX.out.size))
    clear b1 o1
    go_simp
    refine hK.out _ _ (KP.out _ BX.out) (fun hHeld => ?_)
    clear hK K
    try simp only [Act.put, List.setIfInBounds_toArray, List.set_cons_zero, List.set_cons_succ]
    refine wpAnyH_ready (rs := [0]) (by kernel_rfl) (by simp) ?_
    refine AllReadyH.cons (o := _) rfl (fun K hK => ?_) (AllReadyH.nil)
    go_simp
    obtain ⟨gb, hgb⟩ : ∃ g0, g0 = w2.heap.size := ⟨_, rfl⟩
    have bb : Below w2.heap.size w2 (w2.alloc (.cells #[.int .u8 (1 : Int)] 5)) := (Below.refl _ _).alloc (Nat.le_refl _) _
    have OB : Hid (Rd (w2.alloc (.cells #[.int .u8 (1 : Int)] 5)) 0 (w2.alloc (.cells #[.int .u8 (1 : Int)] 5)).heap.size (some ⟨gb, 0, none⟩) (putL 1 1)) := oneByte 1 (by rw [hgb]; exact heap_alloc_new w2 _) (by omega)
    (try have OP := Lib.hid ((OP.out.below bb (Nat.le_refl _)).wide (Nat.le_refl _) bb.size))
    have BX := Lib.hid (BX.out.trans (bb.mono BX.out.size))
    rw [← hgb]
    obtain ⟨w2, hwb⟩ : ∃ x, x = (w2.alloc (.cells #[.int .u8 (1 : Int)] 5)) := ⟨_, rfl⟩
    rw [← hwb] at OB BX ⊢
    (try rw [← hwb] at OP)
    clear bb hwb hgb
    go_simp
    refine hK.out _ _ (KP.out _ BX.out) (fun hHeld => ?_)
    clear hK K
    try simp only [Act.put, List.setIfInBounds_toArray, List.set_cons_zero, List.set_cons_succ]
    refine wpAnyH_ready (rs := [6]) (by kernel_rfl) (by simp) ?_
    refine AllReadyH.cons (o := _) rfl (fun K hK => ?_) (AllReadyH.nil)
    go_simp
    go_simp
    refine hK.out _ _ (KP.out _ (BX.out.alloc BX.out.size _)) (fun hHeld => ?_)
    clear hK K
    try simp only [Act.put, List.setIfInBounds_toArray, List.set_cons_zero, List.set_cons_succ]
    refine wpAnyH_ready (rs := [7]) (by kernel_rfl) (by simp) ?_
    refine AllReadyH.cons (o := _) rfl (fun K hK => ?_) (AllReadyH.nil)
    go_simp
    go_at_call 37
    refine (joinRLm [(some ⟨gb, 0, none⟩, 1, putL 1 1), (some ⟨x, 1, none⟩, 32, key), (A1, c1, putL st 8)] w2 _ (by simp [putL_length, HKL.out]) (fun y hy => by
        simp only [List.mem_cons, List.not_mem_nil, or_false] at hy
        rcases hy with rfl | rfl | rfl
        · exact OB.out
        · exact (KP.out _ BX.out).rdkey HKL.out (Nat.zero_le _) (KP.out _ BX.out).lt
        · exact OP.out) 3 rfl (by simp) (by have h1 := HKL.out; simp [flat, putL_length, h1])).mono ?_
    rintro y w3 ⟨A4, c4, rfl, o4, b4⟩
    have O4 := Lib.hid o4
    have S4 := Lib.hid BX.out.size
    have BX := Lib.hid (BX.out.trans (b4.mono BX.out.size))
    clear b4 o4
    go_simp
    refine hK.out _ _ (KP.out _ BX.out) (fun hHeld => ?_)
    clear hK K
    try simp only [Act.put, List.setIfInBounds_toArray, List.set_cons_zero, List.set_cons_succ]
    refine takeH (i := 8) (d := 2) (oi := _) (v := .slice A4 (flat [(some ⟨gb, 0, none⟩, 1, putL 1 1), (some ⟨x, 1, none⟩, 32, key), (A1, c1, putL st 8)]).length c4) rfl (by kernel_rfl) (by kernel_rfl) (by kernel_rfl) (by kernel_rfl) (fun _ _ _ h => h) (Or.inl ⟨by kernel_rfl, by intro u hSw; clear hSw; go_simp⟩) hHeld ?_
    try simp only [List.setIfInBounds_toArray, List.set_cons_zero, List.set_cons_succ]
    refine wpAnyH_done (by kernel_rfl) ?_ _
    refine NoPanic.normal ?_
    apply hK1
    clear hK1 K1
    go_wp2_with fail
    go_ret
    have o4 := O4.out
    rw [HFL.out] at o4 ⊢
    exact ⟨A4, c4, rfl, OwM.cap o4, o4.rd.wide (Nat.le_trans HB.out.size (Nat.le_trans DB.out.size S4.out)) (Nat.le_refl _), HB.out.trans ((DB.out.trans (BX.out.mono DB.out.size)).mono HB.out.size)⟩
end Go.Proofs.Ytaoddppkijopmaa
namespace Go.Proofs.Ytaoddppkijopmaa
open Go.ChangeShapes Go.WideShapes Go.ChangeAt Go.RowKit
set_option linter.unusedVariables false
set_option maxRecDepth 100000

theorem putL1 (n : Nat) (h : n < 256) : (putL n 1).map bv = [.int .u8 (n : Int)] := by
  have e : putL n 1 = [UInt8.ofNat n] := by simp [putL]
  rw [e]
  simp only [List.map_cons, List.map_nil]
  unfold bv
  rw [UInt8.toNat_ofNat', Nat.mod_eq_of_lt (show n < 2 ^ 8 by omega)]
theorem Ve.b_len {v : Ve} (h : v.may = true) : v.b.length ≤ 5000 := by
  unfold Ve.may mayVt at h
  simp only [Bool.and_eq_true, decide_eq_true_eq] at h
  unfold Ve.b vtL
  rw [List.length_append, blobL_length]
  have h1 := v.h1
  have h2 := v.h2
  have : (lkL v.n.toNat v.e1 v.l1 v.e2 v.l2).length = 81 := by simp [lkL, ptL, putL_length, h1, h2]
  omega
theorem ves_len (L : List Ve) (h : ∀ v ∈ L, v.may = true) : (L.map Ve.b).flatten.length ≤ 5000 * L.length := by
  induction L with
  | nil => simp
  | cons v L ih =>
    rw [List.map_cons, List.flatten_cons, List.length_append, List.length_cons]
    have h1 := Ve.b_len (h v (List.mem_cons_self ..))
    have h2 := ih (fun x hx => h x (List.mem_cons_of_mem _ hx))
    omega
theorem Ve.nat {v : Ve} (h : v.may = true) : v.n = (v.n.toNat : Int) ∧ v.n.toNat < 256 ∧ v.s.length ≤ 65535 := by
  unfold Ve.may mayVt mayVal at h
  simp only [Bool.and_eq_true, decide_eq_true_eq] at h
  omega
theorem refVe_c (v : Ve) (B : Option Addr) (c : Nat) (w : World) (hm : v.may = true) (h : Rd w 0 w.heap.size B v.s) : Calls Try.prog 39 #[.agg (v.v B c)] w (RNewP w v.b) := by
  have hn := Ve.nat hm
  have := refVoteB_c v.n.toNat v.e1 v.l1 v.e2 v.l2 v.s B c w hn.2.1 v.b1 v.b2 v.h1 v.h2 h hn.2.2
  unfold Ve.v
  rw [hn.1]
  exact this
set_option maxRecDepth 1000000 in
set_option maxHeartbeats 16000000 in
theorem refOp2_c (k n : Nat) (key : List UInt8) (st : Nat) (B : Option Addr) (c : Nat) (E : List Ve) (w : World) (hk : k = 2 ∨ k = 3) (hn : n < 256) (hE : VesAt w B E) (hM : ∀ v ∈ E, v.may = true) (h9 : E.length ≤ 100) :
    Calls Try.prog 20 #[.agg (opV (k : Int) key st (n : Int) (.slice B E.length c))] w (RNewP w (putL k 1 ++ putL n 1 ++ (E.map Ve.b).flatten)) := by
  obtain ⟨m, hm⟩ : ∃ m, m = E.length := ⟨_, rfl⟩
  rw [← hm]
  obtain ⟨W, hW⟩ : ∃ W, W = w.alloc (.cells (opV (k : Int) key st (n : Int) (.slice B m c)) 53) := ⟨_, rfl⟩
  have hb : Below w.heap.size w W := by rw [hW]; exact (Below.refl _ _).alloc (Nat.le_refl _) _
  have h0 : OpB w.heap.size (k : Int) key st (n : Int) (.slice B m c) W := by rw [hW]; exact OpB.new
  obtain ⟨x, hx⟩ : ∃ x, x = w.heap.size := ⟨_, rfl⟩
  rw [← hx] at h0
  have k0 := h0.kind
  have k2 := h0.val
  have H0 := Lib.hid h0
  have HE := Lib.hid (hE.below hb)
  have HMM := Lib.hid hM
  have HB := Lib.hid hb
  have HW := Lib.hid hW
  have HM := Lib.hid hm
  have HX := Lib.hid hx
  have HK := Lib.hid hk
  have HN := Lib.hid hn
  have d1 : ((k : Int) == 1) = false := by rw [beq_eq_false_iff_ne]; omega
  have wk : IntKind.u8.wrap (k : Int) = (k : Int) := IntWalk.u8_in _ (by omega)
  have wn : IntKind.u8.wrap (n : Int) = (n : Int) := IntWalk.u8_in _ (by omega)
  have HBB := Lib.hid byte_info
  clear h0 hE hM hb hW hm hk
  go_enter Try.func20, Try.ntmps20
  go_upto_region 1 with fail
  rw [← HW.out, ← hx]
  clear hx
  go_wp2_with fail
  obtain ⟨w1, hw1⟩ : ∃ w1, w1 = W.alloc (.cells #[.int .u8 (k : Int), .int .u8 (n : Int)] 5) := ⟨_, rfl⟩
  have b1 : Below W.heap.size W w1 := by rw [hw1]; exact (Below.refl _ _).alloc (Nat.le_refl _) _
  have o1 : OwM w1 W.heap.size (some ⟨W.heap.size, 0, none⟩) 2 2 (putL k 1 ++ putL n 1) := by
    refine ⟨by simp [putL_length], W.heap.size, _, _, rfl, Nat.le_refl _, by rw [hw1]; exact heap_alloc_new W _, .inl rfl, Nat.le_refl _, by simp [maxLen], rfl, ?_⟩
    rw [List.map_append, putL1 k (by have := HK.out; omega), putL1 n hn]
    rfl
  have O1 := Lib.hid o1
  have B1 := Lib.hid b1
  obtain ⟨pre, hpre⟩ : ∃ p, p = putL k 1 ++ putL n 1 := ⟨_, rfl⟩
  have HPRE := Lib.hid hpre
  have hp2 : pre.length = 2 := by rw [hpre]; simp [putL_length]
  have HP2 := Lib.hid hp2
  rw [← hpre] at O1 ⊢
  rw [← hw1]
  have H9 := Lib.hid (show m ≤ 100 by rw [HM.out]; exact h9)
  clear hw1 b1 o1 hpre hp2 h9 k0 k2 wk wn d1
  go_loopw [3, 4] (fun v3 v4 u => ∃ (i : Nat) (A3 : Option Addr) (n3 c3 : Nat), i ≤ m ∧ v4 = .int .i64 (i : Int) ∧ v3 = .slice A3 n3 c3 ∧ OwM u W.heap.size A3 n3 c3 (pre ++ ((E.take i).map Ve.b).flatten) ∧ Below W.heap.size W u) (fun _ v4 _ => m - (intOf v4).toNat)
  case atStart => exact ⟨0, _, _, _, Nat.zero_le _, rfl, rfl, by simpa using O1.out, B1.out⟩
  case round =>
    obtain ⟨i, A3, n3, c3, hi, rfl, rfl, o3, bx⟩ := hrel
    have m9 := H9.out
    have k3 : wr.cell? ⟨x, 35, none⟩ = some (.slice B m c) := (H0.out.below bx H0.out.lt).ev
    have O3 := Lib.hid o3
    have BX := Lib.hid bx
    have N3 : Hid (n3 ≤ 2 + 5000 * m) := Lib.hid (by
      have h := o3.1
      rw [List.length_append, HP2.out] at h
      have h2 := ves_len (E.take i) (fun v hv => HMM.out v (List.mem_of_mem_take hv))
      have h3 := List.length_take_le' i E
      have h4 : 5000 * (E.take i).length ≤ 5000 * m := Nat.mul_le_mul_left _ (by rw [HM.out]; omega)
      omega)
    clear o3 bx
    by_cases him : i < m
    · obtain ⟨v, hv⟩ : ∃ v, E[i]? = some v := ⟨_, List.getElem?_eq_getElem (by have := HM.out; omega)⟩
      obtain ⟨g, q, B2, d, rfl, hg, hr, hs⟩ := HE.out wr BX.out i v hv
      have mv := HMM.out v (List.mem_of_getElem? hv)
      have CV := Lib.hid (refVe_c v B2 d wr mv hs)
      have RR := Lib.hid hr
      have VL := Lib.hid (Ve.b_len mv)
      have t1 : (i : Int) < (m : Int) := by omega
      have TK := Lib.hid (show (E.take (i + 1)).map Ve.b = (E.take i).map Ve.b ++ [v.b] by rw [List.take_add_one, hv, List.map_append]; rfl)
      obtain ⟨vb, hvb⟩ : ∃ vb, vb = v.b := ⟨_, rfl⟩
      rw [← hvb] at CV VL TK
      clear hg hr hs mv hv hvb
      go_wp2_with (first
        | (refine wpList_load_mid rfl 32 (.tmp 34) rfl g (q + i * 68) (by go_simp) (v.c B2 d) _ RR.out Try.underlying32 rfl (by rw [Ve.c_len]; exact size_vote) ?_; rw [Ve.c_arr])
        | fail)
      refine CV.out.mono ?_
      rintro e w2 ⟨A5, c5, rfl, hc5, r5, b2⟩
      have R5 := Lib.hid r5
      have S5 := Lib.hid BX.out.size
      have O3' := Lib.hid (O3.out.below b2 (Nat.le_refl _))
      have B2' := Lib.hid (BX.out.trans (b2.mono BX.out.size))
      have SB := Lib.hid (Nat.le_trans BX.out.size b2.size)
      clear b2 r5 hc5 CV O3
      obtain ⟨j0, hj0, hy0, hy1, hy2⟩ := info_parts byte_info
      go_wp2_with (first
        | (at_builtin; refine wpList_append_mk _ rfl (.tmp 30) (.tmp 36) 30 rfl W.heap.size j0 _ Try.underlying30 hj0 hy0 hy1 hy2 rfl A3 n3 c3 _ rfl O3'.out _ _ A5 c5 vb rfl R5.out (by have := N3.out; have := H9.out; have := VL.out; omega) SB.out ?_; intro A6 c6 w6 o6 g6; have O6 := Lib.hid o6; have G6 := Lib.hid g6; clear o6 g6)
        | fail)
      have bb : Below W.heap.size W w6 := by
        obtain ⟨ga, hga, h1, h2⟩ := O3'.out.lt
        exact Below.grown B2'.out (G6.out ga hga) SB.out (fun j e => by injection e with e; subst e; exact h1)
      refine ⟨⟨i + 1, A6, _, c6, by omega, by go_num, rfl, ?_, bb⟩, by simp [intOf]; omega⟩
      rw [TK.out, List.flatten_append, ← List.append_assoc]
      simpa using O6.out
    · obtain rfl : i = m := by omega
      have t1 : ¬ (i : Int) < (i : Int) := by omega
      have o3 := O3.out
      rw [List.take_of_length_le (by have := HM.out; omega)] at o3
      have O4 := Lib.hid o3
      clear o3 O3
      go_wp2_with fail
      go_ret
      have o4 := O4.out
      rw [HPRE.out, List.append_assoc] at o4
      have e4 := o4.1
      subst e4
      exact ⟨A3, c3, rfl, o4.cap, o4.rd.wide HB.out.size (Nat.le_refl _), HB.out.trans (BX.out.mono HB.out.size)⟩
end Go.Proofs.Ytaoddppkijopmaa
namespace Go.Proofs.Ytaoddppkijopmaa
open Go.ChangeShapes Go.WideShapes Go.ChangeAt Go.RowKit
set_option linter.unusedVariables false
set_option maxRecDepth 100000

theorem Ho.b_1 {o : Ho} (h : o.k = 1) : o.b = putL 1 1 ++ (o.key ++ putL o.st 8) := by unfold Ho.b; rw [if_pos h]
theorem Ho.b_2 {o : Ho} (h : o.k ≠ 1) : o.b = putL o.k.toNat 1 ++ putL o.n.toNat 1 ++ (o.ev.map Ve.b).flatten := by unfold Ho.b; rw [if_neg h]
theorem Ho.kinds {o : Ho} (h : o.may = true) : o.k = 1 ∨ ((o.k = 2 ∨ o.k = 3) ∧ mayVal o.n = true ∧ o.ev.length ≤ 2 ∧ ∀ v ∈ o.ev, v.may = true) := by
  by_cases h1 : o.k = 1
  · exact .inl h1
  refine .inr ?_
  by_cases h2 : o.k = 2
  · rw [Ho.may_2 h2] at h
    simp only [Bool.and_eq_true, decide_eq_true_eq] at h
    refine ⟨.inl h2, h.2, by omega, fun v hv => ?_⟩
    have := List.length_pos_of_mem hv
    omega
  by_cases h3 : o.k = 3
  · rw [Ho.may_3 h3] at h
    simp only [Bool.and_eq_true, decide_eq_true_eq] at h
    exact ⟨.inr h3, h.1.1.2, by omega, fun v hv => List.all_eq_true.1 h.2 v hv⟩
  · rw [Ho.may_0 h1 h2 h3] at h
    cases h
theorem Ho.b_len {o : Ho} (h : o.may = true) : o.b.length ≤ 10100 := by
  rcases Ho.kinds h with h1 | ⟨h1, h2, h3, h4⟩
  · rw [Ho.b_1 h1]
    have := o.hk
    simp [putL_length]
    omega
  · rw [Ho.b_2 (by omega)]
    have := ves_len o.ev h4
    simp only [List.length_append, putL_length]
    omega
theorem refOp_c (o : Ho) (B : Option Addr) (c : Nat) (w : World) (hE : VesAt w B o.ev) (hm : o.may = true) : Calls Try.prog 20 #[.agg (o.v B c)] w (RNewP w o.b) := by
  rcases Ho.kinds hm with h1 | ⟨h1, h2, h3, h4⟩
  · rw [Ho.b_1 h1]
    unfold Ho.v
    rw [h1]
    exact refOp1_c o.key o.st o.n _ w o.hk o.hs
  · rw [Ho.b_2 (by omega)]
    unfold mayVal at h2
    simp only [Bool.and_eq_true, decide_eq_true_eq] at h2
    have e1 : o.k = (o.k.toNat : Int) := by omega
    have e2 : o.n = (o.n.toNat : Int) := by omega
    unfold Ho.v
    rw [e1, e2]
    exact refOp2_c o.k.toNat o.n.toNat o.key o.st B c o.ev w (by omega) (by omega) hE h4 (by omega)
theorem hos_len (L : List Ho) (h : ∀ o ∈ L, o.may = true) : (L.map Ho.b).flatten.length ≤ 10100 * L.length := by
  induction L with
  | nil => simp
  | cons v L ih =>
    rw [List.map_cons, List.flatten_cons, List.length_append, List.length_cons]
    have h1 := Ho.b_len (h v (List.mem_cons_self ..))
    have h2 := ih (fun x hx => h x (List.mem_cons_of_mem _ hx))
    omega
noncomputable def rhd_r1C : Code := ((Try.f35.body.bind (regionOf 1))).getD .skip
set_option maxRecDepth 1000000 in
set_option maxHeartbeats 16000000 in
theorem rhd_r1 (sl0 sl2 sl3 sl4 sl5 sl6 sl7 sl8 sl9 sl10 sl11 sl12 sl13 sl14 sl15 sl16 sl17 sl18 sl19 sl20 sl21 sl22 sl23 sl24 sl25 sl26 sl27 sl28 sl29 sl30 sl31 sl32 : Value) (w : World) (x ep n c : Nat) (A : Option Addr) (par : List UInt8) (hpar : par.length = 32) (hep : ep < 18446744073709551616) (n16 : n ≤ 16) (h0 : HdB x par ep (.slice A n c) w)
    (Q : Exit → Act → World → Prop) (hQ : ∀ (u5 u6 u7 u8 u9 u10 u11 u12 u13 u14 u15 u16 : Value) (A4 : Option Addr) (n4 c4 : Nat) (w' : World), (OwM w' w.heap.size A4 n4 c4 (par ++ (putL ep 8 ++ putL n 1)) ∧ Below w.heap.size w w') → Q .normal ⟨#[sl0, .pointer (some ⟨x, 0, none⟩), sl2, .slice A4 n4 c4, sl4, u5, u6, u7, u8, u9, u10, u11, u12, u13, u14, u15, u16, sl17, sl18, sl19, sl20, sl21, sl22, sl23, sl24, sl25, sl26, sl27, sl28, sl29, sl30, sl31, sl32], []⟩ w') :
    Code.wp Try.prog rhd_r1C Q ⟨#[sl0, .pointer (some ⟨x, 0, none⟩), sl2, sl3, sl4, sl5, sl6, sl7, sl8, sl9, sl10, sl11, sl12, sl13, sl14, sl15, sl16, sl17, sl18, sl19, sl20, sl21, sl22, sl23, sl24, sl25, sl26, sl27, sl28, sl29, sl30, sl31, sl32], []⟩ w := by
  conv => arg 2; whnf
  try dsimp only at hQ ⊢
  have HKL := Lib.hid hpar
  have HS := Lib.hid hep
  have N16 := Lib.hid n16
  have H0 := Lib.hid h0
  have WN := Lib.hid (IntWalk.u8_in (n : Int) (by omega))
  have CONT : Hid (∀ (A4 : Option Addr) (c4 : Nat) (w' : World) (gb : Nat) (A1 : Option Addr) (c1 : Nat) (u5 u6 u7 u8 u9 u10 u11 u12 u13 u14 u15 u16 : Value), OwM w' w.heap.size A4 (flat [(some ⟨x, 0, none⟩, 32, par), (A1, c1, putL ep 8), (some ⟨gb, 0, none⟩, 1, putL n 1)]).length c4 (flat [(some ⟨x, 0, none⟩, 32, par), (A1, c1, putL ep 8), (some ⟨gb, 0, none⟩, 1, putL n 1)]) ∧ Below w.heap.size w w' → Q .normal ⟨#[sl0, .pointer (some ⟨x, 0, none⟩), sl2, .slice A4 (flat [(some ⟨x, 0, none⟩, 32, par), (A1, c1, putL ep 8), (some ⟨gb, 0, none⟩, 1, putL n 1)]).length c4, sl4, u5, u6, u7, u8, u9, u10, u11, u12, u13, u14, u15, u16, sl17, sl18, sl19, sl20, sl21, sl22, sl23, sl24, sl25, sl26, sl27, sl28, sl29, sl30, sl31, sl32], []⟩ w') := fun A4 c4 w' gb A1 c1 u5 u6 u7 u8 u9 u10 u11 u12 u13 u14 u15 u16 h => by
    have e : flat [(some ⟨x, 0, none⟩, 32, par), (A1, c1, putL ep 8), (some ⟨gb, 0, none⟩, 1, putL n 1)] = par ++ (putL ep 8 ++ putL n 1) := by simp [flat]
    rw [e] at h ⊢
    exact hQ u5 u6 u7 u8 u9 u10 u11 u12 u13 u14 u15 u16 A4 _ c4 w' h
  clear hQ hpar hep h0 n16
  obtain ⟨w2, hw2⟩ : ∃ w2, w2 = w.drew := ⟨_, rfl⟩
  have DB : Hid (Below w.heap.size w w2) := by rw [hw2]; exact (Below.refl _ _).drew
  have BX : Hid (Below w2.heap.size w2 w2) := Below.refl _ _
  have KP : Hid (∀ u : World, Below w2.heap.size w2 u → HdB x par ep (.slice A n c) u) := fun u hu => (H0.out.below DB.out H0.out.lt).below hu (Nat.lt_of_lt_of_le H0.out.lt DB.out.size)
  refine wp_region_noPanic ?_
  refine wp_region_held_drew (S := (fun u => HdB x par ep (.slice A n c) u)) (by kernel_rfl) (by rw [← hw2]; exact KP.out _ BX.out) (fun hHeld => ?_)
  rw [← hw2]
  rw [← hw2] at hHeld
  clear hw2
  refine takeH (i := 0) (d := 5) (oi := _) (v := .pointer (some ⟨x, 0, none⟩)) rfl (by kernel_rfl) (by kernel_rfl) (by kernel_rfl) (by kernel_rfl) (fun _ _ _ h => h) (Or.inl ⟨by kernel_rfl, by intro u hSw; clear hSw; go_simp⟩) hHeld ?_
  try simp only [List.setIfInBounds_toArray, List.set_cons_zero, List.set_cons_succ]
  refine takeH (i := 1) (d := 6) (oi := _) (v := .slice (some ⟨x, 0, none⟩) 32 32) rfl (by kernel_rfl) (by kernel_rfl) (by kernel_rfl) (by kernel_rfl) (fun _ _ _ h => h) (Or.inl ⟨by kernel_rfl, by intro u hSw; clear hSw; go_simp⟩) hHeld ?_
  try simp only [List.setIfInBounds_toArray, List.set_cons_zero, List.set_cons_succ]
  refine takeH (i := 2) (d := 7) (oi := _) (v := .pointer (some ⟨x, 32, none⟩)) rfl (by kernel_rfl) (by kernel_rfl) (by kernel_rfl) (by kernel_rfl) (fun _ _ _ h => h) (Or.inl ⟨by kernel_rfl, by intro u hSw; clear hSw; go_simp⟩) hHeld ?_
  try simp only [List.setIfInBounds_toArray, List.set_cons_zero, List.set_cons_succ]
  refine takeH (i := 3) (d := 8) (oi := _) (v := .int .u64 (ep : Int)) rfl (by kernel_rfl) (by kernel_rfl) (by kernel_rfl) (by kernel_rfl) (fun _ _ _ h => h) (Or.inl ⟨by kernel_rfl, by intro u hSw; (have hc := hSw.epoch; clear hSw; go_simp)⟩) hHeld ?_
  try simp only [List.setIfInBounds_toArray, List.set_cons_zero, List.set_cons_succ]
  refine takeH (i := 5) (d := 10) (oi := _) (v := .pointer (some ⟨x, 33, none⟩)) rfl (by kernel_rfl) (by kernel_rfl) (by kernel_rfl) (by kernel_rfl) (fun _ _ _ h => h) (Or.inl ⟨by kernel_rfl, by intro u hSw; clear hSw; go_simp⟩) hHeld ?_
  try simp only [List.setIfInBounds_toArray, List.set_cons_zero, List.set_cons_succ]
  refine takeH (i := 6) (d := 11) (oi := _) (v := .slice A n c) rfl (by kernel_rfl) (by kernel_rfl) (by kernel_rfl) (by kernel_rfl) (fun _ _ _ h => h) (Or.inl ⟨by kernel_rfl, by intro u hSw; (have hc := hSw.ops; clear hSw; go_simp)⟩) hHeld ?_
  try simp only [List.setIfInBounds_toArray, List.set_cons_zero, List.set_cons_succ]
  refine takeH (i := 7) (d := 12) (oi := _) (v := .int .i64 (n : Int)) rfl (by kernel_rfl) (by kernel_rfl) (by kernel_rfl) (by kernel_rfl) (fun _ _ _ h => h) (Or.inl ⟨by kernel_rfl, by intro u hSw; clear hSw; go_simp⟩) hHeld ?_
  try simp only [List.setIfInBounds_toArray, List.set_cons_zero, List.set_cons_succ]
  refine takeH (i := 8) (d := 13) (oi := _) (v := .int .u8 (n : Int)) rfl (by kernel_rfl) (by kernel_rfl) (by kernel_rfl) (by kernel_rfl) (fun _ _ _ h => h) (Or.inl ⟨by kernel_rfl, by intro u hSw; clear hSw; (have wn := WN.out; go_simp)⟩) hHeld ?_
  try simp only [List.setIfInBounds_toArray, List.set_cons_zero, List.set_cons_succ]
  refine wpAnyH_ready (rs := [4, 9]) (by kernel_rfl) (by simp) ?_
  refine AllReadyH.cons (o := _) rfl (fun K hK => ?_) (AllReadyH.cons (o := _) rfl (fun K hK => ?_) (AllReadyH.nil))
  · go_simp
    go_at_call 38
    refine (refPut_any ep 8 _ HS.out (by omega)).mono ?_
    rintro y w2 ⟨A1, c1, rfl, o1, b1⟩
    have OP : Hid (Rd w2 0 w2.heap.size A1 (putL ep 8)) := (Ow.of_own o1).1.rd.wide (Nat.zero_le _) (Nat.le_refl _)
    (try have OB := Lib.hid ((OB.out.below b1 (Nat.le_refl _)).wide (Nat.le_refl _) b1.size))
    have BX := Lib.hid (BX.out.trans (b1.mono BX.out.size))
    clear b1 o1
    go_simp
    refine hK.out _ _ (KP.out _ BX.out) (fun hHeld => ?_)
    clear hK K
    try simp only [Act.put, List.setIfInBounds_toArray, List.set_cons_zero, List.set_cons_succ]
    refine wpAnyH_ready (rs := [9]) (by kernel_rfl) (by simp) ?_
    refine AllReadyH.cons (o := _) rfl (fun K hK => ?_) (AllReadyH.nil)
    go_simp
    obtain ⟨gb, hgb⟩ : ∃ g0, g0 = w2.heap.size := ⟨_, rfl⟩
    have bb : Below w2.heap.size w2 (w2.alloc (.cells #[.int .u8 (n : Int)] 5)) := (Below.refl _ _).alloc (Nat.le_refl _) _
    have OB : Hid (Rd (w2.alloc (.cells #[.int .u8 (n : Int)] 5)) 0 (w2.alloc (.cells #[.int .u8 (n : Int)] 5)).heap.size (some ⟨gb, 0, none⟩) (putL n 1)) := oneByte n (by rw [hgb]; exact heap_alloc_new w2 _) (by have := N16.out; omega)
    (try have OP := Lib.hid ((OP.out.below bb (Nat.le_refl _)).wide (Nat.le_refl _) bb.size))
    have BX := Lib.hid (BX.out.trans (bb.mono BX.out.size))
    rw [← hgb]
    obtain ⟨w2, hwb⟩ : ∃ x, x = (w2.alloc (.cells #[.int .u8 (n : Int)] 5)) := ⟨_, rfl⟩
    rw [← hwb] at OB BX ⊢
    (try rw [← hwb] at OP)
    clear bb hwb hgb
    go_simp
    refine hK.out _ _ (KP.out _ BX.out) (fun hHeld => ?_)
    clear hK K
    try simp only [Act.put, List.setIfInBounds_toArray, List.set_cons_zero, List.set_cons_succ]
    refine wpAnyH_ready (rs := [10]) (by kernel_rfl) (by simp) ?_
    refine AllReadyH.cons (o := _) rfl (fun K hK => ?_) (AllReadyH.nil)
    go_simp
    go_simp
    refine hK.out _ _ (KP.out _ (BX.out.alloc BX.out.size _)) (fun hHeld => ?_)
    clear hK K
    try simp only [Act.put, List.setIfInBounds_toArray, List.set_cons_zero, List.set_cons_succ]
    refine wpAnyH_ready (rs := [11]) (by kernel_rfl) (by simp) ?_
    refine AllReadyH.cons (o := _) rfl (fun K hK => ?_) (AllReadyH.nil)
    go_simp
    go_at_call 37
    refine (joinRLm [(some ⟨x, 0, none⟩, 32, par), (A1, c1, putL ep 8), (some ⟨gb, 0, none⟩, 1, putL n 1)] w2 _ (by simp [putL_length, HKL.out]) (fun y hy => by
        simp only [List.mem_cons, List.not_mem_nil, or_false] at hy
        rcases hy with rfl | rfl | rfl
        · exact (KP.out _ BX.out).rd HKL.out (Nat.zero_le _) (KP.out _ BX.out).lt
        · exact OP.out
        · exact OB.out) 3 rfl (by simp) (by have h1 := HKL.out; simp [flat, putL_length, h1])).mono ?_
    rintro y w3 ⟨A4, c4, rfl, o4, b4⟩
    have O4 := Lib.hid o4
    have S4 := Lib.hid BX.out.size
    have BX := Lib.hid (BX.out.trans (b4.mono BX.out.size))
    clear b4 o4
    go_simp
    refine hK.out _ _ (KP.out _ BX.out) (fun hHeld => ?_)
    clear hK K
    try simp only [Act.put, List.setIfInBounds_toArray, List.set_cons_zero, List.set_cons_succ]
    refine takeH (i := 12) (d := 3) (oi := _) (v := .slice A4 (flat [(some ⟨x, 0, none⟩, 32, par), (A1, c1, putL ep 8), (some ⟨gb, 0, none⟩, 1, putL n 1)]).length c4) rfl (by kernel_rfl) (by kernel_rfl) (by kernel_rfl) (by kernel_rfl) (fun _ _ _ h => h) (Or.inl ⟨by kernel_rfl, by intro u hSw; clear hSw; go_simp⟩) hHeld ?_
    try simp only [List.setIfInBounds_toArray, List.set_cons_zero, List.set_cons_succ]
    refine wpAnyH_done (by kernel_rfl) ?_ _
    refine NoPanic.normal ?_
    exact CONT.out A4 c4 w3 gb A1 c1 _ _ _ _ _ _ _ _ _ _ _ _ ⟨O4.out.wide (Nat.le_trans DB.out.size S4.out), DB.out.trans (BX.out.mono DB.out.size)⟩
  · go_simp
    obtain ⟨gb, hgb⟩ : ∃ g0, g0 = w2.heap.size := ⟨_, rfl⟩
    have bb : Below w2.heap.size w2 (w2.alloc (.cells #[.int .u8 (n : Int)] 5)) := (Below.refl _ _).alloc (Nat.le_refl _) _
    have OB : Hid (Rd (w2.alloc (.cells #[.int .u8 (n : Int)] 5)) 0 (w2.alloc (.cells #[.int .u8 (n : Int)] 5)).heap.size (some ⟨gb, 0, none⟩) (putL n 1)) := oneByte n (by rw [hgb]; exact heap_alloc_new w2 _) (by have := N16.out; omega)
    (try have OP := Lib.hid ((OP.out.below bb (Nat.le_refl _)).wide (Nat.le_refl _) bb.size))
    have BX := Lib.hid (BX.out.trans (bb.mono BX.out.size))
    rw [← hgb]
    obtain ⟨w2, hwb⟩ : ∃ x, x = (w2.alloc (.cells #[.int .u8 (n : Int)] 5)) := ⟨_, rfl⟩
    rw [← hwb] at OB BX ⊢
    (try rw [← hwb] at OP)
    clear bb hwb hgb
    go_simp
    refine hK.out _ _ (KP.out _ BX.out) (fun hHeld => ?_)
    clear hK K
    try simp only [Act.put, List.setIfInBounds_toArray, List.set_cons_zero, List.set_cons_succ]
    refine wpAnyH_ready (rs := [4]) (by kernel_rfl) (by simp) ?_
    refine AllReadyH.cons (o := _) rfl (fun K hK => ?_) (AllReadyH.nil)
    go_simp
    go_at_call 38
    refine (refPut_any ep 8 _ HS.out (by omega)).mono ?_
    rintro y w2 ⟨A1, c1, rfl, o1, b1⟩
    have OP : Hid (Rd w2 0 w2.heap.size A1 (putL ep 8)) := (Ow.of_own o1).1.rd.wide (Nat.zero_le _) (Nat.le_refl _)
    (try have OB := Lib.hid ((OB.out.below b1 (Nat.le_refl _)).wide (Nat.le_refl _) b1.size))
    have BX := Lib.hid (BX.out.trans (b1.mono BX.out.size))
    clear b1 o1
    go_simp
    refine hK.out _ _ (KP.out _ BX.out) (fun hHeld => ?_)
    clear hK K
    try simp only [Act.put, List.setIfInBounds_toArray, List.set_cons_zero, List.set_cons_succ]
    refine wpAnyH_ready (rs := [10]) (by kernel_rfl) (by simp) ?_
    refine AllReadyH.cons (o := _) rfl (fun K hK => ?_) (AllReadyH.nil)
    go_simp
    go_simp
    refine hK.out _ _ (KP.out _ (BX.out.alloc BX.out.size _)) (fun hHeld => ?_)
    clear hK K
    try simp only [Act.put, List.setIfInBounds_toArray, List.set_cons_zero, List.set_cons_succ]
    refine wpAnyH_ready (rs := [11]) (by kernel_rfl) (by simp) ?_
    refine AllReadyH.cons (o := _) rfl (fun K hK => ?_) (AllReadyH.nil)
    go_simp
    go_at_call 37
    refine (joinRLm [(some ⟨x, 0, none⟩, 32, par), (A1, c1, putL ep 8), (some ⟨gb, 0, none⟩, 1, putL n 1)] w2 _ (by simp [putL_length, HKL.out]) (fun y hy => by
        simp only [List.mem_cons, List.not_mem_nil, or_false] at hy
        rcases hy with rfl | rfl | rfl
        · exact (KP.out _ BX.out).rd HKL.out (Nat.zero_le _) (KP.out _ BX.out).lt
        · exact OP.out
        · exact OB.out) 3 rfl (by simp) (by have h1 := HKL.out; simp [flat, putL_length, h1])).mono ?_
    rintro y w3 ⟨A4, c4, rfl, o4, b4⟩
    have O4 := Lib.hid o4
    have S4 := Lib.hid BX.out.size
    have BX := Lib.hid (BX.out.trans (b4.mono BX.out.size))
    clear b4 o4
    go_simp
    refine hK.out _ _ (KP.out _ BX.out) (fun hHeld => ?_)
    clear hK K
    try simp only [Act.put, List.setIfInBounds_toArray, List.set_cons_zero, List.set_cons_succ]
    refine takeH (i := 12) (d := 3) (oi := _) (v := .slice A4 (flat [(some ⟨x, 0, none⟩, 32, par), (A1, c1, putL ep 8), (some ⟨gb, 0, none⟩, 1, putL n 1)]).length c4) rfl (by kernel_rfl) (by kernel_rfl) (by kernel_rfl) (by kernel_rfl) (fun _ _ _ h => h) (Or.inl ⟨by kernel_rfl, by intro u hSw; clear hSw; go_simp⟩) hHeld ?_
    try simp only [List.setIfInBounds_toArray, List.set_cons_zero, List.set_cons_succ]
    refine wpAnyH_done (by kernel_rfl) ?_ _
    refine NoPanic.normal ?_
    exact CONT.out A4 c4 w3 gb A1 c1 _ _ _ _ _ _ _ _ _ _ _ _ ⟨O4.out.wide (Nat.le_trans DB.out.size S4.out), DB.out.trans (BX.out.mono DB.out.size)⟩
set_option maxRecDepth 1000000 in
set_option maxHeartbeats 16000000 in
theorem refHeader_c (h : Hd) (A : Option Addr) (c : Nat) (w : World) (hA : HosAt w A h.ops) (hm : h.may = true) : Calls Try.prog 35 #[.agg (h.v A c)] w (RNewP w h.b) := by
  obtain ⟨n, hn⟩ : ∃ n, n = h.ops.length := ⟨_, rfl⟩
  obtain ⟨L, hL⟩ : ∃ L, L = h.ops := ⟨_, rfl⟩
  have hm2 : n ≤ 16 ∧ ∀ o ∈ L, o.may = true := by
    unfold Hd.may at hm
    simp only [Bool.and_eq_true, decide_eq_true_eq] at hm
    exact ⟨by omega, fun o ho => List.all_eq_true.1 hm.2 o (by rw [← hL]; exact ho)⟩
  obtain ⟨pre, hpre⟩ : ∃ p, p = h.par ++ (putL h.ep 8 ++ putL n 1) := ⟨_, rfl⟩
  have HFB := Lib.hid (show h.b = pre ++ (L.map Ho.b).flatten by rw [hpre, hL, hn]; rfl)
  have HP2 := Lib.hid (show pre.length = 41 by rw [hpre]; have := h.hp; simp [putL_length]; omega)
  obtain ⟨W, hW⟩ : ∃ W, W = w.alloc (.cells (hdV h.par h.ep (.slice A n c)) 27) := ⟨_, rfl⟩
  have hb : Below w.heap.size w W := by rw [hW]; exact (Below.refl _ _).alloc (Nat.le_refl _) _
  have h0 : HdB w.heap.size h.par h.ep (.slice A n c) W := by rw [hW]; exact HdB.new
  obtain ⟨x, hx⟩ : ∃ x, x = w.heap.size := ⟨_, rfl⟩
  rw [← hx] at h0
  have H0 := Lib.hid h0
  have HV := Lib.hid (show h.v A c = hdV h.par h.ep (.slice A n c) by rw [hn]; rfl)
  rw [← hL] at hA hn
  have HA := Lib.hid (hA.below hb)
  have HB := Lib.hid hb
  have HW := Lib.hid hW
  have HN := Lib.hid hn
  have N16 := Lib.hid hm2.1
  have HMM := Lib.hid hm2.2
  have HPRE := Lib.hid hpre
  have HX := Lib.hid hx
  have HPA := Lib.hid h.hp
  have HEP := Lib.hid h.he
  rw [HV.out, HFB.out]
  obtain ⟨par, hpar⟩ : ∃ p, p = h.par := ⟨_, rfl⟩
  obtain ⟨ep, hep⟩ : ∃ p, p = h.ep := ⟨_, rfl⟩
  rw [← hpar, ← hep] at HPRE H0 HW ⊢
  rw [← hpar] at HPA
  rw [← hep] at HEP
  clear h0 hA hb hW hn hm hm2 hpre hL hpar hep
  go_enter Try.func35, Try.ntmps35
  go_upto_region 1 with fail
  rw [← HW.out, ← hx]
  clear hx
  refine rhd_r1 _ _ _ _ _ _ _ _ _ _ _ _ _ _ _ _ _ _ _ _ _ _ _ _ _ _ _ _ _ _ _ _ W x ep n c A par HPA.out HEP.out N16.out H0.out _ ?_
  intro t5 t6 t7 t8 t9 t10 t11 t12 t13 t14 t15 t16 A4 n4 c4 w1 h1
  have O1 := Lib.hid (by have := h1.1; rw [← HPRE.out] at this; exact this)
  have B1 := Lib.hid h1.2
  clear h1
  go_wp2_with fail
  go_loopw [3, 4] (fun v3 v4 u => ∃ (i : Nat) (A3 : Option Addr) (n3 c3 : Nat), i ≤ n ∧ v4 = .int .i64 (i : Int) ∧ v3 = .slice A3 n3 c3 ∧ OwM u W.heap.size A3 n3 c3 (pre ++ ((L.take i).map Ho.b).flatten) ∧ Below W.heap.size W u) (fun _ v4 _ => n - (intOf v4).toNat)
  case atStart => exact ⟨0, _, _, _, Nat.zero_le _, rfl, rfl, by simpa using O1.out, B1.out⟩
  case round =>
    obtain ⟨i, A3, n3, c3, hi, rfl, rfl, o3, bx⟩ := hrel
    have m9 := N16.out
    have k3 : wr.cell? ⟨x, 33, none⟩ = some (.slice A n c) := (H0.out.below bx H0.out.lt).ops
    have O3 := Lib.hid o3
    have BX := Lib.hid bx
    have N3 : Hid (n3 ≤ 41 + 10100 * n) := Lib.hid (by
      have h := o3.1
      rw [List.length_append, HP2.out] at h
      have h2 := hos_len (L.take i) (fun v hv => HMM.out v (List.mem_of_mem_take hv))
      have h3 := List.length_take_le' i L
      have h4 : 10100 * (L.take i).length ≤ 10100 * n := Nat.mul_le_mul_left _ (by rw [HN.out]; omega)
      omega)
    clear o3 bx
    by_cases him : i < n
    · obtain ⟨v, hv⟩ : ∃ v, L[i]? = some v := ⟨_, List.getElem?_eq_getElem (by have := HN.out; omega)⟩
      obtain ⟨g, q, B2, d, rfl, hg, hr, hs⟩ := HA.out wr BX.out i v hv
      have mv := HMM.out v (List.mem_of_getElem? hv)
      have CV := Lib.hid (refOp_c v B2 d wr hs mv)
      have RR := Lib.hid hr
      have VL := Lib.hid (Ho.b_len mv)
      have t1 : (i : Int) < (n : Int) := by omega
      have TK := Lib.hid (show (L.take (i + 1)).map Ho.b = (L.take i).map Ho.b ++ [v.b] by rw [List.take_add_one, hv, List.map_append]; rfl)
      obtain ⟨vb, hvb⟩ : ∃ vb, vb = v.b := ⟨_, rfl⟩
      rw [← hvb] at CV VL TK
      clear hg hr hs mv hv hvb
      go_wp2_with (first
        | (refine wpList_load_mid rfl 53 (.tmp 28) rfl g (q + i * 36) (by go_simp) (v.c B2 d) _ RR.out Try.underlying53 rfl (by rw [Ho.c_len]; exact size_op) ?_; rw [Ho.c_arr])
        | fail)
      refine CV.out.mono ?_
      rintro e w2 ⟨A5, c5, rfl, hc5, r5, b2⟩
      have R5 := Lib.hid r5
      have O3' := Lib.hid (O3.out.below b2 (Nat.le_refl _))
      have B2' := Lib.hid (BX.out.trans (b2.mono BX.out.size))
      have SB := Lib.hid (Nat.le_trans BX.out.size b2.size)
      clear b2 r5 hc5 CV O3
      obtain ⟨j0, hj0, hy0, hy1, hy2⟩ := info_parts byte_info
      go_wp2_with (first
        | (at_builtin; refine wpList_append_mk _ rfl (.tmp 24) (.tmp 30) 30 rfl W.heap.size j0 _ Try.underlying30 hj0 hy0 hy1 hy2 rfl A3 n3 c3 _ rfl O3'.out _ _ A5 c5 vb rfl R5.out (by have := N3.out; have := N16.out; have := VL.out; omega) SB.out ?_; intro A6 c6 w6 o6 g6; have O6 := Lib.hid o6; have G6 := Lib.hid g6; clear o6 g6)
        | fail)
      have bb : Below W.heap.size W w6 := by
        obtain ⟨ga, hga, h1, h2⟩ := O3'.out.lt
        exact Below.grown B2'.out (G6.out ga hga) SB.out (fun j e => by injection e with e; subst e; exact h1)
      refine ⟨⟨i + 1, A6, _, c6, by omega, by go_num, rfl, ?_, bb⟩, by simp [intOf]; omega⟩
      rw [TK.out, List.flatten_append, ← List.append_assoc]
      simpa using O6.out
    · obtain rfl : i = n := by omega
      have t1 : ¬ (i : Int) < (i : Int) := by omega
      have o3 := O3.out
      rw [List.take_of_length_le (by have := HN.out; omega)] at o3
      have O4 := Lib.hid o3
      clear o3 O3
      go_wp2_with fail
      go_ret
      have o4 := O4.out
      have e4 := o4.1
      subst e4
      exact ⟨A3, c3, rfl, o4.cap, o4.rd.wide HB.out.size (Nat.le_refl _), HB.out.trans (BX.out.mono HB.out.size)⟩
end Go.Proofs.Ytaoddppkijopmaa
namespace Go.Proofs.Ytaoddppkijopmaa
open Go.ChangeShapes Go.WideShapes Go.ChangeAt Go.RowKit
set_option linter.unusedVariables false
set_option maxRecDepth 100000

def headSignL : List UInt8 := [104, 101, 97, 100, 101, 114]
def hdC6 : Array Value := #[.int .u8 104, .int .u8 101, .int .u8 97, .int .u8 100, .int .u8 101, .int .u8 114]
theorem Hd.ops_may {h : Hd} (hm : h.may = true) : h.ops.length ≤ 16 ∧ ∀ o ∈ h.ops, o.may = true := by
  unfold Hd.may at hm
  simp only [Bool.and_eq_true, decide_eq_true_eq] at hm
  exact ⟨hm.1.2, fun o ho => List.all_eq_true.1 hm.2 o ho⟩
theorem Hd.b_len {h : Hd} (hm : h.may = true) : h.b.length ≤ 161641 := by
  have h1 := Hd.ops_may hm
  have h2 := hos_len h.ops h1.2
  have := h.hp
  unfold Hd.b
  simp only [List.length_append, putL_length]
  omega
set_option maxRecDepth 1000000 in
set_option maxHeartbeats 16000000 in
theorem refNameText_c (h : Hd) (A : Option Addr) (c : Nat) (w : World) (hA : HosAt w A h.ops) (hm : h.may = true) : Calls Try.prog 18 #[.agg (h.v A c)] w (RNewP w (headSignL ++ h.b)) := by
  obtain ⟨HV, hHV⟩ : ∃ V, V = h.v A c := ⟨_, rfl⟩
  have hsz : (Try.prog.info? 27).map (·.size) = some HV.size := by rw [hHV]; exact h.size A c
  obtain ⟨W0, hW0⟩ : ∃ W, W = w.alloc (.cells HV 27) := ⟨_, rfl⟩
  obtain ⟨W, hW⟩ : ∃ W, W = W0.alloc (.cells hdC6 5 (6, 7)) := ⟨_, rfl⟩
  have b0 : Below w.heap.size w W0 := by rw [hW0]; exact (Below.refl _ _).alloc (Nat.le_refl _) _
  have b1 : Below W0.heap.size W0 W := by rw [hW]; exact (Below.refl _ _).alloc (Nat.le_refl _) _
  have g0 : W0.heap[w.heap.size]? = some (.cells HV 27 (0, 0)) := by rw [hW0]; exact heap_alloc_new w _
  have lt0 : w.heap.size < W0.heap.size := by rw [hW0]; simp
  have g1 := (b1.block w.heap.size lt0).trans g0
  have hcv : (convert 30 30 (.slice (some ⟨W0.heap.size, 0, none⟩) 6 6)).run Try.prog (W0.alloc (.cells #[.int .u8 104, .int .u8 101, .int .u8 97, .int .u8 100, .int .u8 101, .int .u8 114] 5)) = .ok (.slice (some ⟨W0.heap.size, 0, none⟩) 6 6) W := by
    rw [hW]
    exact Lib.run_convert_bytes_const (P := Try.prog) W0 30 5 hdC6 6 6 Try.underlying30 Try.underlying5
  have OM : Hid (OwM W w.heap.size (some ⟨W0.heap.size, 0, none⟩) 6 6 headSignL) := ⟨rfl, W0.heap.size, hdC6, (6, 7), rfl, Nat.le_of_lt lt0, by rw [hW]; exact heap_alloc_new W0 _, .inr (Nat.le_refl _), Nat.le_refl _, by simp [maxLen], rfl, rfl⟩
  have HB := Lib.hid (b0.trans (b1.mono b0.size))
  have HC := Lib.hid (refHeader_c h A c W (hA.below (b0.trans (b1.mono b0.size))) hm)
  rw [← hHV] at HC ⊢
  have HW0 := Lib.hid hW0
  have HL := Lib.hid (Hd.b_len hm)
  obtain ⟨hbb, hhb⟩ : ∃ x, x = h.b := ⟨_, rfl⟩
  rw [← hhb] at HC HL ⊢
  obtain ⟨x, hx⟩ : ∃ x, x = w.heap.size := ⟨_, rfl⟩
  rw [← hx] at g1
  have HSZ := Lib.hid hsz
  have HX := Lib.hid hx
  clear hW0 hW b0 b1 g0 lt0 hA hm hhb hHV hsz
  go_enter Try.func18, Try.ntmps18
  go_upto_region 1 with fail
  rw [← HW0.out, ← hx]
  clear hx
  obtain ⟨j0, hj0, hy0, hy1, hy2⟩ := info_parts byte_info
  go_wp2_with (first
    | (refine wpList_load_row rfl 27 (.tmp 1) rfl x rfl 27 HV (0, 0) _ g1 Try.underlying27 rfl HSZ.out ?_)
    | fail)
  refine HC.out.mono ?_
  rintro e w2 ⟨A5, c5, rfl, hc5, r5, b2⟩
  have R5 := Lib.hid r5
  have OM2 := Lib.hid (OM.out.below b2 (Nat.le_refl _))
  have B2 := Lib.hid (HB.out.trans (b2.mono HB.out.size))
  have SB := Lib.hid (Nat.le_trans HB.out.size b2.size)
  clear b2 r5 hc5 HC hcv g1
  go_wp2_with (first
    | (at_builtin; refine wpList_append_mk _ rfl (.tmp 4) (.tmp 6) 30 rfl w.heap.size j0 _ Try.underlying30 hj0 hy0 hy1 hy2 rfl _ 6 6 _ rfl OM2.out _ _ A5 c5 hbb rfl R5.out (by have := HL.out; omega) SB.out ?_; intro A6 c6 w6 o6 g6; have O6 := Lib.hid o6; have G6 := Lib.hid g6; clear o6 g6)
    | fail)
  go_ret
  have bb : Below w.heap.size w w6 := by
    obtain ⟨ga, hga, h1, h2⟩ := OM2.out.lt
    exact Below.grown B2.out (G6.out ga hga) SB.out (fun j e => by injection e with e; subst e; exact h1)
  have o6 := O6.out
  have e6 := o6.1
  rw [e6] at o6 ⊢
  exact ⟨A6, c6, rfl, o6.cap, o6.rd, bb⟩
end Go.Proofs.Ytaoddppkijopmaa
