/- The walk of FieldBlobs. -/
import Derived.Test.YthbnnhnnldakeaaMuch
import Derived.Deep.DeepCutAuto
import Derived.Deep.QuietTactic
import Derived.BigQuiet
import Derived.IntWalk
import Derived.Deep.RegionLaw
namespace Go.Proofs.Ythbnnhnnldakeaa
open Go.ChangeShapes Go.WideShapes Go.ChangeAt Go.RowKit
set_option linter.unusedVariables false

theorem Rd.drewN {w : World} {lo hi : Nat} {A : Option Addr} {l : List UInt8} (h : Rd w lo hi A l) (n : Nat) : Rd (w.drewN n) lo hi A l := h
theorem RdL.drewN {w : World} {hi : Nat} {A : Option Addr} {L : List Pc} (h : RdL w hi A L) (n : Nat) : RdL (w.drewN n) hi A L := h
theorem below_drewN {B : Nat} {a w : World} (h : Below B a w) (n : Nat) : Below B a (w.drewN n) := ⟨h.os, h.tape, h.output, h.size, h.block⟩
theorem code_same (n : Int) (w : World) : Calls Try.prog 10 #[.int .i64 n] w fun e w' => e = .returned (.int .i64 n) ∧ w' = w := (code_any n w).mono fun _ _ h => ⟨h.1, h.2.symm⟩

/-- Is there much? -/
def Q16 (w : World) (b : List UInt8) (L : List Pc) (v : Value) (wx : World) : Prop := ∃ q : Bool, v = .bool q ∧ w = wx ∧ (q = false → b.length ≤ 70000 ∧ L.length + (flat L).length ≤ 3000)
/-- What stands behind Blob. -/
def B3 (w : World) (b : List UInt8) (f e : Value) (wx : World) : Prop :=
  (65535 < b.length ∧ f = .slice none 0 0 ∧ e = .int .i64 3 ∧ w = wx) ∨
  (b.length ≤ 65535 ∧ ∃ A c, f = .slice A (blobL b).length c ∧ e = .int .i64 0 ∧ (blobL b).length ≤ c ∧ Ow wx w.heap.size A (blobL b) ∧ Below w.heap.size w wx)

theorem RdL.wide {w : World} {hi hi' : Nat} {A : Option Addr} {L : List Pc} (h : RdL w hi A L) (h1 : hi ≤ hi') : RdL w hi' A L :=
  ⟨fun hn => by
    obtain ⟨b, off, e, h2, hc⟩ := h.1 hn
    exact ⟨b, off, e, by omega, hc⟩, fun x hx => (h.2 x hx).wide (Nat.le_refl _) h1⟩
theorem flat_split (L : List Pc) (k : Nat) : flat L = flat (L.take k) ++ flat (L.drop k) := by
  unfold flat
  rw [← List.flatten_append, ← List.map_append, List.take_append_drop]
theorem flat_piece (L : List Pc) (k : Nat) (h : k < L.length) : ((flat L).drop (flat (L.take k)).length).take L[k].2.2.length = L[k].2.2 := by
  rw [flat_split L (k + 1), flat_take L k h, List.append_assoc, List.drop_left, List.take_left]

theorem blobL_length (b : List UInt8) : (blobL b).length = b.length + 2 := by simp [blobL, putL_length]; omega
theorem blob_at0 (b : List UInt8) (h : b.length ≤ 65535) : (blobL b)[0]? = some (UInt8.ofNat (b.length / 256)) ∧ (blobL b)[1]? = some (UInt8.ofNat b.length) := by
  have e : putL b.length 2 = [UInt8.ofNat (b.length / 2 ^ 8), UInt8.ofNat (b.length / 2 ^ 0)] := rfl
  unfold blobL
  rw [e]
  constructor
  · rfl
  · simp
theorem blob_drop (b : List UInt8) : (blobL b).drop 2 = b := by
  unfold blobL
  rw [List.drop_append_of_le_length (by rw [putL_length]; omega), List.drop_of_length_le (by rw [putL_length]; omega)]
  rfl

set_option maxRecDepth 100000 in
set_option maxHeartbeats 8000000 in
theorem fieldBlobs_any (A1 A2 : Option Addr) (c1 c2 : Nat) (b : List UInt8) (L : List Pc) (w : World)
    (r1 : Rd w 0 w.heap.size A1 b) (r2 : RdL w w.heap.size A2 L) (hb : b.length ≤ 9223372036854775807) (hL : L.length ≤ 9223372036854775807) :
    Calls Try.prog 4 #[.slice A1 b.length c1, .slice A2 L.length c2] w fun e w' => e = .returned (.bool true) ∧ Below w.heap.size w w' := by
  go_enter Try.func4, Try.ntmps4
  go_upto_region 1 with fail
  go_cut [16] (fun s16 wx => Q16 w b L s16 wx)
  case first =>
    by_cases h7 : 70000 < b.length
    · have d1 : decide ((70000 : Int) < (b.length : Int)) = true := by simp; omega
      go_wp2
      go_meet
      exact ⟨true, rfl, rfl, fun e => by cases e⟩
    · have d1 : decide ((70000 : Int) < (b.length : Int)) = false := by simp; omega
      go_wp2_with (go_at_call 15; refine (much_any A2 c2 L _ r2 hL).mono ?_; rintro e w' ⟨q, rfl, rfl, hq⟩)
      go_meet
      exact ⟨q, rfl, rfl, fun e => ⟨by omega, hq e⟩⟩
  case rest =>
    obtain ⟨q, hu, rfl, hq⟩ := hcut
    subst hu
    rcases q with _ | _
    · obtain ⟨hb7, hL3⟩ := hq rfl
      clear hq
      go_upto_region 3 with fail
      go_cut [5, 6] (fun s5 s6 wx => B3 w b s5 s6 wx)
      case first =>
        by_cases h6 : 65535 < b.length
        · go_wp2_with (go_at_call 16; refine (blob_long A1 c1 b.length _ h6 (by omega)).mono ?_; rintro e w' ⟨rfl, rfl⟩)
          go_meet
          exact .inl ⟨h6, rfl, rfl, rfl⟩
        · go_wp2_with (go_at_call 16; refine (blob_ok A1 c1 b _ r1 (by omega)).mono ?_; rintro e w1 ⟨A, c, rfl, hc, ho, hbw⟩)
          go_meet
          exact .inr ⟨by omega, A, c, rfl, rfl, hc, ho, hbw⟩
      case rest =>
        obtain ⟨wa, rfl⟩ : ∃ wa : World, wa = wc := ⟨_, rfl⟩
        have hB := hcut
        clear hcut
        go_upto_if 25 with fail
        go_cut [5, 6] (fun _ _ wx => Below w.heap.size w wx)
        case first =>
          rcases hB with ⟨h6, rfl, rfl, rfl⟩ | ⟨h6, A, c, rfl, rfl, hc, ho, hbw⟩
          · go_wp2_with (go_at_call 10; refine (code_any _ _).mono ?_; rintro e w' ⟨rfl, rfl⟩)
            go_meet
            exact Below.refl _ _
          · have HBL := Lib.hid (blobL_length b)
            obtain ⟨g, off, rfl, hg1, hg2, hcell⟩ := ho.rd (by rw [HBL.out]; omega)
            have HO := Lib.hid hcell
            obtain ⟨e0, e1⟩ := blob_at0 b h6
            have k0 : wa.cell? ⟨g, off, none⟩ = some (.int .u8 ((b.length : Int) / 256)) := by
              have := hcell 0 _ e0
              rw [Nat.add_zero] at this
              rw [this]
              unfold bv
              rw [UInt8.toNat_ofNat']
              congr 2
              show ((b.length / 256 % 256 : Nat) : Int) = _
              omega
            have k1 : wa.cell? ⟨g, off + 1, none⟩ = some (.int .u8 ((b.length : Int) % 256)) := by
              have := hcell 1 _ e1
              rw [this]
              unfold bv
              rw [UInt8.toNat_ofNat']
              congr 2
            clear hcell e0 e1 HO
            have hlen : 0 < b.length + 2 := by omega
            have hlen1 : 1 < b.length + 2 := by omega
            have hcc : b.length + 2 ≤ c := by rw [← HBL.out]; exact hc
            have q1 := (r1.below hbw (Nat.le_refl _))
            have s2 : ∀ nq, (convert 23 9 (.slice A1 b.length c1)).run Try.prog (wa.drewN nq) = .ok (.string ⟨b.toArray⟩) (wa.drewN nq) := fun nq => run_str (q1.drewN nq) _ c1 rfl
            have hd := ho.rd.drop (k := 2) (cap := c) (by rw [HBL.out]; omega)
            rw [blob_drop b] at hd
            have s1 : ∀ nq, (convert 23 9 (.slice (if c = 2 then some ⟨g, off, none⟩ else some ⟨g, off + 2, none⟩) b.length (c - 2))).run Try.prog (wa.drewN nq) = .ok (.string ⟨b.toArray⟩) (wa.drewN nq) := fun nq => run_str (hd.drewN nq) _ _ rfl
            rw [HBL.out]
            clear hd hc q1
            go_wp2_with fail
            have wA : IntKind.i64.wrap ((b.length : Int) + 2) = (b.length : Int) + 2 := IntWalk.i64_in _ (by omega)
            have wB : IntKind.i64.wrap ((b.length : Int) / 256) = (b.length : Int) / 256 := IntWalk.i64_in _ (by omega)
            have wC : IntKind.i64.wrap ((b.length : Int) / 256 * 256) = (b.length : Int) / 256 * 256 := IntWalk.i64_in _ (by omega)
            have wD : IntKind.i64.wrap ((b.length : Int) % 256) = (b.length : Int) % 256 := IntWalk.i64_in _ (by omega)
            have wE : IntKind.i64.wrap ((b.length : Int) / 256 * 256 + (b.length : Int) % 256) = (b.length : Int) := (IntWalk.i64_in _ (by omega)).trans (by omega)
            have i0 : (0 : Int) < (b.length : Int) + 2 := by omega
            have i1 : (1 : Int) < (b.length : Int) + 2 := by omega
            have i2 : (2 : Int) ≤ (b.length : Int) + 2 := by omega
            have hcI : (b.length : Int) + 2 ≤ (c : Int) := by omega
            go_quiet ((go_at_call 10; exact Calls.quiet_of_same (code_same _ _)))
            clear wA wB wC wD wE
            go_wp2_with fail
            all_goals go_meet
            all_goals exact below_drewN hbw _
        case rest =>
          obtain ⟨wb, rfl⟩ : ∃ wb : World, wb = wc := ⟨_, rfl⟩
          have hbw := hcut
          clear hcut hB r1
          have hbs := hbw.size
          have q2 := (r2.below hbw (Nat.le_refl _)).wide hbs
          clear r2
          go_wp2_with (go_at_call 13; refine (join_any A2 c2 L _ q2 (by omega) (by omega)).mono ?_; rintro e w2 ⟨A7, c7, rfl, hc7, ho7, hb7⟩)
          have hs7 := hb7.size
          have hw2 := hbw.trans (hb7.mono hbs)
          have q3 := (q2.below hb7 (Nat.le_refl _)).wide hs7
          clear q2 hb7 hbw
          go_loopw [8, 9] (fun s i wr => ∃ k n : Nat, k ≤ L.length ∧ i = .int .i64 k ∧ s = .int .i64 ((flat (L.take k)).length : Int) ∧ w2.drewN n = wr) (fun _ i _ => L.length - (intOf i).toNat)
          case atStart => exact ⟨0, 0, Nat.zero_le _, rfl, rfl, rfl⟩
          case round =>
            obtain ⟨k, n, hk, rfl, rfl, rfl⟩ := hrel
            by_cases hlt : k < L.length
            · obtain ⟨bb, off, rfl, _, hc, hr⟩ := q3.at_ hlt
              have HP := Lib.hid (flat_piece L k hlt)
              have HT := Lib.hid (show (flat (L.take (k + 1))).length = (flat (L.take k)).length + L[k].2.2.length by rw [flat_take L k hlt, List.length_append])
              have hf1 := flat_le L (k + 1)
              rw [HT.out] at hf1
              have hd := (ho7.rd.drop (k := (flat (L.take k)).length) (cap := c7) hc7).take L[k].2.2.length
              rw [HP.out] at hd
              clear HP
              generalize L[k].2.2 = pc at *
              generalize L[k].1 = Ap at *
              generalize L[k].2.1 = cp at *
              generalize (flat (L.take k)).length = F at *
              have s1 : ∀ nq, (convert 23 9 (.slice (if c7 = F then A7 else A7.map (·.add F)) pc.length (c7 - F))).run Try.prog (w2.drewN nq) = .ok (.string ⟨pc.toArray⟩) (w2.drewN nq) := fun nq => run_str (hd.drewN nq) _ _ rfl
              have s2 : ∀ nq, (convert 23 9 (.slice Ap pc.length cp)).run Try.prog (w2.drewN nq) = .ok (.string ⟨pc.toArray⟩) (w2.drewN nq) := fun nq => run_str (hr.drewN nq) _ _ rfl
              have hc' : ∀ nq, (w2.drewN nq).cell? ⟨bb, off + k, none⟩ = some (.slice Ap pc.length cp) := fun nq => hc
              clear hd hr
              generalize (flat L).length = T at *
              have dT : decide ((T : Int) < (F : Int) + (pc.length : Int)) = false := by simp; omega
              have i1 : (F : Int) ≤ (F : Int) + (pc.length : Int) := by omega
              have i2 : (F : Int) + (pc.length : Int) ≤ (c7 : Int) := by omega
              have i3 : (k : Int) < (L.length : Int) := by omega
              go_wp2_with fail
              have wA : IntKind.i64.wrap ((F : Int) + (pc.length : Int)) = (F : Int) + (pc.length : Int) := IntWalk.i64_in _ (by omega)
              go_quiet (fail)
              clear wA
              go_wp2_with fail
              exact ⟨⟨k + 1, n + nq, by omega, by go_num, by rw [HT.out]; go_num, rfl⟩, by simp [intOf]; omega⟩
            · obtain rfl : k = L.length := by omega
              rw [List.take_length]
              have sA : ∀ m, (convert 23 9 (.slice A7 (flat L).length c7)).run Try.prog (w2.drewN m) = .ok (.string ⟨(flat L).toArray⟩) (w2.drewN m) := fun m => run_str (ho7.rd.drewN m) _ _ rfl
              have sB : ∀ m o, (convert 23 9 (.slice A7 (flat L).length c7)).run Try.prog ((w2.drewN m).alloc o) = .ok (.string ⟨(flat L).toArray⟩) ((w2.drewN m).alloc o) := fun m o => run_str ((ho7.rd.drewN m).alloc (Nat.le_refl _) o) _ _ rfl
              have HJ := Lib.hid (fun m => join1 A7 c7 (flat L).length (flat L) (w2.drewN m) rfl ((ho7.rd.drewN m).wide (Nat.zero_le _) (Nat.le_refl _)) (by omega))
              have HS := Lib.hid (fun (m : Nat) (w3 : World) (h : Below (w2.drewN m).heap.size (w2.drewN m) w3) => run_str (((ho7.rd.drewN m).below h (Nat.le_refl _))) (flat L).length c7 rfl)
              have HK := Lib.hid known_any
              have HW := Lib.hid (fun m => below_drewN hw2 m)
              unfold strOf at HS
              clear ho7 q3 hc7 hw2
              go_wp2_with fail
              go_region_with (first | (go_at_call 13; refine (HJ.out _).mono ?_; rintro e w3 ⟨A8, c8, rfl, hc8, ho8, hb8⟩; have s3 := run_str ho8.rd _ c8 rfl; unfold strOf at s3; have s4 := HS.out _ _ hb8; clear hc8 ho8) | (go_at_call 12; refine (HK.out _).mono ?_; rintro e w4 ⟨rfl, hb9⟩))
              all_goals
                go_wp2
                go_ret
                have hx := (HW.out _).trans (hb8.mono (HW.out _).size)
                exact ⟨rfl, hx.trans (hb9.mono hx.size)⟩
    · go_wp2_with (go_at_call 12; refine (known_any _).mono ?_; rintro e w3 ⟨rfl, hb3⟩)
      go_ret
      exact ⟨rfl, hb3⟩
end Go.Proofs.Ythbnnhnnldakeaa
