/- The walk of RowsBack. -/
import Derived.Test.YthbnnhnnldakeaaRowsPlain
import Derived.Deep.DeepCutAuto
import Derived.Deep.QuietTactic
import Derived.BigQuiet
import Derived.IntWalk
namespace Go.Proofs.Ythbnnhnnldakeaa
open Go.ChangeShapes Go.WideShapes Go.ChangeAt Go.RowKit
set_option linter.unusedVariables false

theorem int_info : (Try.prog.info? 3).map (fun i => (i.zero, i.size, i.bytes)) = some (some (.int .i64 0), 1, 8) := by kernel_rfl

/-- Is there much, or no room? -/
def Q30 (w : World) (n : Nat) (size : Int) (L : List Pc) (v : Value) (wx : World) : Prop := ∃ q : Bool, v = .bool q ∧ w = wx ∧ (q = false → L.length + (flat L).length ≤ 3000 ∧ roomB n size = true)

/-- The ends of the first k blobs. -/
def endsL (n sz : Nat) (L : List Pc) (k : Nat) : List Value := (List.range k).map fun j => .int .i64 ((rowL n sz L (j + 1)).length : Int)
theorem endsL_succ (n sz : Nat) (L : List Pc) (k : Nat) : endsL n sz L (k + 1) = endsL n sz L k ++ [.int .i64 ((rowL n sz L (k + 1)).length : Int)] := by
  simp [endsL, List.range_succ]
theorem endsL_at (n sz : Nat) (L : List Pc) (k j : Nat) (h : j < k) : (endsL n sz L k)[j]? = some (.int .i64 ((rowL n sz L (j + 1)).length : Int)) := by
  simp [endsL, h]

/-- The row, and its ends, behind k blobs. -/
def RowB (w : World) (n sz : Nat) (L : List Pc) (k : Nat) (row ends : Value) (wr : World) : Prop :=
  ∃ A c, row = .slice A (rowL n sz L k).length c ∧ Ow wr w.heap.size A (rowL n sz L k) ∧ wr.ownsRow w.heap.size 3 1 ends k (endsL n sz L k) ∧ Below w.heap.size w wr

/-- A block of bytes is no block of ints. -/
theorem Ow.grown_ints {w w' : World} {lo base n : Nat} {A : Option Addr} {l : List UInt8} {v : Value} {xs : List Value} (h : Ow w lo A l) (hv : w.ownsRow base 3 1 v n xs) (hg : w.grownBy w' v.ownBlock) : Ow w' lo A l := fun hn => by
  obtain ⟨b, cur, e, h1, h2, hh, hc⟩ := h hn
  refine ⟨b, cur, e, h1, Nat.lt_of_lt_of_le h2 hg.size, (hg.block b h2 (fun hb => ?_)).trans hh, hc⟩
  rcases hv.2 with ⟨rfl, _⟩ | ⟨g, cap, cur', rfl, _, hh', _⟩
  · simp [Value.ownBlock] at hb
  · have : b = g := by simpa [Value.ownBlock] using hb
    subst this
    rw [hh] at hh'
    injection hh' with hh'
    injection hh' with _ ht
    cases ht

theorem RdL.widen {w : World} {hi hi' : Nat} {A : Option Addr} {L : List Pc} (h : RdL w hi A L) (h1 : hi ≤ hi') : RdL w hi' A L :=
  ⟨fun hn => by
    obtain ⟨b, off, e, h2, hc⟩ := h.1 hn
    exact ⟨b, off, e, by omega, hc⟩, fun x hx => (h.2 x hx).wide (Nat.le_refl _) h1⟩
theorem RS.drewN {w : World} {lo p : Nat} {st : Option (List UInt8)} (h : RS w lo p st) (n : Nat) : RS (w.drewN n) lo p st := by
  cases st with
  | none => exact h
  | some l => exact h
theorem below_drew {B : Nat} {a w : World} (h : Below B a w) (n : Nat) : Below B a (w.drewN n) := ⟨h.os, h.tape, h.output, h.size, h.block⟩
def outB (c : Int) (n : Nat) : Bool := decide (c < 0 ∨ (n : Int) < c)
theorem one_cell (w : World) (t : TypeId) (v : Value) : ∀ (j : Nat) (u : Value), [v][j]? = some u → (w.alloc (.cells #[v] t)).cell? ((⟨w.heap.size, 0, none⟩ : Addr).add j) = some u := by
  intro j u hu
  match j, hu with
  | 0, hu =>
    injection hu with hu
    subst hu
    show (w.alloc (.cells #[v] t)).cell? ⟨w.heap.size, 0, none⟩ = some v
    rw [cell_of_row _ w.heap.size 0 _ _ (0, 0) (heap_alloc_new w _)]
    rfl
theorem one_cell_int (n : Int) : ∀ u ∈ [Value.int .i64 n], u.oneCell' = true := by
  intro u hu
  simp at hu
  subst hu
  rfl

set_option maxRecDepth 100000 in
set_option maxHeartbeats 8000000 in
theorem rowsBack_any (n : Nat) (size ct : Int) (A2 : Option Addr) (c2 : Nat) (L : List Pc) (w : World) (hn : n < 18446744073709551616)
    (r2 : RdL w w.heap.size A2 L) (hL : L.length ≤ 9223372036854775807) :
    Calls Try.prog 7 #[.int .u64 n, .int .i64 size, .slice A2 L.length c2, .int .i64 ct] w fun e w' => e = .returned (.bool true) ∧ Below w.heap.size w w' := by
  go_enter Try.func7, Try.ntmps7
  go_upto_region 1 with fail
  go_cut [30] (fun s30 wx => Q30 w n size L s30 wx)
  case first =>
    go_wp2_with fail
    refine (much_any A2 c2 L _ r2 hL).mono ?_
    rintro e w' ⟨q, rfl, rfl, hq⟩
    rcases q with _ | _
    · have HQ := Lib.hid (hq rfl)
      clear hq
      have HR := Lib.hid (room_any n size w hn)
      rcases hr : roomB n size with _ | _
      · rw [hr] at HR
        go_wp2_with (go_at_call 32; refine HR.out.mono ?_; rintro e w' ⟨rfl, rfl⟩)
        go_meet
        exact ⟨true, rfl, rfl, fun e => by cases e⟩
      · have H1 := Lib.hid hr
        rw [hr] at HR
        clear hr
        go_wp2_with (go_at_call 32; refine HR.out.mono ?_; rintro e w' ⟨rfl, rfl⟩)
        go_meet
        exact ⟨false, rfl, rfl, fun e => ⟨HQ.out, H1.out⟩⟩
    · go_wp2_with fail
      go_meet
      exact ⟨true, rfl, rfl, fun e => by cases e⟩
  case rest =>
    obtain ⟨q, hu, rfl, hq⟩ := hcut
    subst hu
    rcases q with _ | _
    · obtain ⟨hL3, hroom⟩ := hq rfl
      obtain ⟨hs1, hs8, hs⟩ := of_decide_eq_true hroom
      obtain ⟨sz, rfl⟩ := Int.eq_ofNat_of_zero_le (by omega : 0 ≤ size)
      rw [Int.toNat_natCast] at hs
      clear hq hroom
      have HN := Lib.hid hs
      clear hs
      have hz1 : 1 ≤ sz := by omega
      have hz8 : sz ≤ 8 := by omega
      have h63 : L.length ≤ 3000 := by omega
      obtain ⟨j0, hj0, hy0, hy1, hy2⟩ := info_parts int_info
      go_wp2_with (go_at_call 9; refine (put_ok n sz _ hz1 hz8 hn HN.out).mono ?_; rintro e w1 ⟨rfl, ho1, hb1⟩)
      go_loopw [11, 12, 13] (fun row ends i wr => ∃ k : Nat, k ≤ L.length ∧ i = .int .i64 k ∧ RowB w n sz L k row ends wr) (fun _ _ i _ => L.length - (intOf i).toNat)
      case atStart => exact ⟨0, Nat.zero_le _, rfl, _, sz, by rw [rowL_zero, putL_length], by rw [rowL_zero]; exact ho1, World.ownsRow_nil _ _ _ _, hb1⟩
      case round =>
        obtain ⟨k, hk, rfl, A, c, rfl, ho, hown, hb⟩ := hrel
        have HRL := Lib.hid (rowL_len n sz L k hk)
        have hfl := flat_le L k
        by_cases hlt : k < L.length
        · obtain ⟨bb, off, rfl, _, hc, hr⟩ := (r2.below hb (Nat.le_refl _)).at_ hlt
          have HS := Lib.hid (rowL_succ n sz L k hlt)
          have HT := Lib.hid (flat_take L k hlt)
          have hf1 := flat_le L (k + 1)
          rw [HT.out, List.length_append] at hf1
          have hbs := hb.size
          have hr' := hr.wide (Nat.le_refl _) hbs
          have hrow : (rowL n sz L k).length ≤ 6008 := by rw [HRL.out]; omega
          have hpc : L[k].2.2.length ≤ 3000 := by omega
          clear hr HT
          go_wp2_with (go_at_call 16; refine (blob_ok _ _ L[k].2.2 _ hr' (by omega)).mono ?_; rintro e w2 ⟨A3, c3, rfl, hc3, ho3, hb3⟩)
          go_wp2_with (go_at_call 10; refine (code_any _ _).mono ?_; rintro e w' ⟨rfl, rfl⟩)
          have hs3 := hb3.size
          have ho2 := ho.below hb3 (Nat.le_refl _)
          have hown2 := hown.kept (grown_of_below hb3 none) (by rcases h : Value.ownBlock _ with _ | g; exact .inl rfl; exact .inr (by simp))
          have hb2 := hb.trans (hb3.mono hbs)
          clear ho hown hb hr' hc
          refine (join2 _ _ _ _ _ _ (rowL n sz L k) (blobL L[k].2.2) _ rfl rfl (ho2.rd.wide (Nat.zero_le _) (Nat.le_refl _)) (ho3.rd.wide (Nat.zero_le _) (Nat.le_refl _)) (by rw [blobLn]; omega)).mono ?_
          rw [← HS.out]
          rintro e w4 ⟨A4, c4, rfl, hc4, ho4, hb4⟩
          have hs4 := hb4.size
          have hown4 := hown2.kept (grown_of_below hb4 none) (by rcases h : Value.ownBlock _ with _ | g; exact .inl rfl; exact .inr (by simp))
          have hb5 := hb2.trans (hb4.mono (by omega))
          have ho5 := ho4.wide (lo' := w.heap.size) (by omega)
          clear ho2 hown2 hb2 hb4 ho4 ho3 hb3 hc3 hc4
          have HO := Lib.hid (hown4.alloc (.cells #[.int .i64 ((rowL n sz L (k + 1)).length : Int)] 3))
          have HC := Lib.hid (one_cell w4 3 (.int .i64 ((rowL n sz L (k + 1)).length : Int)))
          go_wp2_with (at_builtin; refine wpList_append_own _ rfl (.tmp 60) (.tmp 63) _ rfl w.heap.size 3 j0 (.int .i64 0) 1 8 Try.underlying55 hj0 hy0 hy1 hy2 rfl (by decide) u12 k (endsL n sz L k) rfl HO.out ⟨w4.heap.size, 0, none⟩ 1 1 [.int .i64 ((rowL n sz L (k + 1)).length : Int)] rfl rfl HC.out (one_cell_int _) (by simp only [maxLen]; omega) (by omega) (by simp; have := hb5.size; omega) ?_; intro v6 w6 hown6 hg6 _)
          refine ⟨⟨k + 1, by omega, by go_num, A4, c4, rfl, ?_, ?_, ?_⟩, by simp [intOf]; omega⟩
          · exact (ho5.below ((Below.refl w4.heap.size w4).alloc (Nat.le_refl _) _) (Nat.le_refl _)).grown_ints HO.out hg6
          · rw [endsL_succ]; exact hown6
          · exact (hb5.alloc hb5.size _).grown hg6 (by simp; have := hb5.size; omega) (fun g hg => (HO.out.lt g hg).1)
        · obtain rfl : k = L.length := by omega
          obtain ⟨wq, rfl⟩ : ∃ wq : World, wq = wr := ⟨_, rfl⟩
          rw [List.take_length] at HRL
          obtain ⟨R, hRd⟩ : ∃ R, R = rowL n sz L L.length := ⟨_, rfl⟩
          rw [← hRd] at ho HRL ⊢
          have HR := Lib.hid hRd
          have hR6 : R.length ≤ 6008 := by rw [HRL.out]; omega
          clear hRd hb1 ho1 hfl
          have hqs := hb.size
          have hrow := ho.rd.wide (lo' := 0) (Nat.zero_le _) (Nat.le_refl _)
          have hrl := (r2.below hb (Nat.le_refl _)).widen hqs
          clear ho r2
          have HB0 := Lib.hid (blob_ok A c R wq hrow (by omega))
          go_wp2_with (first | (go_at_call 16; refine HB0.out.mono ?_; rintro e w5 ⟨A5, c5, rfl, hc5, ho5, hb5⟩) | (go_at_call 10; refine (code_any _ _).mono ?_; rintro e w' ⟨rfl, rfl⟩))
          have HBL := Lib.hid (blobLn R)
          have hs5 := hb5.size
          refine (read_any A5 c5 (blobL R) w5 (ho5.rd.wide (Nat.zero_le _) (Nat.le_refl _)) (by rw [HBL.out]; omega)).mono ?_
          rintro e w6 ⟨p, rfl, hp, hR6', hb6⟩
          have hs6 := hb6.size
          have hbq6 := hb5.trans (hb6.mono hs5)
          have HBB := Lib.hid (blob_at _ p _ w6 hR6')
          have hbs : blobS (some (blobL R)) = (R, some []) := by have := blobS_yes R [] (by omega); rwa [List.append_nil] at this
          rw [hbs] at HBB
          clear hbs ho5 hc5 hb5 hb6 hR6' HB0
          go_wp2_with fail
          refine HBB.out.mono ?_
          rintro e w7 ⟨A6, rfl, ho7, hR7, hg7⟩
          have hbq7 := hbq6.grown hg7 hbq6.size (fun g hg => by injection hg with hg; omega)
          have s1 := run_str ho7.rd R.length R.length rfl
          have s2 := run_str (hrow.below hbq7 (Nat.le_refl _)) R.length c rfl
          unfold strOf at s1 s2
          have hin := ho7.rd.wide (lo' := 0) (Nat.zero_le _) (Nat.le_refl _)
          clear HBB hR7 hg7 hbq6 ho7
          go_upto_region 20 with fail
          clear s1 s2
          go_cut [91] (fun s91 wx => s91 = .bool (outB ct R.length) ∧ w7 = wx)
          case first =>
            by_cases h1 : ct < 0
            · have d1 : decide (ct < 0) = true := by simpa using h1
              have HD := Lib.hid (show outB ct R.length = true by unfold outB; simp [h1])
              go_wp2
              go_meet
              exact ⟨by rw [HD.out], rfl⟩
            · have d1 : decide (ct < 0) = false := by simpa using h1
              by_cases h2 : (R.length : Int) < ct
              · have d2 : decide ((R.length : Int) < ct) = true := by simpa using h2
                have HD := Lib.hid (show outB ct R.length = true by unfold outB; simp [h2])
                go_wp2
                go_meet
                exact ⟨by rw [HD.out], rfl⟩
              · have d2 : decide ((R.length : Int) < ct) = false := by simpa using h2
                have HD := Lib.hid (show outB ct R.length = false by unfold outB; simp only [decide_eq_false_iff_not]; omega)
                go_wp2
                go_meet
                exact ⟨by rw [HD.out], rfl⟩
          case rest =>
            obtain ⟨hu, rfl⟩ := hcut
            subst hu
            go_upto_if 91 with fail
            go_cut [3] (fun s3 wx => ∃ cn : Nat, cn ≤ R.length ∧ s3 = .int .i64 cn ∧ w7 = wx)
            case first =>
              by_cases h1 : ct < 0 ∨ (R.length : Int) < ct
              · have hd : outB ct R.length = true := decide_eq_true h1
                rw [hd]
                go_wp2
                go_meet
                exact ⟨R.length, Nat.le_refl _, rfl, rfl⟩
              · have hd : outB ct R.length = false := decide_eq_false h1
                rw [hd]
                obtain ⟨cn, rfl⟩ := Int.eq_ofNat_of_zero_le (by omega : 0 ≤ ct)
                go_wp2
                go_meet
                exact ⟨cn, by omega, rfl, rfl⟩
            case rest =>
              obtain ⟨cn, hcn, rfl, rfl⟩ := hcut
              have HTK := Lib.hid (show (R.take cn).length = cn by rw [List.length_take]; omega)
              have hs7 := hbq7.size
              have HRD := Lib.hid (read_any A6 R.length (R.take cn) w7 (hin.take cn) (by rw [HTK.out]; omega))
              rw [HTK.out] at HRD
              go_wp2_with (go_at_call 20; refine HRD.out.mono ?_; rintro e w8 ⟨p2, rfl, hp2, hR8, hb8⟩)
              have hs8 := hb8.size
              have hbq8 := hbq7.trans (hb8.mono hs7)
              have HNA := Lib.hid (number_at _ p2 _ (sz : Int) w8 hR8)
              obtain ⟨post, hpost⟩ := rowL_split n sz L 0
              rw [rowL_zero, ← HR.out] at hpost
              have hns := num_step n sz post cn hz1 hz8 HN.out
              rw [← hpost] at hns
              unfold NumP at HNA
              rw [hns] at HNA
              obtain ⟨mv, hmv⟩ : ∃ mv : Nat, mv = if sz ≤ cn then n else 0 := ⟨_, rfl⟩
              simp only [← hmv] at HNA
              have HMV := Lib.hid hmv
              clear hmv hns hpost hR8 HRD hb8
              refine HNA.out.mono ?_
              rintro e w9 ⟨rfl, hR9, hg9⟩
              have hbq9 := hbq8.grown hg9 hbq8.size (fun g hg => by injection hg with hg; omega)
              have hp2q : wq.heap.size ≤ p2 := by omega
              clear HNA hg9 hbq8 hin
              go_upto_region 24 with fail
              go_cut [117] (fun s117 wx => s117 = .bool false ∧ w9 = wx)
              case first =>
                by_cases hc : sz ≤ cn
                · have e1 : mv = n := by rw [HMV.out, if_pos hc]
                  subst e1
                  have d1 : decide (sz ≤ cn) = true := by simpa using hc
                  have d2 : decide (cn < sz) = false := by simpa using hc
                  go_wp2
                  go_meet
                  exact ⟨rfl, rfl⟩
                · have e1 : mv = 0 := by rw [HMV.out, if_neg hc]
                  subst e1
                  have d1 : decide (sz ≤ cn) = false := by simpa using hc
                  have d2 : decide (cn < sz) = true := by simpa using hc
                  go_wp2
                  go_meet
                  exact ⟨rfl, rfl⟩
              case rest =>
                obtain ⟨rfl, rfl⟩ := hcut
                clear HMV
                have HE : ∀ j, j < L.length → ∃ ge ce, u12 = .slice (some ⟨ge, 0, none⟩) L.length ce ∧ ge < wq.heap.size ∧ wq.cell? ⟨ge, j, none⟩ = some (.int .i64 ((rowL n sz L (j + 1)).length : Int)) := fun j hj => by
                  obtain ⟨ge, ce, hv, _, hlt⟩ := hown.form (by omega)
                  subst hv
                  refine ⟨ge, ce, rfl, hlt, ?_⟩
                  rw [hown.cellAt j (by omega)]
                  exact endsL_at n sz L L.length j hj
                have HE' := Lib.hid HE
                clear HE hown
                go_wp2_with fail
                go_loopw [21] (fun i wx => ∃ k : Nat, k ≤ L.length ∧ i = .int .i64 k ∧ RS wx w7.heap.size p2 (stAt R cn (rowL n sz L k).length) ∧ Below wq.heap.size wq wx) (fun i _ => L.length - (intOf i).toNat)
                case atStart => exact ⟨0, Nat.zero_le _, rfl, by rw [rowL_zero, putL_length]; exact hR9, hbq9⟩
                case round =>
                  obtain ⟨k, hk, rfl, hRk, hbk⟩ := hrel
                  by_cases hlt : k < L.length
                  · obtain ⟨ge, ce, hu12, hge, hce⟩ := HE'.out k hlt
                    subst hu12
                    obtain ⟨bb, off, rfl, hbb, hc, hr⟩ := hrl.at_ hlt
                    obtain ⟨post, hpost⟩ := rowL_split n sz L (k + 1)
                    rw [← HR.out, rowL_succ n sz L k hlt] at hpost
                    have hpc : L[k].2.2.length ≤ 3000 := by
                      have := flat_le L (k + 1)
                      rw [flat_take L k hlt, List.length_append] at this
                      omega
                    have hst := blob_step (rowL n sz L k) L[k].2.2 post cn (by omega)
                    rw [← hpost, ← rowL_succ n sz L k hlt] at hst
                    have HBA := Lib.hid (blob_at _ p2 _ wr hRk)
                    have i3 : (k : Int) < (L.length : Int) := by omega
                    by_cases hc9 : (rowL n sz L (k + 1)).length ≤ cn
                    · rw [if_pos hc9] at hst
                      rw [hst] at HBA
                      clear hst hpost hRk
                      obtain ⟨E, hE⟩ : ∃ E, E = (rowL n sz L (k + 1)).length := ⟨_, rfl⟩
                      have HE2 := Lib.hid hE
                      rw [← hE] at hce hc9
                      clear hE
                      generalize L[k].2.2 = pc at *
                      generalize L[k].1 = Ap at *
                      generalize L[k].2.1 = cp at *
                      go_wp2_with (go_at_call 23; refine HBA.out.mono ?_; rintro e wx ⟨Ab, rfl, hob, hRx, hgx⟩)
                      have hbx := hbk.grown hgx hbk.size (fun g hg => by injection hg with hg; omega)
                      have s1 : ∀ nq, (convert 23 9 (.slice Ab pc.length pc.length)).run Try.prog (wx.drewN nq) = .ok (.string ⟨pc.toArray⟩) (wx.drewN nq) := fun nq => run_str (show Rd (wx.drewN nq) wr.heap.size wx.heap.size Ab pc from (show Rd wx wr.heap.size wx.heap.size Ab pc from hob.rd)) _ _ rfl
                      have s2 : ∀ nq, (convert 23 9 (.slice Ap pc.length cp)).run Try.prog (wx.drewN nq) = .ok (.string ⟨pc.toArray⟩) (wx.drewN nq) := fun nq => run_str (show Rd (wx.drewN nq) 0 wq.heap.size Ap pc from (show Rd wx 0 wq.heap.size Ap pc from hr.below hbx (Nat.le_refl _))) _ _ rfl
                      have x1 : ∀ nq, (wx.drewN nq).cell? ⟨ge, k, none⟩ = some (.int .i64 (E : Int)) := fun nq => (hbx.cell (p := ⟨ge, k, none⟩) hge).trans hce
                      have x2 : ∀ nq, (wx.drewN nq).cell? ⟨bb, off + k, none⟩ = some (.slice Ap pc.length cp) := fun nq => (hbx.cell (p := ⟨bb, off + k, none⟩) hbb).trans hc
                      have d1 : decide (E ≤ cn) = true := by simpa using hc9
                      have d2 : decide (cn < E) = false := by simpa using hc9
                      have y1 := x1 0
                      have y2 := x2 0
                      clear hob hgx hbk HBA hr hc hce
                      go_wp2_with fail
                      go_quiet (fail)
                      go_wp2_with fail
                      exact ⟨⟨k + 1, by omega, by go_num, hRx.drewN nq, below_drew hbx nq⟩, by simp [intOf]; omega⟩
                    · rw [if_neg hc9] at hst
                      rw [hst] at HBA
                      clear hst hpost hRk
                      obtain ⟨E, hE⟩ : ∃ E, E = (rowL n sz L (k + 1)).length := ⟨_, rfl⟩
                      have HE2 := Lib.hid hE
                      rw [← hE] at hce hc9
                      clear hE
                      generalize L[k].2.2 = pc at *
                      generalize L[k].1 = Ap at *
                      generalize L[k].2.1 = cp at *
                      go_wp2_with (go_at_call 23; refine HBA.out.mono ?_; rintro e wx ⟨Ab, rfl, hob, hRx, hgx⟩)
                      have hbx := hbk.grown hgx hbk.size (fun g hg => by injection hg with hg; omega)
                      have x1 : ∀ nq, (wx.drewN nq).cell? ⟨ge, k, none⟩ = some (.int .i64 (E : Int)) := fun nq => (hbx.cell (p := ⟨ge, k, none⟩) hge).trans hce
                      have d1 : decide (E ≤ cn) = false := by simpa using hc9
                      have d2 : decide (cn < E) = true := by simpa using hc9
                      have y1 := x1 0
                      clear hob hgx hbk HBA hr hc hce
                      go_wp2_with fail
                      go_quiet (fail)
                      go_wp2_with fail
                      exact ⟨⟨k + 1, by omega, by go_num, hRx.drewN nq, below_drew hbx nq⟩, by simp [intOf]; omega⟩
                  · obtain rfl : k = L.length := by omega
                    rw [← HR.out, st_end R cn hcn] at hRk
                    have hfin := hb.trans (hbk.mono hqs)
                    by_cases hce : cn = R.length
                    · rw [if_pos hce] at hRk
                      have HF := Lib.hid (failed_at _ p2 _ wr hRk)
                      have HE9 := Lib.hid (end_at _ p2 _ wr hRk)
                      have d1 : decide (cn < R.length) = false := by simp; omega
                      have d2 : ((cn : Int) == (R.length : Int)) = true := by simp; omega
                      have d3 : (cn == R.length) = true := by simp; omega
                      clear hRk hbk HE' hce
                      go_wp2_with (first | (go_at_call 27; refine HF.out.mono ?_; rintro e w' ⟨rfl, rfl⟩) | (go_at_call 30; refine HE9.out.mono ?_; rintro e w' ⟨rfl, rfl⟩) | (go_at_call 10; refine (code_any _ _).mono ?_; rintro e w' ⟨rfl, rfl⟩) | (go_at_call 12; refine (known_any _).mono ?_; rintro e wz ⟨rfl, hbz⟩))
                      go_ret
                      exact ⟨rfl, hfin.trans (hbz.mono hfin.size)⟩
                    · rw [if_neg hce] at hRk
                      have HF := Lib.hid (failed_at _ p2 _ wr hRk)
                      have HE9 := Lib.hid (end_at _ p2 _ wr hRk)
                      have d1 : decide (cn < R.length) = true := by simp; omega
                      have d2 : ((cn : Int) == (R.length : Int)) = false := by simp; omega
                      have d3 : (cn == R.length) = false := by simp; omega
                      clear hRk hbk HE' hce
                      go_wp2_with (first | (go_at_call 27; refine HF.out.mono ?_; rintro e w' ⟨rfl, rfl⟩) | (go_at_call 30; refine HE9.out.mono ?_; rintro e w' ⟨rfl, rfl⟩) | (go_at_call 10; refine (code_any _ _).mono ?_; rintro e w' ⟨rfl, rfl⟩) | (go_at_call 12; refine (known_any _).mono ?_; rintro e wz ⟨rfl, hbz⟩))
                      go_ret
                      exact ⟨rfl, hfin.trans (hbz.mono hfin.size)⟩
    · go_wp2_with (go_at_call 12; refine (known_any _).mono ?_; rintro e w3 ⟨rfl, hb3⟩)
      go_ret
      exact ⟨rfl, hb3⟩
end Go.Proofs.Ythbnnhnnldakeaa
