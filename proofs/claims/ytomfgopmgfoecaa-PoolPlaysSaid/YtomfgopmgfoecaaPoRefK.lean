/- The reference's pool: Check. -/
import Derived.Test.YtomfgopmgfoecaaPoRefC
import Derived.BigFrame
namespace Go.Proofs.Ytomfgopmgfoecaa
open Go.ChangeMaps Go.MapKept Go.Maps Go.RowKit Go.ChangeShapes Go.WideShapes Go.ChangeAt
set_option linter.unusedVariables false
set_option maxRecDepth 100000

def balV (V : List Sg) : List Bt := V.map (fun x => (⟨x.h, x.k⟩ : Bt))
/-- What the reference's Check tells. -/
def chkR (V : List Sg) (nv : Int) (k : Lk) (m : Nat) (kh : Hh) (st : Nat) : Nat := if mayVt nv k.s.e k.t.e m && decide (1 ≤ st) && decide (st ≤ 4294967296) then (if ⟨kh, k⟩ ∈ balV V then 11 else if 65536 ≤ V.length then 5 else 0) else 2
theorem chkR_eq {S : PoS} {V : List Sg} (hb : S.bal = balV V) (hl : S.votes.length = V.length) (nv : Int) (k : Lk) (m : Nat) (kh : Hh) (st : Nat) : chkR V nv k m kh st = chk S nv k m kh st := by unfold chkR chk; rw [hb, hl]
set_option maxHeartbeats 8000000 in
theorem refCheck_c {g : Nat} {G : Nat → Prop} {V : List Sg} {w : World} (h : RfM g G V w) (hl : V.length ≤ 100000) (nv : Int) (k : Lk) (A : Option Addr) (m c : Nat) (kh : Hh) (st : Nat) : Calls Try.prog 26 #[.pointer (some ⟨g, 0, none⟩), .agg (vtw nv k (.slice A m c)), .agg (hhv kh), .int .u64 (st : Int)] w fun e w' => e = .returned (.int .i64 (chkR V nv k m kh st : Nat)) ∧ Below w.heap.size w w' := by
  obtain ⟨W0, hW0⟩ : ∃ W0, W0 = w.alloc (.cells (vtw nv k (.slice A m c)) 40) := ⟨_, rfl⟩
  obtain ⟨W, hW⟩ : ∃ W, W = W0.alloc (.cells (hhv kh) 24) := ⟨_, rfl⟩
  have b0 : Below w.heap.size w W0 := by rw [hW0]; exact (Below.refl _ _).alloc (Nat.le_refl _) _
  have b1 : Below W0.heap.size W0 W := by rw [hW]; exact (Below.refl _ _).alloc (Nat.le_refl _) _
  have z0 : W0.heap.size = w.heap.size + 1 := by rw [hW0]; simp
  have v0 : VtK w.heap.size nv k (.slice A m c) W0 := by rw [hW0]; exact VtK.new
  have v1 := v0.below b1 v0.lt
  have h1 : HhB (w.heap.size + 1) kh W := by rw [← z0, hW]; exact Fill.of_row (heap_alloc_new W0 _)
  have bb1 := b0.trans (b1.mono b0.size)
  have hF := h.below bb1
  have KP : Hid (∀ u : World, Below W.heap.size W u → RfM g G V u ∧ VtK w.heap.size nv k (.slice A m c) u ∧ HhB (w.heap.size + 1) kh u) := fun u hu => ⟨hF.below hu, v1.below hu v1.lt, Fill.below h1 hu (Fill.lt h1)⟩
  have HW0 := Lib.hid hW0
  have HW := Lib.hid hW
  have HB := Lib.hid bb1
  have k1 := v1.row
  have HM := Lib.hid (refMay_c nv k A m c W)
  obtain ⟨mv, hmv⟩ : ∃ b, b = mayVt nv k.s.e k.t.e m := ⟨_, rfl⟩
  rw [← hmv] at HM
  have HC := Lib.hid (show chkR V nv k m kh st = if mv && decide (1 ≤ st) && decide (st ≤ 4294967296) then (if ⟨kh, k⟩ ∈ balV V then 11 else if 65536 ≤ V.length then 5 else 0) else 2 by rw [hmv]; rfl)
  have hnot : ∀ (x : Bool) (w : World), (Op.unary .not (.bool x)).run Try.prog w = .ok (.bool (!x)) w := fun _ _ => rfl
  obtain ⟨n, hn⟩ : ∃ n, n = V.length := ⟨_, rfl⟩
  have HN := Lib.hid hn
  have hn9 : n ≤ 100000 := by omega
  clear hW0 hW b0 b1 z0 v0 v1 h1 bb1 hF hmv h hn hl
  go_enter Try.func26, Try.ntmps26
  go_upto_region 1 with fail
  rw [← HW0.out, ← HW.out]
  go_wp2_with (first
    | (refine wpList_load_row rfl 40 (.tmp 5) rfl w.heap.size rfl 40 (vtw nv k (.slice A m c)) (0, 0) _ k1 Try.underlying40 rfl (size_vtw _ _ _) ?_)
    | fail)
  refine HM.out.mono ?_
  rintro e w3 ⟨rfl, b3⟩
  have BX := Lib.hid b3
  clear b3 k1
  cases mv with
  | false =>
    go_wp2_with fail
    go_ret
    refine ⟨?_, HB.out.trans (BX.out.mono HB.out.size)⟩
    rw [HC.out]
    rfl
  | true =>
    by_cases c1 : 1 ≤ st
    · have d1 : ¬ (st < 1) := by omega
      by_cases c2 : st ≤ 4294967296
      · have d2 : ¬ (4294967296 < st) := by omega
        have HC2 := Lib.hid (show chkR V nv k m kh st = if ⟨kh, k⟩ ∈ balV V then 11 else if 65536 ≤ V.length then 5 else 0 by rw [HC.out, if_pos (by simp [c1, c2])])
        go_wp2_with fail
        go_loopw [9] (fun v9 u => ∃ i : Nat, i ≤ n ∧ v9 = .int .i64 (i : Int) ∧ (⟨kh, k⟩ : Bt) ∉ balV (V.take i) ∧ Below W.heap.size W u) (fun v9 _ => n - (intOf v9).toNat)
        case atStart => exact ⟨0, Nat.zero_le _, rfl, (by simp [balV]), BX.out⟩
        case round =>
          obtain ⟨i, hi, rfl, hno, hb⟩ := hrel
          have NO := Lib.hid hno
          replace BX := Lib.hid hb
          clear hno hb
          obtain ⟨A2, cc, hc, hrow⟩ := (KP.out _ BX.out).1.cells
          rw [← HN.out] at hc
          have HR := Lib.hid hrow
          clear hrow
          by_cases hin : i < n
          · obtain ⟨x, hx⟩ : ∃ x, V[i]? = some x := ⟨_, List.getElem?_eq_getElem (by have := HN.out; omega)⟩
            obtain ⟨b, rfl, rx⟩ := HR.out i x hx
            have HT := Lib.hid (show balV (V.take (i + 1)) = balV (V.take i) ++ [⟨x.h, x.k⟩] by rw [List.take_add_one, hx]; simp [balV])
            have HX := Lib.hid hx
            have RX := Lib.hid rx
            have HCC := Lib.hid hc
            have q1 : (i : Int) < (n : Int) := by omega
            clear hx rx
            go_wp2_with fail
            by_cases hh : x.h = kh
            · refine rc_r6a _ _ _ _ _ _ _ _ _ _ _ _ _ _ _ _ _ _ _ _ _ _ _ _ _ _ _ _ _ _ _ _ _ _ _ _ _ _ _ _ _ _ _ _ _ _ _ _ _ _ _ _ _ _ _ _ _ g b w.heap.size (w.heap.size + 1) n cc i x nv k (.slice A m c) kh hin hh HCC.out RX.out (KP.out _ BX.out).2.1 (KP.out _ BX.out).2.2 _ ?_
              intro u0 u1 u2 u3 u4 u5 u6 u7 u8 u9 u10 u11 u12 u13 u14 u15 u16 u17 u18 u19 u20 u21 u22 w5 b5
              replace BX := Lib.hid (BX.out.trans (b5.mono BX.out.size))
              clear b5 hc
              by_cases hk : x.k = k
              · rw [decide_eq_true hk]
                have HF := Lib.hid (show chkR V nv k m kh st = 11 by
                  rw [HC2.out, if_pos]
                  unfold balV
                  exact List.mem_map.2 ⟨x, List.mem_of_getElem? HX.out, by rw [hh, hk]⟩)
                clear hh hk
                go_wp2_with fail
                go_ret
                refine ⟨?_, HB.out.trans (BX.out.mono HB.out.size)⟩
                rw [HF.out]
                rfl
              · rw [decide_eq_false hk]
                have HF := Lib.hid (show (⟨kh, k⟩ : Bt) ∉ balV (V.take (i + 1)) by
                  rw [HT.out]
                  simp only [List.mem_append, List.mem_singleton, not_or]
                  exact ⟨NO.out, fun e => by injection e with _ e; exact hk e.symm⟩)
                clear hh hk
                go_wp2_with fail
                exact ⟨⟨i + 1, by omega, by go_num, HF.out, BX.out⟩, by simp [intOf]; omega⟩
            · have HF := Lib.hid (show (⟨kh, k⟩ : Bt) ∉ balV (V.take (i + 1)) by
                rw [HT.out]
                simp only [List.mem_append, List.mem_singleton, not_or]
                exact ⟨NO.out, fun e => by injection e with e _; exact hh e.symm⟩)
              refine rc_r6b _ _ _ _ _ _ _ _ _ _ _ _ _ _ _ _ _ _ _ _ _ _ _ _ _ _ _ _ _ _ _ _ _ _ _ _ _ _ _ _ _ _ _ _ _ _ _ _ _ _ _ _ _ _ _ _ _ g b w.heap.size (w.heap.size + 1) n cc i x nv k (.slice A m c) kh hin hh HCC.out RX.out (KP.out _ BX.out).2.1 (KP.out _ BX.out).2.2 _ ?_
              intro u0 u1 u2 u3 u4 u5 u6 u7 u8 u9 u10 u11 u12 u13 u14 u15 u16 u17 u18 u19 u20 u21 u22 w5 b5
              replace BX := Lib.hid (BX.out.trans (b5.mono BX.out.size))
              clear b5 hc hh
              go_wp2_with fail
              exact ⟨⟨i + 1, by omega, by go_num, HF.out, BX.out⟩, by simp [intOf]; omega⟩
          · obtain rfl : i = n := by omega
            have HF := Lib.hid (show chkR V nv k m kh st = if 65536 ≤ i then 5 else 0 by
              have := NO.out
              rw [HN.out, List.take_length] at this
              rw [HC2.out, if_neg this, ← HN.out])
            by_cases c4 : 65536 ≤ i
            · have d4 : decide ((65536 : Int) ≤ (i : Int)) = true := by simp; omega
              go_wp2_with fail
              go_ret
              refine ⟨?_, HB.out.trans (BX.out.mono HB.out.size)⟩
              rw [HF.out, if_pos c4]
              rfl
            · have d4 : decide ((65536 : Int) ≤ (i : Int)) = false := by simp; omega
              go_wp2_with fail
              go_ret
              refine ⟨?_, HB.out.trans (BX.out.mono HB.out.size)⟩
              rw [HF.out, if_neg c4]
              rfl
      · have d2 : 4294967296 < st := by omega
        go_wp2_with fail
        go_ret
        refine ⟨?_, HB.out.trans (BX.out.mono HB.out.size)⟩
        rw [HC.out, if_neg (by simp; omega)]
        rfl
    · obtain rfl : st = 0 := by omega
      go_wp2_with fail
      go_ret
      refine ⟨?_, HB.out.trans (BX.out.mono HB.out.size)⟩
      rw [HC.out]
      rfl
end Go.Proofs.Ytomfgopmgfoecaa
