/- The reference's Much: has a header little in it? -/
import Derived.Test.YtaoddppkijopmaaHoKit
namespace Go.Proofs.Ytaoddppkijopmaa
open Go.ChangeShapes Go.WideShapes Go.ChangeAt Go.RowKit
set_option linter.unusedVariables false
set_option maxRecDepth 100000

def Hd.Few (h : Hd) : Prop := h.ops.length ≤ 200 ∧ ∀ o ∈ h.ops, o.ev.length ≤ 20 ∧ ∀ v ∈ o.ev, v.s.length ≤ 100000
def evFew (N : Nat) (o : Ho) : Prop := o.ev.length ≤ 20 ∧ ∀ v ∈ o.ev, min v.s.length 100001 ≤ N
theorem evFew.more {N M : Nat} {o : Ho} (h : evFew N o) (hm : N ≤ M) : evFew M o := ⟨h.1, fun v hv => Nat.le_trans (h.2 v hv) hm⟩
set_option maxRecDepth 1000000 in
set_option maxHeartbeats 8000000 in
theorem refMuch_c (h : Hd) (A : Option Addr) (c : Nat) (w : World) (hA : HosAt w A h.ops) :
    Calls Try.prog 7 #[.agg (h.v A c)] w fun e w' => ∃ b, e = .returned (.bool b) ∧ (b = false → h.Few) ∧ Below w.heap.size w w' := by
  obtain ⟨W, hW⟩ : ∃ W, W = w.alloc (.cells (hdV h.par h.ep (.slice A h.ops.length c)) 27) := ⟨_, rfl⟩
  have hb : Below w.heap.size w W := by rw [hW]; exact (Below.refl _ _).alloc (Nat.le_refl _) _
  have h0 : HdB w.heap.size h.par h.ep (.slice A h.ops.length c) W := by rw [hW]; exact HdB.new
  have k1 := h0.ops
  obtain ⟨L, hL⟩ : ∃ L, L = h.ops := ⟨_, rfl⟩
  have HFL := Lib.hid (show ∀ b : Bool, (b = false → L.length ≤ 200 ∧ ∀ o ∈ L, o.ev.length ≤ 20 ∧ ∀ v ∈ o.ev, v.s.length ≤ 100000) → (b = false → h.Few) from fun b hq e => by rw [hL] at hq; exact hq e)
  obtain ⟨n, hn⟩ : ∃ n, n = L.length := ⟨_, rfl⟩
  have HV := Lib.hid (show h.v A c = hdV h.par h.ep (.slice A n c) by rw [hn, hL]; rfl)
  rw [← hL, ← hn] at k1 hW
  rw [← hL] at hA
  have HA := Lib.hid (hA.below hb)
  have HB := Lib.hid hb
  have HW := Lib.hid hW
  have HN := Lib.hid hn
  obtain ⟨x, hx⟩ : ∃ x, x = w.heap.size := ⟨_, rfl⟩
  rw [← hx] at k1
  have HX := Lib.hid hx
  clear h0 hb hA hW hn hL
  rw [HV.out]
  go_enter Try.func7, Try.ntmps7
  go_upto_region 1 with fail
  rw [← HW.out, ← hx]
  clear hx
  by_cases h200 : 200 < n
  · have q0 : decide ((200 : Int) < (n : Int)) = true := by simp; omega
    go_wp2_with fail
    go_ret
    exact ⟨true, rfl, HFL.out _ (fun e => by cases e), HB.out⟩
  · have q0 : ¬ (200 : Int) < (n : Int) := by omega
    have h201 : n ≤ 200 := by omega
    clear h200
    go_wp2_with fail
    go_loopw [3, 4] (fun v3 v4 u => ∃ i N : Nat, i ≤ n ∧ v4 = .int .i64 (i : Int) ∧ v3 = .int .i64 (N : Int) ∧ N ≤ i * 2000020 ∧ (∀ (j : Nat) o, j < i → L[j]? = some o → evFew N o) ∧ u = W) (fun _ v4 _ => n - (intOf v4).toNat)
    case atStart => exact ⟨0, 0, Nat.zero_le _, rfl, rfl, Nat.le_refl _, fun j o hj => by omega, rfl⟩
    case round =>
      obtain ⟨i, N, hi, rfl, rfl, hN, hF, rfl⟩ := hrel
      have HF := Lib.hid hF
      clear hF
      by_cases hin : i < n
      · obtain ⟨o, ho⟩ : ∃ o, L[i]? = some o := ⟨_, List.getElem?_eq_getElem (by have := HN.out; omega)⟩
        obtain ⟨g, q, B, d, rfl, hg, hr, hv⟩ := HA.out wr (Below.refl _ _) i o ho
        have k2 : wr.cell? ⟨g, q + i * 36 + 35, none⟩ = some (.slice B o.ev.length d) := range_cell hr 35 (by omega)
        have HV2 := Lib.hid hv
        have HO := Lib.hid ho
        obtain ⟨M, hM⟩ : ∃ M, M = o.ev := ⟨_, rfl⟩
        obtain ⟨m, hm⟩ : ∃ m, m = M.length := ⟨_, rfl⟩
        rw [← hM, ← hm] at k2
        have HM := Lib.hid hM
        have HMM := Lib.hid hm
        have q1 : (i : Int) < (n : Int) := by omega
        clear hr hv ho hM hm hg
        by_cases h20 : 20 < m
        · have q2 : decide ((20 : Int) < (m : Int)) = true := by simp; omega
          go_wp2_with fail
          go_ret
          exact ⟨true, rfl, HFL.out _ (fun e => by cases e), HB.out⟩
        · have q2 : ¬ (20 : Int) < (m : Int) := by omega
          have h21 : m ≤ 20 := by omega
          clear h20
          go_wp2_with fail
          go_loopw [3, 5] (fun v3 v5 u => ∃ k N2 : Nat, k ≤ m ∧ v5 = .int .i64 (k : Int) ∧ v3 = .int .i64 (N2 : Int) ∧ N ≤ N2 ∧ N2 ≤ i * 2000020 + k * 100001 ∧ (∀ (j : Nat) v, j < k → M[j]? = some v → min v.s.length 100001 ≤ N2) ∧ u = wr) (fun _ v5 _ => m - (intOf v5).toNat)
          case atStart => exact ⟨0, N, Nat.zero_le _, rfl, rfl, Nat.le_refl _, Nat.le_trans hN (Nat.le_add_right _ _), fun j o hj => absurd hj (Nat.not_lt_zero _), rfl⟩
          case round =>
            obtain ⟨k, N2, hk, rfl, rfl, hN1, hN2, hF, rfl⟩ := hrel
            have HF2 := Lib.hid hF
            clear hF
            by_cases hkm : k < m
            · obtain ⟨v, hv⟩ : ∃ v, M[k]? = some v := ⟨_, List.getElem?_eq_getElem (by have := HMM.out; omega)⟩
              obtain ⟨g2, q2, B2, d2, rfl, hg2, hr2, -⟩ := HV2.out wr (Below.refl _ _) k v (by rw [← HM.out]; exact hv)
              have k3 : wr.cell? ⟨g2, q2 + k * 68 + 67, none⟩ = some (.slice B2 v.s.length d2) := range_cell hr2 67 (by omega)
              have q3 : (k : Int) < (m : Int) := by omega
              have HVV := Lib.hid hv
              obtain ⟨z, hz⟩ : ∃ z, z = v.s.length := ⟨_, rfl⟩
              obtain ⟨y, hy⟩ : ∃ y, y = min z 100001 := ⟨_, rfl⟩
              rw [← hz] at k3
              have hmin : (if (100001 : Int) < (z : Int) then (100001 : Int) else (z : Int)) = (y : Int) := by
                rw [hy]
                by_cases hq : (100001 : Int) < (z : Int)
                · rw [if_pos hq, Nat.min_eq_right (by omega)]; rfl
                · rw [if_neg hq, Nat.min_eq_left (by omega)]
              have hy1 : y ≤ 100001 := by rw [hy]; exact Nat.min_le_right _ _
              have HY := Lib.hid (show y = min v.s.length 100001 by rw [hy, hz])
              clear hr2 hg2 hz hy hv
              go_wp2_with fail
              exact ⟨⟨k + 1, N2 + y, by omega, by go_num, by go_num, by omega, by omega, fun j v hj hv => by
                rcases Nat.lt_or_ge j k with h1 | h1
                · exact Nat.le_trans (HF2.out j v h1 hv) (Nat.le_add_right _ _)
                · obtain rfl : j = k := by omega
                  rw [HVV.out] at hv
                  injection hv with hv
                  subst hv
                  rw [← HY.out]
                  exact Nat.le_add_left _ _, trivial⟩, by simp [intOf]; omega⟩
            · obtain rfl : k = m := by omega
              have q3 : ¬ (k : Int) < (k : Int) := by omega
              go_wp2_with fail
              have fo : evFew N2 o := ⟨by rw [← HM.out, ← HMM.out]; exact h21, fun v hv => by
                rw [← HM.out] at hv
                obtain ⟨j, hj, rfl⟩ := List.getElem_of_mem hv
                exact HF2.out j _ (by have := HMM.out; omega) (List.getElem?_eq_getElem hj)⟩
              exact ⟨⟨i + 1, N2, by omega, by go_num, rfl, by omega, fun j o' hj ho' => by
                rcases Nat.lt_or_ge j i with h1 | h1
                · exact (HF.out j o' h1 ho').more hN1
                · obtain rfl : j = i := by omega
                  rw [HO.out] at ho'
                  injection ho' with ho'
                  subst ho'
                  exact fo, trivial⟩, by simp [intOf]; omega⟩
      · obtain rfl : i = n := by omega
        have q1 : ¬ (i : Int) < (i : Int) := by omega
        have fin : N ≤ 100000 → L.length ≤ 200 ∧ ∀ o ∈ L, o.ev.length ≤ 20 ∧ ∀ v ∈ o.ev, v.s.length ≤ 100000 := fun hle => by
          refine ⟨by have := HN.out; omega, fun o ho => ?_⟩
          obtain ⟨j, hj, rfl⟩ := List.getElem_of_mem ho
          have h := HF.out j _ (by have := HN.out; omega) (List.getElem?_eq_getElem hj)
          refine ⟨h.1, fun v hv => ?_⟩
          have := h.2 v hv
          omega
        have FI := Lib.hid fin
        clear fin
        by_cases hb : 100000 < N
        · have q2 : decide ((100000 : Int) < (N : Int)) = true := by simp; omega
          go_wp2_with fail
          go_ret
          exact .inr ⟨rfl, HB.out⟩
        · have q2 : decide ((100000 : Int) < (N : Int)) = false := by simp; omega
          have hb2 : N ≤ 100000 := by omega
          go_wp2_with fail
          go_ret
          exact .inl ⟨rfl, HFL.out false (fun _ => FI.out hb2) rfl, HB.out⟩
end Go.Proofs.Ytaoddppkijopmaa
