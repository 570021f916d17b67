/- Contract: the reference's text of bytes. -/
import Derived.Test.YthbnnhnnldakeaaSigns
namespace Go.Proofs.Ythbnnhnnldakeaa
open Go.ChangeShapes Go.WideShapes Go.ChangeAt Go.RowKit
set_option linter.unusedVariables false

theorem getElem_of {L : List UInt8} {k : Nat} {x : UInt8} (hk : k < L.length) (h : L[k]? = some x) : bv x = bv L[k] := by
  rw [List.getElem?_eq_getElem hk] at h
  injection h with h
  rw [h]

set_option maxHeartbeats 1000000 in
theorem refHex_any (A : Option Addr) (c : Nat) (l : List UInt8) (w : World) (h : Rd w 0 w.heap.size A l) (hl : 2 * l.length ≤ 140737488355328) :
    Calls Try.prog 19 #[.slice A l.length c] w fun e w' => e = .returned (strOf (hexL l)) ∧ Below w.heap.size w w' := by
  have hmk : ∀ u : World, (Instr.makeSlice 23 (.int .i64 (2 * (l.length : Int))) (.int .i64 (2 * (l.length : Int)))).run Try.prog u = .ok (.slice (some ⟨u.heap.size, 0, none⟩) (2 * l.length) (2 * l.length)) (u.alloc (.cells (madeCells #[.int .u8 0] (2 * l.length)) 5)) := fun u => by
    have h := run_make_row' (P := Try.prog) 23 5 (.int .u8 0) 1 Try.underlying23 byte_info rfl .i64 .i64 (2 * l.length) (by omega) (by omega) u
    rwa [show ((2 * l.length : Nat) : Int) = 2 * (l.length : Int) by omega] at h
  have HL := Lib.hid (hexL_length l)
  go_enter Try.func19, Try.ntmps19
  go_wp2
  go_loopw [4] (fun i wr => ∃ k : Nat, k ≤ 2 * l.length ∧ i = .int .i64 k ∧ FillB w (hexL l) k wr) (fun i _ => 2 * l.length - (intOf i).toNat)
  case atStart => exact ⟨0, Nat.zero_le _, rfl, FillB.start w _ _ HL.out.symm⟩
  case round =>
    obtain ⟨k, hk, rfl, hF⟩ := hrel
    by_cases hlt : k < 2 * l.length
    · obtain ⟨b, off, rfl, _, hbl, hc⟩ := (h.below hF.choose_spec.2.2.2 (Nat.le_refl _)).at_ (k := k / 2) (by omega)
      obtain ⟨u, hu, hf⟩ := hF.cell k (by rw [HL.out]; exact hlt)
      have HA := Lib.hid (hexL_at l (k / 2) (by omega))
      have hx := l[k / 2].toNat_lt
      unfold bv at hc
      generalize l[k / 2].toNat = x at *
      have hand := and15 x hx
      have HS1 := Lib.hid (sign_any (x / 16))
      have HS2 := Lib.hid (sign_any (x % 16))
      rcases Nat.mod_two_eq_zero_or_one k with h2 | h2
      · have d1 : ((k : Int) % 2 == 1) = false := by simp; omega
        have HV := Lib.hid (show 2 * (k / 2) = k by omega)
        clear h2
        go_wp2_with fail
        rw [show (x : Int) / 16 = ((x / 16 : Nat) : Int) by omega]
        refine (HS1.out _ (by omega)).mono ?_
        rintro e w' ⟨rfl, rfl⟩
        unfold bv
        go_wp2
        refine ⟨⟨k + 1, by omega, by go_num, hF.step (by rw [HL.out]; exact hlt) ?_⟩, by simp [intOf]; omega⟩
        have := HA.out.1
        rw [HV.out] at this
        exact getElem_of _ this
      · have d1 : ((k : Int) % 2 == 1) = true := by simp; omega
        have HV := Lib.hid (show 2 * (k / 2) + 1 = k by omega)
        clear h2
        have hc2 : ∀ v : Value, (wr.setCell ⟨w.heap.size, k, none⟩ v).cell? ⟨b, off + k / 2, none⟩ = some (.int .u8 (x : Int)) := fun v => by
          rw [World.cell?_setCell_other wr _ _ v (by intro e; injection e with e1; omega)]
          exact hc
        go_wp2_with fail
        rw [show (x : Int) / 16 = ((x / 16 : Nat) : Int) by omega]
        refine (HS1.out _ (by omega)).mono ?_
        rintro e w' ⟨rfl, rfl⟩
        have hF2 := hF.any (bv (sg (x / 16)))
        obtain ⟨u2, hu2, hf2⟩ := hF2.cell k (by rw [HL.out]; exact hlt)
        unfold bv at hu2 hf2 hF2 ⊢
        go_wp2_with fail
        rw [show (x : Int) % 16 = ((x % 16 : Nat) : Int) by omega]
        refine (HS2.out _ (by omega)).mono ?_
        rintro e w' ⟨rfl, rfl⟩
        unfold bv
        go_wp2
        refine ⟨⟨k + 1, by omega, by go_num, hF2.step (by rw [HL.out]; exact hlt) ?_⟩, by simp [intOf]; omega⟩
        have := HA.out.2
        rw [HV.out] at this
        exact getElem_of _ this
    · obtain rfl : k = 2 * l.length := by omega
      rw [← HL.out] at hF
      have hs := run_str hF.done.1.rd _ (2 * l.length) HL.out.symm
      have hbw := hF.done.2
      unfold strOf at hs
      go_wp2
      go_ret
      exact ⟨rfl, hbw⟩
end Go.Proofs.Ythbnnhnnldakeaa
