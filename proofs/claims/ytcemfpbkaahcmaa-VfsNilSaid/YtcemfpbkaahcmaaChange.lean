/- Contract: a change, done where nothing stands in its way. -/
import Derived.Test.YtcemfpbkaahcmaaMeet
import Derived.Shelf.Abstract
namespace Go.Proofs.Ytcemfpbkaahcmaa
open Go.RowKit Go.Shelf
set_option linter.unusedVariables false

section
variable {w : World} {p : Nat} {S : DS} {m fb lb : Nat} {sv : Value}
set_option maxHeartbeats 400000 in
theorem change_dead (hb : w.heap[p]? = some (.cells (diskV S fb lb sv) 54 (0, 0))) (hd : S.dead = true) (kd : Nat) (f : Value) :
    Calls Try.prog 41 #[.pointer (some ⟨p, 0, none⟩), .int .i64 (kd : Int), f] w fun e w' => e = .returned (.int .i64 8) ∧ w = w' := by
  obtain ⟨_, _, _, _, _, _, _, c7, _⟩ := disk_cells hb
  rw [hd] at c7
  clear hb hd
  go_enter Try.func41, Try.ntmps41
  go_wp2
  go_ret
  exact ⟨rfl, rfl⟩

set_option maxHeartbeats 1000000 in
theorem change_live (hG : Good S m) (hm : m ≤ 1073741824) (hb : w.heap[p]? = some (.cells (diskV S fb lb sv) 54 (0, 0))) (hd : S.dead = false) (kd : Nat) (g : Nat) (cb : Array Value)
    (eg : ∀ args w, (callFunc g args).run Try.prog w = .ok (.enter g args) w) (Q : World → Prop)
    (hdo : (S.next.1 = 0 ∨ leaves kd S.next.1 = true) → ∀ w2, DiskTo w p S.next.2 fb lb sv w2 → Calls Try.prog g (#[.int .i64 S.next.1] ++ cb) w2 fun e w3 => e = .returned (.tuple #[]) ∧ Q w3)
    (hno : ¬(S.next.1 = 0 ∨ leaves kd S.next.1 = true) → ∀ w2, DiskTo w p S.next.2 fb lb sv w2 → Q w2) :
    Calls Try.prog 41 #[.pointer (some ⟨p, 0, none⟩), .int .i64 (kd : Int), .func (.func g) #[] cb] w fun e w' => e = .returned (.int .i64 S.next.1) ∧ Q w' := by
  have hc1 := hG.ch1
  have hc2 := hG.ch2
  have hT0 : DiskTo w p { S with ch := S.ch + 1 } fb lb sv (w.setCell ⟨p, 8, none⟩ (.int .i64 (S.ch + 1))) := (DiskTo.refl hb).set 8 _ rfl
  have hmeet := meet_any (count_good hG) hT0.2
  obtain ⟨_, _, _, _, _, _, _, c7, c8⟩ := disk_cells hb
  have f8 := free_block (j := 8) hb
  rw [hd] at c7
  have HT0 := Lib.hid hT0
  have HD := Lib.hid hdo
  have HN := Lib.hid hno
  change Calls _ _ _ _ (fun e w' => e = .returned (.int .i64 S.next.1) ∧ DiskTo _ p S.next.2 fb lb sv w') at hmeet
  obtain ⟨met, hmet⟩ : ∃ met, met = S.next.1 := ⟨_, rfl⟩
  rw [← hmet] at hmeet HD HN ⊢
  obtain ⟨S2, hS2⟩ : ∃ S2, S2 = S.next.2 := ⟨_, rfl⟩
  rw [← hS2] at hmeet HD HN
  clear hmet hS2 hT0 hb hG hd hdo hno
  have hlv := leaves_any kd met
  have HQ : ∀ w2, DiskTo (w.setCell ⟨p, 8, none⟩ (.int .i64 (S.ch + 1))) p S2 fb lb sv w2 → DiskTo w p S2 fb lb sv w2 := fun w2 h => HT0.out.trans h
  clear HT0
  by_cases h0 : met = 0
  · have q0 : (met == 0) = true := by simpa using h0
    have HD' := Lib.hid (HD.out (.inl h0))
    clear h0 HD HN hlv
    go_enter Try.func41, Try.ntmps41
    go_wp2_with (first
      | (go_at_call 58; refine hmeet.mono ?_; rintro e w2 ⟨rfl, hT⟩; have hcl := HD'.out w2 (HQ w2 hT); clear hT)
      | (go_at_fn g; refine hcl.mono ?_; rintro e w3 ⟨rfl, hQ3⟩))
    go_ret
    exact ⟨rfl, hQ3⟩
  · have q0 : (met == 0) = false := by simpa using h0
    cases hl : leaves kd met
    · have HN' := Lib.hid (HN.out (by simp [h0, hl]))
      rw [hl] at hlv
      clear h0 HD HN hl
      go_enter Try.func41, Try.ntmps41
      go_wp2_with (first
        | (go_at_call 58; refine hmeet.mono ?_; rintro e w2 ⟨rfl, hT⟩; have hQ2 := HN'.out w2 (HQ w2 hT); clear hT)
        | (go_at_call 59; refine (hlv _).mono ?_; rintro e w3 ⟨rfl, rfl⟩))
      go_ret
      exact ⟨rfl, hQ2⟩
    · have HD' := Lib.hid (HD.out (.inr hl))
      rw [hl] at hlv
      clear h0 HD HN hl
      go_enter Try.func41, Try.ntmps41
      go_wp2_with (first
        | (go_at_call 58; refine hmeet.mono ?_; rintro e w2 ⟨rfl, hT⟩; have hcl := HD'.out w2 (HQ w2 hT); clear hT)
        | (go_at_call 59; refine (hlv _).mono ?_; rintro e w3 ⟨rfl, rfl⟩)
        | (go_at_fn g; refine hcl.mono ?_; rintro e w3 ⟨rfl, hQ3⟩))
      go_ret
      exact ⟨rfl, hQ3⟩
end
end Go.Proofs.Ytcemfpbkaahcmaa
