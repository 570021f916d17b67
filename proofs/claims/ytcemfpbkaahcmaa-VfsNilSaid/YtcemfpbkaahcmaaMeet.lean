/- Contracts: what a change meets. -/
import Derived.Test.YtcemfpbkaahcmaaFind
namespace Go.Proofs.Ytcemfpbkaahcmaa
open Go.RowKit
set_option linter.unusedVariables false

/-- The disk's own block is written, and no other. -/
def DiskTo (w : World) (p : Nat) (S : DS) (fb lb : Nat) (sv : Value) (w' : World) : Prop :=
  w.grownBy w' (some p) ∧ w'.heap[p]? = some (.cells (diskV S fb lb sv) 54 (0, 0))
section
variable {w : World} {p : Nat} {S : DS} {m fb lb : Nat} {sv : Value}
theorem DiskTo.refl (h : w.heap[p]? = some (.cells (diskV S fb lb sv) 54 (0, 0))) : DiskTo w p S fb lb sv w := ⟨World.grownBy.refl w _, h⟩
theorem DiskTo.set {w1 : World} {S1 S2 : DS} (h : DiskTo w p S1 fb lb sv w1) (j : Nat) (v : Value) (hv : (diskV S1 fb lb sv).setIfInBounds j v = diskV S2 fb lb sv) : DiskTo w p S2 fb lb sv (w1.setCell ⟨p, j, none⟩ v) :=
  ⟨h.1.trans (grown_set w1 ⟨p, j, none⟩ v), by rw [set_block h.2, hv]⟩
theorem DiskTo.trans {w1 w2 : World} {S1 S2 : DS} (h : DiskTo w p S1 fb lb sv w1) (k : DiskTo w1 p S2 fb lb sv w2) : DiskTo w p S2 fb lb sv w2 := ⟨h.1.trans k.1, k.2⟩

set_option maxHeartbeats 400000 in
theorem fault_any (hG : Good S m) (hb : w.heap[p]? = some (.cells (diskV S fb lb sv) 54 (0, 0))) :
    Calls Try.prog 67 #[.pointer (some ⟨p, 5, none⟩)] w fun e w' => e = .returned (.int .i64 S.fault.1) ∧ DiskTo w p S.fault.2 fb lb sv w' := by
  have HB := Lib.hid hb
  obtain ⟨_, _, _, _, _, c5, c6, _⟩ := disk_cells hb
  have f5 := free_block (j := 5) hb
  have f6 := free_block (j := 6) hb
  have h1 := hG.fa1
  have h2 := hG.fa2
  clear hb hG
  by_cases h : 0 < S.fa
  · have hS : Hid (S.fault = (0, { S with fa := S.fa - 1 })) := Lib.hid (by unfold DS.fault; rw [if_pos h])
    go_enter Try.func67, Try.ntmps67
    go_wp2
    go_ret
    rw [hS.out]
    exact ⟨rfl, (DiskTo.refl HB.out).set 5 _ rfl⟩
  · have hS : Hid (S.fault = (S.fc, { S with fa := 0, fc := 0 })) := Lib.hid (by unfold DS.fault; rw [if_neg h])
    go_enter Try.func67, Try.ntmps67
    go_wp2
    go_ret
    rw [hS.out]
    exact ⟨rfl, ((DiskTo.refl HB.out).set (S2 := { S with fa := 0 }) 5 _ rfl).set 6 _ rfl⟩

set_option maxHeartbeats 1000000 in
theorem meet_any (hG : Good S m) (hb : w.heap[p]? = some (.cells (diskV S fb lb sv) 54 (0, 0))) :
    Calls Try.prog 58 #[.pointer (some ⟨p, 0, none⟩)] w fun e w' => e = .returned (.int .i64 S.meet.1) ∧ DiskTo w p S.meet.2 fb lb sv w' := by
  have hmet := fault_any hG hb
  have hG1 := fault_good hG
  have hS : Hid (S.meet = S.fault.2.burn S.fault.1) := Lib.hid rfl
  obtain ⟨met, hm⟩ : ∃ met, met = S.fault.1 := ⟨_, rfl⟩
  obtain ⟨S1, h1⟩ : ∃ S1, S1 = S.fault.2 := ⟨_, rfl⟩
  rw [← hm, ← h1] at hmet hS
  rw [← h1] at hG1
  have u1 := hG1.fu1
  have u2 := hG1.fu2
  clear hm h1 hb hG hG1
  by_cases hp : 0 < S1.fuse
  · have hB : Hid (S1.burn met = (met, { S1 with fuse := S1.fuse - 1 })) := Lib.hid (by unfold DS.burn; rw [if_pos hp])
    go_enter Try.func58, Try.ntmps58
    go_wp2_with (go_at_call 67; refine hmet.mono ?_; rintro e w1 ⟨rfl, hT⟩; have HT := Lib.hid hT; obtain ⟨_, _, _, _, c4, _⟩ := disk_cells hT.2; have f4 := free_block (j := 4) hT.2; clear hT)
    go_ret
    rw [hS.out, hB.out]
    exact ⟨rfl, HT.out.set 4 _ rfl⟩
  · by_cases hz : S1.fuse = 0
    · have hq : (S1.fuse == 0) = true := by simpa using hz
      by_cases hm0 : met = 0
      · have hq2 : (met == 0) = true := by simpa using hm0
        have hB : Hid (S1.burn met = (8, { S1 with dead := true })) := Lib.hid (by unfold DS.burn; rw [if_neg hp, if_pos ⟨hz, hm0⟩])
        clear hz hm0
        go_enter Try.func58, Try.ntmps58
        go_wp2_with (go_at_call 67; refine hmet.mono ?_; rintro e w1 ⟨rfl, hT⟩; have HT := Lib.hid hT; obtain ⟨_, _, _, _, c4, _, _, c7, _⟩ := disk_cells hT.2; have f7 := free_block (j := 7) hT.2; clear hT)
        go_ret
        rw [hS.out, hB.out]
        exact ⟨rfl, HT.out.set 7 _ rfl⟩
      · have hq2 : (met == 0) = false := by simpa using hm0
        have hB : Hid (S1.burn met = (met, S1)) := Lib.hid (by unfold DS.burn; rw [if_neg hp, if_neg (by simp [hm0])])
        clear hz hm0
        go_enter Try.func58, Try.ntmps58
        go_wp2_with (go_at_call 67; refine hmet.mono ?_; rintro e w1 ⟨rfl, hT⟩; have HT := Lib.hid hT; obtain ⟨_, _, _, _, c4, _, _, c7, _⟩ := disk_cells hT.2; have f7 := free_block (j := 7) hT.2; clear hT)
        go_ret
        rw [hS.out, hB.out]
        exact ⟨rfl, HT.out⟩
    · have hq : (S1.fuse == 0) = false := by simpa using hz
      have hB : Hid (S1.burn met = (met, S1)) := Lib.hid (by unfold DS.burn; rw [if_neg hp, if_neg (by simp [hz])])
      clear hz
      go_enter Try.func58, Try.ntmps58
      go_wp2_with (go_at_call 67; refine hmet.mono ?_; rintro e w1 ⟨rfl, hT⟩; have HT := Lib.hid hT; obtain ⟨_, _, _, _, c4, _, _, c7, _⟩ := disk_cells hT.2; have f7 := free_block (j := 7) hT.2; clear hT)
      go_ret
      rw [hS.out, hB.out]
      exact ⟨rfl, HT.out⟩

theorem leaves_any (kd : Nat) (met : Int) (w : World) : Calls Try.prog 59 #[.int .i64 (kd : Int), .int .i64 met] w fun e w' => e = .returned (.bool (leaves kd met)) ∧ w = w' := by
  by_cases h : kd = 1
  · have h1 : (((kd : Nat) : Int) == 1) = true := by simp [h]
    have h2 : Hid (leaves kd met = (met != 5)) := Lib.hid (by simp [leaves, h])
    clear h
    go_enter Try.func59, Try.ntmps59
    go_wp2
    go_ret
    rw [h2.out]
    exact ⟨rfl, rfl⟩
  · have h1 : (((kd : Nat) : Int) == 1) = false := by simp; omega
    have h2 : Hid (leaves kd met = false) := Lib.hid (by simp [leaves, h])
    clear h
    go_enter Try.func59, Try.ntmps59
    go_wp2
    go_ret
    rw [h2.out]
    exact ⟨rfl, rfl⟩
end
end Go.Proofs.Ytcemfpbkaahcmaa
