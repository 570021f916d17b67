/- Contract: all of a file lasts. -/
import Derived.Test.YtcemfpbkaahcmaaStep4
import Derived.BigRegion
import Derived.Laws.NewBlocks
namespace Go.Proofs.Ytcemfpbkaahcmaa
open Go.RowKit Go.Shelf
set_option linter.unusedVariables false

section
variable {w : World} {base p : Nat} {S : DS} {fb lb m : Nat} {sv : Value} {rv : Nat → Value}
set_option maxHeartbeats 400000 in
theorem sync_do {k n bb l c : Nat} {A : Option Addr} (met : Int) (hb : w.heap[k]? = some (.cells (fileV (.slice A l c) n) 71 (0, 0))) (hx : w.heap[bb]? = some (.cells #[.pointer (some ⟨k, 0, none⟩)] 68 (0, 0))) :
    Calls Try.prog 42 #[.int .i64 met, .pointer (some ⟨bb, 0, none⟩)] w fun e w' => e = .returned (.tuple #[]) ∧ FileTo w k (.slice A l c) l w' := by
  obtain ⟨c0, c1⟩ := file_cells hb
  have f1 := free_block (j := 1) hb
  have cb := cell_of_one hx
  have HB := Lib.hid hb
  clear hb hx
  go_enter Try.func42, Try.ntmps42
  go_wp2
  go_region
  all_goals
    go_end0
    exact ⟨rfl, grown_drew (grown_set _ _ _), set_block HB.out _⟩

/-- What Sync's change leaves. -/
def SyncQ (w : World) (base p : Nat) (S' : DS) (m : Nat) (w' : World) : Prop := Holds w' base p S' m ∧ Below base w w'
set_option maxHeartbeats 1000000 in
theorem sync_any (h : Holds w base p S m) (hm : m ≤ 1073741824) (nm : Str) (hn : nm.length ≤ maxLen) :
    Calls Try.prog 16 #[.pointer (some ⟨p, 0, none⟩), strV nm] w (StepP w base p (S.sync nm) (m + 1)) := by
  have hbp := h.lt
  have hbase : base ≤ w.heap.size := by omega
  have H := Lib.hid h
  obtain ⟨hG, fb, lb, sv, rv, hM⟩ := h
  by_cases hf : S.find nm true = 0
  · obtain ⟨_, hmay, k, hl⟩ := find_zero hf
    have hfind := find_ok hG hM nm hn k hmay hl
    obtain ⟨f, hk⟩ := file_of hG hl
    have hM1 := hM.alloc (.cells #[.pointer (some ⟨k, 0, none⟩)] 68)
    have hbox := box_cell w (.pointer (some ⟨k, 0, none⟩)) 68
    by_cases hd : S.dead = true
    · have hch := change_dead hM1.blk hd 2 (.func (.func 42) #[] #[.pointer (some ⟨w.heap.size, 0, none⟩)])
      have hS : Hid (S.sync nm = (8, S)) := Lib.hid (by unfold DS.sync; rw [if_neg (by simp [hf]), if_pos hd])
      clear hM hM1 hbox hG hf hl hk hmay hd
      go_enter Try.func16, Try.ntmps16
      go_wp2_with (first
        | (go_at_call 40; refine hfind.mono ?_; rintro e w' ⟨rfl, rfl⟩)
        | (go_at_call 41; refine hch.mono ?_; rintro e w' ⟨rfl, rfl⟩))
      go_ret
      rw [hS.out]
      exact StepP.no H.out ((Below.refl _ _).alloc hbase _) (World.grownBy_alloc _ _ _) rfl
    · have hd' : S.dead = false := by simpa using hd
      have hrow := hM1.fil.row k f hk
      obtain ⟨A, c, hv, hc⟩ := row_form hrow
      have hch := change_live hG hm hM1.blk hd' 2 42 #[.pointer (some ⟨w.heap.size, 0, none⟩)] (enters_of Try.func42 (by kernel_rfl) rfl) (SyncQ w base p (S.sync nm).2 (m + 1))
        (fun hyes w2 hT => by
          have hz : S.next.1 = 0 := by
            rcases hyes with h | h
            · exact h
            · simp [leaves] at h
          have hS : S.sync nm = (0, S.next.2.setFile k ⟨f.b, f.b.length⟩) := by unfold DS.sync; rw [if_neg (by simp [hf]), if_neg hd, if_pos hz, fileOf_eq hl hk, numOf_eq hl]
          have hM2 := hM1.met hT
          have hk2 : S.next.2.fl k = some f := by rw [(next_same S).fl]; exact hk
          have hx2 : w2.heap[w.heap.size]? = some (.cells #[.pointer (some ⟨k, 0, none⟩)] 68 (0, 0)) := (hT.1.block _ (lt_of_block hbox) (fun e => by injection e with e; exact ne_types hbox hM1.blk (by decide) e)).trans hbox
          have hb2 := hM2.fil.blk k f hk2
          have hr2 := hM2.fil.row k f hk2
          rw [hv] at hb2
          refine (sync_do S.next.1 hb2 hx2).mono ?_
          rintro e w3 ⟨rfl, hT3⟩
          refine ⟨rfl, ?_, ?_⟩
          · rw [hS]
            have hG2 := next_good hG
            have hbig := (hG2.las k f hk2).2
            refine ⟨setFile_good (f' := ⟨f.b, f.b.length⟩) hG2 hk2 (Nat.le_refl _) hbig, fb, lb, sv, _, (Mem.file (f' := ⟨f.b, f.b.length⟩) hM2 hk2 hT3 ?_ ?_).mono (by omega)⟩
            · rw [hv] at hr2
              exact hT3.row (by decide) hb2 hr2
            · intro g hg j fj hj hj'
              rw [← hv] at hg
              exact (hM2.fil.sep k f j fj g hk2 hj hg hj').symm
          · exact (((Below.refl _ w).alloc hbase _).grown hT.1 (by simp; omega) (fun j e => by cases e; exact hbp.1)).grown hT3.1 (by have := hT.1.size; simp at this; omega) (fun j e => by cases e; exact hM.fil.low k f hk))
        (fun hno w2 hT => by
          have hz : ¬ S.next.1 = 0 := fun e => hno (.inl e)
          have hS : S.sync nm = (S.next.1, S.next.2) := by unfold DS.sync; rw [if_neg (by simp [hf]), if_neg hd, if_neg hz]
          rw [hS]
          exact ⟨⟨next_good hG, fb, lb, sv, rv, (hM1.met hT).mono (by omega)⟩, ((Below.refl _ w).alloc hbase _).grown hT.1 (by simp; omega) (fun j e => by cases e; exact hbp.1)⟩)
      have hS : Hid ((S.sync nm).1 = S.next.1) := Lib.hid (by
        unfold DS.sync; rw [if_neg (by simp [hf]), if_neg hd]
        split
        · rename_i h0; exact h0.symm
        · rfl)
      clear hM hM1 hbox hG hf hl hk hmay hd hd' hrow hv hc
      go_enter Try.func16, Try.ntmps16
      go_wp2_with (first
        | (go_at_call 40; refine hfind.mono ?_; rintro e w' ⟨rfl, rfl⟩)
        | (go_at_call 41; refine hch.mono ?_; rintro e w' ⟨rfl, hQ⟩))
      go_ret
      exact ⟨by rw [hS.out]; rfl, hQ.1, hQ.2⟩
  · have hfind := find_no hG hM nm hn true hf
    have hS : Hid (S.sync nm = (S.find nm true, S)) := Lib.hid (by unfold DS.sync; rw [if_pos hf])
    obtain ⟨x, hx⟩ : ∃ x, x = S.find nm true := ⟨_, rfl⟩
    rw [← hx] at hfind hS hf
    have q : (x != 0) = true := by simpa using hf
    clear hM hG hf hx
    go_enter Try.func16, Try.ntmps16
    go_wp2_with (go_at_call 40; refine hfind.mono ?_; rintro e w' ⟨rfl, rfl⟩)
    go_ret
    rw [hS.out]
    exact StepP.no H.out ((Below.refl _ _).alloc hbase _) (World.grownBy_alloc _ _ _) rfl
end
end Go.Proofs.Ytcemfpbkaahcmaa
