/- Contract: the directory lasts. -/
import Derived.Test.YtcemfpbkaahcmaaCut
import Derived.Test.YtcemfpbkaahcmaaNames
import Derived.Deep.RegionHeld3
namespace Go.Proofs.Ytcemfpbkaahcmaa
open Go.RowKit Go.Shelf
set_option linter.unusedVariables false

section
variable {w : World} {base p : Nat} {S : DS} {fb lb m : Nat} {sv : Value} {rv : Nat → Value}
/-- What the closure of SyncDir leaves. -/
def DirLasts (w : World) (p : Nat) (S : DS) (fb n : Nat) (w' : World) : Prop :=
  w.grownBy w' (some p) ∧ w'.heap[p]? = some (.cells (diskV { S with L := S.D, es := [] } fb w.heap.size (.slice none 0 0)) 54 (0, 0)) ∧ DirAt w' w.heap.size n S.D
set_option maxHeartbeats 1000000 in
theorem syncDir_do {bb n : Nat} (met : Int) (hb : w.heap[p]? = some (.cells (diskV S fb lb sv) 54 (0, 0))) (hD : DirAt w fb n S.D) (hx : w.heap[bb]? = some (.cells #[.pointer (some ⟨p, 0, none⟩)] 26 (0, 0))) :
    Calls Try.prog 43 #[.int .i64 met, .pointer (some ⟨bb, 0, none⟩)] w fun e w' => e = .returned (.tuple #[]) ∧ DirLasts w p S fb n w' := by
  have hbl := lt_of_block hb
  have hxl := lt_of_block hx
  have HB := Lib.hid hb
  have HX := Lib.hid hx
  have HC := Lib.hid (fun (u : World) (hu : u.heap[p]? = w.heap[p]? ∧ u.heap[bb]? = w.heap[bb]?) => (⟨cell_of_one (hu.2.trans hx), (disk_cells (hu.1.trans hb)).2.1⟩ : u.cell? ⟨bb, 0, none⟩ = some (.pointer (some ⟨p, 0, none⟩)) ∧ u.cell? ⟨p, 1, none⟩ = some (.map (some fb))))
  have hne : bb ≠ p := ne_types hx hb (by decide)
  have HK := Lib.hid (fun (u : World) (hu : u.heap[p]? = w.heap[p]? ∧ u.heap[bb]? = w.heap[bb]?) => (⟨(World.cell?_setCell_other u ⟨p, 2, none⟩ ⟨bb, 0, none⟩ (.map (some w.heap.size)) (fun e => by injection e; omega)).trans (HC.out u hu).1,
    (World.cell?_setCell_other u ⟨p, 2, none⟩ ⟨p, 1, none⟩ (.map (some w.heap.size)) (fun e => by injection e; omega)).trans (HC.out u hu).2⟩ : (u.setCell ⟨p, 2, none⟩ (.map (some w.heap.size))).cell? ⟨bb, 0, none⟩ = some (.pointer (some ⟨p, 0, none⟩)) ∧ (u.setCell ⟨p, 2, none⟩ (.map (some w.heap.size))).cell? ⟨p, 1, none⟩ = some (.map (some fb))))
  have k0 := HC.out w.drew ⟨rfl, rfl⟩
  have hcl := Lib.hid (clone_dir w.drew fb n S.D hD.drew)
  clear hb hx hD
  go_enter Try.func43, Try.ntmps43
  go_wp2_with fail
  go_region_held3 (fun u => u.cell? ⟨bb, 0, none⟩ = some (.pointer (some ⟨p, 0, none⟩)) ∧ u.cell? ⟨p, 1, none⟩ = some (.map (some fb))) (first | exact k0 | exact k1 | exact k2)
    (first | (go_at_call 44; refine hcl.out.mono ?_; rintro e w1 ⟨rfl, hn, _, hbw⟩; have HN := Lib.hid hn; have HW := Lib.hid hbw; have hp1 := Lib.hid ((hbw.block p hbl).trans HB.out); have k1 := HC.out w1 ⟨hbw.block p hbl, hbw.block bb hxl⟩; have f2 := free_block (j := 2) hp1.out; have c2 := (disk_cells hp1.out).2.2.1; have c3 := (disk_cells hp1.out).2.2.2.1; have f3 := free_block (j := 3) hp1.out; have k2 := HK.out w1 ⟨hbw.block p hbl, hbw.block bb hxl⟩; clear hn hbw))
  go_wp2
  go_end0
  have hg1 : w.grownBy w1 (some p) := (⟨rfl, rfl, rfl, Nat.le_refl _, fun _ _ _ => rfl⟩ : w.grownBy w.drew (some p)).trans (grown_below HW.out (Nat.le_refl _) _)
  refine ⟨rfl, (hg1.trans (grown_set w1 ⟨p, 2, none⟩ _)).trans (grown_set _ ⟨p, 3, none⟩ _), ?_, ?_⟩
  · rw [set_block (set_block hp1.out _)]
    rfl
  · have h1 : DirAt w1 w.heap.size n S.D := HN.out
    exact (h1.kept (grown_set w1 ⟨p, 2, none⟩ _) (fun e => by injection e with e; simp at e; omega)).kept (grown_set _ ⟨p, 3, none⟩ _) (fun e => by injection e with e; simp at e; omega)

theorem syncDir_good (hG : Good S m) : Good { S with L := S.D, es := [] } m :=
  { hG with okL := hG.okD, nmL := hG.nmD, domL := hG.domD, nmE := fun e he => by simp at he, cnt := by simp, cnt2 := by have := hG.cnt; have := hG.cnt2; simp; omega }
theorem syncDir_mem {w' : World} (hM : Mem w base p S fb lb sv rv m) (hT : DirLasts w p S fb m w') : Mem w' base p { S with L := S.D, es := [] } fb w.heap.size (.slice none 0 0) rv m where
  low := hM.low
  blk := hT.2.1
  fbl := hM.fbl
  lbl := hM.baseLe
  ne := by have := hM.files.lt; omega
  files := hM.files.kept hT.1 (fun e => by injection e with e; exact ne_map_cells hM.files hM.blk e)
  last := hT.2.2
  since := World.ownsRow_nil _ _ _ _
  fil := hM.fil.kept hT.1 (fun g e k f hk => by cases e; exact ne_types (hM.fil.blk k f hk) hM.blk (by decide)) (fun g e k f hk => by cases e; exact row_ne (hM.fil.row k f hk) (not_cells_of_type hM.blk (by decide)))

set_option maxHeartbeats 1000000 in
theorem syncDir_change (hG : Good S m) (hM : Mem w base p S fb lb sv rv m) (hm : m ≤ 1073741824) {bb : Nat} (hbox : w.heap[bb]? = some (.cells #[.pointer (some ⟨p, 0, none⟩)] 26 (0, 0))) :
    Calls Try.prog 41 #[.pointer (some ⟨p, 0, none⟩), .int .i64 6, .func (.func 43) #[] #[.pointer (some ⟨bb, 0, none⟩)]] w (StepP w base p S.syncDir (m + 1)) := by
  by_cases hd : S.dead = true
  · refine (change_dead hM.blk hd 6 _).mono ?_
    rintro e w' ⟨rfl, rfl⟩
    have hS : S.syncDir = (8, S) := by unfold DS.syncDir; rw [if_pos hd]
    rw [hS]
    exact ⟨rfl, ⟨hG.mono (by omega), fb, lb, sv, rv, hM.mono (by omega)⟩, Below.refl _ _⟩
  · have hd' : S.dead = false := by simpa using hd
    have hch := change_live hG hm hM.blk hd' 6 43 #[.pointer (some ⟨bb, 0, none⟩)] (enters_of Try.func43 (by kernel_rfl) rfl) (fun w' => Holds w' base p S.syncDir.2 (m + 1) ∧ Below base w w')
      (fun hyes w2 hT => by
        have hz : S.next.1 = 0 := by
          rcases hyes with h | h
          · exact h
          · simp [leaves] at h
        have hS : S.syncDir = (0, { S.next.2 with L := S.next.2.D, es := [] }) := by unfold DS.syncDir; rw [if_neg hd, if_pos hz]
        have hM2 := hM.met hT
        have hx2 := (hT.1.block _ (lt_of_block hbox) (fun e => by injection e with e; exact ne_types hbox hM.blk (by decide) e)).trans hbox
        refine (syncDir_do S.next.1 hM2.blk hM2.files hx2).mono ?_
        rintro e w3 ⟨rfl, hT3⟩
        refine ⟨rfl, ?_, ?_⟩
        · rw [hS]
          exact ⟨syncDir_good (next_good hG), _, _, _, _, (syncDir_mem hM2 hT3).mono (by omega)⟩
        · exact ((Below.refl _ w).grown hT.1 hM.baseLe (fun j e => by cases e; exact hM.low)).grown hT3.1 hM2.baseLe (fun j e => by cases e; exact hM.low))
      (fun hno w2 hT => by
        have hz : ¬ S.next.1 = 0 := fun e => hno (.inl e)
        have hS : S.syncDir = (S.next.1, S.next.2) := by unfold DS.syncDir; rw [if_neg hd, if_neg hz]
        rw [hS]
        exact ⟨⟨next_good hG, fb, lb, sv, rv, (hM.met hT).mono (by omega)⟩, (Below.refl _ w).grown hT.1 hM.baseLe (fun j e => by cases e; exact hM.low)⟩)
    have hS : S.syncDir.1 = S.next.1 := by
      unfold DS.syncDir; rw [if_neg hd]
      split
      · rename_i h0; exact h0.symm
      · rfl
    refine hch.mono ?_
    rintro e w' ⟨rfl, hQ⟩
    exact ⟨by rw [hS], hQ.1, hQ.2⟩

set_option maxHeartbeats 1000000 in
theorem syncDir_any (h : Holds w base p S m) (hm : m ≤ 1073741824) :
    Calls Try.prog 17 #[.pointer (some ⟨p, 0, none⟩)] w (StepP w base p S.syncDir (m + 1)) := by
  have hbp := h.lt
  have hbase : base ≤ w.heap.size := by omega
  obtain ⟨hG, fb, lb, sv, rv, hM⟩ := h
  have hM1 := hM.alloc (.cells #[.pointer (some ⟨p, 0, none⟩)] 26)
  have hbox := box_cell w (.pointer (some ⟨p, 0, none⟩)) 26
  have hnone := none_disk hG hM1
  have hch := syncDir_change hG hM1 hm hbox
  clear hM hM1 hG hbox
  go_enter Try.func17, Try.ntmps17
  go_wp2_with (first
    | (go_at_call 33; refine hnone.mono ?_; rintro e w' ⟨rfl, rfl⟩)
    | (go_at_call 41; refine hch.mono ?_; rintro e w' hQ; have HQ := Lib.hid hQ; obtain ⟨rfl, _, _⟩ := hQ))
  go_ret
  exact HQ.out.later ((Below.refl _ _).alloc hbase _)
end
end Go.Proofs.Ytcemfpbkaahcmaa
