/- Contract: Append. -/
import Derived.Test.YtcemfpbkaahcmaaAppend
namespace Go.Proofs.Ytcemfpbkaahcmaa
open Go.RowKit Go.Shelf
set_option linter.unusedVariables false

section
variable {w : World} {base p : Nat} {S : DS} {fb lb m : Nat} {sv : Value} {rv : Nat → Value}
theorem StepO.no {w' : World} {e : Ending} {r : Int} {g : Nat} (h : HoldsOff w base p S m g) (hgl : g < w.heap.size) (hb : Below base w w') (hw : w.grownBy w' none) (he : e = .returned (.int .i64 r)) : StepO w base p (r, S) (m + 1) g e w' := by
  refine ⟨he, ?_, hb, hw.block g hgl (by simp)⟩
  obtain ⟨hG, fb, lb, sv, rv, hM, ho⟩ := h
  exact ⟨hG.mono (by omega), fb, lb, sv, rv, (hM.kept hw (fun g e => by cases e)).mono (by omega), ho⟩
theorem StepO.later {w1 w2 : World} {r : Int × DS} {e : Ending} {g : Nat} (h : StepO w1 base p r m g e w2) (hb : Below base w w1) (hg : w1.heap[g]? = w.heap[g]?) : StepO w base p r m g e w2 := ⟨h.1, h.2.1, hb.trans h.2.2.1, h.2.2.2.trans hg⟩
set_option maxHeartbeats 2000000 in
theorem append_off (hG : Good S m) (hM : Mem w base p S fb lb sv rv m) {g : Nat} (hgl : g < w.heap.size) (hgp : g ≠ p) (hgk : ∀ k f, S.fl k = some f → g ≠ k) (hoff : ∀ k f, S.fl k = some f → (rv k).ownBlock ≠ some g) (hm : m ≤ 1073741824) (nm : Str) (hn : nm.length ≤ maxLen) (A' : Option Addr) (c' lo hi : Nat) (x : List UInt8)
    (hr : Rd w lo hi A' x) (hhi : hi ≤ w.heap.size) (hlo : ∀ g, lo ≤ g → g < hi → g ≠ p) (hxc : x.length ≤ c') (hcm : c' ≤ maxLen) :
    Calls Try.prog 23 #[.pointer (some ⟨p, 0, none⟩), strV nm, .slice A' x.length c'] w (StepO w base p (S.append nm x) (m + 1) g) := by
  have h : Holds w base p S m := ⟨hG, fb, lb, sv, rv, hM⟩
  have hbp := h.lt
  have hbase : base ≤ w.heap.size := by omega
  have HO := Lib.hid (⟨hG, fb, lb, sv, rv, hM, hoff⟩ : HoldsOff w base p S m g)
  clear h
  have hxm : x.length ≤ 9223372036854775807 := by unfold maxLen at hcm; omega
  have hMx := hM.alloc (.cells #[.slice A' x.length c'] 33)
  by_cases hf : S.find nm true = 0
  · obtain ⟨_, hmay, k, hl⟩ := find_zero hf
    have hfind := find_ok hG hMx nm hn k hmay hl
    obtain ⟨f, hk⟩ := file_of hG hl
    have hM1 := hMx.alloc (.cells #[.pointer (some ⟨k, 0, none⟩)] 68)
    have hbox := box_cell (w.alloc (.cells #[.slice A' x.length c'] 33)) (.pointer (some ⟨k, 0, none⟩)) 68
    have hbox0 : ((w.alloc (.cells #[.slice A' x.length c'] 33)).alloc (.cells #[.pointer (some ⟨k, 0, none⟩)] 68)).heap[w.heap.size]? = some (.cells #[.slice A' x.length c'] 33 (0, 0)) :=
      (Below.heap_alloc _ _ _ (by simp)).trans (box_cell w (.slice A' x.length c') 33)
    rw [World.size_alloc] at hbox
    have HW := Lib.hid (World.grownBy_alloc w (.cells #[.slice A' x.length c'] 33) none |>.trans (World.grownBy_alloc _ (.cells #[.pointer (some ⟨k, 0, none⟩)] 68) none))
    have HR1 := Lib.hid ((hr.alloc hhi (.cells #[.slice A' x.length c'] 33)).alloc (by simp; omega) (.cells #[.pointer (some ⟨k, 0, none⟩)] 68))
    have hsz : w.heap.size + 1 < ((w.alloc (.cells #[.slice A' x.length c'] 33)).alloc (.cells #[.pointer (some ⟨k, 0, none⟩)] 68)).heap.size := by simp
    have hs0 : w.heap.size + 1 + 1 = ((w.alloc (.cells #[.slice A' x.length c'] 33)).alloc (.cells #[.pointer (some ⟨k, 0, none⟩)] 68)).heap.size := by simp
    have HM1 := Lib.hid hM1
    have HRM := Lib.hid (room_any hG hM1.drew hm)
    have H0 := Lib.hid hbox0
    have H1 := Lib.hid hbox
    have HG := Lib.hid hG
    have HF := Lib.hid hf
    have HL := Lib.hid hl
    have HK := Lib.hid hk
    have HC := Lib.hid (fun (u : World) (hu : Below ((w.alloc (.cells #[.slice A' x.length c'] 33)).alloc (.cells #[.pointer (some ⟨k, 0, none⟩)] 68)).drew.heap.size ((w.alloc (.cells #[.slice A' x.length c'] 33)).alloc (.cells #[.pointer (some ⟨k, 0, none⟩)] 68)).drew u) =>
      cell_of_one ((hu.block w.heap.size (by simp; omega)).trans hbox0))
    have k0 := HC.out _ (Below.refl _ _)
    by_cases hroom : S.room < (x.length : Int)
    · have hS : Hid (S.append nm x = (5, S)) := Lib.hid (by unfold DS.append; rw [if_neg (fun h => h hf), if_pos hroom])
      clear hM hM1 hMx hbox hbox0 hG hf hl hk hmay hr
      go_enter Try.func23, Try.ntmps23
      go_wp2_with (go_at_call 40; refine hfind.mono ?_; rintro e w' ⟨rfl, rfl⟩)
      clear hfind HM1 H0 H1 hs0
      generalize ((w.alloc (.cells #[.slice A' x.length c'] 33)).alloc (.cells #[.pointer (some ⟨k, 0, none⟩)] 68)) = w1 at HW HR1 HRM HC k0 hsz ⊢
      go_region_held3 (fun u => u.cell? ⟨w.heap.size, 0, none⟩ = some (.slice A' x.length c')) (first | exact k0 | exact k1)
        (first | (go_at_call 20; refine HRM.out.mono ?_; rintro e w2 ⟨rfl, hb2⟩; have HB2 := Lib.hid hb2; have k1 := HC.out w2 hb2; clear hb2))
      all_goals
        go_wp2
        go_ret
        rw [hS.out]
        have hg2 := (grown_drew HW.out).trans (grown_below HB2.out (Nat.le_refl _) none)
        exact StepO.no HO.out hgl (below_grown hg2 hbase (fun _ e => by cases e)) hg2 rfl
    · have HCH := Lib.hid (fun (u : World) (hu : Below ((w.alloc (.cells #[.slice A' x.length c'] 33)).alloc (.cells #[.pointer (some ⟨k, 0, none⟩)] 68)).drew.heap.size ((w.alloc (.cells #[.slice A' x.length c'] 33)).alloc (.cells #[.pointer (some ⟨k, 0, none⟩)] 68)).drew u) =>
        append_change (w := u) hG (hM1.drew.below hu (Nat.le_refl _)) hm hf hl hk hroom ((hu.block (w.heap.size + 1) (by simp)).trans hbox) ((hu.block w.heap.size (by simp; omega)).trans hbox0)
          (HR1.out.keep (fun q _ h2 => hu.cell (p := q) (by simp; omega))) (Nat.le_trans (by simp; omega) hu.size) hlo hxc hcm (Nat.lt_of_lt_of_le hgl (Nat.le_trans (by simp; omega) hu.size)) hgp hgk hoff)
      clear hM hM1 hMx hbox hbox0 hG hf hl hk hmay hr
      go_enter Try.func23, Try.ntmps23
      go_wp2_with (go_at_call 40; refine hfind.mono ?_; rintro e w' ⟨rfl, rfl⟩)
      clear hfind HM1 H0 H1 hs0
      generalize ((w.alloc (.cells #[.slice A' x.length c'] 33)).alloc (.cells #[.pointer (some ⟨k, 0, none⟩)] 68)) = w1 at HW HR1 HRM HC HCH k0 hsz ⊢
      go_region_held3 (fun u => u.cell? ⟨w.heap.size, 0, none⟩ = some (.slice A' x.length c')) (first | exact k0 | exact k1)
        (first | (go_at_call 20; refine HRM.out.mono ?_; rintro e w2 ⟨rfl, hb2⟩; have HB2 := Lib.hid hb2; have k1 := HC.out w2 hb2; have hch := HCH.out w2 hb2; clear hb2))
      all_goals
        go_wp2_with (go_at_call 41; refine hch.mono ?_; rintro e w' hQ; have HQ := Lib.hid hQ; obtain ⟨rfl, _, _⟩ := hQ)
        go_ret
        have hg2 := (grown_drew HW.out).trans (grown_below HB2.out (Nat.le_refl _) none)
        exact StepO.later HQ.out (below_grown hg2 hbase (fun _ e => by cases e)) (hg2.block g hgl (by simp))
  · have hfind := find_no hG hMx nm hn _ hf
    have hS : Hid (S.append nm x = (S.find nm true, S)) := Lib.hid (by unfold DS.append; rw [if_pos hf])
    obtain ⟨r, hrr⟩ : ∃ r, r = S.find nm true := ⟨_, rfl⟩
    rw [← hrr] at hfind hS hf
    have q : (r != 0) = true := by simpa using hf
    clear hM hMx hG hf hrr hr
    go_enter Try.func23, Try.ntmps23
    go_wp2_with (go_at_call 40; refine hfind.mono ?_; rintro e w' ⟨rfl, rfl⟩)
    go_ret
    rw [hS.out]
    exact StepO.no HO.out hgl (((Below.refl _ _).alloc hbase _).alloc (by simp; omega) _) ((World.grownBy_alloc _ _ _).trans (World.grownBy_alloc _ _ _)) rfl
theorem append_any (h : Holds w base p S m) (hm : m ≤ 1073741824) (nm : Str) (hn : nm.length ≤ maxLen) (A' : Option Addr) (c' lo hi : Nat) (x : List UInt8)
    (hr : Rd w lo hi A' x) (hhi : hi ≤ w.heap.size) (hlo : ∀ g, lo ≤ g → g < hi → g ≠ p) (hxc : x.length ≤ c') (hcm : c' ≤ maxLen) :
    Calls Try.prog 23 #[.pointer (some ⟨p, 0, none⟩), strV nm, .slice A' x.length c'] w (StepP w base p (S.append nm x) (m + 1)) := by
  obtain ⟨hG, fb, lb, sv, rv, hM⟩ := h
  refine (append_off hG hM (g := lb) hM.last.lt (ne_map_cells hM.last hM.blk) (fun k f hk => ne_map_cells hM.last (hM.fil.blk k f hk)) (fun k f hk => ?_) hm nm hn A' c' lo hi x hr hhi hlo hxc hcm).mono ?_
  · rcases row_ne (hM.fil.row k f hk) (not_cells_of_map hM.last _) with e | e
    · rw [e]; simp
    · exact e
  · rintro e w' ⟨h1, h2, h3, _⟩
    exact ⟨h1, h2.holds, h3⟩
end
end Go.Proofs.Ytcemfpbkaahcmaa
