/- Contract: a file is cut. -/
import Derived.Test.YtcemfpbkaahcmaaSync
import Derived.WalkSmall
import Derived.Deep.QuietTactic
import Derived.BigQuiet
namespace Go.Proofs.Ytcemfpbkaahcmaa
open Go.RowKit Go.Shelf
set_option linter.unusedVariables false

section
variable {w : World} {base p : Nat} {S : DS} {fb lb m : Nat} {sv : Value} {rv : Nat → Value}
set_option maxHeartbeats 1000000 in
theorem cut_do {k n bb bn l c x : Nat} {A : Option Addr} (met : Int) (hb : w.heap[k]? = some (.cells (fileV (.slice A l c) n) 71 (0, 0))) (hx : w.heap[bb]? = some (.cells #[.pointer (some ⟨k, 0, none⟩)] 68 (0, 0)))
    (hy : w.heap[bn]? = some (.cells #[.int .i64 (x : Int)] 3 (0, 0))) (h1 : x ≤ l) (h2 : l ≤ c) (h3 : c ≤ maxLen) :
    Calls Try.prog 52 #[.int .i64 met, .pointer (some ⟨bb, 0, none⟩), .pointer (some ⟨bn, 0, none⟩)] w fun e w' => e = .returned (.tuple #[]) ∧ FileTo w k (.slice A x c) (min n x) w' := by
  unfold maxLen at h3
  obtain ⟨c0, c1⟩ := file_cells hb
  have f0 := free_block (j := 0) hb
  have f1 := free_block (j := 1) hb
  have cb := cell_of_one hx
  have cn := cell_of_one hy
  have hne : k ≠ bb := ne_types hb hx (by decide)
  have hne2 : k ≠ bn := ne_types hb hy (by decide)
  have HB := Lib.hid hb
  have HX := Lib.hid hx
  have HY := Lib.hid hy
  clear hb hx hy
  have hxc : (x : Int) ≤ c := by omega
  have hx0 : (0 : Int) ≤ x := by omega
  go_enter Try.func52, Try.ntmps52
  go_wp2
  go_region
  all_goals
    go_wp2
    have hT := (((FileTo.refl HB.out).set0 (.slice A x c)).drew)
    have hx1 := hT.other HB.out HX.out (by decide)
    have hy1 := hT.other HB.out HY.out (by decide)
    clear c0 c1 f0 f1 cb cn
    generalize (w.setCell { block := k, off := 0 } (Value.slice A x c)).drew = w1 at hT hx1 hy1 ⊢
    obtain ⟨c0, c1⟩ := file_cells hT.2
    have f1 := free_block (j := 1) hT.2
    have cb := cell_of_one hx1
    have cn := cell_of_one hy1
    have HT := Lib.hid hT
    clear hT hx1 hy1 HB HX HY
    have hmin : (if x < n then (x : Int) else (n : Int)) = ((min n x : Nat) : Int) := by split <;> omega
    go_region
    all_goals
      go_end0
      refine ⟨rfl, ?_⟩
      exact (HT.out.set1 (min n x)).drew

set_option maxHeartbeats 1000000 in
theorem cut_change (hG : Good S m) (hM : Mem w base p S fb lb sv rv m) (hm : m ≤ 1073741824) {nm : Str} {k y bb bn : Nat} {f : Fl} (hf : S.find nm (decide (0 ≤ (y : Int))) = 0) (hl : S.D.look nm = some k) (hk : S.fl k = some f) (hy : y ≤ f.b.length)
    (hbox : w.heap[bb]? = some (.cells #[.pointer (some ⟨k, 0, none⟩)] 68 (0, 0))) (hbox0 : w.heap[bn]? = some (.cells #[.int .i64 (y : Int)] 3 (0, 0))) :
    Calls Try.prog 41 #[.pointer (some ⟨p, 0, none⟩), .int .i64 3, .func (.func 52) #[] #[.pointer (some ⟨bb, 0, none⟩), .pointer (some ⟨bn, 0, none⟩)]] w (StepP w base p (S.cut nm (y : Int)) (m + 1)) := by
  have hlong : ¬ ((S.fileOf nm).b.length : Int) < (y : Int) := by rw [fileOf_eq hl hk]; omega
  by_cases hd : S.dead = true
  · refine (change_dead hM.blk hd 3 _).mono ?_
    rintro e w' ⟨rfl, rfl⟩
    have hS : S.cut nm (y : Int) = (8, S) := by unfold DS.cut; rw [if_neg (fun h => h hf), if_neg hlong, if_pos hd]
    rw [hS]
    exact ⟨rfl, ⟨hG.mono (by omega), fb, lb, sv, rv, hM.mono (by omega)⟩, Below.refl _ _⟩
  · have hd' : S.dead = false := by simpa using hd
    have hrow := hM.fil.row k f hk
    obtain ⟨A, c, hv, hc⟩ := row_form hrow
    have hch := change_live hG hm hM.blk hd' 3 52 #[.pointer (some ⟨bb, 0, none⟩), .pointer (some ⟨bn, 0, none⟩)] (enters_of Try.func52 (by kernel_rfl) rfl) (fun w' => Holds w' base p (S.cut nm (y : Int)).2 (m + 1) ∧ Below base w w')
      (fun hyes w2 hT => by
        have hz : S.next.1 = 0 := by
          rcases hyes with h | h
          · exact h
          · simp [leaves] at h
        have hS : S.cut nm (y : Int) = (0, S.next.2.setFile k ⟨f.b.take y, min f.n y⟩) := by
          unfold DS.cut; rw [if_neg (fun h => h hf), if_neg hlong, if_neg hd, if_pos hz, fileOf_eq hl hk, numOf_eq hl, Int.toNat_natCast]
        have hM2 := hM.met hT
        have hk2 : S.next.2.fl k = some f := by rw [(next_same S).fl]; exact hk
        have hx2 := (hT.1.block _ (lt_of_block hbox) (fun e => by injection e with e; exact ne_types hbox hM.blk (by decide) e)).trans hbox
        have hy2 := (hT.1.block _ (lt_of_block hbox0) (fun e => by injection e with e; exact ne_types hbox0 hM.blk (by decide) e)).trans hbox0
        have hb2 := hM2.fil.blk k f hk2
        have hr2 := hM2.fil.row k f hk2
        rw [hv] at hb2 hr2
        refine (cut_do S.next.1 hb2 hx2 hy2 hy hc (row_cap hr2)).mono ?_
        rintro e w3 ⟨rfl, hT3⟩
        refine ⟨rfl, ?_, ?_⟩
        · rw [hS]
          have hG2 := next_good hG
          have hbig := hG2.las k f hk2
          have hlen : (f.b.take y).length = y := by rw [List.length_take]; omega
          refine ⟨setFile_good (f' := ⟨f.b.take y, min f.n y⟩) hG2 hk2 (by dsimp only; rw [hlen]; omega) (by dsimp only; rw [hlen]; omega), fb, lb, sv, _, (Mem.file (f' := ⟨f.b.take y, min f.n y⟩) hM2 hk2 hT3 ?_ ?_).mono (by omega)⟩
          · have := hT3.row (by decide) hb2 (row_take hr2 y hy)
            dsimp only
            rw [hlen, List.map_take]
            exact this
          · intro g hg j fj hj hj'
            have hg' : (rv k).ownBlock = some g := by rw [hv]; (cases A with | none => simp [Value.ownBlock] at hg | some a => simpa [Value.ownBlock] using hg)
            exact (hM2.fil.sep k f j fj g hk2 hj hg' hj').symm
        · exact ((Below.refl _ w).grown hT.1 hM.baseLe (fun j e => by cases e; exact hM.low)).grown hT3.1 hM2.baseLe (fun j e => by cases e; exact hM.fil.low k f hk))
      (fun hno w2 hT => by
        have hz : ¬ S.next.1 = 0 := fun e => hno (.inl e)
        have hS : S.cut nm (y : Int) = (S.next.1, S.next.2) := by unfold DS.cut; rw [if_neg (fun h => h hf), if_neg hlong, if_neg hd, if_neg hz]
        rw [hS]
        exact ⟨⟨next_good hG, fb, lb, sv, rv, (hM.met hT).mono (by omega)⟩, (Below.refl _ w).grown hT.1 hM.baseLe (fun j e => by cases e; exact hM.low)⟩)
    have hS : (S.cut nm (y : Int)).1 = S.next.1 := by
      unfold DS.cut; rw [if_neg (fun h => h hf), if_neg hlong, if_neg hd]
      split
      · rename_i h0; exact h0.symm
      · rfl
    refine hch.mono ?_
    rintro e w' ⟨rfl, hQ⟩
    exact ⟨by rw [hS], hQ.1, hQ.2⟩

/-- A call behind blocks of the call's own. -/
theorem StepP.later {w1 w2 : World} {r : Int × DS} {e : Ending} (h : StepP w1 base p r m e w2) (hb : Below base w w1) : StepP w base p r m e w2 := ⟨h.1, h.2.1, hb.trans h.2.2⟩

set_option maxHeartbeats 1000000 in
theorem cut_any (h : Holds w base p S m) (hm : m ≤ 1073741824) (nm : Str) (hn : nm.length ≤ maxLen) (x : Int) :
    Calls Try.prog 32 #[.pointer (some ⟨p, 0, none⟩), strV nm, .int .i64 x] w (StepP w base p (S.cut nm x) (m + 1)) := by
  have hbp := h.lt
  have hbase : base ≤ w.heap.size := by omega
  have H := Lib.hid h
  obtain ⟨hG, fb, lb, sv, rv, hM⟩ := h
  have hMx := hM.alloc (.cells #[.int .i64 x] 3)
  by_cases hf : S.find nm (decide (0 ≤ x)) = 0
  · obtain ⟨hx0, hmay, k, hl⟩ := find_zero hf
    have hfind := find_ok hG hMx nm hn k hmay hl
    obtain ⟨f, hk⟩ := file_of hG hl
    have hM1 := hMx.alloc (.cells #[.pointer (some ⟨k, 0, none⟩)] 68)
    have hbox := box_cell (w.alloc (.cells #[.int .i64 x] 3)) (.pointer (some ⟨k, 0, none⟩)) 68
    have hbox0 : ((w.alloc (.cells #[.int .i64 x] 3)).alloc (.cells #[.pointer (some ⟨k, 0, none⟩)] 68)).heap[w.heap.size]? = some (.cells #[.int .i64 x] 3 (0, 0)) :=
      (Below.heap_alloc _ _ _ (by simp)).trans (box_cell w (.int .i64 x) 3)
    rw [World.size_alloc] at hbox
    have hx1 : 0 ≤ x := by simpa using hx0
    have hrow := hM1.fil.row k f hk
    obtain ⟨A, c, hv, hc⟩ := row_form hrow
    have hblk := hM1.fil.blk k f hk
    rw [hv] at hblk
    obtain ⟨d0, _⟩ := file_cells hblk
    have hbig := (hG.las k f hk).2
    have hcap := hG.cap2
    have HW := Lib.hid (World.grownBy_alloc w (.cells #[.int .i64 x] 3) none |>.trans (World.grownBy_alloc _ (.cells #[.pointer (some ⟨k, 0, none⟩)] 68) none))
    have cn := cell_of_one hbox0
    have cb := cell_of_one hbox
    by_cases hlong : (f.b.length : Int) < x
    · have hS : Hid (S.cut nm x = (2, S)) := Lib.hid (by unfold DS.cut; rw [if_neg (fun h => h hf), if_pos (by rw [fileOf_eq hl hk]; exact hlong)])
      clear hM hM1 hMx hbox hbox0 hG hf hl hk hmay hrow hv hblk
      go_enter Try.func32, Try.ntmps32
      go_wp2_with (go_at_call 40; refine hfind.mono ?_; rintro e w' ⟨rfl, rfl⟩)
      generalize ((w.alloc (.cells #[.int .i64 x] 3)).alloc (.cells #[.pointer (some ⟨k, 0, none⟩)] 68)) = w1 at d0 HW cn cb ⊢
      clear hfind
      go_region
      all_goals
        go_wp2
        go_ret
        rw [hS.out]
        exact StepP.no H.out (below_grown (grown_drew HW.out) hbase (fun _ e => by cases e)) (grown_drew HW.out) rfl
    · have hxl : x ≤ f.b.length := by omega
      obtain ⟨y, rfl⟩ : ∃ y : Nat, x = (y : Int) := ⟨x.toNat, by omega⟩
      have hch := cut_change (w := ((w.alloc (.cells #[.int .i64 (y : Int)] 3)).alloc (.cells #[.pointer (some ⟨k, 0, none⟩)] 68)).drew) hG hM1.drew hm hf hl hk (by omega) hbox hbox0
      clear hM hM1 hMx hbox hbox0 hG hf hl hk hmay hrow hv hblk
      go_enter Try.func32, Try.ntmps32
      go_wp2_with (go_at_call 40; refine hfind.mono ?_; rintro e w' ⟨rfl, rfl⟩)
      generalize ((w.alloc (.cells #[.int .i64 (y : Int)] 3)).alloc (.cells #[.pointer (some ⟨k, 0, none⟩)] 68)) = w1 at d0 HW cn cb hch ⊢
      clear hfind
      go_region
      all_goals
        go_wp2_with (go_at_call 41; refine hch.mono ?_; rintro e w' hQ; have HQ := Lib.hid hQ; obtain ⟨rfl, _, _⟩ := hQ)
        go_ret
        exact HQ.out.later (below_grown (grown_drew HW.out) hbase (fun _ e => by cases e))
  · have hfind := find_no hG hMx nm hn _ hf
    have hS : Hid (S.cut nm x = (S.find nm (decide (0 ≤ x)), S)) := Lib.hid (by unfold DS.cut; rw [if_pos hf])
    obtain ⟨r, hr⟩ : ∃ r, r = S.find nm (decide (0 ≤ x)) := ⟨_, rfl⟩
    rw [← hr] at hfind hS hf
    have q : (r != 0) = true := by simpa using hf
    clear hM hMx hG hf hr
    go_enter Try.func32, Try.ntmps32
    go_wp2_with (go_at_call 40; refine hfind.mono ?_; rintro e w' ⟨rfl, rfl⟩)
    go_ret
    rw [hS.out]
    exact StepP.no H.out (((Below.refl _ _).alloc hbase _).alloc (by simp; omega) _) ((World.grownBy_alloc _ _ _).trans (World.grownBy_alloc _ _ _)) rfl
end
end Go.Proofs.Ytcemfpbkaahcmaa
