/- Contract: the chapter's rows hold. -/
import Derived.Test.YtcemfpbkaahcmaaKnownP
namespace Go.Proofs.Ytcemfpbkaahcmaa
open Go.RowKit Go.Shelf
set_option linter.unusedVariables false

section
variable {w w' : World} {base p m : Nat} {S : DS}
theorem step_eq {r : Int × DS} {x : Int} {S' : DS} {e : Ending} (h : r = (x, S')) (hs : StepP w base p r m e w') : e = .returned (.int .i64 x) ∧ Holds w' base p S' m ∧ Below base w w' := by
  subst h
  exact hs
theorem Holds.grow (h : Holds w base p S m) (hg : w.grownBy w' none) : Holds w' base p S m := by
  obtain ⟨hG, fb, lb, sv, rv, hM⟩ := h
  exact ⟨hG, fb, lb, sv, rv, hM.kept hg (fun g e => by cases e)⟩
theorem Holds.alloc (h : Holds w base p S m) (o : Obj) : Holds (w.alloc o) base p S m := h.grow (World.grownBy_alloc w o none)
theorem rd_lit (w : World) (l : List UInt8) (fr : Nat × Nat) : Rd (w.alloc (.cells (l.map bv).toArray 5 fr)) w.heap.size (w.heap.size + 1) (some ⟨w.heap.size, 0, none⟩) l := fun _ =>
  ⟨w.heap.size, 0, rfl, Nat.le_refl _, by omega, fun j v hv => by
    rw [cell_of_row _ _ _ _ _ fr (heap_alloc_new w _), Nat.zero_add]
    simp [hv]⟩
theorem append_lit (h : Holds w base p S m) (hm : m ≤ 1073741824) (nm : Str) (hn : nm.length ≤ maxLen) (l : List UInt8) (cs : Array Value) (hcs : cs = (l.map bv).toArray) (n : Nat) (hl : n = l.length) (hlm : l.length ≤ 100) (fr : Nat × Nat) :
    Calls Try.prog 23 #[.pointer (some ⟨p, 0, none⟩), strV nm, .slice (some ⟨w.heap.size, 0, none⟩) n n] (w.alloc (.cells cs 5 fr)) (StepP (w.alloc (.cells cs 5 fr)) base p (S.append nm l) (m + 1)) := by
  subst hcs hl
  have hlt := h.lt.2
  exact append_any (h.alloc _) hm nm hn _ _ w.heap.size (w.heap.size + 1) l (rd_lit w l fr) (by simp) (fun g h1 h2 => by omega) (Nat.le_refl _) (by unfold maxLen; omega)
theorem rdI_lit (w : World) (l : List Int) : RdI (w.alloc (.cells (l.map (Value.int .i64)).toArray 3)) (w.heap.size + 1) (some ⟨w.heap.size, 0, none⟩) l := fun _ =>
  ⟨w.heap.size, 0, rfl, by omega, fun j v hv => by
    rw [cell_of_row _ _ _ _ _ (0, 0) (heap_alloc_new w _), Nat.zero_add]
    simp [hv]⟩
end
section
variable {w w1 w' : World} {base p m : Nat} {S : DS}
theorem crash_lit (h : Holds w base p S m) (hm : m ≤ 268435456) (l : List Int) (cs : Array Value) (hcs : cs = (l.map (Value.int .i64)).toArray) (n : Nat) (hl : n = l.length) (hlm : l.length ≤ 100) :
    Calls Try.prog 12 #[.pointer (some ⟨p, 0, none⟩), .slice (some ⟨w.heap.size, 0, none⟩) n n] (w.alloc (.cells cs 3)) (CrashP (w.alloc (.cells cs 3)) S l m) := by
  subst hcs hl
  refine crash_any (h.alloc _) hm _ _ l ?_ (Nat.le_refl _) (by unfold maxLen; omega)
  rw [World.size_alloc]
  exact rdI_lit w l
theorem crash_none (h : Holds w base p S m) (hm : m ≤ 268435456) : Calls Try.prog 12 #[.pointer (some ⟨p, 0, none⟩), .slice none 0 0] w (CrashP w S [] m) :=
  crash_any h hm none 0 [] (fun h => absurd h (by simp)) (Nat.le_refl _) (by unfold maxLen; omega)
/-- What is read of the disk behind a loss of power; the disk ahead of it is there still. -/
theorem read_crashed {p' : Nat} {S' : DS} {l : Str} {nm : Str} (h : Holds w1 base p S m) (hb : Below w1.heap.size w1 w') (h' : Holds w' w1.heap.size p' S' m) (hr : S'.readS nm = l) (hn : nm.length ≤ maxLen) :
    Calls Try.prog 18 #[.pointer (some ⟨p', 0, none⟩), strV nm] w' fun e w2 => e = .returned (.string ⟨l.toArray⟩) ∧ Holds w2 base p S m ∧ Below w1.heap.size w1 w2 := by
  refine (read_any h' nm hn).mono ?_
  rintro e w2 ⟨rfl, hb2⟩
  exact ⟨by rw [hr]; rfl, (h.below hb (Nat.le_refl _)).below hb2 (Nat.le_refl _), hb.trans (hb2.mono hb.size)⟩
theorem read_here {l nm : Str} (h : Holds w base p S m) (hr : S.readS nm = l) (hn : nm.length ≤ maxLen) :
    Calls Try.prog 18 #[.pointer (some ⟨p, 0, none⟩), strV nm] w fun e w2 => e = .returned (.string ⟨l.toArray⟩) ∧ Holds w2 base p S m ∧ Below w.heap.size w w2 := by
  refine (read_any h nm hn).mono ?_
  rintro e w2 ⟨rfl, hb2⟩
  exact ⟨by rw [hr]; rfl, h.below hb2 (Nat.le_refl _), hb2⟩
end
set_option maxRecDepth 100000 in
set_option maxHeartbeats 4000000 in
theorem known_any (w : World) : Calls Try.prog 7 #[] w fun e w' => e = .returned (.bool true) ∧ Below w.heap.size w w' := by
  have hnum := fun e u => num_any e u
  have kc := fun (w : World) (C : Array Value) (n c : Nat) => Lib.run_convert_bytes_const (P := Try.prog) w 33 5 C n c Try.underlying33 Try.underlying5
  have hnew := new_any (w := w) 99 (by omega) (by omega)
  go_enter Try.func7, Try.ntmps7
  go_wp2_with fail
  refine hnew.mono ?_
  rintro e w1 ⟨p, rfl, h0, b1⟩
  have H0 := Lib.hid h0
  have B1 := Lib.hid b1
  clear h0 b1 hnew
  go_wp2_with (go_at_call 10; refine (hnum 0 _).mono ?_; rintro e w2 ⟨rfl, rfl⟩)
  refine (make_any H0.out (by omega) sA (by decide)).mono ?_
  rintro e w2 hs
  obtain ⟨rfl, h1, b2⟩ := step_eq (k1' _) hs
  have H1 := Lib.hid h1
  have B2 := Lib.hid (B1.out.trans b2)
  clear hs h1 b2 H0 B1
  go_wp2_with (go_at_call 10; refine (hnum 0 _).mono ?_; rintro e w2 ⟨rfl, rfl⟩)
  refine (append_lit H1.out (by omega) sA (by decide) [120, 121, 122] #[.int .u8 120, .int .u8 121, .int .u8 122] (by rfl) 3 rfl (by decide) _).mono ?_
  rintro e w3 hs
  obtain ⟨rfl, h1, b2⟩ := step_eq (k2 _) hs
  have H2 := Lib.hid h1
  have B3 := Lib.hid ((B2.out.alloc B2.out.size _).trans b2)
  clear hs h1 b2 H1 B2
  go_wp2_with (go_at_call 10; refine (hnum 0 _).mono ?_; rintro e w3 ⟨rfl, rfl⟩)
  refine (sync_any H2.out (by omega) sA (by decide)).mono ?_
  rintro e w4 hs
  obtain ⟨rfl, h1, b2⟩ := step_eq (k3 _) hs
  have H3 := Lib.hid h1
  have B4 := Lib.hid (B3.out.trans b2)
  clear hs h1 b2 H2 B3
  go_wp2_with (go_at_call 10; refine (hnum 0 _).mono ?_; rintro e w4 ⟨rfl, rfl⟩)
  refine (crash_none H3.out (by omega)).mono ?_
  rintro e w5 ⟨p2, T, rfl, hT, hcr, b5⟩
  have HRD := Lib.hid (read_crashed (l := [45, 54]) H3.out b5 hT (c1 hcr) (by decide : sA.length ≤ maxLen))
  have HB := Lib.hid B4.out
  clear hT hcr b5 H3 B4
  go_wp2_with fail
  refine HRD.out.mono ?_
  rintro e w6 ⟨rfl, h1, b2⟩
  have H4 := Lib.hid h1
  have B6 := Lib.hid (HB.out.trans (b2.mono HB.out.size))
  clear h1 b2 HRD HB
  go_wp2_with fail
  refine (crash_lit H4.out (by omega) [1] #[.int .i64 1] (by rfl) 1 rfl (by decide)).mono ?_
  rintro e w7 ⟨p2, T, rfl, hT, hcr, b5⟩
  have HRD := Lib.hid (read_crashed (l := [120, 121, 122]) (H4.out.alloc (.cells #[.int .i64 1] 3)) b5 hT (c2 hcr) (by decide : sA.length ≤ maxLen))
  have HB := Lib.hid (B6.out.alloc B6.out.size (.cells #[.int .i64 1] 3))
  clear hT hcr b5 H4 B6
  go_wp2_with fail
  refine HRD.out.mono ?_
  rintro e w8 ⟨rfl, h1, b2⟩
  have H5 := Lib.hid h1
  have B8 := Lib.hid (HB.out.trans (b2.mono HB.out.size))
  clear h1 b2 HRD HB
  go_wp2_with fail
  refine (syncDir_any H5.out (by omega)).mono ?_
  rintro e w9 hs
  obtain ⟨rfl, h1, b2⟩ := step_eq (k4 _) hs
  have H6 := Lib.hid h1
  have B9 := Lib.hid (B8.out.trans b2)
  clear hs h1 b2 H5 B8
  go_wp2_with (go_at_call 10; refine (hnum 0 _).mono ?_; rintro e w9 ⟨rfl, rfl⟩)
  refine (append_lit H6.out (by omega) sA (by decide) [117, 118] #[.int .u8 117, .int .u8 118] (by rfl) 2 rfl (by decide) _).mono ?_
  rintro e w10 hs
  obtain ⟨rfl, h1, b2⟩ := step_eq (k5 _) hs
  have H7 := Lib.hid h1
  have B10 := Lib.hid ((B9.out.alloc B9.out.size _).trans b2)
  clear hs h1 b2 H6 B9
  go_wp2_with (go_at_call 10; refine (hnum 0 _).mono ?_; rintro e w10 ⟨rfl, rfl⟩)
  refine (rename_any H7.out (by omega) sA sB (by decide) (by decide)).mono ?_
  rintro e w11 hs
  obtain ⟨rfl, h1, b2⟩ := step_eq (k6 _) hs
  have H8 := Lib.hid h1
  have B11 := Lib.hid (B10.out.trans b2)
  clear hs h1 b2 H7 B10
  go_wp2_with (go_at_call 10; refine (hnum 0 _).mono ?_; rintro e w11 ⟨rfl, rfl⟩)
  refine (crash_lit H8.out (by omega) [0, 1] #[.int .i64 0, .int .i64 1] (by rfl) 2 rfl (by decide)).mono ?_
  rintro e w12 ⟨p2, T, rfl, hT, hcr, b5⟩
  have HRD := Lib.hid (read_crashed (l := [120, 121, 122, 117]) (H8.out.alloc (.cells #[.int .i64 0, .int .i64 1] 3)) b5 hT (c3 hcr) (by decide : sA.length ≤ maxLen))
  have HB := Lib.hid (B11.out.alloc B11.out.size (.cells #[.int .i64 0, .int .i64 1] 3))
  clear hT hcr b5 H8 B11
  go_wp2_with fail
  refine HRD.out.mono ?_
  rintro e w13 ⟨rfl, h1, b2⟩
  have H9 := Lib.hid h1
  have B13 := Lib.hid (HB.out.trans (b2.mono HB.out.size))
  clear h1 b2 HRD HB
  go_wp2_with fail
  refine (crash_lit H9.out (by omega) [1, 2] #[.int .i64 1, .int .i64 2] (by rfl) 2 rfl (by decide)).mono ?_
  rintro e w14 ⟨p2, T, rfl, hT, hcr, b5⟩
  have HRD := Lib.hid (read_crashed (l := [120, 121, 122, 117, 118]) (H9.out.alloc (.cells #[.int .i64 1, .int .i64 2] 3)) b5 hT (c4 hcr) (by decide : sB.length ≤ maxLen))
  have HB := Lib.hid (B13.out.alloc B13.out.size (.cells #[.int .i64 1, .int .i64 2] 3))
  clear hT hcr b5 H9 B13
  go_wp2_with fail
  refine HRD.out.mono ?_
  rintro e w15 ⟨rfl, h1, b2⟩
  have H10 := Lib.hid h1
  have B15 := Lib.hid (HB.out.trans (b2.mono HB.out.size))
  clear h1 b2 HRD HB
  go_wp2_with fail
  refine (lay_disk H10.out 0 9 (by omega)).mono ?_
  rintro e w16 hs
  obtain ⟨rfl, h1, b2⟩ := step_eq (k7 _) hs
  have H11 := Lib.hid h1
  have B16 := Lib.hid (B15.out.trans b2)
  clear hs h1 b2 H10 B15
  go_wp2_with (go_at_call 10; refine (hnum 0 _).mono ?_; rintro e w16 ⟨rfl, rfl⟩)
  refine (append_lit H11.out (by omega) sB (by decide) [119, 119, 119, 119] #[.int .u8 119, .int .u8 119, .int .u8 119, .int .u8 119] (by rfl) 4 rfl (by decide) _).mono ?_
  rintro e w17 hs
  obtain ⟨rfl, h1, b2⟩ := step_eq (k8 _) hs
  have H12 := Lib.hid h1
  have B17 := Lib.hid ((B16.out.alloc B16.out.size _).trans b2)
  clear hs h1 b2 H11 B16
  go_wp2_with (go_at_call 10; refine (hnum 9 _).mono ?_; rintro e w17 ⟨rfl, rfl⟩)
  refine (read_here (l := [120, 121, 122, 117, 118, 119, 119]) H12.out (read_k sB may_b _ _ _ _ _ _ _ _ _ _) (by decide)).mono ?_
  rintro e w18 ⟨rfl, h1, b2⟩
  have H13 := Lib.hid h1
  have B18 := Lib.hid (B17.out.trans (b2.mono B17.out.size))
  clear h1 b2 H12 B17
  go_wp2_with fail
  refine (fuse_disk H13.out 0 (by omega)).mono ?_
  rintro e w19 ⟨rfl, h1, b2⟩
  rw [k9] at h1
  have H14 := Lib.hid h1
  have B19 := Lib.hid (B18.out.trans b2)
  clear h1 b2 H13 B18
  go_wp2_with fail
  refine (remove_any H14.out (by omega) sB (by decide)).mono ?_
  rintro e w20 hs
  obtain ⟨rfl, h1, b2⟩ := step_eq (k10 _ _) hs
  have H15 := Lib.hid h1
  have B20 := Lib.hid (B19.out.trans b2)
  clear hs h1 b2 H14 B19
  go_wp2_with (go_at_call 10; refine (hnum 8 _).mono ?_; rintro e w20 ⟨rfl, rfl⟩)
  refine (read_here (l := [120, 121, 122, 117, 118, 119, 119]) H15.out (read_k sB may_b _ _ _ _ _ _ _ _ _ _) (by decide)).mono ?_
  rintro e w21 ⟨rfl, h1, b2⟩
  have H16 := Lib.hid h1
  have B21 := Lib.hid (B20.out.trans (b2.mono B20.out.size))
  clear h1 b2 H15 B20
  go_wp2_with fail
  go_ret
  exact ⟨rfl, B21.out⟩
end Go.Proofs.Ytcemfpbkaahcmaa
