/- Contract: what a disk that is not there answers. -/
import Derived.Test.YtcemfpbkaahcmaaOnceNone
import Derived.Test.YtcemfpbkaahcmaaNilP
namespace Go.Proofs.Ytcemfpbkaahcmaa
open Go.RowKit Go.Shelf
set_option linter.unusedVariables false

set_option maxRecDepth 100000 in
set_option maxHeartbeats 4000000 in
theorem nothing_any {w : World} {q : Option Addr} (hN : NoneAt w (.pointer q)) : Calls Try.prog 24 #[.pointer q] w (TruP w) := by
  have hnum := fun e u => num_any e u
  have HB := Lib.hid (Below.refl w.heap.size w)
  go_enter Try.func24, Try.ntmps24
  go_wp2_with (first
    | (go_at_call 10; refine (hnum _ _).mono ?_; rintro e w' ⟨rfl, rfl⟩)
    | (go_at_call 29; refine (fuse_none hN 1).mono ?_; rintro e w' ⟨rfl, rfl⟩)
    | (go_at_call 45; refine (read_none hN [97]).mono ?_; rintro e w' ⟨rfl, rfl⟩)
    | (go_at_call 28; refine (lasts_none hN [97]).mono ?_; rintro e w' ⟨rfl, rfl⟩)
    | (go_at_call 21; refine (make_none hN [97]).mono ?_; rintro e w' ⟨rfl, rfl⟩)
    | (go_at_call 23; refine (append_none hN [97] none 0 0).mono ?_; rintro e w2 ⟨rfl, hb⟩; have hN := hN.later hb; have HB := Lib.hid (HB.out.trans (hb.mono HB.out.size)); clear hb)
    | (go_at_call 16; refine (sync_none hN [97]).mono ?_; rintro e w2 ⟨rfl, hb⟩; have hN := hN.later hb; have HB := Lib.hid (HB.out.trans (hb.mono HB.out.size)); clear hb)
    | (go_at_call 32; refine (cut_none hN [97] (-1)).mono ?_; rintro e w2 ⟨rfl, hb⟩; have hN := hN.later hb; have HB := Lib.hid (HB.out.trans (hb.mono HB.out.size)); clear hb)
    | (go_at_call 22; refine (rename_none hN [97] [] (by decide)).mono ?_; rintro e w' ⟨rfl, rfl⟩)
    | (go_at_call 30; refine (remove_none hN []).mono ?_; rintro e w' ⟨rfl, rfl⟩)
    | (go_at_call 17; refine (syncDir_none hN).mono ?_; rintro e w2 ⟨rfl, hb⟩; have hN := hN.later hb; have HB := Lib.hid (HB.out.trans (hb.mono HB.out.size)); clear hb)
    | (go_at_call 19; refine (lay_none hN 0 5).mono ?_; rintro e w' ⟨rfl, rfl⟩)
    | (go_at_call 26; refine (pending_none hN).mono ?_; rintro e w' ⟨rfl, rfl⟩)
    | (go_at_call 20; refine (room_none hN).mono ?_; rintro e w' ⟨rfl, rfl⟩)
    | (go_at_call 13; refine (dead_none hN).mono ?_; rintro e w' ⟨rfl, rfl⟩)
    | (go_at_call 14; refine (changes_none hN).mono ?_; rintro e w' ⟨rfl, rfl⟩)
    | (go_at_call 50; refine (copy_none hN).mono ?_; rintro e w2 ⟨rfl, hb⟩; have hN := hN.later hb; have HB := Lib.hid (HB.out.trans (hb.mono HB.out.size)); clear hb))
  have hal : Below w2.heap.size w2 (w2.alloc (.cells #[.slice none 0 0, .slice none 0 0, .slice none 0 0, .slice none 0 0, .int .i64 0, .int .i64 0, .int .i64 0, .int .i64 0, .bool false, .int .i64 0] 89)) := (Below.refl _ _).alloc (Nat.le_refl _) _
  refine (once_none (hN.later hal) w2.heap.size (by simp) (by rw [cell_of_row _ _ _ _ _ (0, 0) (heap_alloc_new w2 _)]; rfl)).mono ?_
  rintro e w4 ⟨rfl, hb4⟩
  have hN4 := (hN.later hal).later hb4
  have HB4 := Lib.hid (HB.out.trans ((hal.trans (hb4.mono hal.size)).mono HB.out.size))
  clear hb4 hal
  go_wp2_with fail
  have hal : Below w4.heap.size w4 (w4.alloc (.cells #[.int .i64 1] 3)) := (Below.refl _ _).alloc (Nat.le_refl _) _
  refine (crashes_none (hN4.later hal) (some ⟨w4.heap.size, 0, none⟩) 1 1).mono ?_
  rintro e w5 ⟨rfl, hb5⟩
  have hN := (hN4.later hal).later hb5
  have HB := Lib.hid (HB4.out.trans ((hal.trans (hb5.mono hal.size)).mono HB4.out.size))
  clear hb5 hal
  go_wp2_with (go_at_call 50; refine (copy_none hN).mono ?_; rintro e w2 ⟨rfl, hb⟩; have HB := Lib.hid (HB.out.trans (hb.mono HB.out.size)); clear hb)
  go_ret
  exact ⟨rfl, HB.out⟩
end Go.Proofs.Ytcemfpbkaahcmaa
