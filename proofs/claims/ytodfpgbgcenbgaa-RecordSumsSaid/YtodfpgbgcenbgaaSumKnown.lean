/- The chapter's own rows are answered as it says: 'known' answers true, and changes nothing that was there. -/
import Derived.Test.YtodfpgbgcenbgaaSums
import Derived.Lib.SlBytesConst
import Derived.Laws.BytesArg
import Derived.Laws.IdiomStrings
namespace Go.Proofs.Ytodfpgbgcenbgaa
open Go.ChangeShapes Go.WideShapes Go.ChangeAt Go.RowKit
set_option linter.unusedVariables false

theorem Rd.lit (w : World) (l : List UInt8) (fr : Nat × Nat) : Rd (w.alloc (.cells (l.map bv).toArray 5 fr)) 0 (w.heap.size + 1) (some ⟨w.heap.size, 0, none⟩) l := fun hn => by
  refine ⟨w.heap.size, 0, rfl, Nat.zero_le _, by omega, fun j x hx => ?_⟩
  rw [Nat.zero_add, cell_of_row _ w.heap.size j _ _ fr (heap_alloc_new w _)]
  simp [hx]

/-- Sum of one list, of two, as a call lays them; of none. -/
theorem sum1 (A1 : Option Addr) (c1 n1 : Nat) (l1 : List UInt8) (w : World) (e1 : n1 = l1.length) (r1 : Rd w 0 w.heap.size A1 l1) (hl : l1.length ≤ 9223372036854775807) :
    Calls Try.prog 9 #[.slice (some ⟨w.heap.size, 0, none⟩) 1 1] (w.alloc (.cells #[.slice A1 n1 c1] 24)) fun e w' => e = .returned (rv (moreS 0 l1)) ∧ Below w.heap.size w w' := by
  subst e1
  have hb : Below w.heap.size w (w.alloc (.cells #[.slice A1 l1.length c1] 24)) := (Below.refl _ _).alloc (Nat.le_refl _) _
  have hf : flat [(A1, c1, l1)] = l1 := by simp [flat]
  refine (sum_any _ 1 [(A1, c1, l1)] _ (RdL.one A1 c1 l1 w 24 r1) (by simp) (by simpa using hl)).mono ?_
  rw [hf]
  rintro e w' ⟨he, hbw⟩
  exact ⟨he, hb.trans (hbw.mono hb.size)⟩
theorem sum2 (A1 A2 : Option Addr) (c1 c2 n1 n2 : Nat) (l1 l2 : List UInt8) (w : World) (e1 : n1 = l1.length) (e2 : n2 = l2.length) (r1 : Rd w 0 w.heap.size A1 l1) (r2 : Rd w 0 w.heap.size A2 l2) (hl1 : l1.length ≤ 9223372036854775807) (hl2 : l2.length ≤ 9223372036854775807) :
    Calls Try.prog 9 #[.slice (some ⟨w.heap.size, 0, none⟩) 2 2] (w.alloc (.cells #[.slice A1 n1 c1, .slice A2 n2 c2] 24)) fun e w' => e = .returned (rv (moreS 0 (l1 ++ l2))) ∧ Below w.heap.size w w' := by
  subst e1 e2
  have hb : Below w.heap.size w (w.alloc (.cells #[.slice A1 l1.length c1, .slice A2 l2.length c2] 24)) := (Below.refl _ _).alloc (Nat.le_refl _) _
  have hf : flat [(A1, c1, l1), (A2, c2, l2)] = l1 ++ l2 := by simp [flat]
  refine (sum_any _ 2 [(A1, c1, l1), (A2, c2, l2)] _ (RdL.two A1 A2 c1 c2 l1 l2 w 24 r1 r2) (by simp) (by simp; exact ⟨hl1, hl2⟩)).mono ?_
  rw [hf]
  rintro e w' ⟨he, hbw⟩
  exact ⟨he, hb.trans (hbw.mono hb.size)⟩
theorem sum0 (w : World) :
    Calls Try.prog 9 #[.slice none 0 0] w fun e w' => e = .returned (.int .u32 0) ∧ Below w.heap.size w w' := by
  refine (sum_any none 0 [] w (RdL.nothing _ _ _) (by simp) (by simp)).mono ?_
  rintro e w' ⟨he, hbw⟩
  exact ⟨he, hbw⟩

theorem k9 : moreS 0 [49, 50, 51, 52, 53, 54, 55, 56, 57] = 3808858755 := by decide +kernel
theorem k1 : moreS 0 [97] = 3251651376 := by decide +kernel
theorem k54 : moreS (moreS 0 [49, 50, 51, 52, 53]) [54, 55, 56, 57] = 3808858755 := by rw [← moreS_append]; exact k9
theorem k95 : lessS 3808858755 [54, 55, 56, 57] = moreS 0 [49, 50, 51, 52, 53] := by rw [← k54]; exact less_more _ (moreS_lt _ _)

/-- The same of a constant's bytes. -/
theorem sumLit (w : World) (l : List UInt8) (C : Array Value) (n : Nat) (fr : Nat × Nat) (v : Int) (hC : C = (l.map bv).toArray) (hn : n = l.length) (hl : l.length ≤ 9223372036854775807) (hv : ((moreS 0 l : Nat) : Int) = v) :
    Calls Try.prog 9 #[.slice (some ⟨w.heap.size + 1, 0, none⟩) 1 1] ((w.alloc (.cells C 5 fr)).alloc (.cells #[.slice (some ⟨w.heap.size, 0, none⟩) n n] 24)) fun e w' => e = .returned (.int .u32 v) ∧ Below w.heap.size w w' := by
  subst hC hv
  have hb : Below w.heap.size w (w.alloc (.cells (l.map bv).toArray 5 fr)) := (Below.refl _ _).alloc (Nat.le_refl _) _
  have hsz : (w.alloc (.cells (l.map bv).toArray 5 fr)).heap.size = w.heap.size + 1 := by simp
  have h := sum1 (some ⟨w.heap.size, 0, none⟩) n n l (w.alloc (.cells (l.map bv).toArray 5 fr)) hn (by rw [hsz]; exact Rd.lit w l fr) hl
  rw [hsz] at h
  refine h.mono ?_
  rintro e w' ⟨he, hbw⟩
  exact ⟨he, hb.trans (hbw.mono (by omega))⟩
theorem moreLit (s : Nat) (w : World) (l : List UInt8) (C : Array Value) (n : Nat) (fr : Nat × Nat) (v : Int) (hs : s < 4294967296) (hC : C = (l.map bv).toArray) (hn : n = l.length) (hl : l.length ≤ 9223372036854775807) (hv : ((moreS s l : Nat) : Int) = v) :
    Calls Try.prog 11 #[.int .u32 (s : Int), .slice (some ⟨w.heap.size, 0, none⟩) n n] (w.alloc (.cells C 5 fr)) fun e w' => e = .returned (.int .u32 v) ∧ Below w.heap.size w w' := by
  subst hC hv hn
  have hb : Below w.heap.size w (w.alloc (.cells (l.map bv).toArray 5 fr)) := (Below.refl _ _).alloc (Nat.le_refl _) _
  have hsz : (w.alloc (.cells (l.map bv).toArray 5 fr)).heap.size = w.heap.size + 1 := by simp
  refine (more_any s (some ⟨w.heap.size, 0, none⟩) l.length l _ hs (by rw [hsz]; exact Rd.lit w l fr) hl).mono ?_
  rintro e w' ⟨he, hbw⟩
  exact ⟨he, hb.trans (hbw.mono (by omega))⟩
theorem lessLit (s : Nat) (w : World) (l : List UInt8) (C : Array Value) (n : Nat) (fr : Nat × Nat) (v : Int) (hs : s < 4294967296) (hC : C = (l.map bv).toArray) (hn : n = l.length) (hl : l.length ≤ 9223372036854775807) (hv : ((lessS s l : Nat) : Int) = v) :
    Calls Try.prog 12 #[.int .u32 (s : Int), .slice (some ⟨w.heap.size, 0, none⟩) n n] (w.alloc (.cells C 5 fr)) fun e w' => e = .returned (.int .u32 v) ∧ Below w.heap.size w w' := by
  subst hC hv hn
  have hb : Below w.heap.size w (w.alloc (.cells (l.map bv).toArray 5 fr)) := (Below.refl _ _).alloc (Nat.le_refl _) _
  have hsz : (w.alloc (.cells (l.map bv).toArray 5 fr)).heap.size = w.heap.size + 1 := by simp
  refine (less_any s (some ⟨w.heap.size, 0, none⟩) l.length l _ hs (by rw [hsz]; exact Rd.lit w l fr) hl).mono ?_
  rintro e w' ⟨he, hbw⟩
  exact ⟨he, hb.trans (hbw.mono (by omega))⟩

set_option maxRecDepth 100000 in
set_option maxHeartbeats 2000000 in
theorem known_any (w : World) : Calls Try.prog 8 #[] w fun e w' => e = .returned (.bool true) ∧ Below w.heap.size w w' := by
  have kc := fun (w : World) (C : Array Value) (n c : Nat) => Lib.run_convert_bytes_const (P := Try.prog) w 24 5 C n c Try.underlying24 Try.underlying5
  obtain ⟨s5, h5⟩ : ∃ s5 : Nat, s5 = moreS 0 [49, 50, 51, 52, 53] := ⟨_, rfl⟩
  have l5 : s5 < 4294967296 := by rw [h5]; exact moreS_lt _ _
  have H5 := Lib.hid h5
  have H54 := Lib.hid (show moreS s5 [54, 55, 56, 57] = 3808858755 by rw [h5]; exact k54)
  have H95 := Lib.hid (show lessS 3808858755 [54, 55, 56, 57] = s5 by rw [h5]; exact k95)
  clear h5
  go_enter Try.func8, Try.ntmps8
  go_wp2_with fail
  refine (sumLit w [49, 50, 51, 52, 53, 54, 55, 56, 57] _ _ _ 3808858755 rfl rfl (by simp) (by rw [k9]; rfl)).mono ?_
  rintro e w1 ⟨rfl, b1⟩
  go_wp2_with fail
  refine (sum0 w1).mono ?_
  rintro e w2 ⟨rfl, b2⟩
  replace b2 := b1.trans (b2.mono b1.size)
  clear b1
  go_wp2_with fail
  refine (sumLit w2 [97] _ _ _ 3251651376 rfl rfl (by simp) (by rw [k1]; rfl)).mono ?_
  rintro e w3 ⟨rfl, b3⟩
  replace b3 := b2.trans (b3.mono b2.size)
  clear b2
  go_wp2_with fail
  refine (sumLit w3 [49, 50, 51, 52, 53] _ _ _ (s5 : Int) rfl rfl (by simp) (by rw [H5.out])).mono ?_
  rintro e w4 ⟨rfl, b4⟩
  replace b4 := b3.trans (b4.mono b3.size)
  clear b3
  go_wp2_with fail
  refine (moreLit s5 w4 [54, 55, 56, 57] _ _ _ 3808858755 l5 rfl rfl (by simp) (by rw [H54.out]; rfl)).mono ?_
  rintro e w5 ⟨rfl, b5⟩
  replace b5 := b4.trans (b5.mono b4.size)
  clear b4
  go_wp2_with fail
  refine (lessLit 3808858755 w5 [54, 55, 56, 57] _ _ _ (s5 : Int) (by omega) rfl rfl (by simp) (by rw [H95.out])).mono ?_
  rintro e w6 ⟨rfl, b6⟩
  replace b6 := b5.trans (b6.mono b5.size)
  clear b5
  go_wp2_with fail
  refine (sumLit w6 [49, 50, 51, 52, 53] _ _ _ (s5 : Int) rfl rfl (by simp) (by rw [H5.out])).mono ?_
  rintro e w7 ⟨rfl, b7⟩
  replace b7 := b6.trans (b7.mono b6.size)
  clear b6
  go_wp2_with fail
  go_ret
  exact ⟨rfl, b7⟩
end Go.Proofs.Ytodfpgbgcenbgaa
