/- The chapter's own rows are answered as it says: 'known' answers true, and changes nothing that was there. -/
import Derived.Test.YthbnnhnnldakeaaJoin
import Derived.Laws.IdiomStrings
import Derived.Lib.SlBytesConst
import Derived.Laws.BytesArg
namespace Go.Proofs.Ythbnnhnnldakeaa
open Go.ChangeShapes Go.WideShapes Go.ChangeAt Go.RowKit
set_option linter.unusedVariables false

/-- A string of these bytes. -/
def strOf (l : List UInt8) : Value := .string ⟨l.toArray⟩
theorem run_str {w : World} {lo hi : Nat} {A : Option Addr} {l : List UInt8} (h : Rd w lo hi A l) (n c : Nat) (e : n = l.length) :
    (convert 23 9 (.slice A n c)).run Try.prog w = .ok (strOf l) w := by
  subst e
  rcases A with _ | ad
  · have hl : l = [] := by
      rcases l with _ | ⟨x, l⟩
      · rfl
      · obtain ⟨b, off, e, _⟩ := h (by simp)
        cases e
    subst hl
    exact run_convert_bytes_nil w 23 5 Try.underlying23 Try.underlying5 _ c 9 Try.underlying9
  · refine run_convert_bytes_back w 23 9 5 ad c l Try.underlying23 Try.underlying5 Try.underlying9 (fun j hj => ?_)
    obtain ⟨b, off, e, _, _, hcell⟩ := h (by omega)
    injection e with e
    subst e
    have hadd : (⟨b, off, none⟩ : Addr).add j = ⟨b, off + j, none⟩ := by
      unfold Addr.add
      split
      · next h0 => subst h0; rfl
      · rfl
    rw [hadd]
    exact hcell j _ (List.getElem?_eq_getElem hj)

theorem Rd.lit (w : World) (l : List UInt8) (fr : Nat × Nat) : Rd (w.alloc (.cells (l.map bv).toArray 5 fr)) 0 (w.heap.size + 1) (some ⟨w.heap.size, 0, none⟩) l := fun hn => by
  refine ⟨w.heap.size, 0, rfl, Nat.zero_le _, by omega, fun j x hx => ?_⟩
  rw [Nat.zero_add, cell_of_row _ w.heap.size j _ _ fr (heap_alloc_new w _)]
  simp [hx]

set_option maxHeartbeats 1000000 in
theorem known_any (w : World) : Calls Try.prog 12 #[] w fun e w' => e = .returned (.bool true) ∧ Below w.heap.size w w' := by
  have kc := fun (w : World) (C : Array Value) (n c : Nat) => Lib.run_convert_bytes_const (P := Try.prog) w 23 5 C n c Try.underlying23 Try.underlying5
  go_enter Try.func12, Try.ntmps12
  go_wp2_with fail
  refine (put_ok 258 2 _ (by omega) (by omega) (by omega) (by omega)).mono ?_
  rintro e w1 ⟨rfl, ho1, hb1⟩
  go_wp2_with fail
  refine (put_room 256 1 _ (by omega) (by omega) (by omega) (by omega)).mono ?_
  rintro e w1' ⟨rfl, rfl⟩
  go_wp2_with fail
  have r1 : Rd (w1.alloc (.cells #[.int .u8 97, .int .u8 98] 5 (2, 3))) 0 (w1.alloc (.cells #[.int .u8 97, .int .u8 98] 5 (2, 3))).heap.size (some ⟨w1.heap.size, 0, none⟩) [97, 98] :=
    (Rd.lit w1 [97, 98] (2, 3)).wide (Nat.le_refl _) (by simp)
  have b1 : Below w.heap.size w (w1.alloc (.cells #[.int .u8 97, .int .u8 98] 5 (2, 3))) := hb1.alloc hb1.size _
  have o1 := ho1.below ((Below.refl w1.heap.size w1).alloc (Nat.le_refl _) (.cells #[.int .u8 97, .int .u8 98] 5 (2, 3))) (Nat.le_refl _)
  refine (blob_ok _ 2 [97, 98] _ r1 (by simp)).mono ?_
  clear r1 ho1
  rintro e w2 ⟨A2, c2, rfl, hc2, ho2, hb2⟩
  replace o1 := o1.below hb2 (Nat.le_refl _)
  replace b1 := b1.trans (hb2.mono (by simp; have := hb1.size; omega))
  clear hb2
  go_wp2_with fail
  have r2 : Rd (w2.alloc (.cells #[.int .u8 0, .int .u8 1, .int .u8 7, .int .u8 9] 5 (0, 0))) 0 (w2.alloc (.cells #[.int .u8 0, .int .u8 1, .int .u8 7, .int .u8 9] 5 (0, 0))).heap.size (some ⟨w2.heap.size, 0, none⟩) [0, 1, 7, 9] :=
    (Rd.lit w2 [0, 1, 7, 9] (0, 0)).wide (Nat.le_refl _) (by simp)
  have b2 : Below w.heap.size w (w2.alloc (.cells #[.int .u8 0, .int .u8 1, .int .u8 7, .int .u8 9] 5 (0, 0))) := b1.alloc b1.size _
  have bn := (Below.refl w2.heap.size w2).alloc (Nat.le_refl _) (.cells #[.int .u8 0, .int .u8 1, .int .u8 7, .int .u8 9] 5 (0, 0))
  have o2 := o1.below bn (Nat.le_refl _)
  have o3 := ho2.below bn (Nat.le_refl _)
  refine (read_any _ 4 [0, 1, 7, 9] _ r2 (by simp)).mono ?_
  clear r2 o1 ho2 bn b1
  rintro e w3 ⟨p, rfl, hp, hR, hb3⟩
  have s1 : (convert 23 9 (.slice (some ⟨w.heap.size, 0, none⟩) 2 2)).run Try.prog w3 = .ok (.string ⟨#[1, 2]⟩) w3 :=
    (run_str (o2.below hb3 (Nat.le_refl _)).rd 2 2 rfl).trans (by rw [show putL 258 2 = [1, 2] by decide]; rfl)
  have s2 : (convert 23 9 (.slice A2 (blobL [97, 98]).length c2)).run Try.prog w3 = .ok (.string ⟨#[0, 2, 97, 98]⟩) w3 :=
    (run_str (o3.below hb3 (Nat.le_refl _)).rd _ c2 rfl).trans (by rw [show blobL [97, 98] = [0, 2, 97, 98] by decide]; rfl)
  have hp' := Nat.le_trans b2.size hp
  replace b2 := b2.trans (hb3.mono b2.size)
  clear o2 o3 hb3 hp
  generalize (w2.alloc (.cells #[.int .u8 0, .int .u8 1, .int .u8 7, .int .u8 9] 5 (0, 0))).heap.size = lo at hR
  have q1 : blobS (some [0, 1, 7, 9]) = ([7], some [9]) := by decide
  have hB := blob_at lo p _ w3 hR
  rw [q1] at hB
  have HB := Lib.hid hB
  clear hB q1
  go_wp2_with (go_at_call 10; refine (code_any _ _).mono ?_; rintro e w' ⟨rfl, rfl⟩)
  refine HB.out.mono ?_
  rintro e w4 ⟨A4, rfl, ho4, hR4, hg4⟩
  have b4 := b2.grown hg4 b2.size (fun k hk => by injection hk with hk; omega)
  have s3 : (convert 23 9 (.slice A4 1 1)).run Try.prog w4 = .ok (.string ⟨#[7]⟩) w4 := run_str ho4.rd 1 1 rfl
  clear ho4 hg4 b2 HB hR
  have q2 : numS (some [9]) 2 = (0, none) := by decide
  have hN := number_at lo p _ 2 w4 hR4
  unfold NumP at hN
  rw [q2] at hN
  have HN := Lib.hid hN
  clear hN q2
  have hL := left_at lo p _ w4 hR4
  rw [show leftS (some [9]) = 1 by rfl] at hL
  have HL := Lib.hid hL
  clear hL
  simp only [List.length_cons, List.length_nil, Nat.zero_add]
  go_wp2_with (first | (go_at_call 28; refine HL.out.mono ?_; rintro e w' ⟨rfl, rfl⟩) | (go_at_call 21; refine HN.out.mono ?_; rintro e w5 ⟨rfl, hR5, hg5⟩; clear HL))
  have b5 := b4.grown hg5 b4.size (fun k hk => by injection hk with hk; omega)
  have hF := failed_at lo p none w5 hR5
  have hL := left_at lo p none w5 hR5
  have hE := end_at lo p none w5 hR5
  have HF := Lib.hid hF
  have HL := Lib.hid hL
  have HE := Lib.hid hE
  clear hF hL hE hg5 b4 hR4 HN s1 s2 s3
  go_wp2_with (first | (go_at_call 27; refine HF.out.mono ?_; rintro e w' ⟨rfl, rfl⟩) | (go_at_call 28; refine HL.out.mono ?_; rintro e w' ⟨rfl, rfl⟩) | (go_at_call 30; refine HE.out.mono ?_; rintro e w' ⟨rfl, rfl⟩) | (go_at_call 10; refine (code_any _ _).mono ?_; rintro e w' ⟨rfl, rfl⟩))
  go_ret
  exact ⟨rfl, b5⟩
end Go.Proofs.Ythbnnhnnldakeaa
