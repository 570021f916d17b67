/- The walk of NamesWords. -/
import Derived.Test.YtlfmdnnookkdhaaDoorRefWords
namespace Go.Proofs.YtlfmdnnookkdhaaDoor
open Go.ChangeShapes Go.WideShapes Go.ChangeAt Go.RowKit
set_option linter.unusedVariables false

def foxL : List UInt8 := [84, 104, 101, 32, 113, 117, 105, 99, 107, 32, 98, 114, 111, 119, 110, 32, 102, 111, 120, 32, 106, 117, 109, 112, 115, 32, 111, 118, 101, 114, 32, 116, 104, 101, 32, 108, 97, 122, 121, 32, 100, 111, 103]
theorem foxN : num ((shaL foxL).take 4) = 3618175923 := by decide +kernel

set_option maxRecDepth 100000 in
set_option maxHeartbeats 2000000 in
theorem namesWords_any (w : World) (ht : Tabs w) :
    Calls Tryd.prog 7 #[] w fun e w' => e = .returned (.bool true) ∧ Below w.heap.size w w' := by
  have HT : Hid (∀ u : World, Below w.heap.size w u → Tabs u) := fun u hu => ht.below hu ht.2.2.1 ht.2.2.2
  clear ht
  have kc := fun (w : World) (C : Array Value) (n c : Nat) => Lib.run_convert_bytes_const (P := Tryd.prog) w 25 5 C n c Tryd.underlying25 Tryd.underlying5
  go_enter Tryd.func7, Tryd.ntmps7
  go_wp2_with fail
  go_loopw [1] (fun v wr => ∃ k : Nat, k ≤ 72 ∧ v = .int .i64 ((k : Int) - 2) ∧ Below w.heap.size w wr) (fun v _ => (70 - intOf v).toNat)
  case atStart => exact ⟨0, by omega, rfl, Below.refl _ _⟩
  case round =>
    obtain ⟨k, hk, rfl, hb⟩ := hrel
    by_cases hlt : k < 72
    · obtain ⟨i, hi⟩ : ∃ i : Int, i = (k : Int) - 2 := ⟨_, rfl⟩
      rw [← hi]
      have h1 : -2 ≤ i := by omega
      have h2 : i < 70 := by omega
      have HI := Lib.hid hi
      clear hi
      go_wp2_with fail
      refine (start_any i wr (HT.out wr hb)).mono ?_
      unfold rv
      rintro e w1 ⟨rfl, rfl⟩
      go_wp2_with fail
      refine (refStart_any i wr).mono ?_
      unfold rv
      rintro e w1 ⟨rfl, b1⟩
      have b2 := hb.trans (b1.mono hb.size)
      go_wp2_with fail
      refine (constant_any i w1 (HT.out _ b2)).mono ?_
      unfold rv
      rintro e w2 ⟨rfl, rfl⟩
      go_wp2_with fail
      refine (refConst_any i w1).mono ?_
      unfold rv
      rintro e w2 ⟨rfl, b3⟩
      have b4 := b2.trans (b3.mono b2.size)
      clear b1 b2 b3 hb
      go_wp2_with fail
      exact ⟨⟨k + 1, by omega, by rw [HI.out]; go_num, b4⟩, by simp [intOf]; omega⟩
    · obtain rfl : k = 72 := by omega
      rw [show ((72 : Nat) : Int) - 2 = 70 by rfl]
      have HF := Lib.hid foxN
      have hl : (shaL foxL).length = 32 := shaL_length _
      have HS : Hid (Calls Tryd.prog 12 #[.slice (some ⟨wr.heap.size + 1, 0, none⟩) 1 1] ((wr.alloc (.cells (foxL.map bv).toArray 5 (43, 44))).alloc (.cells #[.slice (some ⟨wr.heap.size, 0, none⟩) 43 43] 25)) fun e w' => e = .returned (.agg (hashV (shaL foxL))) ∧ Below wr.heap.size wr w') := sumLit wr foxL _ 43 _ rfl rfl (by decide) (HT.out wr hb)
      have HQ := Lib.hid (fun u => first_any (shaL foxL) u hl)
      rw [HF.out] at HQ
      clear hl
      generalize shaL foxL = S at *
      go_wp2_with fail
      refine HS.out.mono ?_
      rintro e w1 ⟨rfl, b1⟩
      have b2 := hb.trans (b1.mono hb.size)
      go_wp2_with fail
      refine (HQ.out w1).mono ?_
      rintro e w2 ⟨rfl, b3⟩
      have b4 := b2.trans (b3.mono b2.size)
      go_wp2_with fail
      refine (known_any w2 (HT.out w2 b4)).mono ?_
      rintro e w3 ⟨rfl, b5⟩
      go_wp2_with fail
      go_ret
      exact ⟨rfl, b4.trans (b5.mono b4.size)⟩
end Go.Proofs.YtlfmdnnookkdhaaDoor
