/- The chapter's rows are answered as it says: 'known' answers true, and changes nothing that was there. -/
import Derived.Test.YtlfmdnnookkdhaaDoorSha
import Derived.Test.YtlfmdnnookkdhaaDoorRefGet
import Derived.Test.YtlfmdnnookkdhaaDoorShaRows
import Derived.Lib.SlBytesConst
import Derived.Laws.BytesArg
namespace Go.Proofs.YtlfmdnnookkdhaaDoor
open Go.ChangeShapes Go.WideShapes Go.ChangeAt Go.RowKit
set_option linter.unusedVariables false

theorem hash_rd (w : World) (l : List UInt8) (hl : l.length = 32) (k : Nat) (t : TypeId) (fr : Nat × Nat) : Rd (w.alloc (.cells (hashV l) t fr)) 0 (w.alloc (.cells (hashV l) t fr)).heap.size (some ⟨w.heap.size, 0, none⟩) (l.take k) := fun hn => by
  refine ⟨w.heap.size, 0, rfl, Nat.zero_le _, by simp, fun j x hx => ?_⟩
  rw [List.getElem?_take] at hx
  split at hx
  · have hj : j < 32 := by
      rcases Nat.lt_or_ge j 32 with h | h
      · exact h
      · rw [List.getElem?_eq_none (by omega)] at hx; cases hx
    rw [Nat.zero_add, cell_of_row _ w.heap.size j _ _ fr (heap_alloc_new w _)]
    unfold hashV
    rw [rowV_at 32 _ j hj]
    unfold hF
    rw [List.getD_eq_getElem?_getD, hx]
    rfl
  · cases hx

set_option maxRecDepth 100000 in
set_option maxHeartbeats 400000 in
theorem first_any (l : List UInt8) (w : World) (hl : l.length = 32) :
    Calls Tryd.prog 22 #[.agg (hashV l)] w fun e w' => e = .returned (.int .u64 (num (l.take 4))) ∧ Below w.heap.size w w' := by
  have hr := hash_rd w l hl 4 28 (0, 0)
  have HG := Lib.hid (refGet_any (some ⟨w.heap.size, 0, none⟩) 32 _ _ (l.take 4) _ hr (by rw [List.length_take]; omega))
  rw [List.length_take, hl, show min 4 32 = 4 by rfl] at HG
  go_enter Tryd.func22, Tryd.ntmps22
  go_wp2_with fail
  refine HG.out.mono ?_
  rintro e w1 ⟨rfl, nq, rfl⟩
  go_wp2_with fail
  go_ret
  exact ⟨rfl, below_drewN ((Below.refl _ _).alloc (Nat.le_refl _) _) nq⟩

theorem Rd.lit (w : World) (l : List UInt8) (fr : Nat × Nat) : Rd (w.alloc (.cells (l.map bv).toArray 5 fr)) 0 (w.heap.size + 1) (some ⟨w.heap.size, 0, none⟩) l := fun hn => by
  refine ⟨w.heap.size, 0, rfl, Nat.zero_le _, by omega, fun j x hx => ?_⟩
  rw [Nat.zero_add, cell_of_row _ w.heap.size j _ _ fr (heap_alloc_new w _)]
  simp [hx]

/-- Sum of one list as a call lays it; of none; of a constant's bytes. -/
theorem sum1 (A1 : Option Addr) (c1 n1 : Nat) (l1 : List UInt8) (w : World) (e1 : n1 = l1.length) (r1 : Rd w 0 w.heap.size A1 l1) (hc : l1.length ≤ c1) (hl : l1.length < 1000000000) (ht : Tabs w) :
    Calls Tryd.prog 12 #[.slice (some ⟨w.heap.size, 0, none⟩) 1 1] (w.alloc (.cells #[.slice A1 n1 c1] 25)) fun e w' => e = .returned (.agg (hashV (shaL l1))) ∧ Below w.heap.size w w' := by
  subst e1
  have hb : Below w.heap.size w (w.alloc (.cells #[.slice A1 l1.length c1] 25)) := (Below.refl _ _).alloc (Nat.le_refl _) _
  have hf : flat [(A1, c1, l1)] = l1 := by simp [flat]
  refine (sum_any _ 1 [(A1, c1, l1)] _ (RdL.one A1 c1 l1 w 25 r1) (by simp) (by simpa using hc) (by rw [hf]; exact hl) (ht.below hb ht.2.2.1 ht.2.2.2)).mono ?_
  rw [hf]
  rintro e w' ⟨he, hbw⟩
  exact ⟨he, hb.trans (hbw.mono hb.size)⟩
theorem sum0 (w : World) (ht : Tabs w) :
    Calls Tryd.prog 12 #[.slice none 0 0] w fun e w' => e = .returned (.agg (hashV (shaL []))) ∧ Below w.heap.size w w' := by
  refine (sum_any none 0 [] w (RdL.nothing _ _ _) (by simp) (fun x hx => by cases hx) (by simp [flat]) ht).mono ?_
  rintro e w' ⟨he, hbw⟩
  exact ⟨he, hbw⟩
theorem sumLit (w : World) (l : List UInt8) (C : Array Value) (n : Nat) (fr : Nat × Nat) (hC : C = (l.map bv).toArray) (hn : n = l.length) (hl : l.length < 1000000000) (ht : Tabs w) :
    Calls Tryd.prog 12 #[.slice (some ⟨w.heap.size + 1, 0, none⟩) 1 1] ((w.alloc (.cells C 5 fr)).alloc (.cells #[.slice (some ⟨w.heap.size, 0, none⟩) n n] 25)) fun e w' => e = .returned (.agg (hashV (shaL l))) ∧ Below w.heap.size w w' := by
  subst hC
  have hb : Below w.heap.size w (w.alloc (.cells (l.map bv).toArray 5 fr)) := (Below.refl _ _).alloc (Nat.le_refl _) _
  have hsz : (w.alloc (.cells (l.map bv).toArray 5 fr)).heap.size = w.heap.size + 1 := by simp
  have h := sum1 (some ⟨w.heap.size, 0, none⟩) n n l (w.alloc (.cells (l.map bv).toArray 5 fr)) hn (by rw [hsz]; exact Rd.lit w l fr) (by omega) hl (ht.below hb ht.2.2.1 ht.2.2.2)
  rw [hsz] at h
  refine h.mono ?_
  rintro e w' ⟨he, hbw⟩
  exact ⟨he, hb.trans (hbw.mono (by omega))⟩

theorem kfirst0 : num ((shaL []).take 4) = 3820012610 := by rw [sha_none]; decide
theorem kfirst1 : num ((shaL [97, 98, 99]).take 4) = 3128432319 := by rw [sha_abc]; decide

set_option maxRecDepth 100000 in
set_option maxHeartbeats 2000000 in
theorem known_any (w : World) (ht : Tabs w) : Calls Tryd.prog 9 #[] w fun e w' => e = .returned (.bool true) ∧ Below w.heap.size w w' := by
  have kc := fun (w : World) (C : Array Value) (n c : Nat) => Lib.run_convert_bytes_const (P := Tryd.prog) w 25 5 C n c Tryd.underlying25 Tryd.underlying5
  have HT : Hid (∀ u : World, Below w.heap.size w u → Tabs u) := fun u hu => ht.below hu ht.2.2.1 ht.2.2.2
  obtain ⟨l0, hl0⟩ : ∃ l0, l0 = shaL [] := ⟨_, rfl⟩
  obtain ⟨l1, hl1⟩ : ∃ l1, l1 = shaL [97, 98, 99] := ⟨_, rfl⟩
  have f0 := fun u => first_any l0 u (by rw [hl0]; exact shaL_length _)
  have f1 := fun u => first_any l1 u (by rw [hl1]; exact shaL_length _)
  rw [hl0, kfirst0, ← hl0] at f0
  rw [hl1, kfirst1, ← hl1] at f1
  have F0 := Lib.hid f0
  have F1 := Lib.hid f1
  have S0 := Lib.hid (sum0 w ht)
  rw [← hl0] at S0
  have S1 : Hid (∀ u : World, Below w.heap.size w u → Calls Tryd.prog 12 #[.slice (some ⟨u.heap.size + 1, 0, none⟩) 1 1] ((u.alloc (.cells #[.int .u8 97, .int .u8 98, .int .u8 99] 5 (3, 4))).alloc (.cells #[.slice (some ⟨u.heap.size, 0, none⟩) 3 3] 25)) fun e w' => e = .returned (.agg (hashV l1)) ∧ Below u.heap.size u w') := fun u hu => by rw [hl1]; exact sumLit u [97, 98, 99] _ 3 _ rfl rfl (by simp) (HT.out u hu)
  clear f0 f1 hl0 hl1
  go_enter Tryd.func9, Tryd.ntmps9
  go_wp2_with fail
  refine S0.out.mono ?_
  rintro e w1 ⟨rfl, b1⟩
  go_wp2_with fail
  refine (F0.out w1).mono ?_
  rintro e w2 ⟨rfl, b2⟩
  replace b2 := b1.trans (b2.mono b1.size)
  clear b1
  go_wp2_with fail
  refine (S1.out w2 b2).mono ?_
  rintro e w3 ⟨rfl, b3⟩
  replace b3 := b2.trans (b3.mono b2.size)
  clear b2
  go_wp2_with fail
  refine (F1.out w3).mono ?_
  rintro e w4 ⟨rfl, b4⟩
  replace b4 := b3.trans (b4.mono b3.size)
  clear b3
  have S5 := Lib.hid (start_any 0 w4 (HT.out _ b4))
  have C5 := Lib.hid (constant_any 0 w4 (HT.out _ b4))
  rw [show startV 0 = 1779033703 by rfl] at S5
  rw [show constV 0 = 1116352408 by rfl] at C5
  go_wp2_with fail
  refine S5.out.mono ?_
  unfold rv
  rintro e w5 ⟨rfl, rfl⟩
  go_wp2_with fail
  refine C5.out.mono ?_
  unfold rv
  rintro e w6 ⟨rfl, rfl⟩
  go_wp2_with fail
  go_ret
  exact ⟨rfl, b4⟩
end Go.Proofs.YtlfmdnnookkdhaaDoor
