/- Contracts: Sum, More, Less. -/
import Derived.Test.YtodfpgbgcenbgaaSumOut
import Derived.Test.YtodfpgbgcenbgaaPieces
namespace Go.Proofs.Ytodfpgbgcenbgaa
open Go.ChangeShapes Go.WideShapes Go.ChangeAt Go.RowKit
set_option linter.unusedVariables false

theorem not32 (s : Nat) (h : s < 4294967296) : bits .xor .u32 IntKind.u32.max (s : Int) = ((cpl s : Nat) : Int) := by
  have := u32_xor_nat 4294967295 s (by omega) h
  rw [xor_ones h] at this
  exact this
theorem ret_cpl (q : Nat) (h : q < 4294967296) : Ending.returned (.int .u32 (bits .xor .u32 IntKind.u32.max (q : Int))) = .returned (rv (cpl q)) := by rw [not32 q h]; rfl

set_option maxHeartbeats 1000000 in
theorem less_any (s : Nat) (A : Option Addr) (c : Nat) (l : List UInt8) (w : World) (hs : s < 4294967296) (h : Rd w 0 w.heap.size A l) (hl : l.length ≤ 9223372036854775807) :
    Calls Try.prog 12 #[.int .u32 (s : Int), .slice A l.length c] w fun e w' => e = .returned (rv (lessS s l)) ∧ Below w.heap.size w w' := by
  have HN := Lib.hid (not32 s hs)
  have HL := Lib.hid (goOut_any (cpl s) A c l w (cpl_lt s) h hl)
  have HR := Lib.hid (ret_cpl (outL (cpl s) l) (outL_lt l (cpl_lt s)))
  go_enter Try.func12, Try.ntmps12
  go_wp2_with fail
  rw [HN.out]
  refine HL.out.mono ?_
  unfold rv
  rintro e w1 ⟨rfl, hb⟩
  go_wp2
  go_ret
  exact ⟨HR.out, hb⟩

set_option maxHeartbeats 1000000 in
set_option maxRecDepth 100000 in
theorem more_any (s : Nat) (A : Option Addr) (c : Nat) (l : List UInt8) (w : World) (hs : s < 4294967296) (h : Rd w 0 w.heap.size A l) (hl : l.length ≤ 9223372036854775807) :
    Calls Try.prog 11 #[.int .u32 (s : Int), .slice A l.length c] w fun e w' => e = .returned (rv (moreS s l)) ∧ Below w.heap.size w w' := by
  have HN := Lib.hid (not32 s hs)
  have HR := Lib.hid (ret_cpl (inL (cpl s) l) (inL_lt l (cpl_lt s)))
  have hz := zero_tab
  go_enter Try.func11, Try.ntmps11
  go_wp2_with fail
  refine (steps_any w).mono ?_
  rintro e w1 ⟨rfl, hb1⟩
  have ht : TabAt (w1.alloc (.cells tabV 37)) w1.heap.size := heap_alloc_new _ _
  have hb : Below w.heap.size w (w1.alloc (.cells tabV 37)) := hb1.alloc hb1.size _
  have HG := Lib.hid (goIn_any (cpl s) A c l w1.heap.size _ _ (cpl_lt s) (h.below hb (Nat.le_refl _)) hl ht)
  clear ht h
  go_wp2_with (refine wpList_store_row rfl 37 (.tmp 5) (.tmp 6) rfl w1.heap.size tabV rfl rfl 37 zero32 (heap_alloc_new _ _) (by rw [tabV_size]; exact size_tab) (by rw [tabV_size, zero32_size]) tabV_one ?_; rw [World.setRow_alloc_new])
  rw [HN.out]
  refine HG.out.mono ?_
  unfold rv
  rintro e w2 ⟨rfl, rfl⟩
  go_wp2
  go_ret
  exact ⟨HR.out, hb⟩

set_option maxHeartbeats 1000000 in
set_option maxRecDepth 100000 in
theorem sum_any (A : Option Addr) (c : Nat) (L : List Pc) (w : World) (h : RdL w w.heap.size A L) (hL : L.length ≤ 9223372036854775807) (hl : ∀ x ∈ L, x.2.2.length ≤ 9223372036854775807) :
    Calls Try.prog 9 #[.slice A L.length c] w fun e w' => e = .returned (rv (moreS 0 (flat L))) ∧ Below w.heap.size w w' := by
  have hz := zero_tab
  go_enter Try.func9, Try.ntmps9
  go_wp2_with fail
  refine (steps_any w).mono ?_
  rintro e w1 ⟨rfl, hb1⟩
  have ht : TabAt (w1.alloc (.cells tabV 37)) w1.heap.size := heap_alloc_new _ _
  have hb : Below w.heap.size w (w1.alloc (.cells tabV 37)) := hb1.alloc hb1.size _
  have h' := h.below hb (Nat.le_refl _)
  have HTH := Lib.hid ht
  clear ht h
  go_wp2_with (refine wpList_store_row rfl 37 (.tmp 3) (.tmp 7) rfl w1.heap.size tabV rfl rfl 37 zero32 (heap_alloc_new _ _) (by rw [tabV_size]; exact size_tab) (by rw [tabV_size, zero32_size]) tabV_one ?_; rw [World.setRow_alloc_new])
  clear hz hb1
  generalize w1.alloc (.cells tabV 37) = W at *
  generalize w1.heap.size = p1 at *
  go_loop [4, 10] (fun t i => ∃ k : Nat, k ≤ L.length ∧ i = .int .i64 k ∧ t = rv (inL 4294967295 (flat (L.take k)))) (fun _ i => L.length - (intOf i).toNat)
  case atStart => exact ⟨0, Nat.zero_le _, rfl, rfl⟩
  case round =>
    obtain ⟨k, hk, rfl, rfl⟩ := hrel
    have hq := inL_lt (r := 4294967295) (flat (L.take k)) (by omega)
    unfold rv
    by_cases hlt : k < L.length
    · obtain ⟨b, off, rfl, _, hc, hr⟩ := h'.at_ hlt
      have HT := Lib.hid (show inL 4294967295 (flat (L.take (k + 1))) = inL (inL 4294967295 (flat (L.take k))) L[k].2.2 by rw [flat_take L k hlt, inL_append])
      have HG := Lib.hid (goIn_any (inL 4294967295 (flat (L.take k))) L[k].1 L[k].2.1 L[k].2.2 p1 W _ hq hr (hl _ (List.getElem_mem hlt)) HTH.out)
      rw [← HT.out] at HG
      generalize inL 4294967295 (flat (L.take k)) = q at *
      go_wp2_with fail
      refine HG.out.mono ?_
      unfold rv
      rintro e w2 ⟨rfl, rfl⟩
      go_wp2
      refine ⟨⟨k + 1, by omega, by go_num, rfl⟩, by simp [intOf]; omega⟩
    · obtain rfl : k = L.length := by omega
      rw [List.take_length] at hq ⊢
      have HR := Lib.hid (ret_cpl (inL 4294967295 (flat L)) hq)
      go_wp2
      go_ret
      exact ⟨HR.out, hb⟩
end Go.Proofs.Ytodfpgbgcenbgaa
