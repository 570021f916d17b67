/- Contract: Fit. -/
import Derived.Test.YtodfpgbgcenbgaaSumKnown
namespace Go.Proofs.Ytodfpgbgcenbgaa
open Go.ChangeShapes Go.WideShapes Go.ChangeAt Go.RowKit
set_option linter.unusedVariables false

def four0 : Array Value := #[.int .u8 0, .int .u8 0, .int .u8 0, .int .u8 0]
theorem zero_four (u : World) : (zeroValue 31).run Try.prog u = .ok (.agg four0) u := by kernel_rfl
theorem four0_size : four0.size = 4 := rfl
theorem size_four : (Try.prog.info? 31).map (·.size) = some 4 := by kernel_rfl
/-- A number's four bytes, the lowest first. -/
def fourL (a : Nat) : List UInt8 := [UInt8.ofNat a, UInt8.ofNat (a / 256), UInt8.ofNat (a / 65536), UInt8.ofNat (a / 16777216)]
theorem leN_four (a : Nat) (h : a < 4294967296) : leN (fourL a) = a := by
  simp only [fourL, leN, UInt8.toNat_ofNat']
  omega
/-- What Fit takes the four bytes of. -/
def fitN (s t : Nat) : Nat := cpl s ^^^ outL (cpl t) [0, 0, 0, 0]
theorem fitN_lt (s t : Nat) : fitN s t < 4294967296 := xor_lt (cpl_lt s) (outL_lt _ (cpl_lt t))
theorem fit_more (s t : Nat) (ht : t < 4294967296) : moreS s (fourL (fitN s t)) = t := by
  have h := inL_outL [0, 0, 0, 0] (cpl_lt t)
  rw [inL_le, show leN [0, 0, 0, 0] = 0 by rfl, Nat.xor_zero] at h
  unfold moreS
  rw [inL_le, leN_four _ (fitN_lt s t), fitN, ← Nat.xor_assoc, Nat.xor_self, Nat.zero_xor]
  exact (congrArg cpl h).trans (cpl_cpl ht)
/-- The four bytes as they lie. -/
def fourF (a j : Nat) : Value := .int .u8 ((a : Int) / 2 ^ (8 * j) % 256)
def fourV (a : Nat) : Array Value := ((List.range 4).map (fourF a)).toArray
theorem fourV_size (a : Nat) : (fourV a).size = 4 := by simp [fourV]
theorem fourV_one (a : Nat) : (fourV a).all (·.oneCell') = true := by
  rw [Array.all_eq_true_iff_forall_mem]
  intro x hx
  simp only [fourV, List.mem_toArray, List.mem_map] at hx
  obtain ⟨i, _, rfl⟩ := hx
  rfl
theorem fourV_bytes (a : Nat) : fourV a = ((fourL a).map bv).toArray := by
  simp only [fourV, fourL, show List.range 4 = [0, 1, 2, 3] by rfl, List.map_cons, List.map_nil, fourF, bv, UInt8.toNat_ofNat']
  simp

set_option maxRecDepth 100000 in
set_option maxHeartbeats 1000000 in
theorem fit_any (s t : Nat) (w : World) (hs : s < 4294967296) (ht : t < 4294967296) :
    Calls Try.prog 14 #[.int .u32 (s : Int), .int .u32 (t : Int)] w fun e w' => e = .returned (.agg (fourV (fitN s t))) ∧ Below w.heap.size w w' := by
  have hz := zero_four
  have HN := Lib.hid (not32 s hs)
  have HM := Lib.hid (not32 t ht)
  go_enter Try.func14, Try.ntmps14
  go_wp2_with fail
  have hb0 : Below w.heap.size w ((w.alloc (.cells four0 31)).alloc (.cells four0 31)) := ((Below.refl _ _).alloc (Nat.le_refl _) _).alloc (by simp) _
  have g1 : ((w.alloc (.cells four0 31)).alloc (.cells four0 31)).heap[w.heap.size + 1]? = some (.cells four0 31 (0, 0)) := heap_alloc2_new w _ _
  have g0 : ((w.alloc (.cells four0 31)).alloc (.cells four0 31)).heap[w.heap.size]? = some (.cells four0 31 (0, 0)) := heap_alloc2_old w _ _
  have hsz : ((w.alloc (.cells four0 31)).alloc (.cells four0 31)).heap.size = w.heap.size + 2 := by simp
  rw [HM.out]
  generalize ((w.alloc (.cells four0 31)).alloc (.cells four0 31)) = W at *
  have hr : Rd W 0 W.heap.size (some ⟨w.heap.size + 1, 0, none⟩) [0, 0, 0, 0] := fun _ => ⟨w.heap.size + 1, 0, rfl, Nat.zero_le _, by omega, fun j x hx => by
    rw [Nat.zero_add, cell_of_row W _ j _ _ _ g1]
    match j, hx with
    | 0, hx => injection hx with hx; subst hx; rfl
    | 1, hx => injection hx with hx; subst hx; rfl
    | 2, hx => injection hx with hx; subst hx; rfl
    | 3, hx => injection hx with hx; subst hx; rfl⟩
  refine (goOut_any (cpl t) (some ⟨w.heap.size + 1, 0, none⟩) 4 [0, 0, 0, 0] W (cpl_lt t) hr (by simp)).mono ?_
  unfold rv
  rintro e w1 ⟨rfl, b1⟩
  have HX : Hid (bits .xor .u32 (bits .xor .u32 IntKind.u32.max (s : Int)) ((outL (cpl t) [0, 0, 0, 0] : Nat) : Int) = ((fitN s t : Nat) : Int)) := by
    rw [HN.out]
    exact u32_xor_nat _ _ (cpl_lt s) (outL_lt _ (cpl_lt t))
  have h1 := (b1.block (w.heap.size + 1) (by omega)).trans g1
  have h0 := (b1.block w.heap.size (by omega)).trans g0
  have hb := hb0.trans (b1.mono (by omega))
  clear hr g0 g1 b1 hb0 hsz hz
  have H1 := Lib.hid h1
  have H0 := Lib.hid h0
  clear h1 h0
  go_wp2_with fail
  rw [HX.out]
  have hF := fitN_lt s t
  obtain ⟨a, ha⟩ : ∃ a, a = fitN s t := ⟨_, rfl⟩
  rw [← ha] at hF ⊢
  have HA := Lib.hid ha
  clear ha
  go_loopw [15] (fun i wr => ∃ k : Nat, k ≤ 4 ∧ i = .int .i64 k ∧ Fill (w.heap.size + 1) 31 4 k (fourF a) wr ∧ wr.heap[w.heap.size]? = some (.cells four0 31 (0, 0)) ∧ Below w.heap.size w wr) (fun i _ => 4 - (intOf i).toNat)
  case atStart => exact ⟨0, by omega, rfl, ⟨four0, H1.out, rfl, fun j hj => absurd hj (by omega)⟩, H0.out, hb⟩
  case round =>
    obtain ⟨k, hk, rfl, hFl, h0, hb⟩ := hrel
    by_cases hlt : k < 4
    · obtain ⟨u, hu, hf⟩ := hFl.cell k hlt
      go_wp2
      refine ⟨⟨k + 1, by omega, by go_num, hFl.step hlt ?_, ?_, hb.setCell (by simp) _⟩, by simp [intOf]; omega⟩
      · rfl
      · rw [heap_setCell_other _ _ _ _ (by simp)]
        exact h0
    · obtain rfl : k = 4 := by omega
      have h1 := hFl.done
      go_wp2_with (first | (refine wpList_load_row rfl 31 (.tmp 5) rfl (w.heap.size + 1) rfl 31 (fourV a) (0, 0) _ h1 Try.underlying31 rfl (by rw [fourV_size]; exact size_four) ?_) | (refine wpList_store_row rfl 31 (.tmp 4) (.tmp 26) rfl w.heap.size (fourV a) rfl rfl 31 four0 h0 (by rw [fourV_size]; exact size_four) (by rw [fourV_size]; rfl) (fourV_one a) ?_))
      refine bodyPost_ret (v := .agg (fourV a)) (results_cell_row rfl _ _ w.heap.size 31 (fourV a) (0, 0) _ rfl (setRow_heap _ _ _ _ _ _ h0) Try.underlying31 rfl (by rw [fourV_size]; exact size_four)) rfl ⟨by rw [HA.out], below_setRow hb (Nat.le_refl _) _⟩
end Go.Proofs.Ytodfpgbgcenbgaa
