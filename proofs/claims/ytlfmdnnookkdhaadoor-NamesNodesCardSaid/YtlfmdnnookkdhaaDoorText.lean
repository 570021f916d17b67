/- Contracts: the text of a hash. -/
import Derived.Test.YtlfmdnnookkdhaaDoorSha
import Derived.Test.YtlfmdnnookkdhaaDoorStr
import Derived.ChangeKeysEq
import Derived.Laws.StructEq
namespace Go.Proofs.YtlfmdnnookkdhaaDoor
open Go.ChangeShapes Go.WideShapes Go.ChangeAt Go.RowKit
set_option linter.unusedVariables false

/-- The sign of 0 to 15. -/
def sg (k : Nat) : UInt8 := UInt8.ofNat (if k < 10 then 48 + k else 87 + k)
/-- A text of bytes. -/
def hexL (l : List UInt8) : List UInt8 := l.flatMap fun x => [sg (x.toNat / 16), sg (x.toNat % 16)]
theorem hexL_append (a b : List UInt8) : hexL (a ++ b) = hexL a ++ hexL b := by simp [hexL]
theorem hexL_length (l : List UInt8) : (hexL l).length = 2 * l.length := by
  induction l with
  | nil => rfl
  | cons x l ih => simp only [hexL, List.flatMap_cons, List.length_append, List.length_cons, List.length_nil] at ih ⊢; omega
theorem hexL_take (l : List UInt8) (k : Nat) (h : k < l.length) : hexL (l.take (k + 1)) = hexL (l.take k) ++ [sg (l[k].toNat / 16), sg (l[k].toNat % 16)] := by
  rw [List.take_succ_eq_append_getElem h, hexL_append]
  rfl

/-- The table of signs. -/
theorem idx_sg (q : Nat) (h : q < 16) (u : World) : (Instr.index 9 (.string { data := #[48, 49, 50, 51, 52, 53, 54, 55, 56, 57, 97, 98, 99, 100, 101, 102] }) (.int .u8 (q : Int))).run Tryd.prog u = .ok (bv (sg q)) u := by
  obtain rfl | rfl | rfl | rfl | rfl | rfl | rfl | rfl | rfl | rfl | rfl | rfl | rfl | rfl | rfl | rfl : q = 0 ∨ q = 1 ∨ q = 2 ∨ q = 3 ∨ q = 4 ∨ q = 5 ∨ q = 6 ∨ q = 7 ∨ q = 8 ∨ q = 9 ∨ q = 10 ∨ q = 11 ∨ q = 12 ∨ q = 13 ∨ q = 14 ∨ q = 15 := by omega
  all_goals kernel_rfl
theorem idx_hi (x : Nat) (h : x < 256) (u : World) : (Instr.index 9 (.string { data := #[48, 49, 50, 51, 52, 53, 54, 55, 56, 57, 97, 98, 99, 100, 101, 102] }) (.int .u8 ((x : Int) / 16))).run Tryd.prog u = .ok (bv (sg (x / 16))) u := by
  have := idx_sg (x / 16) (by omega) u
  rwa [show (((x / 16 : Nat)) : Int) = (x : Int) / 16 by omega] at this
theorem idx_lo (x : Nat) (h : x < 256) (u : World) : (Instr.index 9 (.string { data := #[48, 49, 50, 51, 52, 53, 54, 55, 56, 57, 97, 98, 99, 100, 101, 102] }) (.int .u8 ((x : Int) % 16))).run Tryd.prog u = .ok (bv (sg (x % 16))) u := by
  have := idx_sg (x % 16) (by omega) u
  rwa [show (((x % 16 : Nat)) : Int) = (x : Int) % 16 by omega] at this

theorem and15 (x : Nat) (h : x < 256) : bits .and .u8 (x : Int) 15 = (x : Int) % 16 := by
  have e := u8_and_nat x 15 (by omega) (by omega)
  rw [show ((15 : Nat) : Int) = 15 by rfl] at e
  rw [e, show (15 : Nat) = 2 ^ 4 - 1 by rfl, Nat.and_two_pow_sub_one_eq_mod]
  omega

theorem hexL_even (l : List UInt8) (k : Nat) (h : k < l.length) : (hexL l).getD (2 * k) 0 = sg ((l.getD k 0).toNat / 16) ∧ (hexL l).getD (2 * k + 1) 0 = sg ((l.getD k 0).toNat % 16) := by
  induction l generalizing k with
  | nil => cases h
  | cons x l ih =>
    rcases k with _ | k
    · exact ⟨rfl, rfl⟩
    · have := ih k (by simpa using h)
      have e : hexL (x :: l) = sg (x.toNat / 16) :: sg (x.toNat % 16) :: hexL l := rfl
      rw [e]
      exact this
theorem zero_text (u : World) : (zeroValue 47).run Tryd.prog u = .ok (.agg (rowV 64 z8)) u := by kernel_rfl
theorem hF_at (l : List UInt8) (k : Nat) (hk : k < 32) (u : World) : (Instr.index 28 (.agg (hashV l)) (.int .i64 (k : Int))).run Tryd.prog u = .ok (.int .u8 ((l.getD k 0).toNat : Int)) u :=
  run_index_row 28 5 32 (hashV l) k .u8 _ u Tryd.underlying28 size_u8 Tryd.underlying5 hk (rowV_at 32 (hF l) k hk)
theorem Fill.two {g t n k : Nat} {f : Nat → Value} {wr : World} (h : Fill g t n (2 * k) f wr) (hk : 2 * k + 1 < n) {u v : Value} (hu : u = f (2 * k)) (hv : v = f (2 * k + 1)) : Fill g t n (2 * (k + 1)) f ((wr.setCell ⟨g, 2 * k, none⟩ u).setCell ⟨g, 2 * k + 1, none⟩ v) := by
  have h1 := h.step (by omega) hu
  exact h1.step hk hv

set_option maxRecDepth 100000 in
set_option maxHeartbeats 2000000 in
theorem text_any (l : List UInt8) (w : World) (hl : l.length = 32) :
    Calls Tryd.prog 16 #[.agg (hashV l)] w fun e w' => e = .returned (strOf (hexL l)) ∧ Below w.heap.size w w' := by
  have hz := zero_text
  go_enter Tryd.func16, Tryd.ntmps16
  go_wp2_with (refine wpList_load_row rfl 28 (.tmp 1) rfl w.heap.size rfl 28 (hashV l) (0, 0) _ (heap_alloc2_old w _ _) Tryd.underlying28 rfl (by unfold hashV; rw [rowV_size]; exact size_hash) ?_)
  go_loopw [7] (fun v wr => ∃ k : Nat, k ≤ 32 ∧ v = .int .i64 k ∧ Fill (w.heap.size + 1) 47 64 (2 * k) (hF (hexL l)) wr ∧ Below w.heap.size w wr) (fun v _ => 32 - (intOf v).toNat)
  case atStart => exact ⟨0, by omega, rfl, ⟨_, heap_alloc2_new w _ _, rowV_size 64 z8, fun j hj => absurd hj (by omega)⟩, ((Below.refl _ _).alloc (Nat.le_refl _) _).alloc (by simp) _⟩
  case round =>
    obtain ⟨k, hk, rfl, hF1, hb⟩ := hrel
    by_cases hlt : k < 32
    · have hx := hF_at l k hlt
      have hs := hexL_even l k (by omega)
      have hx2 := (l.getD k 0).toNat_lt
      have H1 := Lib.hid (show hF (hexL l) (2 * k) = bv (sg ((l.getD k 0).toNat / 16)) by unfold hF; rw [hs.1])
      have H2 := Lib.hid (show hF (hexL l) (2 * k + 1) = bv (sg ((l.getD k 0).toNat % 16)) by unfold hF; rw [hs.2])
      clear hs
      generalize (l.getD k 0).toNat = x at *
      have j1 := idx_hi x hx2
      have j2 := idx_lo x hx2
      have hand := and15 x hx2
      obtain ⟨u1, hu1, hf1⟩ := hF1.cell (2 * k) (by omega)
      obtain ⟨u2, hu2, hf2⟩ := hF1.cell (2 * k + 1) (by omega)
      unfold bv at j1 j2
      have i1 : (2 : Int) * (k : Int) + 1 < 64 := by omega
      go_wp2_with fail
      go_region
      go_wp2_with fail
      exact ⟨⟨k + 1, by omega, by go_num, Fill.two hF1 (by omega) H1.out.symm H2.out.symm, ((hb.setCell (by simp) _).setCell (by simp) _).drew⟩, by simp [intOf]; omega⟩
    · obtain rfl : k = 32 := by omega
      have hr : Rd wr 0 wr.heap.size (some ⟨w.heap.size + 1, 0, none⟩) (hexL l) := fun _ => by
        refine ⟨w.heap.size + 1, 0, rfl, Nat.zero_le _, hF1.lt, fun j x hx => ?_⟩
        have hj : j < 64 := by
          rcases Nat.lt_or_ge j 64 with h | h
          · exact h
          · rw [List.getElem?_eq_none (by rw [hexL_length]; omega)] at hx; cases hx
        rw [Nat.zero_add, hF1.at_ j hj]
        unfold hF
        rw [List.getD_eq_getElem?_getD, hx]
        rfl
      have hst := run_str hr 64 64 (by rw [hexL_length]; omega)
      go_wp2
      go_ret
      exact ⟨rfl, hb⟩

theorem part_hash (l : List UInt8) (i : Nat) (hi : i < 32) (w : World) : (part 5 (hashV l) (i * 1)).run Tryd.prog w = .ok (bv (l.getD i 0)) w := by
  have h := rowV_at 32 (hF l) i hi
  have a3 : (isAgg 5).run Tryd.prog w = .ok false w := by kernel_rfl
  unfold hashV
  simp [part, a3, h, hF]
theorem eq_items (a b : List UInt8) (w : World) : ∀ is : List Nat, (∀ i ∈ is, i < 32) → (Op.eqItems 9999 5 1 (hashV a) (hashV b) is).run Tryd.prog w = .ok (is.all fun i => a.getD i 0 == b.getD i 0) w := by
  intro is
  induction is with
  | nil => intro _; simp [Op.eqItems]
  | cons i is ih =>
    intro h
    have hi := h i (by simp)
    have ih' := ih (fun j hj => h j (by simp [hj]))
    have e := run_equalIn_int (P := Tryd.prog) w 9998 5 .u8 .u8 ((a.getD i 0).toNat : Int) ((b.getD i 0).toNat : Int) Tryd.underlying5
    have e2 : (((a.getD i 0).toNat : Int) == ((b.getD i 0).toNat : Int)) = (a.getD i 0 == b.getD i 0) := by
      rw [Bool.eq_iff_iff, beq_iff_eq, beq_iff_eq]
      constructor
      · intro h; exact UInt8.toNat_inj.1 (by omega)
      · intro h; rw [h]
    rw [e2] at e
    have e3 : (Op.equalIn 9999 5 (bv (a.getD i 0)) (bv (b.getD i 0))).run Tryd.prog w = .ok (a.getD i 0 == b.getD i 0) w := e
    simp only [Op.eqItems, Sem.run_bind, part_hash a i hi, part_hash b i hi, Result.andThen_ok, e3, List.all_cons]
    cases (a.getD i 0 == b.getD i 0)
    · simp
    · simpa using ih'
theorem eq_hash (a b : List UInt8) (ha : a.length = 32) (hb : b.length = 32) (w : World) : (Op.equalIn 10000 28 (.agg (hashV a)) (.agg (hashV b))).run Tryd.prog w = .ok (a == b) w := by
  obtain ⟨i, hi, hz⟩ := Option.map_eq_some_iff.1 size_u8
  have h := run_equalIn_array (P := Tryd.prog) w 9999 (hashV a) (hashV b) Tryd.underlying28 hi
  have c1 : Tryd.prog.cellsOf 5 = 1 := by kernel_rfl
  rw [c1, eq_items a b w _ (fun i hi => List.mem_range.1 hi)] at h
  rw [show (10000 : Nat) = 9999 + 1 from rfl, h]
  congr 1
  rw [Bool.eq_iff_iff, beq_iff_eq, List.all_eq_true]
  constructor
  · intro h
    apply List.ext_getElem?
    intro i
    by_cases hi : i < 32
    · have h3 := beq_iff_eq.1 (h i (List.mem_range.2 hi))
      rw [List.getD_eq_getElem?_getD, List.getD_eq_getElem?_getD, List.getElem?_eq_getElem (by omega), List.getElem?_eq_getElem (by omega)] at h3
      rw [List.getElem?_eq_getElem (by omega), List.getElem?_eq_getElem (by omega)]
      exact congrArg some h3
    · rw [List.getElem?_eq_none (by omega), List.getElem?_eq_none (by omega)]
  · intro h i _
    rw [h]
    simp

set_option maxRecDepth 100000 in
set_option maxHeartbeats 2000000 in
theorem equal_any (a b : List UInt8) (w : World) (ha : a.length = 32) (hb : b.length = 32) :
    Calls Tryd.prog 15 #[.agg (hashV a), .agg (hashV b)] w fun e w' => e = .returned (.bool (a == b)) ∧ Below w.heap.size w w' := by
  have he := eq_hash a b ha hb
  go_enter Tryd.func15, Tryd.ntmps15
  go_wp2_with (first | (refine wpList_load_row rfl 28 (.tmp 2) rfl w.heap.size rfl 28 (hashV a) (0, 0) _ (heap_alloc2_old w _ _) Tryd.underlying28 rfl (by unfold hashV; rw [rowV_size]; exact size_hash) ?_) | (refine wpList_load_row rfl 28 (.tmp 3) rfl (w.heap.size + 1) rfl 28 (hashV b) (0, 0) _ (heap_alloc2_new w _ _) Tryd.underlying28 rfl (by unfold hashV; rw [rowV_size]; exact size_hash) ?_))
  go_ret
  exact ⟨rfl, ((Below.refl _ _).alloc (Nat.le_refl _) _).alloc (by simp) _⟩
end Go.Proofs.YtlfmdnnookkdhaaDoor
