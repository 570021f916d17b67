/- Contract: wire.Put. -/
import Derived.Test.YtaoddppkijopmaaGet
import Derived.Deep.OwnRows
namespace Go.Proofs.Ytaoddppkijopmaa
open Go.ChangeShapes Go.WideShapes Go.ChangeAt Go.RowKit
set_option linter.unusedVariables false

theorem put_width (n size : Int) (w : World) (hs : size < 1 ∨ 8 < size) :
    Calls Try.prog 72 #[.int .u64 n, .int .i64 size] w fun e w' => e = .returned (.tuple #[.slice none 0 0, .int .i64 2]) ∧ w = w' := by
  have hw : widthB size = false := by unfold widthB; simp; omega
  go_enter Try.func72, Try.ntmps72
  go_wp2_with (go_at_call 77; refine (isWidth_any _ _).mono ?_; rintro e w' ⟨rfl, rfl⟩)
  go_ret2
  exact ⟨rfl, rfl⟩

/-- A number's bytes in a width, the highest first. -/
def putL (n size : Nat) : List UInt8 := (List.range size).map fun j => UInt8.ofNat (n / 2 ^ (8 * (size - 1 - j)))
theorem putL_length (n size : Nat) : (putL n size).length = size := by simp [putL]

/-- Behind k rounds the last k bytes stand in the new block. -/
def PutB (w : World) (n size k : Nat) (wr : World) : Prop :=
  ∃ cur, wr.heap[w.heap.size]? = some (.cells cur 5 (0, 0)) ∧ cur.size = size ∧ (∀ j, j < size → size ≤ j + k → cur[j]? = some (bv (UInt8.ofNat (n / 2 ^ (8 * (size - 1 - j)))))) ∧ Below w.heap.size w wr
theorem PutB.start (w : World) (n size : Nat) : PutB w n size 0 (w.alloc (.cells (madeCells #[.int .u8 0] size) 5)) :=
  ⟨_, heap_alloc_new w _, by simp [madeCells], fun j h1 h2 => by omega, (Below.refl _ _).alloc (Nat.le_refl _) _⟩
theorem PutB.cell {w : World} {n size k : Nat} {wr : World} (h : PutB w n size k wr) (j : Nat) (hj : j < size) : ∃ u, wr.cell? ⟨w.heap.size, j, none⟩ = some u ∧ wr.frozen? ⟨w.heap.size, j, none⟩ = false := by
  obtain ⟨cur, h1, h2, _⟩ := h
  refine ⟨cur[j]'(by omega), ?_, by simp [World.frozen?, h1]⟩
  rw [cell_of_row wr w.heap.size j cur _ (0, 0) h1]
  exact Array.getElem?_eq_getElem (by omega)
theorem PutB.step {w : World} {n size k : Nat} {wr : World} (h : PutB w n size k wr) (hk : k < size) {v : Value} (hv : v = bv (UInt8.ofNat (n / 2 ^ (8 * k)))) :
    PutB w n size (k + 1) (wr.setCell ⟨w.heap.size, size - 1 - k, none⟩ v) := by
  obtain ⟨cur, h1, h2, h3, h4⟩ := h
  refine ⟨cur.setIfInBounds (size - 1 - k) v, by simp [World.setCell, Array.getElem?_modify, h1], by simpa using h2, fun j hj1 hj2 => ?_, h4.setCell (Nat.le_refl _) _⟩
  rw [Array.getElem?_setIfInBounds]
  by_cases e : size - 1 - k = j
  · rw [if_pos e, if_pos (by omega), hv]
    subst e
    rw [show size - 1 - (size - 1 - k) = k by omega]
  · rw [if_neg e]
    exact h3 j hj1 (by omega)
theorem PutB.done {w : World} {n size : Nat} {wr : World} (h : PutB w n size size wr) (hs : 1 ≤ size) : Ow wr w.heap.size (some ⟨w.heap.size, 0, none⟩) (putL n size) ∧ Below w.heap.size w wr := by
  obtain ⟨cur, h1, h2, h3, h4⟩ := h
  refine ⟨fun _ => ⟨w.heap.size, cur, rfl, Nat.le_refl _, ?_, h1, ?_⟩, h4⟩
  · rcases Nat.lt_or_ge w.heap.size wr.heap.size with hlt | hge
    · exact hlt
    · rw [Array.getElem?_eq_none hge] at h1; cases h1
  · rw [putL_length]
    apply List.ext_getElem?
    intro j
    by_cases hj : j < size
    · rw [List.getElem?_take, if_pos hj, Array.getElem?_toList, h3 j hj (by omega), List.getElem?_map]
      simp [putL, hj]
    · rw [List.getElem?_eq_none (by simp; omega), List.getElem?_eq_none (by simp [putL]; omega)]

/-- What Put answers where the number has room. -/
def PutP (w : World) (n size : Nat) (e : Ending) (w' : World) : Prop :=
  e = .returned (.tuple #[.slice (some ⟨w.heap.size, 0, none⟩) size size, .int .i64 0]) ∧ Ow w' w.heap.size (some ⟨w.heap.size, 0, none⟩) (putL n size) ∧ Below w.heap.size w w'

theorem pow_8 (k : Nat) : 256 ^ k = 2 ^ (8 * k) := by rw [Nat.pow_mul]
theorem shr_room (n size : Nat) (h : n < 256 ^ size) : ((n : Int) / 2 ^ (8 * size) != 0) = false := by
  have : (n : Int) / 2 ^ (8 * size) = ((n / 2 ^ (8 * size) : Nat) : Int) := by
    rw [Int.natCast_ediv, Int.natCast_pow]; rfl
  rw [this, Nat.div_eq_of_lt (by rw [← pow_8]; exact h)]
  rfl
theorem shr_none (n size : Nat) (h : 256 ^ size ≤ n) : ((n : Int) / 2 ^ (8 * size) != 0) = true := by
  have : (n : Int) / 2 ^ (8 * size) = ((n / 2 ^ (8 * size) : Nat) : Int) := by
    rw [Int.natCast_ediv, Int.natCast_pow]; rfl
  have h2 : 0 < n / 2 ^ (8 * size) := Nat.div_pos (by rw [← pow_8]; exact h) (Nat.two_pow_pos _)
  rw [this, bne_iff_ne]
  omega

theorem byte_eq (n k : Nat) : Value.int .u8 ((n : Int) / 2 ^ (8 * k) % 256) = bv (UInt8.ofNat (n / 2 ^ (8 * k))) := by
  have : (n : Int) / 2 ^ (8 * k) = ((n / 2 ^ (8 * k) : Nat) : Int) := by
    rw [Int.natCast_ediv, Int.natCast_pow]; rfl
  unfold bv
  rw [this, UInt8.toNat_ofNat']
  congr 1

theorem put_room (n size : Nat) (w : World) (hs : 1 ≤ size) (h8 : size ≤ 8) (hn : n < 18446744073709551616) (hr : 256 ^ size ≤ n) :
    Calls Try.prog 72 #[.int .u64 n, .int .i64 size] w fun e w' => e = .returned (.tuple #[.slice none 0 0, .int .i64 2]) ∧ w = w' := by
  have hw : widthB (size : Int) = true := by unfold widthB; simp; omega
  have hb := shr_none n size hr
  clear hr
  go_enter Try.func72, Try.ntmps72
  go_wp2_with (go_at_call 77; refine (isWidth_any _ _).mono ?_; rintro e w' ⟨rfl, rfl⟩)
  go_ret2
  exact ⟨rfl, rfl⟩

set_option maxHeartbeats 400000 in
theorem put_ok (n size : Nat) (w : World) (hs : 1 ≤ size) (h8 : size ≤ 8) (hn : n < 18446744073709551616) (hr : n < 256 ^ size) :
    Calls Try.prog 72 #[.int .u64 n, .int .i64 size] w (PutP w n size) := by
  have hw : widthB (size : Int) = true := by unfold widthB; simp; omega
  have hb := shr_room n size hr
  have hmk := fun u : World => run_make_row' (P := Try.prog) 30 5 (.int .u8 0) 1 Try.underlying30 byte_info rfl .i64 .i64 size (by omega) (by omega) u
  clear hr
  go_enter Try.func72, Try.ntmps72
  go_wp2_with (go_at_call 77; refine (isWidth_any _ _).mono ?_; rintro e w' ⟨rfl, rfl⟩)
  go_loopw [22] (fun i wr => ∃ k : Nat, k ≤ size ∧ i = .int .i64 k ∧ PutB w n size k wr) (fun i _ => size - (intOf i).toNat)
  case atStart => exact ⟨0, Nat.zero_le _, rfl, PutB.start w n size⟩
  case round =>
    obtain ⟨k, hk, rfl, hB⟩ := hrel
    by_cases hlt : k < size
    · obtain ⟨u, hc, hf⟩ := hB.cell (size - 1 - k) (by omega)
      go_wp2
      exact ⟨⟨k + 1, by omega, by go_num, hB.step hlt (byte_eq n k)⟩, by simp [intOf]; omega⟩
    · obtain rfl : k = size := by omega
      go_wp2
      go_ret2
      exact ⟨rfl, hB.done hs⟩
end Go.Proofs.Ytaoddppkijopmaa
