/- Contract: the reference's Put. -/
import Derived.Test.YtaoddppkijopmaaPower
import Derived.Test.YtaoddppkijopmaaPut
import Derived.Laws.OwnMore
namespace Go.Proofs.Ytaoddppkijopmaa
open Go.ChangeShapes Go.WideShapes Go.ChangeAt Go.RowKit
set_option linter.unusedVariables false
set_option maxRecDepth 100000

theorem addrAddR (g j : Nat) : Addr.add ⟨g, 0, none⟩ j = ⟨g, j, none⟩ := by
  unfold Addr.add
  split
  · next h0 => subst h0; rfl
  · simp
theorem own_slice {w : World} {base n e : Nat} {v : Value} {xs : List Value} (h : w.ownsRow base e 1 v n xs) : ∃ A c, v = .slice A n c ∧ xs.length = n ∧ (0 < n → ∃ g, A = some ⟨g, 0, none⟩ ∧ base ≤ g ∧ g < w.heap.size ∧ ∀ j, j < n → w.cell? ⟨g, j, none⟩ = xs[j]?) := by
  have hl := h.1
  rw [Nat.mul_one] at hl
  have h0 := h
  rcases h.2 with ⟨rfl, rfl⟩ | ⟨g, cap, cur, rfl, h1, _⟩
  · exact ⟨none, 0, rfl, hl, fun hn => absurd hn (by omega)⟩
  · exact ⟨_, cap, rfl, hl, fun _ => ⟨g, rfl, h1, (h0.lt g rfl).2, fun j hj => h0.cellAt j (by omega)⟩⟩
theorem one_cell8 (w : World) (t : TypeId) (v : Value) : ∀ j u, [v][j]? = some u → (w.alloc (.cells #[v] t)).cell? ((⟨w.heap.size, 0, none⟩ : Addr).add j) = some u := by
  intro j u hu
  match j, hu with
  | 0, hu =>
    injection hu with hu
    subst hu
    rw [addrAddR, cell_of_row _ w.heap.size 0 _ _ (0, 0) (heap_alloc_new w _)]
    rfl
theorem putL_take (n size k : Nat) (h : k < size) : (putL n size).take (size - k) = (putL n size).take (size - (k + 1)) ++ [UInt8.ofNat (n / 2 ^ (8 * k))] := by
  rw [show size - k = (size - (k + 1)) + 1 by omega, List.take_succ_eq_append_getElem (by rw [putL_length]; omega)]
  congr 1
  simp only [putL, List.getElem_map, List.getElem_range]
  rw [show size - 1 - (size - (k + 1)) = k by omega]
theorem sub_upR (s k : Nat) (h : k + 1 ≤ s) : s - k = s - (k + 1) + 1 := by omega
theorem byteR (n k : Nat) : Value.int .u8 ((n / 256 ^ k % 256 : Nat) : Int) = bv (UInt8.ofNat (n / 2 ^ (8 * k))) := by
  unfold bv
  rw [UInt8.toNat_ofNat', pow_8]
/-- What Put answers. -/
def RPutP (l : List UInt8) (w : World) (e : Ending) (w' : World) : Prop := ∃ A c, e = .returned (.slice A l.length c) ∧ w'.ownsRow w.heap.size 5 1 (.slice A l.length c) l.length (l.map bv) ∧ Below w.heap.size w w'

set_option maxHeartbeats 1000000 in
theorem refPut_any (n size : Nat) (w : World) (hn : n < 18446744073709551616) (hs : size ≤ 8) :
    Calls Try.prog 38 #[.int .u64 (n : Int), .int .i64 (size : Int)] w (RPutP (putL n size) w) := by
  obtain ⟨j0, hj0, hy0, hy1, hy2⟩ := info_parts byte_info
  go_enter Try.func38, Try.ntmps38
  go_wp2_with fail
  go_loopw [5, 6] (fun v i wr => ∃ k : Nat, k ≤ size ∧ i = .int .i64 ((k : Int) - 1) ∧ wr.ownsRow w.heap.size 5 1 v (size - k) (((putL n size).take (size - k)).map bv) ∧ Below w.heap.size w wr) (fun _ i _ => (intOf i + 1).toNat)
  case atStart => exact ⟨size, by omega, rfl, by rw [Nat.sub_self]; exact World.ownsRow_nil _ _ _ _, Below.refl _ _⟩
  case round =>
    obtain ⟨k, hk, rfl, ho, hb⟩ := hrel
    obtain ⟨A, c, rfl, _, _⟩ := own_slice ho
    rcases k with _ | k
    · have HO := Lib.hid ho
      clear ho
      go_wp2_with fail
      go_ret
      refine ⟨A, c, by rw [putL_length]; rfl, ?_, hb⟩
      have := HO.out
      rw [Nat.sub_zero, List.take_of_length_le (by rw [putL_length]; omega)] at this
      rw [putL_length]
      exact this
    · rw [show ((k + 1 : Nat) : Int) - 1 = (k : Int) by omega]
      have HP := Lib.hid (power_any k wr (by omega))
      have HB := Lib.hid (show Value.int .u8 ((n / 256 ^ k % 256 : Nat) : Int) = bv (UInt8.ofNat (n / 2 ^ (8 * k))) from byteR n k)
      have HT := Lib.hid (putL_take n size k (by omega))
      have HSK := Lib.hid (sub_upR size k hk)
      have hq : 0 < 256 ^ k := Nat.pow_pos (by omega)
      generalize UInt8.ofNat (n / 2 ^ (8 * k)) = x at *
      generalize 256 ^ k = q at *
      have hq2 : ((q : Int) == 0) = false := by simp; omega
      obtain ⟨d, hd0⟩ : ∃ d, d = n / q := ⟨_, rfl⟩
      have hd1 : d < 18446744073709551616 := by rw [hd0]; exact Nat.lt_of_le_of_lt (Nat.div_le_self _ _) hn
      have hd : (n : Int) / (q : Int) = (d : Int) := by rw [hd0]; simp
      rw [← hd0] at HB
      have HW := Lib.hid (ho.alloc (.cells #[.int .u8 ((d : Int) % 256)] 5))
      have HC := Lib.hid (one_cell8 wr 5 (.int .u8 ((d : Int) % 256)))
      clear ho hd0
      go_wp2_with fail
      refine HP.out.mono ?_
      rintro e w1 ⟨rfl, rfl⟩
      go_wp2_with (at_builtin; refine wpList_append_own _ rfl (.tmp 13) (.tmp 20) _ rfl w.heap.size 5 j0 (.int .u8 0) 1 1 Try.underlying30 hj0 hy0 hy1 hy2 rfl (by decide) _ (size - (k + 1)) _ rfl HW.out ⟨wr.heap.size, 0, none⟩ 1 1 [.int .u8 ((d : Int) % 256)] rfl rfl HC.out (fun u hu => by simp at hu; subst hu; rfl) (by simp only [maxLen]; omega) (by omega) (by simp; have := hb.size; omega) ?_; intro v6 w6 hown6 hg6 _)
      refine ⟨⟨k, by omega, rfl, ?_, ?_⟩, by simp [intOf]⟩
      · rw [HT.out, List.map_append, HSK.out]
        have hx : [x].map bv = [.int .u8 ((d : Int) % 256)] := by rw [List.map_cons, ← HB.out]; simp
        rw [hx]
        exact hown6
      · exact (hb.alloc hb.size _).grown hg6 (by simp; have := hb.size; omega) (fun g hg => (HW.out.lt g hg).1)
end Go.Proofs.Ytaoddppkijopmaa
