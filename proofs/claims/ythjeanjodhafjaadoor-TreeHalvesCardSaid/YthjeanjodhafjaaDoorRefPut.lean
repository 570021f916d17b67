/- Contracts: the reference's Put, rot, followed. -/
import Derived.Test.YthjeanjodhafjaaDoorRefWords
import Derived.Test.YthjeanjodhafjaaDoorZeros
namespace Go.Proofs.YthjeanjodhafjaaDoor
open Go.ChangeShapes Go.WideShapes Go.ChangeAt Go.RowKit
set_option linter.unusedVariables false

/-- A number's field. -/
def bes (n size : Nat) : List UInt8 := (List.range size).map fun j => byteAt n (size - 1 - j)
theorem bes_length (n size : Nat) : (bes n size).length = size := by simp [bes]
theorem bes8 (n : Nat) : bes n 8 = be8 n := rfl
theorem bes4 (n : Nat) : bes n 4 = be4 n := rfl
theorem bes_take (n size k : Nat) (h : k < size) : (bes n size).take (size - k) = (bes n size).take (size - (k + 1)) ++ [byteAt n k] := by
  rw [show size - k = (size - (k + 1)) + 1 by omega, List.take_succ_eq_append_getElem (by rw [bes_length]; omega)]
  congr 1
  simp only [bes, List.getElem_map, List.getElem_range]
  rw [show size - 1 - (size - (k + 1)) = k by omega]
theorem sub_up (s k : Nat) (h : k + 1 ≤ s) : s - k = s - (k + 1) + 1 := by omega
theorem grown_of_below {a b : World} (h : Below a.heap.size a b) (row : Option Nat) : a.grownBy b row := ⟨h.os, h.tape, h.output, h.size, fun i hi _ => h.block i hi⟩
/-- What Put answers. -/
def PutP (l : List UInt8) (w : World) (e : Ending) (w' : World) : Prop := ∃ A c, e = .returned (.slice A l.length c) ∧ w'.ownsRow w.heap.size 5 1 (.slice A l.length c) l.length (l.map bv) ∧ Below w.heap.size w w'

set_option maxRecDepth 100000 in
set_option maxHeartbeats 1000000 in
theorem refPut_any (n size : Nat) (w : World) (hn : n < 18446744073709551616) (hs : size ≤ 8) :
    Calls Tryd.prog 35 #[.int .u64 (n : Int), .int .i64 (size : Int)] w (PutP (bes n size) w) := by
  obtain ⟨j0, hj0, hy0, hy1, hy2⟩ := info_parts byte_info
  go_enter Tryd.func35, Tryd.ntmps35
  go_wp2_with fail
  go_loopw [5, 6] (fun v i wr => ∃ k : Nat, k ≤ size ∧ i = .int .i64 ((k : Int) - 1) ∧ wr.ownsRow w.heap.size 5 1 v (size - k) (((bes n size).take (size - k)).map bv) ∧ Below w.heap.size w wr) (fun _ i _ => (intOf i + 1).toNat)
  case atStart => exact ⟨size, by omega, rfl, by rw [Nat.sub_self]; exact World.ownsRow_nil _ _ _ _, Below.refl _ _⟩
  case round =>
    obtain ⟨k, hk, rfl, ho, hb⟩ := hrel
    obtain ⟨A, c, rfl, _, _⟩ := own_slice ho
    rcases k with _ | k
    · have HO := Lib.hid ho
      clear ho
      go_wp2_with fail
      go_ret
      refine ⟨A, c, by rw [bes_length]; rfl, ?_, hb⟩
      have := HO.out
      rw [Nat.sub_zero, List.take_of_length_le (by rw [bes_length]; omega)] at this
      rw [bes_length]
      exact this
    · rw [show ((k + 1 : Nat) : Int) - 1 = (k : Int) by omega]
      have HP := Lib.hid (power_any k wr (by omega))
      have HB := Lib.hid (show Value.int .u8 ((n / 256 ^ k % 256 : Nat) : Int) = bv (byteAt n k) from (byte_val _ _).symm)
      have HT := Lib.hid (bes_take n size k (by omega))
      have HSK := Lib.hid (sub_up size k hk)
      have hq : 0 < 256 ^ k := Nat.pow_pos (by omega)
      generalize byteAt n k = x at *
      generalize 256 ^ k = q at *
      have hq2 : ((q : Int) == 0) = false := by simp; omega
      obtain ⟨d, hd0⟩ : ∃ d, d = n / q := ⟨_, rfl⟩
      have hd1 : d < 18446744073709551616 := by rw [hd0]; exact Nat.lt_of_le_of_lt (Nat.div_le_self _ _) hn
      have hd : (n : Int) / (q : Int) = (d : Int) := by rw [hd0]; simp
      rw [← hd0] at HB
      have HW := Lib.hid (ho.alloc (.cells #[.int .u8 ((d : Int) % 256)] 5))
      have HC := Lib.hid (one_cell8 wr 5 (.int .u8 ((d : Int) % 256)))
      clear ho hd0
      go_wp2_with fail
      refine HP.out.mono ?_
      rintro e w1 ⟨rfl, rfl⟩
      go_wp2_with (at_builtin; refine wpList_append_own _ rfl (.tmp 13) (.tmp 20) _ rfl w.heap.size 5 j0 (.int .u8 0) 1 1 Tryd.underlying56 hj0 hy0 hy1 hy2 rfl (by decide) _ (size - (k + 1)) _ rfl HW.out ⟨wr.heap.size, 0, none⟩ 1 1 [.int .u8 ((d : Int) % 256)] rfl rfl HC.out (fun u hu => by simp at hu; subst hu; rfl) (by simp only [maxLen]; omega) (by omega) (by simp; have := hb.size; omega) ?_; intro v6 w6 hown6 hg6 _)
      refine ⟨⟨k, by omega, rfl, ?_, ?_⟩, by simp [intOf]⟩
      · rw [HT.out, List.map_append, HSK.out]
        have hx : [x].map bv = [.int .u8 ((d : Int) % 256)] := by rw [List.map_cons, ← HB.out]; simp
        rw [hx]
        exact hown6
      · exact (hb.alloc hb.size _).grown hg6 (by simp; have := hb.size; omega) (fun g hg => (HW.out.lt g hg).1)

theorem rot_eq (x n : Nat) (hx : x < 4294967296) (h2 : n ≤ 31) : ((x : Int) / 2 ^ n + (x : Int) * 2 ^ (32 - n) % 4294967296) % 4294967296 = ((rotr x n : Nat) : Int) := by
  have h := rotr_lt hx (n := n) (by omega)
  unfold rotr at h ⊢
  have e1 : ((2 ^ n : Nat) : Int) = (2 : Int) ^ n := by simp
  have e2 : ((2 ^ (32 - n) : Nat) : Int) = (2 : Int) ^ (32 - n) := by simp
  rw [← e1, ← e2]
  generalize 2 ^ n = a at *
  generalize 2 ^ (32 - n) = b at *
  rw [← Int.natCast_mul, ← Int.natCast_ediv]
  generalize x * b = m at *
  generalize x / a = y at *
  omega
theorem rot_any (x n : Nat) (w : World) (hx : x < 4294967296) (h1 : 1 ≤ n) (h2 : n ≤ 31) :
    Calls Tryd.prog 34 #[.int .u32 (x : Int), .int .u64 (n : Int)] w fun e w' => e = .returned (rv (rotr x n)) ∧ w = w' := by
  have HR := Lib.hid (rot_eq x n hx h2)
  go_enter Tryd.func34, Tryd.ntmps34
  go_wp2
  go_ret
  exact ⟨ret_rv HR.out, rfl⟩

theorem tail_zeros (n : Nat) : (119 - n % 64) % 64 = 63 - (n + 8) % 64 := by omega
theorem tail_split (l : List UInt8) : l ++ tailL l.length = l ++ [128] ++ List.replicate ((119 - l.length % 64) % 64) 0 ++ be8 (8 * l.length) := by
  rw [tail_zeros]
  unfold tailL
  simp
/-- What followed answers. -/
def OwnP (l : List UInt8) (w : World) (e : Ending) (w' : World) : Prop := ∃ A c, e = .returned (.slice A l.length c) ∧ w'.ownsRow w.heap.size 5 1 (.slice A l.length c) l.length (l.map bv) ∧ Below w.heap.size w w'

set_option maxRecDepth 100000 in
set_option maxHeartbeats 1000000 in
theorem followed_any (A : Option Addr) (c lo : Nat) (l : List UInt8) (w : World) (h : Rd w lo w.heap.size A l) (hl : l.length < 1000000000) :
    Calls Tryd.prog 32 #[.slice A l.length c] w (OwnP (l ++ tailL l.length) w) := by
  obtain ⟨j0, hj0, hy0, hy1, hy2⟩ := info_parts byte_info
  have HTS := Lib.hid (tail_split l)
  obtain ⟨z, hz0⟩ : ∃ z, z = (119 - l.length % 64) % 64 := ⟨_, rfl⟩
  have hz1 : z < 64 := by omega
  have hz : (119 - (l.length : Int)) % 64 = (z : Int) := by omega
  rw [← hz0] at HTS
  clear hz0
  go_enter Tryd.func32, Tryd.ntmps32
  go_wp2_with (first | (at_builtin; refine wpList_append_rd _ rfl (.const (.slice none 0 0)) (.tmp 10) _ rfl w.heap.size 5 j0 (.int .u8 0) Tryd.underlying56 hj0 hy0 hy1 hy2 rfl _ 0 [] rfl (World.ownsRow_nil _ _ _ _) lo w.heap.size A c l rfl h (by omega) (Nat.le_refl _) ?_; intro v1 w1 hown1 hg1 _; obtain ⟨A1, c1, rfl, _, _⟩ := own_slice hown1; simp only [Nat.zero_add, List.nil_append] at hown1; have HW1 := Lib.hid (hown1.alloc (.cells #[.int .u8 128] 5)); have hgs1 := hg1.size; clear hown1) | (at_builtin; refine wpList_append_own _ rfl (.tmp 11) (.tmp 12) _ rfl w.heap.size 5 j0 (.int .u8 0) 1 1 Tryd.underlying56 hj0 hy0 hy1 hy2 rfl (by decide) _ l.length (l.map bv) rfl HW1.out ⟨w1.heap.size, 0, none⟩ 1 1 [.int .u8 128] rfl rfl (one_cell8 w1 5 (.int .u8 128)) (fun u hu => by simp at hu; subst hu; rfl) (by simp only [maxLen]; omega) (by omega) (by simp; omega) ?_; intro v2 w2 hown2 hg2 _; obtain ⟨A2, c2, rfl, _, _⟩ := own_slice hown2; have hgs2 := hg2.size) | (at_builtin; refine wpList_append_zeros _ rfl (.tmp 14) (.tmp 15) _ _ rfl w.heap.size 5 j0 (.int .u8 0) Tryd.underlying56 Tryd.underlying3 hj0 hy0 hy1 hy2 rfl rfl A2 c2 (l.length + 1) _ rfl (by omega) hown2 z rfl (by omega) (by simp at hgs2; omega) ?_; intro v3 w3 hown3 hg3; obtain ⟨A3, c3, rfl, _, _⟩ := own_slice hown3; have hgs3 := hg3.size))
  rw [show (l.length : Int) * 8 = ((8 * l.length : Nat) : Int) by omega]
  have hw0 : w.heap.size ≤ w3.heap.size := by simp at hgs2; omega
  refine (refPut_any (8 * l.length) 8 w3 (by omega) (by omega)).mono ?_
  rw [bes8]
  rintro e w4 ⟨A4, c4, rfl, hown4, hb4⟩
  have hown5 := hown3.kept (grown_of_below hb4 none) (by rcases h : Value.ownBlock _ with _ | g; exact .inl rfl; exact .inr (by simp))
  have hr4 := (Ow.of_own hown4).1.rd
  have h8 : (be8 (8 * l.length)).length = 8 := rfl
  have hs4 := hb4.size
  have HB1 : Below w.heap.size w w1 := (Below.refl _ _).grown hg1 (Nat.le_refl _) (fun g hg => by cases hg)
  have HB2 : Below w.heap.size w w2 := (HB1.alloc hgs1 (.cells #[.int .u8 128] 5)).grown hg2 (by simp; omega) (fun g hg => (HW1.out.lt g hg).1)
  have HB3 : Below w.heap.size w w3 := HB2.grown hg3 (by simp at hgs2; omega) (fun g hg => (hown2.lt g hg).1)
  have HB4 := HB3.trans (hb4.mono hw0)
  clear hown3 hown4 hown2 HW1 HB1 HB2 HB3
  go_wp2_with (at_builtin; refine wpList_append_rd _ rfl (.tmp 17) (.tmp 22) _ rfl w.heap.size 5 j0 (.int .u8 0) Tryd.underlying56 hj0 hy0 hy1 hy2 rfl _ (l.length + 1 + z) _ rfl hown5 w3.heap.size w4.heap.size A4 c4 (be8 (8 * l.length)) rfl hr4 (by rw [h8]; omega) (by omega) ?_; intro v5 w5 hown6 hg6 _; obtain ⟨A5, c5, rfl, _, _⟩ := own_slice hown6)
  have hlen : (l ++ tailL l.length).length = l.length + 1 + z + 8 := by rw [HTS.out]; simp [h8]; omega
  go_ret
  refine ⟨A5, c5, by rw [hlen]; rfl, ?_, HB4.grown hg6 (by omega) (fun g hg => (hown5.lt g hg).1)⟩
  rw [hlen, HTS.out]
  have e : (l ++ [128] ++ List.replicate z 0 ++ be8 (8 * l.length)).map bv = l.map bv ++ [Value.int .u8 128] ++ List.replicate z (Value.int .u8 0) ++ (be8 (8 * l.length)).map bv := by
    simp only [List.map_append, List.map_replicate, List.map_cons, List.map_nil]
    rfl
  rw [e]
  exact hown6
end Go.Proofs.YthjeanjodhafjaaDoor
