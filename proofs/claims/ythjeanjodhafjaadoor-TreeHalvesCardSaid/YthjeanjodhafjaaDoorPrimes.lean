/- Contract: the reference's primes. -/
import Derived.Test.YthjeanjodhafjaaDoorTimes
namespace Go.Proofs.YthjeanjodhafjaaDoor
open Go.ChangeShapes Go.WideShapes Go.ChangeAt Go.RowKit
set_option linter.unusedVariables false

theorem prTo_ge (k : Nat) : ∀ p ∈ prTo k, 2 ≤ p ∧ p ≤ k + 1 := by
  induction k with
  | zero => intro p hp; cases hp
  | succ k ih =>
    intro p hp
    rw [prTo] at hp
    split at hp
    · rcases List.mem_append.1 hp with h | h
      · have := ih p h; omega
      · obtain rfl : p = k + 2 := by simpa using h
        omega
    · have := ih p hp; omega
theorem u64_info : (Tryd.prog.info? 62).map (fun i => (i.zero, i.size, i.bytes)) = some (some (.int .u64 0), 1, 8) := by kernel_rfl
def nv (n : Nat) : Value := .int .u64 (n : Int)
/-- Is the next number a prime, as far as i of those before tell? -/
def prB (k i : Nat) : Bool := ((prTo k).take i).all (fun p => decide ((k + 2) % p ≠ 0))
theorem prB_zero (k : Nat) : prB k 0 = true := rfl
theorem prB_succ (k i : Nat) (h : i < (prTo k).length) : prB k (i + 1) = (prB k i && decide ((k + 2) % (prTo k)[i] ≠ 0)) := by
  unfold prB
  rw [List.take_succ_eq_append_getElem h, List.all_append]
  simp
theorem prTo_yes (k : Nat) (h : prB k (prTo k).length = true) : prTo (k + 1) = prTo k ++ [k + 2] := by
  unfold prB at h
  rw [List.take_length] at h
  rw [prTo, if_pos h]
theorem prTo_no (k : Nat) (h : prB k (prTo k).length = false) : prTo (k + 1) = prTo k := by
  unfold prB at h
  rw [List.take_length] at h
  rw [prTo, if_neg (by rw [h]; simp)]
theorem prTo_less (k : Nat) (h : k < 310) : (prTo k).length < 64 := by
  have := List.all_eq_true.1 primes_less k (List.mem_range.2 h)
  simpa using this
/-- An owned row's value, and its cells. -/
theorem own_slice {w : World} {base n e : Nat} {v : Value} {xs : List Value} (h : w.ownsRow base e 1 v n xs) : ∃ A c, v = .slice A n c ∧ xs.length = n ∧ (0 < n → ∃ g, A = some ⟨g, 0, none⟩ ∧ base ≤ g ∧ g < w.heap.size ∧ ∀ j, j < n → w.cell? ⟨g, j, none⟩ = xs[j]?) := by
  have hl := h.1
  rw [Nat.mul_one] at hl
  have h0 := h
  rcases h.2 with ⟨rfl, rfl⟩ | ⟨g, cap, cur, rfl, h1, _⟩
  · exact ⟨none, 0, rfl, hl, fun hn => absurd hn (by omega)⟩
  · exact ⟨_, cap, rfl, hl, fun _ => ⟨g, rfl, h1, (h0.lt g rfl).2, fun j hj => h0.cellAt j (by omega)⟩⟩
theorem one_cell8 (w : World) (t : TypeId) (v : Value) : ∀ j u, [v][j]? = some u → (w.alloc (.cells #[v] t)).cell? ((⟨w.heap.size, 0, none⟩ : Addr).add j) = some u := by
  intro j u hu
  match j, hu with
  | 0, hu =>
    injection hu with hu
    subst hu
    rw [addr_add, cell_of_row _ w.heap.size 0 _ _ (0, 0) (heap_alloc_new w _)]
    rfl
/-- The list so far. -/
def PrR (w : World) (k : Nat) (v : Value) (wr : World) : Prop := wr.ownsRow w.heap.size 62 1 v (prTo k).length ((prTo k).map nv) ∧ Below w.heap.size w wr
/-- What primes answers. -/
def PrimesP (w : World) (e : Ending) (w' : World) : Prop := ∃ g c, e = .returned (.slice (some ⟨g, 0, none⟩) 64 c) ∧ w.heap.size ≤ g ∧ g < w'.heap.size ∧ (∀ j, j < 64 → w'.cell? ⟨g, j, none⟩ = some (nv (primesL.getD j 0))) ∧ Below w.heap.size w w'

set_option maxRecDepth 100000 in
set_option maxHeartbeats 1000000 in
theorem primes_any (w : World) : Calls Tryd.prog 30 #[] w (PrimesP w) := by
  obtain ⟨j0, hj0, hy0, hy1, hy2⟩ := info_parts u64_info
  go_enter Tryd.func30, Tryd.ntmps30
  go_wp2_with fail
  go_loopw [1, 2] (fun v n wr => ∃ k : Nat, k ≤ 310 ∧ n = .int .u64 ((k : Int) + 2) ∧ PrR w k v wr) (fun _ n _ => 312 - (intOf n).toNat)
  case atStart => exact ⟨0, by omega, rfl, World.ownsRow_nil _ _ _ _, Below.refl _ _⟩
  case round =>
    obtain ⟨k, hk, rfl, ho, hb⟩ := hrel
    obtain ⟨A, c, rfl, hxl, hA⟩ := own_slice ho
    by_cases hlt : k < 310
    · have hl := prTo_less k hlt
      have HG := Lib.hid (prTo_ge k)
      have HO := Lib.hid ho
      have HA := Lib.hid hA
      clear ho hA hxl
      go_wp2_with fail
      obtain ⟨wo, rfl⟩ : ∃ wo : World, wo = wr := ⟨_, rfl⟩
      go_loopw [3, 4] (fun p i wr => ∃ j : Nat, j ≤ (prTo k).length ∧ i = .int .i64 j ∧ p = .bool (prB k j) ∧ wo = wr) (fun _ i _ => (prTo k).length - (intOf i).toNat)
      case atStart => exact ⟨0, by omega, rfl, by rw [prB_zero], rfl⟩
      case round =>
        obtain ⟨j, hj, rfl, rfl, rfl⟩ := hrel
        by_cases hlt2 : j < (prTo k).length
        · obtain ⟨g, rfl, hg1, hg2, hc⟩ := HA.out (by omega)
          have hcj := hc j hlt2
          rw [List.getElem?_map, List.getElem?_eq_getElem hlt2] at hcj
          have hge := HG.out _ (List.getElem_mem hlt2)
          have HS := Lib.hid (prB_succ k j hlt2)
          clear hc
          unfold nv at hcj
          generalize (prTo k)[j] = q at *
          have hq1 : 0 < q := by omega
          have hq2 : ((q : Int) == 0) = false := by simp; omega
          have hcq : wo.cell? ⟨g, j, none⟩ = some (.int .u64 (q : Int)) := hcj
          clear hcj
          by_cases hd : (k + 2) % q = 0
          · have d1 : (((k : Int) + 2) % (q : Int) == 0) = true := by
              rw [beq_iff_eq, show (k : Int) + 2 = ((k + 2 : Nat) : Int) by omega, ← Int.natCast_emod, hd]
              rfl
            have HP := Lib.hid (show prB k (j + 1) = false by rw [HS.out, hd]; simp)
            clear HS hd
            go_wp2_with fail
            exact ⟨⟨j + 1, by omega, by go_num, by rw [HP.out], trivial⟩, by simp [intOf]; omega⟩
          · have d1 : (((k : Int) + 2) % (q : Int) == 0) = false := by
              rw [beq_eq_false_iff_ne, show (k : Int) + 2 = ((k + 2 : Nat) : Int) by omega, ← Int.natCast_emod]
              omega
            have HP := Lib.hid (show prB k (j + 1) = prB k j by rw [HS.out]; simp [hd])
            clear HS hd
            go_wp2_with fail
            exact ⟨⟨j + 1, by omega, by go_num, by rw [HP.out], trivial⟩, by simp [intOf]; omega⟩
        · obtain rfl : j = (prTo k).length := by omega
          rcases hp : prB k (prTo k).length with _ | _
          · have HP := Lib.hid (prTo_no k hp)
            clear hp
            go_wp2_with fail
            exact ⟨⟨k + 1, by omega, by go_num, by unfold PrR; rw [HP.out]; exact ⟨HO.out, hb⟩⟩, by simp [intOf]; omega⟩
          · have HP := Lib.hid (prTo_yes k hp)
            have HW := Lib.hid (HO.out.alloc (.cells #[.int .u64 ((k : Int) + 2)] 62))
            have HC := Lib.hid (one_cell8 wo 62 (.int .u64 ((k : Int) + 2)))
            clear hp
            go_wp2_with (at_builtin; refine wpList_append_own _ rfl (.tmp 24) (.tmp 26) _ rfl w.heap.size 62 j0 (.int .u64 0) 1 8 Tryd.underlying59 hj0 hy0 hy1 hy2 rfl (by decide) _ (prTo k).length ((prTo k).map nv) rfl HW.out ⟨wo.heap.size, 0, none⟩ 1 1 [.int .u64 ((k : Int) + 2)] rfl rfl HC.out (fun u hu => by simp at hu; subst hu; rfl) (by simp only [maxLen]; omega) (by omega) (by simp; have := hb.size; omega) ?_; intro v6 w6 hown6 hg6 _)
            refine ⟨⟨k + 1, by omega, by go_num, ?_, ?_⟩, by simp [intOf]; omega⟩
            · rw [HP.out, List.length_append, List.map_append]
              exact hown6
            · exact (hb.alloc hb.size _).grown hg6 (by simp; have := hb.size; omega) (fun g hg => (HW.out.lt g hg).1)
    · obtain rfl : k = 310 := by omega
      have hl : (prTo 310).length = 64 := primes_len
      have HP := Lib.hid (show prTo 310 = primesL from rfl)
      obtain ⟨g, rfl, hg1, hg2, hc⟩ := hA (by omega)
      have HC := Lib.hid hc
      rw [hl] at *
      clear hc hA ho
      go_wp2_with fail
      go_ret
      refine ⟨g, c, rfl, hg1, hg2, fun j hj => ?_, hb⟩
      rw [HC.out j hj, HP.out, List.getElem?_map, List.getElem?_eq_getElem (by rw [primes_len]; exact hj), List.getD_eq_getElem?_getD, List.getElem?_eq_getElem (by rw [primes_len]; exact hj)]
      rfl
end Go.Proofs.YthjeanjodhafjaaDoor
