/- Contracts: a file's copy; how many of its bytes are loose; the picks, one by one. -/
import Derived.Test.YtcemfpbkaahcmaaRead
namespace Go.Proofs.Ytcemfpbkaahcmaa
open Go.RowKit Go.Shelf
set_option linter.unusedVariables false

section
variable {w : World}
/-- A new file, which has these bytes, of which so many last. -/
def CopyP (w : World) (l : List UInt8) (n : Nat) (e : Ending) (w' : World) : Prop :=
  ∃ k A c, e = .returned (.pointer (some ⟨k, 0, none⟩)) ∧ w.heap.size ≤ k ∧ w'.heap[k]? = some (.cells (fileV (.slice A l.length c) n) 71 (0, 0)) ∧ l.length ≤ c ∧
    w'.ownsRow w.heap.size 5 1 (.slice A l.length c) l.length (l.map bv) ∧ Below w.heap.size w w'
set_option maxHeartbeats 1000000 in
theorem copy_any {k n c : Nat} {A : Option Addr} {l : List UInt8} {base : Nat} (hb : w.heap[k]? = some (.cells (fileV (.slice A l.length c) n) 71 (0, 0))) (hr : w.ownsRow base 5 1 (.slice A l.length c) l.length (l.map bv)) (hl : l.length ≤ 140737488355328) :
    Calls Try.prog 38 #[.pointer (some ⟨k, 0, none⟩)] w (CopyP w l n) := by
  have hkl := lt_of_block hb
  have HC := Lib.hid (fun (u : World) (hu : u.heap[k]? = w.heap[k]?) => file_cells (hu.trans hb))
  have k0 := HC.out w.drew rfl
  have hrd : w.drew.ownsRow base 5 1 (.slice A l.length c) l.length (l.map bv) := hr
  have HCL := Lib.hid (clone_bytes A c l w.drew (own_rd hrd) hl)
  clear hb hr hrd
  go_enter Try.func38, Try.ntmps38
  go_wp2_with fail
  go_region_held3 (fun u => u.cell? ⟨k, 0, none⟩ = some (.slice A l.length c) ∧ u.cell? ⟨k, 1, none⟩ = some (.int .i64 (n : Int))) (first | exact k0 | exact k1 | exact k2)
    (first | (go_at_call 57; refine HCL.out.mono ?_; rintro e w1 ⟨A1, c1, rfl, hc1, hown1, hb1⟩; have HO := Lib.hid hown1; have HW := Lib.hid hb1; have k1 := HC.out w1 (hb1.block k hkl); have k2 := HC.out (w1.alloc (.cells #[.slice A1 l.length c1, .int .i64 (n : Int)] 71)) ((Below.heap_alloc _ _ k (Nat.lt_of_lt_of_le hkl hb1.size)).trans (hb1.block k hkl)); clear hown1 hb1))
  go_wp2
  go_ret
  refine ⟨w1.heap.size, A1, c1, rfl, HW.out.size, heap_alloc_new _ _, hc1, ?_, ?_⟩
  · have h1 : w1.ownsRow w.heap.size 5 1 (.slice A1 l.length c1) l.length (l.map bv) := HO.out
    exact h1.alloc _
  · have h1 : Below w.heap.size w w1 := ⟨HW.out.os, HW.out.tape, HW.out.output, HW.out.size, HW.out.block⟩
    exact h1.alloc HW.out.size _

theorem loose_any {k n l c : Nat} {A : Option Addr} (hb : w.heap[k]? = some (.cells (fileV (.slice A l c) n) 71 (0, 0))) (hn : n ≤ l) (hl : l ≤ 140737488355328) :
    Calls Try.prog 39 #[.pointer (some ⟨k, 0, none⟩)] w fun e w' => e = .returned (.int .i64 ((l : Int) - (n : Int))) ∧ w' = w.drew := by
  obtain ⟨c0, c1⟩ := file_cells hb
  clear hb
  go_enter Try.func39, Try.ntmps39
  go_wp2
  go_region
  all_goals
    go_wp2
    go_ret
    exact ⟨rfl, rfl⟩

/-- A slice reads as these numbers, from a block below hi. -/
def RdI (w : World) (hi : Nat) (A : Option Addr) (l : List Int) : Prop :=
  0 < l.length → ∃ b off, A = some ⟨b, off, none⟩ ∧ b < hi ∧ ∀ j x, l[j]? = some x → w.cell? ⟨b, off + j, none⟩ = some (.int .i64 x)
theorem RdI.keep {w' : World} {hi : Nat} {A : Option Addr} {l : List Int} (h : RdI w hi A l) (hk : ∀ p : Addr, p.block < hi → w'.cell? p = w.cell? p) : RdI w' hi A l := fun hn => by
  obtain ⟨b, off, e, h2, hc⟩ := h hn
  exact ⟨b, off, e, h2, fun j x hx => (hk _ h2).trans (hc j x hx)⟩
theorem RdI.below {w' : World} {hi B : Nat} {A : Option Addr} {l : List Int} (h : RdI w hi A l) (hb : Below B w w') (hB : hi ≤ B) : RdI w' hi A l := h.keep fun _ hp => hb.cell (by omega)
/-- The picks that are left, in their variable. -/
def PicksAt (w : World) (hi pb : Nat) (ps : List Int) : Prop :=
  ∃ A c, w.heap[pb]? = some (.cells #[.slice A ps.length c] 23 (0, 0)) ∧ ps.length ≤ c ∧ c ≤ maxLen ∧ RdI w hi A ps
theorem PicksAt.kept {w' : World} {hi pb : Nat} {ps : List Int} {row : Option Nat} (h : PicksAt w hi pb ps) (hg : w.grownBy w' row) (h1 : row ≠ some pb) (h2 : ∀ g, row = some g → hi ≤ g) (hh : hi ≤ w.heap.size) : PicksAt w' hi pb ps := by
  obtain ⟨A, c, hb, hc, hm, hr⟩ := h
  exact ⟨A, c, (hg.block pb (lt_of_block hb) (fun e => h1 e.symm)).trans hb, hc, hm, hr.keep (fun q hq => World.cell?_of_block (hg.block q.block (by omega) (fun e => by have := h2 _ e.symm; omega)))⟩
theorem PicksAt.lt {hi pb : Nat} {ps : List Int} (h : PicksAt w hi pb ps) : pb < w.heap.size := by
  obtain ⟨A, c, hb, _⟩ := h
  exact lt_of_block hb
/-- The picks' variable is written, and no other. -/
def NextQ (w : World) (hi pb : Nat) (ps : List Int) (w' : World) : Prop := w.grownBy w' (some pb) ∧ PicksAt w' hi pb ps.tail
set_option maxHeartbeats 1000000 in
theorem next_any {hi pb : Nat} {ps : List Int} (h : PicksAt w hi pb ps) (hpb : hi ≤ pb) :
    Calls Try.prog 34 #[.pointer (some ⟨pb, 0, none⟩)] w fun e w' => e = .returned (.int .i64 (pickOf ps)) ∧ NextQ w hi pb ps w' := by
  obtain ⟨A, c, hb, hc, hm, hr⟩ := h
  unfold maxLen at hm
  have cb := cell_of_one hb
  have fb := free_of_one hb
  cases ps with
  | nil =>
    have HQ : Hid (NextQ w hi pb [] w) := ⟨World.grownBy.refl _ _, A, c, hb, hc, by unfold maxLen; omega, hr⟩
    clear hb hr
    simp only [List.length_nil] at cb
    go_enter Try.func34, Try.ntmps34
    go_wp2
    go_ret
    exact ⟨rfl, HQ.out⟩
  | cons x r =>
    obtain ⟨b, off, rfl, h2, hcell⟩ := hr (by simp)
    have hx : w.cell? ⟨b, off, none⟩ = some (.int .i64 x) := by simpa using hcell 0 x rfl
    have hlen : ((x :: r).length : Int) ≤ 9223372036854775807 := by omega
    have hl1 : 1 ≤ c := by simp at hc; omega
    have HQ : ∀ A', (0 < r.length → A' = some ⟨b, off + 1, none⟩) → Hid (NextQ w hi pb (x :: r) (w.setCell ⟨pb, 0, none⟩ (.slice A' r.length (c - 1)))) := fun A' hA => by
      refine ⟨grown_set _ _ _, A', c - 1, one_setCell hb, by simp at hc ⊢; omega, by unfold maxLen; omega, fun hn => ?_⟩
      refine ⟨b, off + 1, hA hn, h2, fun j y hy => ?_⟩
      rw [World.cell?_setCell_other w ⟨pb, 0, none⟩ ⟨b, off + 1 + j, none⟩ _ (fun e => by injection e; omega)]
      have := hcell (j + 1) y (by simpa using hy)
      rw [show off + 1 + j = off + (j + 1) by omega]
      exact this
    have HQQ := Lib.hid HQ
    clear hb hr hcell HQ
    by_cases hc1 : c = 1
    · subst hc1
      have hr0 : r = [] := by
        cases r with
        | nil => rfl
        | cons y t => simp at hc
      subst hr0
      simp only [List.length_cons, List.length_nil, Nat.zero_add] at cb hlen
      go_enter Try.func34, Try.ntmps34
      go_wp2
      go_ret
      exact ⟨rfl, (HQQ.out _ (fun h => by simp at h)).out⟩
    · have hc2 : (1 : Int) < (c : Int) := by omega
      have e1 : (x :: r).length = r.length + 1 := rfl
      rw [e1] at cb hlen hc
      have HQ2 := Lib.hid (HQQ.out (some ⟨b, off + 1, none⟩) (fun _ => rfl))
      obtain ⟨n, hn⟩ : ∃ n, n = r.length + 1 := ⟨_, rfl⟩
      rw [← hn] at cb hlen hc
      have HN := Lib.hid hn
      have q : ((n : Int) == 0) = false := by simp; omega
      have hn1 : (1 : Int) ≤ (n : Int) := by omega
      have hncc : (n : Int) ≤ (c : Int) := by omega
      have HP : Hid (pickOf (x :: r) = max x 0) := rfl
      obtain ⟨y, hy⟩ : ∃ y, y = pickOf (x :: r) := ⟨_, rfl⟩
      rw [← hy] at HP ⊢
      clear e1 hl1 hn hy HQQ
      go_enter Try.func34, Try.ntmps34
      go_wp2
      go_ret
      have e2 : n - 1 = r.length := by have := HN.out; omega
      rw [e2]
      exact ⟨by rw [HP.out]; rfl, HQ2.out.out⟩
end
end Go.Proofs.Ytcemfpbkaahcmaa
