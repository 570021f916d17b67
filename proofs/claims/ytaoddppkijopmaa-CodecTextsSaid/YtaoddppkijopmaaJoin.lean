/- Contracts: Join and Blob. -/
import Derived.Test.YtaoddppkijopmaaKnown
namespace Go.Proofs.Ytaoddppkijopmaa
open Go.ChangeShapes Go.WideShapes Go.ChangeAt Go.RowKit
set_option linter.unusedVariables false

/-- A slice among slices: where it lies, its room, what it reads as. -/
abbrev Pc := Option Addr × Nat × List UInt8
/-- All pieces, one behind the other. -/
def flat (L : List Pc) : List UInt8 := (L.map (·.2.2)).flatten
theorem flat_take (L : List Pc) (k : Nat) (h : k < L.length) : flat (L.take (k + 1)) = flat (L.take k) ++ L[k].2.2 := by
  rw [List.take_succ_eq_append_getElem h]
  unfold flat
  rw [List.map_append, List.flatten_append]
  simp
theorem flat_le (L : List Pc) (k : Nat) : (flat (L.take k)).length ≤ (flat L).length := by
  have : flat L = flat (L.take k) ++ flat (L.drop k) := by
    unfold flat
    rw [← List.flatten_append, ← List.map_append, List.take_append_drop]
  rw [this, List.length_append]
  omega

/-- A slice of slices. -/
def RdL (w : World) (hi : Nat) (A : Option Addr) (L : List Pc) : Prop :=
  (0 < L.length → ∃ b off, A = some ⟨b, off, none⟩ ∧ b < hi ∧ ∀ j x, L[j]? = some x → w.cell? ⟨b, off + j, none⟩ = some (.slice x.1 x.2.2.length x.2.1)) ∧ ∀ x ∈ L, Rd w 0 hi x.1 x.2.2
theorem RdL.keep {w w' : World} {hi : Nat} {A : Option Addr} {L : List Pc} (h : RdL w hi A L) (hk : ∀ p : Addr, p.block < hi → w'.cell? p = w.cell? p) : RdL w' hi A L :=
  ⟨fun hn => by
    obtain ⟨b, off, e, h2, hc⟩ := h.1 hn
    exact ⟨b, off, e, h2, fun j x hx => (hk _ h2).trans (hc j x hx)⟩, fun x hx => (h.2 x hx).keep fun p _ hp => hk p hp⟩
theorem RdL.below {w w' : World} {hi B : Nat} {A : Option Addr} {L : List Pc} (h : RdL w hi A L) (hb : Below B w w') (hB : hi ≤ B) : RdL w' hi A L := h.keep fun _ hp => hb.cell (by omega)
theorem RdL.at_ {w : World} {hi : Nat} {A : Option Addr} {L : List Pc} (h : RdL w hi A L) {k : Nat} (hk : k < L.length) :
    ∃ b off, A = some ⟨b, off, none⟩ ∧ b < hi ∧ w.cell? ⟨b, off + k, none⟩ = some (.slice L[k].1 L[k].2.2.length L[k].2.1) ∧ Rd w 0 hi L[k].1 L[k].2.2 := by
  obtain ⟨b, off, e, h2, hc⟩ := h.1 (by omega)
  exact ⟨b, off, e, h2, hc k _ (List.getElem?_eq_getElem hk), h.2 _ (List.getElem_mem hk)⟩

set_option maxHeartbeats 1000000 in
theorem join_any (A : Option Addr) (c : Nat) (L : List Pc) (w : World) (h : RdL w w.heap.size A L) (hL : L.length ≤ 140737488355328) (hl : (flat L).length ≤ 140737488355328) :
    Calls Try.prog 50 #[.slice A L.length c] w (NewP w (flat L)) := by
  obtain ⟨i0, hi0, hz0, hz1, hz2⟩ := info_parts byte_info
  have hmk : ∀ u : World, (Instr.makeSlice 30 (.int .i64 0) (.int .i64 ((flat L).length : Int))).run Try.prog u = .ok (.slice (some ⟨u.heap.size, 0, none⟩) 0 (flat L).length) (u.alloc (.cells (madeCells #[.int .u8 0] (flat L).length) 5)) := fun u => by
    have h := run_make (P := Try.prog) u 30 5 i0 (.int .u8 0) Try.underlying30 hi0 hz0 .i64 .i64 0 ((flat L).length : Int) (by omega) (by omega) (by rw [hz2]; omega) (by omega)
    simpa [hz1, Value.cells] using h
  go_enter Try.func50, Try.ntmps50
  go_wp2
  go_loop [3, 11] (fun s i => ∃ k : Nat, k ≤ L.length ∧ i = .int .i64 k ∧ s = .int .i64 ((flat (L.take k)).length : Int)) (fun _ i => L.length - (intOf i).toNat)
  case atStart => exact ⟨0, Nat.zero_le _, rfl, rfl⟩
  case round =>
    obtain ⟨k, hk, rfl, rfl⟩ := hrel
    have hf := flat_le L k
    by_cases hlt : k < L.length
    · obtain ⟨b, off, rfl, _, hc, hr⟩ := h.at_ hlt
      have HT := Lib.hid (flat_take L k hlt)
      have hf1 := flat_le L (k + 1)
      have hx : L[k].2.2.length + (flat (L.take k)).length ≤ 140737488355328 := by rw [HT.out, List.length_append] at hf1; omega
      go_wp2
      refine ⟨⟨k + 1, by omega, by go_num, ?_⟩, by simp [intOf]; omega⟩
      rw [HT.out, List.length_append]
      go_num
    · obtain rfl : k = L.length := by omega
      go_wp2
      go_loopw [6, 24] (fun v i wr => ∃ k : Nat, k ≤ L.length ∧ i = .int .i64 k ∧ wr.ownsRow w.heap.size 5 1 v (flat (L.take k)).length ((flat (L.take k)).map bv) ∧ Below w.heap.size w wr) (fun _ i _ => L.length - (intOf i).toNat)
      case atStart => exact ⟨0, Nat.zero_le _, rfl, World.ownsRow_made (base := w.heap.size) (e := 5) (size := 1) w _ _ (Nat.le_refl _) (by simp only [maxLen]; omega) (by simp [madeCells]), (Below.refl _ _).alloc (Nat.le_refl _) _⟩
      case round =>
        obtain ⟨k, hk, rfl, hown, hb⟩ := hrel
        have hf := flat_le L k
        by_cases hlt : k < L.length
        · obtain ⟨b, off, rfl, _, hc, hr⟩ := (h.below hb (Nat.le_refl _)).at_ hlt
          have HT := Lib.hid (flat_take L k hlt)
          have hf1 := flat_le L (k + 1)
          have hx : (flat (L.take k)).length + L[k].2.2.length ≤ 140737488355328 := by rw [HT.out, List.length_append] at hf1; omega
          go_wp2_with (at_builtin; refine wpList_append_rd _ rfl (.tmp 28) (.tmp 29) _ rfl w.heap.size 5 i0 _ Try.underlying30 hi0 hz0 hz1 hz2 rfl u6 _ _ rfl hown 0 w.heap.size _ _ L[k].2.2 rfl hr hx hb.size ?_; intro v1 w1 hown1 hg1 hat1)
          refine ⟨⟨k + 1, by omega, by go_num, ?_, hb.grown hg1 hb.size (fun g hg => (hown.lt g hg).1)⟩, by simp [intOf]; omega⟩
          rw [HT.out, List.length_append, List.map_append]
          exact hown1
        · obtain rfl : k = L.length := by omega
          rw [List.take_length] at hown
          go_wp2
          go_ret
          obtain ⟨A', c', e, _⟩ := own_form hown
          subst e
          obtain ⟨h1, _, h3⟩ := Ow.of_own hown
          exact ⟨A', c', rfl, h3, h1, hb⟩

/-- A blob's field. -/
def blobL (l : List UInt8) : List UInt8 := putL l.length 2 ++ l

theorem blob_long (A : Option Addr) (c n : Nat) (w : World) (hn : 65535 < n) (hm : n ≤ 9223372036854775807) :
    Calls Try.prog 62 #[.slice A n c] w fun e w' => e = .returned (.tuple #[.slice none 0 0, .int .i64 3]) ∧ w = w' := by
  go_enter Try.func62, Try.ntmps62
  go_wp2
  go_ret2
  exact ⟨rfl, rfl⟩

/-- What Blob answers. -/
def BlobP (w : World) (l : List UInt8) (e : Ending) (w' : World) : Prop :=
  ∃ A c, e = .returned (.tuple #[.slice A (blobL l).length c, .int .i64 0]) ∧ (blobL l).length ≤ c ∧ Ow w' w.heap.size A (blobL l) ∧ Below w.heap.size w w'

/-- Join of two, or of one, as a call lays them. -/
theorem join2 (A1 A2 : Option Addr) (c1 c2 n1 n2 : Nat) (l1 l2 : List UInt8) (w : World) (e1 : n1 = l1.length) (e2 : n2 = l2.length) (r1 : Rd w 0 w.heap.size A1 l1) (r2 : Rd w 0 w.heap.size A2 l2) (hl : l1.length + l2.length ≤ 140737488355328) :
    Calls Try.prog 50 #[.slice (some ⟨w.heap.size, 0, none⟩) 2 2] (w.alloc (.cells #[.slice A1 n1 c1, .slice A2 n2 c2] 30)) (NewP w (l1 ++ l2)) := by
  subst e1 e2
  have hf : flat [(A1, c1, l1), (A2, c2, l2)] = l1 ++ l2 := by simp [flat]
  have hb : Below w.heap.size w (w.alloc (.cells #[.slice A1 l1.length c1, .slice A2 l2.length c2] 30)) := (Below.refl _ _).alloc (Nat.le_refl _) _
  have hh : (w.alloc (.cells #[.slice A1 l1.length c1, .slice A2 l2.length c2] 30)).heap[w.heap.size]? = some (.cells #[.slice A1 l1.length c1, .slice A2 l2.length c2] 30 (0, 0)) := heap_alloc_new w _
  have hsz : (w.alloc (.cells #[.slice A1 l1.length c1, .slice A2 l2.length c2] 30)).heap.size = w.heap.size + 1 := by simp
  have hr : RdL (w.alloc (.cells #[.slice A1 l1.length c1, .slice A2 l2.length c2] 30)) (w.alloc (.cells #[.slice A1 l1.length c1, .slice A2 l2.length c2] 30)).heap.size (some ⟨w.heap.size, 0, none⟩) [(A1, c1, l1), (A2, c2, l2)] := by
    refine ⟨fun _ => ⟨w.heap.size, 0, rfl, by omega, fun j x hx => ?_⟩, fun x hx => ?_⟩
    · rw [Nat.zero_add, cell_of_row _ w.heap.size j _ _ (0, 0) hh]
      match j, hx with
      | 0, hx => injection hx with hx; subst hx; rfl
      | 1, hx => injection hx with hx; subst hx; rfl
    · simp at hx
      rcases hx with rfl | rfl
      · exact (r1.below hb (Nat.le_refl _)).wide (Nat.le_refl _) (by omega)
      · exact (r2.below hb (Nat.le_refl _)).wide (Nat.le_refl _) (by omega)
  refine (join_any (some ⟨w.heap.size, 0, none⟩) 2 [(A1, c1, l1), (A2, c2, l2)] _ hr (by simp) (by rw [hf, List.length_append]; omega)).mono ?_
  rw [hf]
  rintro e w' ⟨A, c, he, hc, ho, hbw⟩
  exact ⟨A, c, he, hc, ho.wide (by omega), hb.trans (hbw.mono (by omega))⟩
theorem join1 (A1 : Option Addr) (c1 n1 : Nat) (l1 : List UInt8) (w : World) (e1 : n1 = l1.length) (r1 : Rd w 0 w.heap.size A1 l1) (hl : l1.length ≤ 140737488355328) :
    Calls Try.prog 50 #[.slice (some ⟨w.heap.size, 0, none⟩) 1 1] (w.alloc (.cells #[.slice A1 n1 c1] 30)) (NewP w l1) := by
  subst e1
  have hf : flat [(A1, c1, l1)] = l1 := by simp [flat]
  have hb : Below w.heap.size w (w.alloc (.cells #[.slice A1 l1.length c1] 30)) := (Below.refl _ _).alloc (Nat.le_refl _) _
  have hh : (w.alloc (.cells #[.slice A1 l1.length c1] 30)).heap[w.heap.size]? = some (.cells #[.slice A1 l1.length c1] 30 (0, 0)) := heap_alloc_new w _
  have hsz : (w.alloc (.cells #[.slice A1 l1.length c1] 30)).heap.size = w.heap.size + 1 := by simp
  have hr : RdL (w.alloc (.cells #[.slice A1 l1.length c1] 30)) (w.alloc (.cells #[.slice A1 l1.length c1] 30)).heap.size (some ⟨w.heap.size, 0, none⟩) [(A1, c1, l1)] := by
    refine ⟨fun _ => ⟨w.heap.size, 0, rfl, by omega, fun j x hx => ?_⟩, fun x hx => ?_⟩
    · rw [Nat.zero_add, cell_of_row _ w.heap.size j _ _ (0, 0) hh]
      match j, hx with
      | 0, hx => injection hx with hx; subst hx; rfl
    · simp at hx
      subst hx
      exact (r1.below hb (Nat.le_refl _)).wide (Nat.le_refl _) (by omega)
  refine (join_any (some ⟨w.heap.size, 0, none⟩) 1 [(A1, c1, l1)] _ hr (by simp) (by rw [hf]; omega)).mono ?_
  rw [hf]
  rintro e w' ⟨A, c, he, hc, ho, hbw⟩
  exact ⟨A, c, he, hc, ho.wide (by omega), hb.trans (hbw.mono (by omega))⟩

set_option maxHeartbeats 1000000 in
theorem blob_ok (A : Option Addr) (c : Nat) (l : List UInt8) (w : World) (h : Rd w 0 w.heap.size A l) (hl : l.length ≤ 65535) :
    Calls Try.prog 62 #[.slice A l.length c] w (BlobP w l) := by
  have hp : l.length < 256 ^ 2 := by omega
  go_enter Try.func62, Try.ntmps62
  go_wp2_with (first | (go_at_call 72; refine (put_ok l.length 2 _ (by omega) (by omega) (by omega) hp).mono ?_; rintro e w1 ⟨rfl, ho, hb⟩) | (go_at_call 50; refine (join2 _ _ _ _ _ _ (putL l.length 2) l _ (putL_length _ _).symm rfl (ho.rd.wide (Nat.zero_le _) (Nat.le_refl _)) ((h.below hb (Nat.le_refl _)).wide (Nat.le_refl _) hb.size) (by rw [putL_length]; omega)).mono ?_; rintro e w2 ⟨A2, c2, rfl, hc2, ho2, hb2⟩))
  go_ret2
  exact ⟨A2, c2, congrArg (fun n => Ending.returned (.tuple #[.slice A2 n c2, .int .i64 0])) (by simp [blobL]), hc2, ho2.wide hb.size, hb.trans (hb2.mono hb.size)⟩
end Go.Proofs.Ytaoddppkijopmaa
