/- Contracts: the reference's Join and Blob. -/
import Derived.Test.YtaoddppkijopmaaJoin
import Derived.Test.YtaoddppkijopmaaSeen
import Derived.Test.YtaoddppkijopmaaCdRPut
import Derived.Laws.Concat
import Derived.Laws.IdiomStrings
import Derived.IntWalk
namespace Go.Proofs.Ytaoddppkijopmaa
open Go.ChangeShapes Go.WideShapes Go.ChangeAt Go.RowKit
set_option linter.unusedVariables false
set_option maxRecDepth 100000

/-- What Join answers: a slice of its own that reads as all pieces. -/
def JoinP (l : List UInt8) (w : World) (e : Ending) (w' : World) : Prop := ∃ A c, e = .returned (.slice A l.length c) ∧ l.length ≤ c ∧ (∃ g, A = some ⟨g, 0, none⟩) ∧ Rd w' w.heap.size w'.heap.size A l ∧ Below w.heap.size w w'

set_option maxRecDepth 100000 in
set_option maxHeartbeats 1000000 in
theorem refJoin_any (A : Option Addr) (c : Nat) (L : List Pc) (w : World) (h : RdL w w.heap.size A L) (hL : L.length ≤ 9223372036854775807) (hl : (flat L).length ≤ 8388608) :
    Calls Try.prog 37 #[.slice A L.length c] w (JoinP (flat L) w) := by
  go_enter Try.func37, Try.ntmps37
  go_wp2_with fail
  go_loop [3, 4] (fun s i => ∃ k : Nat, k ≤ L.length ∧ i = .int .i64 k ∧ s = .string ⟨(flat (L.take k)).toArray⟩) (fun _ i => L.length - (intOf i).toNat)
  case atStart => exact ⟨0, by omega, rfl, rfl⟩
  case round =>
    obtain ⟨k, hk, rfl, rfl⟩ := hrel
    by_cases hlt : k < L.length
    · obtain ⟨b, off, rfl, hb, hc, hr⟩ := h.at_ hlt
      have HS := Lib.hid (flat_take L k hlt)
      have h1 := flat_le L k
      have h2 := flat_le L (k + 1)
      rw [HS.out, List.length_append] at h2
      have kc := run_str (A := L[k].1) (l := L[k].2.2) hr L[k].2.2.length L[k].2.1 rfl
      have ka := fun u => run_string_add_lists (P := Try.prog) (w := u) (flat (L.take k)) L[k].2.2 (by omega) (by omega)
      unfold strOf at kc
      rw [← HS.out] at ka
      go_wp2_with fail
      exact ⟨⟨k + 1, by omega, by go_num, rfl⟩, by simp [intOf]; omega⟩
    · obtain rfl : k = L.length := by omega
      rw [List.take_length]
      have kb := run_bytes_of_string (P := Try.prog) w 9 30 5 ⟨(flat L).toArray⟩ Try.underlying9 Try.underlying30 Try.underlying5
      have hz : (ByteArray.mk (flat L).toArray).size = (flat L).length := by simp [ByteArray.size]
      rw [hz] at kb
      have hge := grownCap_ge w (flat L).length 0 5
      have HRD : Hid (Rd (w.drew.alloc (.cells (bytesRow ⟨(flat L).toArray⟩ (grownCap w (flat L).length 0 5)) 5 ((bytesRow ⟨(flat L).toArray⟩ (grownCap w (flat L).length 0 5)).size, (bytesRow ⟨(flat L).toArray⟩ (grownCap w (flat L).length 0 5)).size + 1))) w.heap.size (w.heap.size + 1) (some ⟨w.heap.size, 0, none⟩) (flat L)) := by
        intro _
        refine ⟨w.heap.size, 0, rfl, Nat.le_refl _, by omega, fun j x hx => ?_⟩
        rw [Nat.zero_add, cell_of_row _ w.heap.size j _ _ _ (heap_alloc_new w.drew _)]
        have hj : j < (flat L).length := by
          rcases Nat.lt_or_ge j (flat L).length with h | h
          · exact h
          · rw [List.getElem?_eq_none h] at hx; cases hx
        rw [bytesRow_at ⟨(flat L).toArray⟩ _ j (by simpa using hj)]
        rw [List.getElem?_eq_getElem hj] at hx
        injection hx with hx
        rw [← hx]
        rfl
      clear hz
      generalize grownCap w (flat L).length 0 5 = cp at *
      generalize bytesRow ⟨(flat L).toArray⟩ cp = BR at *
      generalize flat L = F at *
      go_wp2_with fail
      go_ret
      exact ⟨_, cp, rfl, hge, ⟨_, rfl⟩, by simp; exact HRD.out, (Below.refl _ _).drew.alloc (Nat.le_refl _) _⟩

theorem two_bytes (k : Nat) (hk : k < 65536) : [UInt8.ofNat (k / 256), UInt8.ofNat (k % 256)] = putL k 2 := by
  have h1 : (UInt8.ofNat (k % 256)) = UInt8.ofNat k := by
    apply UInt8.toNat_inj.1
    rw [UInt8.toNat_ofNat', UInt8.toNat_ofNat']
    omega
  unfold putL
  rw [h1]
  simp [List.range_succ]
set_option maxHeartbeats 2000000 in
theorem refBlob_c (A : Option Addr) (c lo : Nat) (s : List UInt8) (w : World) (h : Rd w lo w.heap.size A s) (hs : s.length ≤ 65535) :
    Calls Try.prog 70 #[.slice A s.length c] w (NewP w (blobL s)) := by
  obtain ⟨j0, hj0, hy0, hy1, hy2⟩ := info_parts byte_info
  have hx : (putL s.length 2).map bv = [.int .u8 ((s.length : Int) / 256), .int .u8 ((s.length : Int) % 256)] := by
    rw [← two_bytes s.length (by omega)]
    simp only [List.map_cons, List.map_nil, bv, UInt8.toNat_ofNat']
    rw [Nat.mod_eq_of_lt (show s.length / 256 < 2 ^ 8 by omega), Nat.mod_eq_of_lt (show s.length % 256 < 2 ^ 8 by omega)]
    simp
  have hw : IntKind.i64.wrap ((s.length : Int) / 256) = (s.length : Int) / 256 := IntWalk.i64_in _ (by omega)
  have hw2 : wrap64 ((s.length : Int) / 256) = (s.length : Int) / 256 := by unfold wrap64; omega
  have hw3 : ((s.length : Int) / 256) % 256 = (s.length : Int) / 256 := by omega
  have HX := Lib.hid hx
  have HO : Hid ((w.alloc (.cells #[.int .u8 ((s.length : Int) / 256), .int .u8 ((s.length : Int) % 256)] 5)).ownsRow w.heap.size 5 1 (.slice (some ⟨w.heap.size, 0, none⟩) 2 2) 2 [.int .u8 ((s.length : Int) / 256), .int .u8 ((s.length : Int) % 256)]) :=
    ⟨rfl, .inr ⟨w.heap.size, 2, _, rfl, Nat.le_refl _, heap_alloc_new _ _, by omega, by simp [maxLen], rfl, rfl⟩⟩
  have HR := Lib.hid (h.alloc (Nat.le_refl _) (.cells #[.int .u8 ((s.length : Int) / 256), .int .u8 ((s.length : Int) % 256)] 5))
  have hbn : Below w.heap.size w (w.alloc (.cells #[.int .u8 ((s.length : Int) / 256), .int .u8 ((s.length : Int) % 256)] 5)) := (Below.refl _ _).alloc (Nat.le_refl _) _
  have HB := Lib.hid hbn
  have HL := Lib.hid hs
  clear hx h hbn hs
  go_enter Try.func70, Try.ntmps70
  go_wp2_with (at_builtin; refine wpList_append_rd _ rfl (.tmp 13) (.tmp 14) _ rfl w.heap.size 5 j0 _ Try.underlying30 hj0 hy0 hy1 hy2 rfl _ 2 _ rfl HO.out lo w.heap.size _ _ s rfl HR.out (by have := HL.out; omega) HB.out.size ?_; intro v2 w2 o2 g2 hat2)
  go_ret
  obtain ⟨A2, c2, e2, _⟩ := own_form o2
  subst e2
  have o3 : w2.ownsRow w.heap.size 5 1 (.slice A2 (2 + s.length) c2) (2 + s.length) ((blobL s).map bv) := by
    unfold blobL
    rw [List.map_append, HX.out]
    exact o2
  obtain ⟨h1, _, h3⟩ := Ow.of_own o3
  have hlen : (blobL s).length = 2 + s.length := by simp [blobL, putL_length]
  exact ⟨A2, c2, congrArg (fun n => Ending.returned (.slice A2 n c2)) hlen.symm, by omega, h1, HB.out.grown g2 HB.out.size (fun g hg => (HO.out.lt g hg).1)⟩
end Go.Proofs.Ytaoddppkijopmaa
