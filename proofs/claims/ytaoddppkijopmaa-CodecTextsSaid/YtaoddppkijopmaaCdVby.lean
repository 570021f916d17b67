/- Contracts: a vote's bytes. -/
import Derived.Test.YtaoddppkijopmaaCdLink
import Derived.Test.YtaoddppkijopmaaCdRow
import Derived.Lib.SlBytesConst
namespace Go.Proofs.Ytaoddppkijopmaa
open Go.ChangeShapes Go.WideShapes Go.ChangeAt Go.RowKit
set_option linter.unusedVariables false
set_option maxRecDepth 100000

/-- A vote's bytes. -/
def vtL (n e1 : Nat) (l1 : List UInt8) (e2 : Nat) (l2 s : List UInt8) : List UInt8 := lkL n e1 l1 e2 l2 ++ blobL s
theorem blobL_length (s : List UInt8) : (blobL s).length = 2 + s.length := by simp [blobL, putL_length]

set_option maxHeartbeats 4000000 in
theorem voteRow_c (n e1 : Nat) (l1 : List UInt8) (e2 : Nat) (l2 s : List UInt8) (A : Option Addr) (c : Nat) (w : World) (hn : n < 256) (he1 : e1 < 18446744073709551616) (he2 : e2 < 18446744073709551616) (hl1 : l1.length = 32) (hl2 : l2.length = 32) (h : Rd w 0 w.heap.size A s) (hs : s.length ≤ 65535) :
    Calls Try.prog 31 #[.agg (vtV (n : Int) e1 l1 e2 l2 (.slice A s.length c))] w (NewP w (vtL n e1 l1 e2 l2 s)) := by
  obtain ⟨W, hW⟩ : ∃ W, W = w.alloc (.cells (vtV (n : Int) e1 l1 e2 l2 (.slice A s.length c)) 32) := ⟨_, rfl⟩
  have hb : Below w.heap.size w W := by rw [hW]; exact (Below.refl _ _).alloc (Nat.le_refl _) _
  have v0 : VtB w.heap.size (n : Int) e1 l1 e2 l2 (.slice A s.length c) W := by rw [hW]; exact VtB.new
  have k0 : (w.alloc (.cells (vtV (n : Int) e1 l1 e2 l2 (.slice A s.length c)) 32)).cell? ⟨w.heap.size, 67, none⟩ = some (.slice A s.length c) := VtB.new.sig
  have HC := Lib.hid (blob_ok A c s W ((h.below hb (Nat.le_refl _)).wide (Nat.le_refl _) hb.size) hs)
  have HK := Lib.hid (fun u => linkRow_c n e1 l1 e2 l2 (.slice A s.length c) u hn he1 he2 hl1 hl2)
  have HLL := Lib.hid (lkL_length n e1 l1 e2 l2 hl1 hl2)
  have HSL := Lib.hid (show (blobL s).length ≤ 65537 by rw [blobL_length]; omega)
  have HW := Lib.hid hW
  have HB := Lib.hid hb
  have V0 := Lib.hid v0
  clear hW hb v0 h hs hn he1 he2 hl1 hl2
  go_enter Try.func31, Try.ntmps31
  go_wp2_with fail
  rw [← HW.out]
  refine HC.out.mono ?_
  rintro y w1 ⟨A1, c1, rfl, hc1, o1, b1⟩
  have HB1 := Lib.hid (HB.out.trans (b1.mono HB.out.size))
  have g1 := (V0.out.below b1 V0.out.lt).row
  have O1 := Lib.hid o1
  have S1 := Lib.hid HB1.out.size
  clear b1 o1 k0 HC V0
  go_wp2_with (refine wpList_load_row rfl 32 (.tmp 1) rfl w.heap.size rfl 32 (vtV (n : Int) e1 l1 e2 l2 (.slice A s.length c)) (0, 0) _ g1 Try.underlying32 rfl (size_vtV _ _ _ _ _ _) ?_)
  refine (HK.out _).mono ?_
  rintro y w2 ⟨A2, c2, rfl, hc2, o2, b2⟩
  have HJ := Lib.hid (join2 A2 A1 c2 c1 (lkL n e1 l1 e2 l2).length (blobL s).length (lkL n e1 l1 e2 l2) (blobL s) w2 rfl rfl (o2.rd.wide (Nat.zero_le _) (Nat.le_refl _)) ((O1.out.below b2 (Nat.le_refl _)).rd.wide (Nat.zero_le _) (Nat.le_refl _)) (by have := HLL.out; have := HSL.out; omega))
  have HB2 := Lib.hid (HB1.out.trans (b2.mono HB1.out.size))
  clear b2 o2 g1 hc1 hc2
  go_wp2_with fail
  refine HJ.out.mono ?_
  rintro y w3 ⟨A3, c3, rfl, hc3, o3, b3⟩
  go_wp2_with fail
  go_ret
  exact ⟨A3, c3, congrArg (fun m => Ending.returned (.slice A3 m c3)) (by rw [vtL, List.length_append]), hc3, o3.wide HB2.out.size, HB2.out.trans (b3.mono HB2.out.size)⟩
theorem voteBytes_ok (n e1 : Nat) (l1 : List UInt8) (e2 : Nat) (l2 s : List UInt8) (A : Option Addr) (c : Nat) (w : World) (hm : mayVt (n : Int) e1 e2 s.length = true) (hl1 : l1.length = 32) (hl2 : l2.length = 32) (h : Rd w 0 w.heap.size A s) :
    Calls Try.prog 13 #[.agg (vtV (n : Int) e1 l1 e2 l2 (.slice A s.length c))] w (RowP w (vtL n e1 l1 e2 l2 s)) := by
  have hq : n < 256 ∧ e1 < 18446744073709551616 ∧ e2 < 18446744073709551616 ∧ s.length ≤ 4096 := by
    unfold mayVt mayVal mayEp at hm
    simp only [Bool.and_eq_true, decide_eq_true_eq] at hm
    omega
  have b0 : Below w.heap.size w (w.alloc (.cells (vtV (n : Int) e1 l1 e2 l2 (.slice A s.length c)) 32)) := (Below.refl _ _).alloc (Nat.le_refl _) _
  have HC := Lib.hid (rowOf_vote_ok (vtV (n : Int) e1 l1 e2 l2 (.slice A s.length c)) (size_vtV _ _ _ _ _ _) 30 31 (enters_of Try.func30 (by kernel_rfl) rfl) (enters_of Try.func31 (by kernel_rfl) rfl) (vtL n e1 l1 e2 l2 s) (w.alloc (.cells (vtV (n : Int) e1 l1 e2 l2 (.slice A s.length c)) 32))
    (fun u _ => by have h := mayVote_c (n : Int) e1 l1 e2 l2 A s.length c u; rwa [hm] at h) (fun u hu => voteRow_c n e1 l1 e2 l2 s A c u hq.1 hq.2.1 hq.2.2.1 hl1 hl2 ((h.below (b0.trans (hu.mono b0.size)) (Nat.le_refl _)).wide (Nat.le_refl _) (Nat.le_trans b0.size hu.size)) (by omega)))
  clear hm hq hl1 hl2 h
  go_enter Try.func13, Try.ntmps13
  go_wp2_with (first | (refine wpList_load_row rfl 32 (.tmp 1) rfl w.heap.size rfl 32 (vtV (n : Int) e1 l1 e2 l2 (.slice A s.length c)) (0, 0) _ (heap_alloc_new w _) Try.underlying32 rfl (size_vtV _ _ _ _ _ _) ?_) | (go_at_call 29; refine HC.out.mono ?_; rintro x w1 ⟨A1, c1, rfl, hc, ho, b1⟩))
  go_ret2
  exact ⟨A1, c1, rfl, hc, ho.wide b0.size, b0.trans (b1.mono b0.size)⟩

end Go.Proofs.Ytaoddppkijopmaa
