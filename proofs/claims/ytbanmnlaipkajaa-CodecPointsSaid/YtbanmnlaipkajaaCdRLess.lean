/- Contract: the reference's order of checkpoints. -/
import Derived.Test.YtbanmnlaipkajaaCdOrdP
import Derived.Test.YtbanmnlaipkajaaCdPof
import Derived.Test.YtbanmnlaipkajaaCdKnown
import Derived.Deep.QuietTactic
import Derived.BigQuiet
namespace Go.Proofs.Ytbanmnlaipkajaa
open Go.ChangeShapes Go.WideShapes Go.ChangeAt Go.RowKit
set_option linter.unusedVariables false
set_option maxRecDepth 100000

theorem lessP_ref (e e' : Nat) (l l' : List UInt8) : lessP e l e' l' = (decide (e < e') || (e == e' && Op.bytesLess l l')) := by
  unfold lessP orI cmpN
  rw [bytesLess_cmp]
  by_cases h1 : e < e'
  · simp [h1]
  · by_cases h2 : e' < e
    · have : (e == e') = false := by simp; omega
      simp [h1, h2, this]
    · have : (e == e') = true := by simp; omega
      simp [h1, h2, this]
set_option maxHeartbeats 4000000 in
theorem refPointLess_c (e e' : Nat) (l l' : List UInt8) (w : World) (hl : l.length = 32) (hl' : l'.length = 32) :
    Calls Try.prog 20 #[.agg (ptV e l), .agg (ptV e' l')] w fun x w' => x = .returned (.bool (lessP e l e' l')) ∧ Below w.heap.size w w' := by
  obtain ⟨W, hW⟩ : ∃ W, W = (w.alloc (.cells (ptV e l) 26)).alloc (.cells (ptV e' l') 26) := ⟨_, rfl⟩
  have b0 : Below w.heap.size w W := by rw [hW]; exact ((Below.refl _ _).alloc (Nat.le_refl _) _).alloc (by simp) _
  have p0 : PtB w.heap.size e l W := by rw [hW]; exact PtB.new.alloc _
  have p1 : PtB (w.heap.size + 1) e' l' W := by
    rw [hW]
    have := PtB.new (w := w.alloc (.cells (ptV e l) 26)) (e := e') (l := l')
    rwa [heap_sz] at this
  have hsz : W.heap.size = w.heap.size + 2 := by rw [hW]; simp
  have k0 : ∀ n, (W.drewN n).cell? ⟨w.heap.size, 0, none⟩ = some (.int .u64 (e : Int)) := fun _ => p0.epoch
  have k1 : ∀ n, (W.drewN n).cell? ⟨w.heap.size + 1, 0, none⟩ = some (.int .u64 (e' : Int)) := fun _ => p1.epoch
  obtain ⟨sx, hsx⟩ : ∃ sx : ByteArray, sx = ⟨l.toArray⟩ := ⟨_, rfl⟩
  obtain ⟨sy, hsy⟩ : ∃ sy : ByteArray, sy = ⟨l'.toArray⟩ := ⟨_, rfl⟩
  have s0 : ∀ n, (convert 27 9 (.slice (some ⟨w.heap.size, 1, none⟩) 32 32)).run Try.prog (W.drewN n) = .ok (.string sx) (W.drewN n) := fun n => by
    rw [hsx]
    exact run_str (w := W.drewN n) (show Rd (W.drewN n) 0 W.heap.size _ l from p0.rd hl (Nat.zero_le _) (by omega)) 32 32 hl.symm
  have s1 : ∀ n, (convert 27 9 (.slice (some ⟨w.heap.size + 1, 1, none⟩) 32 32)).run Try.prog (W.drewN n) = .ok (.string sy) (W.drewN n) := fun n => by
    rw [hsy]
    exact run_str (w := W.drewN n) (show Rd (W.drewN n) 0 W.heap.size _ l' from p1.rd hl' (Nat.zero_le _) (by omega)) 32 32 hl'.symm
  have hlt : Op.bytesLess sx.toList sy.toList = Op.bytesLess l l' := by rw [hsx, hsy, str_toListD, str_toListD]
  have HE := Lib.hid (lessP_ref e e' l l')
  have HB := Lib.hid b0
  have HW := Lib.hid hW
  clear hW b0 p0 p1 hsz hsx hsy hl hl'
  by_cases h1 : e < e'
  · have d1 : decide ((e : Int) < (e' : Int)) = true := by simp; omega
    have d1' : decide (e < e') = true := by simpa using h1
    rw [d1', Bool.true_or] at HE
    clear h1
    go_enter Try.func20, Try.ntmps20
    go_wp2_with fail
    rw [← HW.out]
    go_quiet (fail)
    go_wp2_with fail
    go_ret
    exact ⟨by rw [HE.out]; rfl, below_drewN HB.out nq⟩
  · have d1 : decide ((e : Int) < (e' : Int)) = false := by simp; omega
    have d1' : decide (e < e') = false := by simpa using h1
    rw [d1', Bool.false_or] at HE
    by_cases h2 : e = e'
    · have d2 : ((e : Int) == (e' : Int)) = true := by simp; omega
      have d2' : (e == e') = true := by simpa using h2
      rw [d2', Bool.true_and, ← hlt] at HE
      clear h1 h2 hlt
      go_enter Try.func20, Try.ntmps20
      go_wp2_with fail
      rw [← HW.out]
      go_quiet (fail)
      go_wp2_with fail
      go_ret
      exact ⟨by rw [HE.out]; rfl, below_drewN HB.out nq⟩
    · have d2 : ((e : Int) == (e' : Int)) = false := by simp; omega
      have d2' : (e == e') = false := by simpa using h2
      rw [d2', Bool.false_and] at HE
      clear h1 h2 hlt
      go_enter Try.func20, Try.ntmps20
      go_wp2_with fail
      rw [← HW.out]
      go_quiet (fail)
      go_wp2_with fail
      go_ret
      exact ⟨by rw [HE.out]; rfl, below_drewN HB.out nq⟩
/-- What is told, of one that may be and one that may not. -/
theorem told_yes (A B : Option Addr) (n m c d lo hi lo' hi' : Nat) (l : List UInt8) (w : World) (ha : Rd w lo hi A l) (hb : Rd w lo' hi' B l) (en : n = l.length) (em : m = l.length) :
    Calls Try.prog 14 #[.slice A n c, .int .i64 0, .bool true, .bool true, .slice B m d] w fun e w' => e = .returned (.bool true) ∧ w = w' := by
  have h1 := run_str ha n c en
  have h2 := run_str hb m d em
  obtain ⟨sx, hsx⟩ : ∃ sx : ByteArray, sx = ⟨l.toArray⟩ := ⟨_, rfl⟩
  unfold strOf at h1 h2
  rw [← hsx] at h1 h2
  clear ha hb en em hsx
  go_enter Try.func14, Try.ntmps14
  go_wp2_with (go_at_call 18; refine (num_c _ _).mono ?_; rintro e w9 ⟨rfl, rfl⟩)
  go_ret
  exact ⟨rfl, rfl⟩
theorem told_no (v : Value) (w : World) :
    Calls Try.prog 14 #[.slice none 0 0, .int .i64 2, .bool false, .bool false, v] w fun e w' => e = .returned (.bool true) ∧ w = w' := by
  go_enter Try.func14, Try.ntmps14
  go_wp2_with (go_at_call 18; refine (num_c _ _).mono ?_; rintro e w9 ⟨rfl, rfl⟩)
  go_ret
  exact ⟨rfl, rfl⟩
end Go.Proofs.Ytbanmnlaipkajaa
