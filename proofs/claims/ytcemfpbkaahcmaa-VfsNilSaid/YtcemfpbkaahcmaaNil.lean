/- Contracts: calls of a disk that is not there. -/
import Derived.Test.YtcemfpbkaahcmaaSteps
namespace Go.Proofs.Ytcemfpbkaahcmaa
open Go.RowKit Go.Shelf
set_option linter.unusedVariables false

section
variable {w : World} {v : Value}
/-- Here and later there is no disk. -/
def NoneAt (w : World) (v : Value) : Prop := ∀ u, Below w.heap.size w u → Calls Try.prog 33 #[v] u fun e w' => e = .returned (.bool true) ∧ u = w'
theorem NoneAt.nil : NoneAt w (.pointer none) := fun u _ => none_nil u
theorem NoneAt.zero {p : Nat} (hp : p < w.heap.size) (h : w.cell? ⟨p, 0, none⟩ = some (.int .i64 0)) : NoneAt w (.pointer (some ⟨p, 0, none⟩)) := fun u hu => none_zero p u ((hu.cell (p := ⟨p, 0, none⟩) hp).trans h)
theorem pending_none (hN : NoneAt w v) : Calls Try.prog 26 #[v] w fun e w' => e = .returned (.int .i64 0) ∧ w = w' := by
  have hnone := hN w (Below.refl _ _)
  clear hN
  go_enter Try.func26, Try.ntmps26
  go_wp2_with (go_at_call 33; refine hnone.mono ?_; rintro e w' ⟨rfl, rfl⟩)
  go_ret
  exact ⟨rfl, rfl⟩
theorem dead_none (hN : NoneAt w v) : Calls Try.prog 13 #[v] w fun e w' => e = .returned (.bool false) ∧ w = w' := by
  have hnone := hN w (Below.refl _ _)
  clear hN
  go_enter Try.func13, Try.ntmps13
  go_wp2_with (go_at_call 33; refine hnone.mono ?_; rintro e w' ⟨rfl, rfl⟩)
  go_ret
  exact ⟨rfl, rfl⟩
theorem changes_none (hN : NoneAt w v) : Calls Try.prog 14 #[v] w fun e w' => e = .returned (.int .i64 0) ∧ w = w' := by
  have hnone := hN w (Below.refl _ _)
  clear hN
  go_enter Try.func14, Try.ntmps14
  go_wp2_with (go_at_call 33; refine hnone.mono ?_; rintro e w' ⟨rfl, rfl⟩)
  go_ret
  exact ⟨rfl, rfl⟩
theorem room_none (hN : NoneAt w v) : Calls Try.prog 20 #[v] w fun e w' => e = .returned (.int .i64 0) ∧ w = w' := room_nil v (hN w (Below.refl _ _))
theorem lay_none (hN : NoneAt w v) (n e : Int) : Calls Try.prog 19 #[v, .int .i64 n, .int .i64 e] w fun e w' => e = .returned (.int .i64 1) ∧ w = w' := by
  have hnone := hN w (Below.refl _ _)
  clear hN
  go_enter Try.func19, Try.ntmps19
  go_wp2_with (go_at_call 33; refine hnone.mono ?_; rintro e w' ⟨rfl, rfl⟩)
  go_ret
  exact ⟨rfl, rfl⟩
theorem fuse_none (hN : NoneAt w v) (n : Int) : Calls Try.prog 29 #[v, .int .i64 n] w fun e w' => e = .returned (.tuple #[]) ∧ w = w' := by
  have hnone := hN w (Below.refl _ _)
  clear hN
  go_enter Try.func29, Try.ntmps29
  go_wp2_with (go_at_call 33; refine hnone.mono ?_; rintro e w' ⟨rfl, rfl⟩)
  go_end0
  exact ⟨rfl, rfl⟩
theorem make_none (hN : NoneAt w v) (nm : Str) : Calls Try.prog 21 #[v, strV nm] w fun e w' => e = .returned (.int .i64 1) ∧ w = w' := by
  have hfind := fun (nm : Str) (may : Bool) => find_nil nm may w v (hN w (Below.refl _ _))
  clear hN
  unfold strV at hfind ⊢
  go_enter Try.func21, Try.ntmps21
  go_wp2_with (go_at_call 40; refine (hfind _ _).mono ?_; rintro e w' ⟨rfl, rfl⟩)
  go_ret
  exact ⟨rfl, rfl⟩
theorem remove_none (hN : NoneAt w v) (nm : Str) : Calls Try.prog 30 #[v, strV nm] w fun e w' => e = .returned (.int .i64 1) ∧ w = w' := by
  have hfind := fun (nm : Str) (may : Bool) => find_nil nm may w v (hN w (Below.refl _ _))
  clear hN
  unfold strV at hfind ⊢
  go_enter Try.func30, Try.ntmps30
  go_wp2_with (go_at_call 40; refine (hfind _ _).mono ?_; rintro e w' ⟨rfl, rfl⟩)
  go_ret
  exact ⟨rfl, rfl⟩
theorem read_none (hN : NoneAt w v) (nm : Str) : Calls Try.prog 45 #[v, strV nm] w fun e w' => e = .returned (.tuple #[.slice none 0 0, .int .i64 1]) ∧ w = w' := by
  have hfind := fun (nm : Str) (may : Bool) => find_nil nm may w v (hN w (Below.refl _ _))
  clear hN
  unfold strV at hfind ⊢
  go_enter Try.func45, Try.ntmps45
  go_wp2_with (go_at_call 40; refine (hfind _ _).mono ?_; rintro e w' ⟨rfl, rfl⟩)
  go_ret2
  exact ⟨rfl, rfl⟩
theorem lasts_none (hN : NoneAt w v) (nm : Str) : Calls Try.prog 28 #[v, strV nm] w fun e w' => e = .returned (.tuple #[.int .i64 0, .int .i64 1]) ∧ w = w' := by
  have hfind := fun (nm : Str) (may : Bool) => find_nil nm may w v (hN w (Below.refl _ _))
  clear hN
  unfold strV at hfind ⊢
  go_enter Try.func28, Try.ntmps28
  go_wp2_with (go_at_call 40; refine (hfind _ _).mono ?_; rintro e w' ⟨rfl, rfl⟩)
  go_ret2
  exact ⟨rfl, rfl⟩
theorem sync_none (hN : NoneAt w v) (nm : Str) : Calls Try.prog 16 #[v, strV nm] w fun e w' => e = .returned (.int .i64 1) ∧ Below w.heap.size w w' := by
  have hfind := fun (nm : Str) (may : Bool) (u : World) (hu : Below w.heap.size w u) => find_nil nm may u v (hN u hu)
  unfold strV at hfind ⊢
  go_enter Try.func16, Try.ntmps16
  go_wp2_with (go_at_call 40; refine (hfind _ _ _ (by first | exact Below.refl _ _ | exact (Below.refl _ _).alloc (Nat.le_refl _) _ | exact ((Below.refl _ _).alloc (Nat.le_refl _) _).alloc (by simp) _)).mono ?_; rintro e w' ⟨rfl, rfl⟩)
  go_ret
  exact ⟨rfl, by first | exact Below.refl _ _ | exact (Below.refl _ _).alloc (Nat.le_refl _) _ | exact ((Below.refl _ _).alloc (Nat.le_refl _) _).alloc (by simp) _⟩
theorem append_none (hN : NoneAt w v) (nm : Str) (A : Option Addr) (n c : Nat) : Calls Try.prog 23 #[v, strV nm, .slice A n c] w fun e w' => e = .returned (.int .i64 1) ∧ Below w.heap.size w w' := by
  have hfind := fun (nm : Str) (may : Bool) (u : World) (hu : Below w.heap.size w u) => find_nil nm may u v (hN u hu)
  unfold strV at hfind ⊢
  go_enter Try.func23, Try.ntmps23
  go_wp2_with (go_at_call 40; refine (hfind _ _ _ (by first | exact Below.refl _ _ | exact (Below.refl _ _).alloc (Nat.le_refl _) _ | exact ((Below.refl _ _).alloc (Nat.le_refl _) _).alloc (by simp) _)).mono ?_; rintro e w' ⟨rfl, rfl⟩)
  go_ret
  exact ⟨rfl, by first | exact Below.refl _ _ | exact (Below.refl _ _).alloc (Nat.le_refl _) _ | exact ((Below.refl _ _).alloc (Nat.le_refl _) _).alloc (by simp) _⟩
theorem cut_none (hN : NoneAt w v) (nm : Str) (x : Int) : Calls Try.prog 32 #[v, strV nm, .int .i64 x] w fun e w' => e = .returned (.int .i64 1) ∧ Below w.heap.size w w' := by
  have hfind := fun (nm : Str) (may : Bool) (u : World) (hu : Below w.heap.size w u) => find_nil nm may u v (hN u hu)
  unfold strV at hfind ⊢
  go_enter Try.func32, Try.ntmps32
  go_wp2_with (go_at_call 40; refine (hfind _ _ _ (by first | exact Below.refl _ _ | exact (Below.refl _ _).alloc (Nat.le_refl _) _ | exact ((Below.refl _ _).alloc (Nat.le_refl _) _).alloc (by simp) _)).mono ?_; rintro e w' ⟨rfl, rfl⟩)
  go_ret
  exact ⟨rfl, by first | exact Below.refl _ _ | exact (Below.refl _ _).alloc (Nat.le_refl _) _ | exact ((Below.refl _ _).alloc (Nat.le_refl _) _).alloc (by simp) _⟩
theorem rename_none (hN : NoneAt w v) (nm to : Str) (hto : to.length ≤ maxLen) : Calls Try.prog 22 #[v, strV nm, strV to] w fun e w' => e = .returned (.int .i64 1) ∧ w = w' := by
  have hfind := fun (nm : Str) (may : Bool) => find_nil nm may w v (hN w (Below.refl _ _))
  have hmayc := may_any to w hto
  clear hN
  unfold strV at hfind hmayc ⊢
  go_enter Try.func22, Try.ntmps22
  go_wp2_with (first
    | (go_at_call 47; refine hmayc.mono ?_; rintro e w' ⟨rfl, rfl⟩)
    | (go_at_call 40; refine (hfind _ _).mono ?_; rintro e w' ⟨rfl, rfl⟩))
  go_ret
  exact ⟨rfl, rfl⟩
theorem syncDir_none {q : Option Addr} (hN : NoneAt w (.pointer q)) : Calls Try.prog 17 #[.pointer q] w fun e w' => e = .returned (.int .i64 1) ∧ Below w.heap.size w w' := by
  have hnone := fun (u : World) (hu : Below w.heap.size w u) => hN u hu
  clear hN
  go_enter Try.func17, Try.ntmps17
  go_wp2_with (go_at_call 33; refine (hnone _ (by first | exact Below.refl _ _ | exact (Below.refl _ _).alloc (Nat.le_refl _) _)).mono ?_; rintro e w' ⟨rfl, rfl⟩)
  go_ret
  exact ⟨rfl, by first | exact Below.refl _ _ | exact (Below.refl _ _).alloc (Nat.le_refl _) _⟩
theorem crashes_none {q : Option Addr} (hN : NoneAt w (.pointer q)) (A : Option Addr) (n c : Nat) : Calls Try.prog 12 #[.pointer q, .slice A n c] w fun e w' => e = .returned (.pointer none) ∧ Below w.heap.size w w' := by
  have hnone := fun (u : World) (hu : Below w.heap.size w u) => hN u hu
  clear hN
  go_enter Try.func12, Try.ntmps12
  go_wp2_with (go_at_call 33; refine (hnone _ (by first | exact Below.refl _ _ | exact (Below.refl _ _).alloc (Nat.le_refl _) _)).mono ?_; rintro e w' ⟨rfl, rfl⟩)
  go_ret
  exact ⟨rfl, by first | exact Below.refl _ _ | exact (Below.refl _ _).alloc (Nat.le_refl _) _⟩
theorem copy_none {q : Option Addr} (hN : NoneAt w (.pointer q)) : Calls Try.prog 50 #[.pointer q] w fun e w' => e = .returned (.pointer none) ∧ Below w.heap.size w w' := by
  have hnone := fun (u : World) (hu : Below w.heap.size w u) => hN u hu
  clear hN
  go_enter Try.func50, Try.ntmps50
  go_wp2_with (go_at_call 33; refine (hnone _ (by first | exact Below.refl _ _ | exact (Below.refl _ _).alloc (Nat.le_refl _) _)).mono ?_; rintro e w' ⟨rfl, rfl⟩)
  go_ret
  exact ⟨rfl, by first | exact Below.refl _ _ | exact (Below.refl _ _).alloc (Nat.le_refl _) _⟩
end
end Go.Proofs.Ytcemfpbkaahcmaa
