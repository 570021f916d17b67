/- Contracts: cmp.Compare, cmp.Or, bytes.Compare. -/
import Derived.Test.YtbanmnlaipkajaaCdKit
import Derived.Lib.Bytealg
namespace Go.Proofs.Ytbanmnlaipkajaa
open Go.ChangeShapes Go.WideShapes Go.ChangeAt Go.RowKit
set_option linter.unusedVariables false
set_option maxRecDepth 100000

theorem run_loadBytes_cells {P : Program} (w : World) : ∀ (l : List UInt8) (a : Addr) (acc : ByteArray), (∀ j x, l[j]? = some x → w.cell? (a.add j) = some (bv x)) →
    (Extern.Bytes.loadBytes a l.length acc).run P w = .ok ⟨acc.data ++ l.toArray⟩ w
  | [], a, acc, _ => by simp [Extern.Bytes.loadBytes]
  | x :: l, a, acc, h => by
    have h0 : w.cell? a = some (.int .u8 (x.toNat : Int)) := by
      have := h 0 x rfl
      rwa [show a.add 0 = a by simp [Addr.add]] at this
    have ih := run_loadBytes_cells (P := P) w l (a.add 1) (acc.push x) (fun j y hy => by
      have := h (j + 1) y hy
      rwa [show (a.add 1).add j = a.add (j + 1) by unfold Addr.add; obtain ⟨b, off, s⟩ := a; cases j <;> simp_all [Nat.add_assoc, Nat.add_comm]] )
    simp only [List.length_cons, Extern.Bytes.loadBytes, Sem.run_bind, run_load, h0, Result.andThen]
    rw [show ((x.toNat : Int)).toNat.toUInt8 = x by simp, ih]
    simp
theorem run_bytesOf_rd {P : Program} {w : World} {lo hi : Nat} {A : Option Addr} {l : List UInt8} (h : Rd w lo hi A l) (c : Nat) : (Extern.Bytes.bytesOf (.slice A l.length c)).run P w = .ok ⟨l.toArray⟩ w := by
  rcases A with _ | ad
  · have hl : l = [] := by
      rcases l with _ | ⟨x, l⟩
      · rfl
      · obtain ⟨b, off, e, _⟩ := h (by simp)
        cases e
    subst hl
    rfl
  · have := run_loadBytes_cells (P := P) w l ad .empty (fun j x hj => by
      have hlt : 0 < l.length := by
        rcases l with _ | ⟨y, l⟩
        · cases hj
        · simp
      obtain ⟨b, off, e, _, _, hc⟩ := h hlt
      injection e with e
      subst e
      rw [Addr.add_mid]
      exact hc j x hj)
    simpa [Extern.Bytes.bytesOf] using this
theorem run_compare_rd {P : Program} {w : World} {lo hi lo' hi' : Nat} {A B : Option Addr} {a b : List UInt8} (ha : Rd w lo hi A a) (hb : Rd w lo' hi' B b) (c d : Nat) :
    (Extern.BytealgCompare.compare #[.slice A a.length c, .slice B b.length d]).run P w = .ok (.int .i64 (Lib.compareBytes a b)) w := by
  change Sem.run P (do pure (goInt (Extern.BytealgCompare.cmp (← Extern.Bytes.bytesOf (.slice A a.length c)) (← Extern.Bytes.bytesOf (.slice B b.length d))))) w = _
  simp only [Sem.run_bind, Sem.run_pure, Result.andThen, run_bytesOf_rd ha c, run_bytesOf_rd hb d]
  rw [Lib.cmp_eq]
  rfl
theorem compareB_c {w : World} {lo hi lo' hi' : Nat} {A B : Option Addr} {a b : List UInt8} (ha : Rd w lo hi A a) (hb : Rd w lo' hi' B b) (c d n m : Nat) (en : n = a.length) (em : m = b.length) :
    Calls Try.prog 59 #[.slice A n c, .slice B m d] w fun e w' => e = .returned (.int .i64 (Lib.compareBytes a b)) ∧ w = w' := by
  subst en
  subst em
  go_enter Try.func59, Try.ntmps59
  go_wp2
  rw [run_callFunc_extern Try.func99 (by kernel_rfl) (by kernel_rfl) (by kernel_rfl) (e := Extern.BytealgCompare.compare) (by kernel_rfl), run_compare_rd ha hb]
  simp only [Result.andThen]
  rw [Oper.upon_value]
  go_wp2
  go_ret
  exact ⟨rfl, rfl⟩
theorem isNaN_c (a : Nat) (w : World) : Calls Try.prog 98 #[.int .u64 (a : Int)] w fun e w' => e = .returned (.bool false) ∧ w = w' := by
  have h : ((a : Int) != (a : Int)) = false := by simp
  go_enter Try.func98, Try.ntmps98
  go_wp2
  go_ret
  exact ⟨rfl, rfl⟩
/-- -1, 0 or 1. -/
def cmpN (a b : Nat) : Int := if a < b then -1 else if b < a then 1 else 0
theorem compareN_c (a b : Nat) (w : World) : Calls Try.prog 58 #[.int .u64 (a : Int), .int .u64 (b : Int)] w fun e w' => e = .returned (.int .i64 (cmpN a b)) ∧ w = w' := by
  by_cases h1 : a < b
  · have HC := Lib.hid (show cmpN a b = -1 by unfold cmpN; rw [if_pos h1])
    have d1 : decide ((a : Int) < (b : Int)) = true := by simp; omega
    have d1' : decide (a < b) = true := by simpa using h1
    clear h1
    go_enter Try.func58, Try.ntmps58
    go_wp2_with (go_at_call 98; refine (isNaN_c _ _).mono ?_; rintro e w' ⟨rfl, rfl⟩)
    go_ret
    exact ⟨by rw [HC.out]; rfl, rfl⟩
  · have d1 : decide ((a : Int) < (b : Int)) = false := by simp; omega
    have d1' : decide (a < b) = false := by simpa using h1
    by_cases h2 : b < a
    · have HC := Lib.hid (show cmpN a b = 1 by unfold cmpN; rw [if_neg h1, if_pos h2])
      have d2 : decide ((b : Int) < (a : Int)) = true := by simp; omega
      have d2' : decide (b < a) = true := by simpa using h2
      clear h1 h2
      go_enter Try.func58, Try.ntmps58
      go_wp2_with (go_at_call 98; refine (isNaN_c _ _).mono ?_; rintro e w' ⟨rfl, rfl⟩)
      go_ret
      exact ⟨by rw [HC.out]; rfl, rfl⟩
    · have HC := Lib.hid (show cmpN a b = 0 by unfold cmpN; rw [if_neg h1, if_neg h2])
      have d2 : decide ((b : Int) < (a : Int)) = false := by simp; omega
      have d2' : decide (b < a) = false := by simpa using h2
      clear h1 h2
      go_enter Try.func58, Try.ntmps58
      go_wp2_with (go_at_call 98; refine (isNaN_c _ _).mono ?_; rintro e w' ⟨rfl, rfl⟩)
      go_ret
      exact ⟨by rw [HC.out]; rfl, rfl⟩
end Go.Proofs.Ytbanmnlaipkajaa
