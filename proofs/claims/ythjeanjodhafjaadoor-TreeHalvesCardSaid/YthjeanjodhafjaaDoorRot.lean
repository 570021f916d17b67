/- Contracts: RotateLeft32, and a word turned by each of some numbers. -/
import Derived.Test.YthjeanjodhafjaaDoorMem
import Derived.Test.YthjeanjodhafjaaDoorShaPlain
import Derived.WalkKit
import Derived.ProofKit
import Derived.OpenShut
import Derived.Lib.Hide
import Derived.Outline
import Derived.WalkSpells
import Derived.WalkLawsBesides
namespace Go.Proofs.YthjeanjodhafjaaDoor
open Go.ChangeShapes Go.WideShapes Go.ChangeAt Go.RowKit
set_option linter.unusedVariables false

/-- A word as a value. -/
def rv (r : Nat) : Value := .int .u32 (r : Int)
theorem ret_rv {n : Int} {r : Nat} (h : n = (r : Int)) : Ending.returned (.int .u32 n) = .returned (rv r) := by rw [h]; rfl

theorem wrap_neg (n : Nat) (h1 : 1 ≤ n) (h2 : n ≤ 31) : bits .and .u64 (IntKind.u64.wrap (-(n : Int))) 31 = 32 - (n : Int) := by
  have : (List.range 32).all (fun n => decide (1 ≤ n → bits .and .u64 (IntKind.u64.wrap (-(n : Int))) 31 = 32 - (n : Int))) = true := by decide +kernel
  have := List.all_eq_true.1 this n (List.mem_range.2 (by omega))
  exact of_decide_eq_true this h1

theorem rot_plain (x n : Nat) (hx : x < 4294967296) (h2 : n ≤ 31) : bits .or .u32 ((x : Int) * 2 ^ (32 - n) % 4294967296) ((x : Int) / 2 ^ (32 - (32 - n))) = ((rotr x n : Nat) : Int) := by
  have e := u32_or_nat (x * 2 ^ (32 - n) % 4294967296) (x / 2 ^ n) (Nat.mod_lt _ (by omega)) (Nat.lt_of_le_of_lt (Nat.div_le_self _ _) hx)
  rw [rotr_or hx (by omega)] at e
  rw [show 32 - (32 - n) = n by omega, ← e]
  congr 1

set_option maxHeartbeats 400000 in
theorem rotl_any (x n : Nat) (w : World) (hx : x < 4294967296) (h1 : 1 ≤ n) (h2 : n ≤ 31) :
    Calls Tryd.prog 46 #[.int .u32 (x : Int), .int .i64 (-(n : Int))] w fun e w' => e = .returned (rv (rotr x n)) ∧ w = w' := by
  have hw := wrap_neg n h1 h2
  have HP := Lib.hid (rot_plain x n hx h2)
  go_enter Tryd.func46, Tryd.ntmps46
  go_wp2
  go_ret
  exact ⟨ret_rv HP.out, rfl⟩

/-- The rules by which words' operations are numbers'. -/
theorem xo_rule (a b : Nat) : bits .xor .u32 (a : Int) (b : Int) = ((xo a b : Nat) : Int) := by
  show IntKind.u32.wrap ((BitVec.ofInt 32 (a : Int) ^^^ BitVec.ofInt 32 (b : Int)).toNat : Int) = _
  rw [BitVec.toNat_xor, BitVec.ofInt_natCast, BitVec.ofInt_natCast, BitVec.toNat_ofNat, BitVec.toNat_ofNat, IntKind.wrap_u32']
  have := xo_lt a b
  unfold xo at this ⊢
  rw [show (2 : Nat) ^ 32 = 4294967296 by rfl]
  omega
theorem an_rule (a b : Nat) : bits .and .u32 (a : Int) (b : Int) = ((an a b : Nat) : Int) := by
  show IntKind.u32.wrap ((BitVec.ofInt 32 (a : Int) &&& BitVec.ofInt 32 (b : Int)).toNat : Int) = _
  rw [BitVec.toNat_and, BitVec.ofInt_natCast, BitVec.ofInt_natCast, BitVec.toNat_ofNat, BitVec.toNat_ofNat, IntKind.wrap_u32']
  have := an_lt a b
  unfold an at this ⊢
  rw [show (2 : Nat) ^ 32 = 4294967296 by rfl]
  omega
theorem ad_rule (a b : Nat) : ((a : Int) + (b : Int)) % 4294967296 = ((ad a b : Nat) : Int) := by
  unfold ad
  omega

/-- A slice of turns. -/
def TurnsAt (w : World) (g : Nat) (l : List Nat) : Prop := ∀ (j x : Nat), l[j]? = some x → w.cell? ⟨g, j, none⟩ = some (.int .i64 (x : Int))
set_option maxHeartbeats 400000 in
theorem turned_any (x : Nat) (g c : Nat) (l : List Nat) (w : World) (hx : x < 4294967296) (h : TurnsAt w g l) (hl : l.length ≤ 100) (hn : ∀ n ∈ l, 1 ≤ n ∧ n ≤ 31) :
    Calls Tryd.prog 45 #[.int .u32 (x : Int), .slice (some ⟨g, 0, none⟩) l.length c] w fun e w' => e = .returned (rv (turns x l)) ∧ w = w' := by
  go_enter Tryd.func45, Tryd.ntmps45
  go_wp2
  go_loop [5, 10] (fun t i => ∃ k : Nat, k ≤ l.length ∧ i = .int .i64 k ∧ t = rv (turns x (l.take k))) (fun _ i => l.length - (intOf i).toNat)
  case atStart => exact ⟨0, Nat.zero_le _, rfl, rfl⟩
  case round =>
    obtain ⟨k, hk, rfl, rfl⟩ := hrel
    have hq := turns_lt x (l.take k)
    unfold rv
    by_cases hlt : k < l.length
    · have hc := h k _ (List.getElem?_eq_getElem hlt)
      obtain ⟨n1, n2⟩ := hn _ (List.getElem_mem hlt)
      have HT := Lib.hid (turns_take x l k hlt)
      generalize l[k] = n at *
      generalize turns x (l.take k) = q at *
      have hr := xo_rule q (rotr x n)
      rw [← HT.out] at hr
      go_wp2_with fail
      refine (rotl_any x n w hx n1 n2).mono ?_
      unfold rv
      rintro e w1 ⟨rfl, rfl⟩
      go_wp2
      refine ⟨⟨k + 1, by omega, by go_num, rfl⟩, by simp [intOf]; omega⟩
    · obtain rfl : k = l.length := by omega
      rw [List.take_length]
      go_wp2
      go_ret
      exact ⟨rfl, rfl⟩
end Go.Proofs.YthjeanjodhafjaaDoor
