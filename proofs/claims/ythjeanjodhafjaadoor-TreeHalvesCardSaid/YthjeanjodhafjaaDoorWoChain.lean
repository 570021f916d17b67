/- Chains of hashes, plainly: steps, walks, secrets, signatures, publics. -/
import Derived.Test.YthjeanjodhafjaaDoorWoKit
namespace Go.Proofs.YthjeanjodhafjaaDoor
set_option linter.unusedVariables false

def stepL (i k : Nat) (x : List UInt8) : List UInt8 := (shaL ([87, UInt8.ofNat i, UInt8.ofNat k] ++ x)).take 16
theorem stepL_len (i k : Nat) (x : List UInt8) : (stepL i k x).length = 16 := by
  unfold stepL
  rw [List.length_take, shaL_length]
  rfl
def walkN (i a : Nat) (x : List UInt8) : Nat → List UInt8
  | 0 => x
  | n + 1 => stepL i (a + n) (walkN i a x n)
def walkL (i a b : Nat) (x : List UInt8) : List UInt8 := walkN i a x (b - a)
theorem walkL_none (i a b : Nat) (x : List UInt8) (h : b ≤ a) : walkL i a b x = x := by
  unfold walkL
  rw [Nat.sub_eq_zero_of_le h]
  rfl
theorem walkL_succ (i a b : Nat) (x : List UInt8) (h : a ≤ b) : walkL i a (b + 1) x = stepL i b (walkL i a b x) := by
  unfold walkL
  rw [show b + 1 - a = (b - a) + 1 by omega]
  simp only [walkN]
  rw [show a + (b - a) = b by omega]
theorem walkN_len (i a : Nat) (x : List UInt8) (hx : x.length = 16) (n : Nat) : (walkN i a x n).length = 16 := by
  cases n with
  | zero => exact hx
  | succ n => exact stepL_len _ _ _
theorem walkL_len (i a b : Nat) (x : List UInt8) (hx : x.length = 16) : (walkL i a b x).length = 16 := walkN_len i a x hx _
theorem walkN_add (i a n : Nat) (x : List UInt8) (m : Nat) : walkN i a x (n + m) = walkN i (a + n) (walkN i a x n) m := by
  induction m with
  | zero => rfl
  | succ m ih =>
    rw [← Nat.add_assoc]
    simp only [walkN]
    rw [ih, Nat.add_assoc]
theorem walk_walk (i a b c : Nat) (x : List UInt8) (h1 : a ≤ b) (h2 : b ≤ c) : walkL i b c (walkL i a b x) = walkL i a c x := by
  unfold walkL
  rw [show c - a = (b - a) + (c - b) by omega, walkN_add, show a + (b - a) = b by omega]
def endsL (S : List UInt8) : List UInt8 := eachL (fun i x => walkL i 0 3 x) S
def signL (S h : List UInt8) : List UInt8 := eachL (fun i x => walkL i 0 (dg h i) x) S
def onL (S h : List UInt8) : List UInt8 := eachL (fun i x => walkL i (dg h i) 3 x) S
def pubL (E : List UInt8) : List UInt8 := shaL ([80] ++ E)
theorem walk_ok (f t : Nat → Nat) : ∀ i x, i < 68 → x.length = 16 → (walkL i (f i) (t i) x).length = 16 := fun i x _ hx => walkL_len i _ _ x hx
theorem endsL_len (S : List UInt8) (h : S.length = 1088) : (endsL S).length = 1088 := eachL_len (walk_ok (fun _ => 0) (fun _ => 3)) h
theorem signL_len (S h : List UInt8) (hS : S.length = 1088) : (signL S h).length = 1088 := eachL_len (walk_ok (fun _ => 0) (fun i => dg h i)) hS
theorem onL_len (S h : List UInt8) (hS : S.length = 1088) : (onL S h).length = 1088 := eachL_len (walk_ok (fun i => dg h i) (fun _ => 3)) hS
theorem on_sign (S h : List UInt8) (hS : S.length = 1088) : onL (signL S h) h = endsL S := by
  unfold onL signL endsL
  rw [eachL_each (walk_ok (fun _ => 0) (fun i => dg h i)) hS]
  exact eachL_same fun i x hi => walk_walk i 0 (dg h i) 3 x (Nat.zero_le _) (by have := dg_lt h i; omega)
theorem sign_node (S h : List UInt8) (hS : S.length = 1088) (i : Nat) (hi : i < 68) : nodeL (signL S h) i = walkL i 0 (dg h i) (nodeL S i) := nodeL_each (walk_ok (fun _ => 0) (fun i => dg h i)) hS i hi
/-- From the lesser digit's node on to the greater one's. -/
theorem sign_goes (S h g : List UInt8) (hS : S.length = 1088) (i : Nat) (hi : i < 68) (hle : dg h i ≤ dg g i) : walkL i (dg h i) (dg g i) (nodeL (signL S h) i) = nodeL (signL S g) i := by
  rw [sign_node S h hS i hi, sign_node S g hS i hi]
  exact walk_walk i 0 _ _ _ (Nat.zero_le _) hle
def secNode (seed : List UInt8) (leaf i : Nat) : List UInt8 := (shaL ([83] ++ seed ++ [UInt8.ofNat leaf, UInt8.ofNat i])).take 16
theorem secNode_len (seed : List UInt8) (leaf i : Nat) : (secNode seed leaf i).length = 16 := by
  unfold secNode
  rw [List.length_take, shaL_length]
  rfl
def secL (seed : List UInt8) (leaf : Nat) : List UInt8 := eachL (fun i _ => secNode seed leaf i) (List.replicate 1088 0)
theorem secL_len (seed : List UInt8) (leaf : Nat) : (secL seed leaf).length = 1088 := eachL_len (fun i x _ _ => secNode_len seed leaf i) List.length_replicate
end Go.Proofs.YthjeanjodhafjaaDoor
