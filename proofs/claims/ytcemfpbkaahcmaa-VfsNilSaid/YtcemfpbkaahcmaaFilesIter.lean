/- Contract: the iterator that Files hands back. -/
import Derived.Test.YtcemfpbkaahcmaaFilesNew
import Derived.RangeFuncNested
import Derived.RangeFuncBound
import Derived.RangeFuncCalls
import Derived.RangeFuncLeaves
import Derived.Shelf.Abstract
import Derived.Shelf.RegionOpen
import Derived.WalkKit
import Derived.OwnWalkIn
import Derived.TacticsInMore
import Derived.LoopNIn
import Derived.LoopIn
namespace Go.Proofs.Ytcemfpbkaahcmaa
open Go.RowKit Go.Shelf
attribute [local go_sem] Oper.semAt_some
set_option linter.unusedVariables false

/-- A name and a size of which this is known (the iterator's law asks a round at every one). -/
abbrev Nz (P : Str × Int → Prop) := { x : Str × Int // P x }
set_option maxRecDepth 100000 in
set_option maxHeartbeats 1000000 in
theorem files1_in {P : Str × Int → Prop} (F : Fence) (n : Nat) (hF : F.fn 51) (hro : F.round = none) (hn : 1 ≤ n) (l a lo hi : Nat) (A1 A2 : Option Addr) (c1 c2 : Nat) (L : List (Nz P)) (hL : L.length ≤ 1099511627776) (Kp : World → World → Prop)
    (hKp : ∀ W1 W2, Kp W1 W2 → ∀ q : Addr, lo ≤ q.block → q.block < hi → W2.cell? q = W1.cell? q) (J Jx : List (Nz P) → World → Prop)
    (hY : ∀ pre x W1, J pre W1 → pre.length < L.length → YieldAt F (n - 1) Try.prog l #[strV x.1.1, .int .i64 x.1.2] W1 fun e W' =>
      (e = .returned (.bool true) ∧ J (pre ++ [x]) W' ∧ Kp W1 W') ∨ (e = .returned (.bool false) ∧ Jx (pre ++ [x]) W'))
    (W : World) (ha : lo ≤ a) (ha2 : a + 1 < hi) (h1 : W.cell? ⟨a, 0, none⟩ = some (.slice A1 L.length c1)) (h2 : W.cell? ⟨a + 1, 0, none⟩ = some (.slice A2 L.length c2))
    (hel : ∀ j x, L[j]? = some x → ∃ g1 g2, A1 = some ⟨g1, 0, none⟩ ∧ A2 = some ⟨g2, 0, none⟩ ∧ lo ≤ g1 ∧ g1 < hi ∧ lo ≤ g2 ∧ g2 < hi ∧ W.cell? ⟨g1, j, none⟩ = some (strV x.1.1) ∧ W.cell? ⟨g2, j, none⟩ = some (.int .i64 x.1.2)) (h0 : J [] W) :
    CallsIn F n Try.prog 51 #[.func (.yield l) #[] #[], .pointer (some ⟨a, 0, none⟩), .pointer (some ⟨a + 1, 0, none⟩)] W fun e W' => (∃ v, e = .returned v) ∧
      ((∃ ys, ys = L ∧ J ys W') ∨ (∃ pre, pre <+: L ∧ Jx pre W')) := by
  refine callsIn_of_wp Try.func51 rfl hF ?_ hro
  simp only [Try.ntmps51, List.size_toArray, List.length_cons, List.length_nil, Nat.reduceAdd, Nat.reduceSub, Array.replicate_succ, Array.replicate_zero, List.push_toArray, List.append_toArray, List.nil_append, List.cons_append]
  gi_wp2
  gi_loopw [8] (fun i wr => ∃ k : Nat, k ≤ L.length ∧ i = .int .i64 (k : Int) ∧ J (L.take k) wr ∧ ∀ q : Addr, lo ≤ q.block → q.block < hi → wr.cell? q = W.cell? q) (fun i _ => L.length - (intOf i).toNat)
  case atStart => exact ⟨0, Nat.zero_le _, rfl, by simpa using h0, fun _ _ _ => rfl⟩
  case round =>
    obtain ⟨k, hk, rfl, hJs, hcl⟩ := hrel
    by_cases hlt : k < L.length
    · obtain ⟨x, hx⟩ : ∃ x, x = L[k] := ⟨_, rfl⟩
      have hxs : L[k]? = some x := by rw [hx]; exact List.getElem?_eq_getElem hlt
      obtain ⟨g1, g2, rfl, rfl, b1, b2, b3, b4, e1, e2⟩ := hel k x hxs
      obtain ⟨fn, tmps, assign, body, hy, hR⟩ := hY _ x wr hJs (by rw [List.length_take]; omega)
      have d1 : wr.cell? ⟨g1, k, none⟩ = some (strV x.1.1) := (hcl _ b1 b2).trans e1
      have d2 : wr.cell? ⟨g2, k, none⟩ = some (.int .i64 x.1.2) := (hcl _ b3 b4).trans e2
      have d3 : wr.cell? ⟨a + 1, 0, none⟩ = some (.slice (some ⟨g2, 0, none⟩) L.length c2) := (hcl _ (by show lo ≤ a + 1; omega) ha2).trans h2
      have q : (k : Int) < (L.length : Int) := by omega
      have HT := Lib.hid (show L.take (k + 1) = L.take k ++ [x] by rw [hx]; exact List.take_succ_eq_append_getElem hlt)
      have HCL := Lib.hid hcl
      have HKP := Lib.hid hKp
      unfold strV at d1 hy
      clear hx hxs e1 e2 hcl hel hKp
      gi_wp2
      refine hR.mono ?_
      rintro e W3 (⟨rfl, hJ3, hk3⟩ | ⟨rfl, hJx3⟩)
      · gi_wp2
        go_roundw
        case rel => exact ⟨k + 1, by omega, by simp, by rw [HT.out]; exact hJ3, fun q h1 h2 => (HKP.out _ _ hk3 q h1 h2).trans (HCL.out q h1 h2)⟩
        case measure => simp [intOf]; omega
      · gi_wp2
        refine bodyPost_ret (results_none rfl _ _ _) rfl ?_
        exact ⟨⟨_, rfl⟩, .inr ⟨_, by rw [← HT.out]; exact List.take_prefix _ _, hJx3⟩⟩
    · obtain rfl : k = L.length := by omega
      have q : ¬ (L.length : Int) < (L.length : Int) := by omega
      rw [List.take_length] at hJs
      clear hcl hel hKp
      gi_wp2
      go_end0
      exact ⟨⟨_, rfl⟩, .inl hJs⟩
def DS.sz (S : DS) (q : Str × Nat) : Int := (((S.fl q.2).getD ⟨[], 0⟩).b.length : Int)
/-- What a disk's files go over as: names in order, sizes. -/
def DS.listN (S : DS) {P : Str × Int → Prop} (hP : ∀ q ∈ S.D, P (q.1, S.sz q)) : List (Nz P) := S.D.attach.map fun q => ⟨(q.1.1, S.sz q.1), hP q.1 q.2⟩
theorem DS.listN_length (S : DS) {P : Str × Int → Prop} (hP : ∀ q ∈ S.D, P (q.1, S.sz q)) : (S.listN hP).length = S.D.length := by simp [DS.listN]
theorem row_cell {u : World} {b n c : Nat} {t : TypeId} {A : Option Addr} {xs : List Value} (h : u.ownsRow b t 1 (.slice A n c) n xs) {j : Nat} {x : Value} (hx : xs[j]? = some x) (hn : 0 < n) :
    ∃ g, A = some ⟨g, 0, none⟩ ∧ b ≤ g ∧ g < u.heap.size ∧ u.cell? ⟨g, j, none⟩ = some x := by
  rcases h.2 with ⟨_, h0⟩ | ⟨g, cap, cur, hv, hb, hc, _⟩
  · omega
  · injection hv with hA _ _
    refine ⟨g, hA, hb, lt_of_block hc, ?_⟩
    have := h.cells (g := g) (by rw [hA]; rfl) j x hx
    have hadd : (⟨g, 0, none⟩ : Addr).add j = ⟨g, j, none⟩ := by
      unfold Addr.add
      split
      · next h0 => subst h0; rfl
      · simp
    rw [hadd] at this
    exact this
theorem files_stops (F : Fence) (n : Nat) (hF : F.fn 51) (hro : F.round = none) (hn : 1 ≤ n) (w : World) (lo a : Nat) (S : DS) (hI : IterAt w lo a S) (hl : S.D.length ≤ 1099511627776) {P : Str × Int → Prop} (hP : ∀ q ∈ S.D, P (q.1, S.sz q)) (Kp : World → World → Prop)
    (hKp : ∀ W1 W2, Kp W1 W2 → ∀ q : Addr, lo ≤ q.block → q.block < w.heap.size → W2.cell? q = W1.cell? q) :
    SeqStopsK F n Try.prog 51 #[.pointer (some ⟨a, 0, none⟩), .pointer (some ⟨a + 1, 0, none⟩)] (fun x : Nz P => #[strV x.1.1, .int .i64 x.1.2]) Kp (fun xs => xs = S.listN hP) (fun pre => pre <+: S.listN hP) (S.listN hP).length w :=
  fun l J Jx W hW _ _ hY h0 => by
    obtain ⟨v1, hb1, hr1⟩ := hI.names
    obtain ⟨v2, hb2, hr2⟩ := hI.sizes
    obtain ⟨A1, c1, rfl, _⟩ := row_form hr1
    obtain ⟨A2, c2, rfl, _⟩ := row_form hr2
    have hlen := S.listN_length hP
    have hW' : ∀ q : Addr, q.block < w.heap.size → W.cell? q = w.cell? q := fun q hq => hW.cell hq
    have k1 := cell_of_one hb1
    have k2 := cell_of_one hb2
    rw [← hlen] at k1 k2
    refine files1_in F n hF hro hn l a lo w.heap.size A1 A2 c1 c2 (S.listN hP) (by rw [hlen]; exact hl) Kp hKp J Jx hY W hI.low (lt_of_block hb2) ((hW' _ (lt_of_block hb1)).trans k1) ((hW' _ (lt_of_block hb2)).trans k2) (fun j x hx => ?_) h0
    have hj : j < S.D.length := by
      rcases Nat.lt_or_ge j S.D.length with h | h
      · exact h
      · rw [List.getElem?_eq_none (by rw [hlen]; exact h)] at hx; cases hx
    have hx2 : x.1 = ((S.D[j]).1, (((S.fl (S.D[j]).2).getD ⟨[], 0⟩).b.length : Int)) := by
      unfold DS.listN at hx
      rw [List.getElem?_map, List.getElem?_eq_getElem (by simpa using hj)] at hx
      injection hx with hx
      rw [← hx]
      simp [DS.sz]
    obtain ⟨g1, e1, p1, p2, p3⟩ := row_cell hr1 (j := j) (x := strV x.1.1) (by rw [List.getElem?_map, List.getElem?_eq_getElem hj, hx2]; rfl) (by omega)
    obtain ⟨g2, e2, p4, p5, p6⟩ := row_cell hr2 (j := j) (x := .int .i64 x.1.2) (by rw [List.getElem?_map, List.getElem?_eq_getElem hj, hx2]; rfl) (by omega)
    exact ⟨g1, g2, e1, e2, p1, p2, p4, p5, (hW' _ p2).trans p3, (hW' _ p5).trans p6⟩
end Go.Proofs.Ytcemfpbkaahcmaa
