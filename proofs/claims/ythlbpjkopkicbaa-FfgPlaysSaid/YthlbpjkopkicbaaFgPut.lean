/- A link is put. -/
import Derived.Test.YthlbpjkopkicbaaFgFol
namespace Go.Proofs.Ythlbpjkopkicbaa
open Go.ChangeMaps Go.MapKept Go.Maps Go.RowKit Go.ChangeShapes Go.WideShapes Go.ChangeAt
set_option linter.unusedVariables false
set_option maxRecDepth 100000

def putA (S : FgS) (x : Lk) : FgS := { S with links := S.links ++ [x], told := S.told ++ [x] }
def putW (S : FgS) (x : Lk) : FgS := { putA S x with waiting := fun q => if q = x.s then some ((S.waiting x.s).getD [] ++ [x]) else S.waiting q }
/-- What becomes of a link that is put. -/
def Puts (S : FgS) (x : Lk) (S' : FgS) : Prop := (stN S.stands x.s = 0 ∧ S' = putW S x) ∨ (¬ stN S.stands x.s = 0 ∧ Follows (putA S x) [x] S')
def PutE (s bt bs bw : Nat) (F : Nat → Prop) (M : Nat) (S : FgS) (x : Lk) (n : Nat) (w w' : World) : Prop :=
  ∃ vl hd F' S' n', Puts S x S' ∧ FgB s bt bs bw vl hd F' S' n' w' ∧ Kept F w w' ∧ (∀ k, F' k → F k ∨ w.heap.size ≤ k) ∧ (∀ k, F k → F' k) ∧ n' ≤ n + 3 + 2 * (1 + M * mapSize w bw) ∧ (∀ p L, S'.waiting p = some L → L.length ≤ M + 1) ∧ mapSize w' bw ≤ mapSize w bw + 2
set_option maxRecDepth 1000000 in
set_option maxHeartbeats 8000000 in
theorem put_c (w : World) (s bt bs bw n M : Nat) (vl : Value) (hd : Pt → Option Value) (F : Nat → Prop) (S : FgS) (x : Lk) (h : FgB s bt bs bw vl hd F S n w) (hM : ∀ p L, S.waiting p = some L → L.length ≤ M) (hM2 : M ≤ 100000) (hW : mapSize w bw ≤ 1000) (hn : n ≤ 900000) (hl : S.links.length ≤ 1000000) :
    Calls Try.prog 32 #[.pointer (some ⟨s, 0, none⟩), .agg (lv x)] w fun e w' => e = .returned (.tuple #[]) ∧ PutE s bt bs bw F M S x n w w' := by
  obtain ⟨W, hW'⟩ : ∃ W, W = w.alloc (.cells (lv x) 36) := ⟨_, rfl⟩
  have hB : Below w.heap.size w W := by rw [hW']; exact (Below.refl _ _).alloc (Nat.le_refl _) _
  have HX : Hid (LkB w.heap.size x W) := by rw [hW']; exact LkB.new
  have HF := Lib.hid (h.below hB)
  have HZ := Lib.hid (show W.heap.size = w.heap.size + 1 by rw [hW']; simp)
  have HK : Hid (Kept F w W) := Kept.of_below hB
  have NG : Hid (¬ F w.heap.size) := fun e => Nat.lt_irrefl _ (h.fin _ e)
  have HM : Hid (mapSize W bw = mapSize w bw) := mapSize_keep (hB.block bw (h.fin bw h.foot.2.2.2.1))
  have HW := Lib.hid hW'
  have HMM := Lib.hid hM
  have hn9 := hn
  have hn : n ≤ 1000000 := by omega
  clear hW' hB h hM
  go_enter Try.func32, Try.ntmps32
  go_wp2_with fail
  rw [← HW.out]
  refine put_r1 _ _ _ _ _ _ _ _ _ _ _ _ _ _ _ _ _ _ _ _ _ _ _ _ _ _ _ _ _ _ _ _ _ _ _ _ _ _ _ _ _ W s bt bs bw w.heap.size n vl hd F S x HF.out HX.out NG.out hl _ ?_
  intro t4 t5 t6 t7 t8 t9 t10 t11 t12 t13 w1 ⟨⟨vl1, hd1, F1, f1, k1, a1, b1⟩, x1, m1⟩
  have G1 := Lib.hid (And.intro f1 (And.intro (HK.out.trans k1 (fun k e => .inl e)) (And.intro x1 (m1.trans HM.out))))
  have A1 : Hid ((∀ k, F1 k → F k ∨ w.heap.size < k) ∧ ∀ k, F k → F1 k) := ⟨fun k e => (a1 k e).imp id (fun e2 => by have := HZ.out; omega), b1⟩
  have N1 : Hid (¬ F1 w.heap.size) := fun e => (A1.out.1 _ e).elim NG.out (fun e2 => Nat.lt_irrefl _ e2)
  clear f1 k1 a1 b1 x1 m1
  go_wp2_with fail
  refine put_r2 _ _ _ _ _ _ _ _ _ _ _ _ _ _ _ _ _ _ _ _ _ _ _ _ _ _ _ _ _ _ _ _ _ _ _ _ _ _ _ _ _ w1 s bt bs bw w.heap.size n vl1 hd1 F1 { S with links := S.links ++ [x] } x G1.out.1 G1.out.2.2.1 N1.out hn _ ?_
  intro t14 t15 t16 t17 t18 t19 w2 ⟨⟨vl2, hd2, F2, f2, k2, a2, b2⟩, x2, m2⟩
  have G2 := Lib.hid (And.intro f2 (And.intro (G1.out.2.1.trans k2 (fun k e => (A1.out.1 k e).imp id (fun h => Nat.le_of_lt h))) (And.intro x2 (m2.trans G1.out.2.2.2))))
  have A2 : Hid ((∀ k, F2 k → F k ∨ w.heap.size < k) ∧ ∀ k, F k → F2 k) := ⟨fun k e => (a2 k e).elim (A1.out.1 k) (fun e2 => by have := G1.out.2.2.1.lt; omega), fun k e => b2 k (A1.out.2 k e)⟩
  have N2 : Hid (¬ F2 w.heap.size) := fun e => (A2.out.1 _ e).elim NG.out (fun e2 => Nat.lt_irrefl _ e2)
  clear f2 k2 a2 b2 x2 m2
  go_wp2_with fail
  refine put_r3 _ _ _ _ _ _ _ _ _ _ _ _ _ _ _ _ _ _ _ _ _ _ _ _ _ _ _ _ _ _ _ _ _ _ _ _ _ _ _ _ _ w2 s bt bs bw w.heap.size (n + 1) vl2 hd2 F2 (putA S x) x G2.out.1 G2.out.2.2.1 N2.out _ ?_
  intro t20 t21 t22 t23 t24 t25 t26 w3 ⟨⟨vl3, hd3, F3, f3, k3, a3, b3⟩, x3, m3⟩
  have G3 := Lib.hid (And.intro f3 (And.intro (G2.out.2.1.trans k3 (fun k e => (A2.out.1 k e).imp id (fun h => Nat.le_of_lt h))) (And.intro x3 (m3.trans G2.out.2.2.2))))
  have A3 : Hid ((∀ k, F3 k → F k ∨ w.heap.size < k) ∧ ∀ k, F k → F3 k) := ⟨fun k e => (a3 k e).elim (A2.out.1 k) (fun e2 => by have := G2.out.2.2.1.lt; omega), fun k e => b3 k (A2.out.2 k e)⟩
  have N3 : Hid (¬ F3 w.heap.size) := fun e => (A3.out.1 _ e).elim NG.out (fun e2 => Nat.lt_irrefl _ e2)
  clear f3 k3 a3 b3 x3 m3
  rw [show (putA S x).stands = S.stands from rfl]
  by_cases hst : stN S.stands x.s = 0
  · rw [decide_eq_true hst]
    go_wp2_with fail
    refine put_r4 _ _ _ _ _ _ _ _ _ _ _ _ _ _ _ _ _ _ _ _ _ _ _ _ _ _ _ _ _ _ _ _ _ _ _ _ _ _ _ _ _ w3 s bt bs bw w.heap.size (n + 1) vl3 hd3 F3 (putA S x) x G3.out.1 G3.out.2.2.1 N3.out (by omega) (by
      show ((S.waiting x.s).getD []).length ≤ 1000000
      cases hw : S.waiting x.s with
      | none => simp
      | some L => have := HMM.out x.s L hw; simp only [Option.getD_some]; omega) _ ?_
    intro t28 t29 t30 t31 t32 t33 t34 t35 t36 t37 t38 t39 w4 ⟨⟨vl4, hd4, F4, f4, k4, a4, b4⟩, x4, m4⟩
    have FIN : Hid (PutE s bt bs bw F M S x n w w4) := ⟨vl4, hd4, F4, putW S x, n + 1 + 1 + 1, .inl ⟨hst, rfl⟩, f4, G3.out.2.1.trans k4 (fun k e => (A3.out.1 k e).imp id (fun h => Nat.le_of_lt h)), fun k e => (a4 k e).elim (fun e2 => (A3.out.1 k e2).imp id (fun h => Nat.le_of_lt h)) (fun e2 => .inr (by have := G3.out.2.2.1.lt; omega)), fun k e => b4 k (A3.out.2 k e), by omega, fun p L hp => by
      by_cases e : p = x.s
      · rw [show (putW S x).waiting p = some ((S.waiting x.s).getD [] ++ [x]) from if_pos e] at hp
        injection hp with hp
        rw [← hp, List.length_append]
        cases hw : S.waiting x.s with
        | none => simp
        | some L => have := HMM.out x.s L hw; simp only [Option.getD_some, List.length_singleton]; omega
      · rw [show (putW S x).waiting p = S.waiting p from if_neg e] at hp
        have := HMM.out p L hp
        omega, by have := G3.out.2.2.2; omega⟩
    clear f4 k4 a4 b4 x4 m4
    go_wp2_with fail
    exact bodyPost_ret (v := .tuple #[]) (results_none rfl _ _ _) rfl ⟨rfl, FIN.out⟩
  · rw [decide_eq_false hst]
    have c3 := G3.out.2.2.1.row
    have CF := Lib.hid (fol_c w3 s bt bs bw (n + 1) M vl3 hd3 F3 (putA S x) x G3.out.1 HMM.out hM2 (by have := G3.out.2.2.2; omega) (by omega))
    go_wp2_with (first
      | (refine wpList_load_row rfl 36 (.tmp 3) rfl w.heap.size rfl 36 (lv x) (0, 0) _ c3 Try.underlying36 rfl (size_lv x) ?_)
      | fail)
    refine CF.out.mono ?_
    rintro e w4 ⟨rfl, S', hd4, n', q1, q2, q3, q4, q5, q6⟩
    have FIN : Hid (PutE s bt bs bw F M S x n w w4) := ⟨vl3, hd4, F3, S', n', .inr ⟨hst, q1⟩, q2, G3.out.2.1.trans q4 (fun k e => (A3.out.1 k e).imp id (fun h => Nat.le_of_lt h)), fun k e => (A3.out.1 k e).imp id (fun h => Nat.le_of_lt h), A3.out.2, by rw [G3.out.2.2.2] at q3; omega, fun p L hp => Nat.le_succ_of_le (q5 p L hp), by have := G3.out.2.2.2; omega⟩
    clear q1 q2 q3 q4 q5 q6
    go_wp2_with fail
    exact bodyPost_end (results_none rfl _ _ _) rfl ⟨rfl, FIN.out⟩
end Go.Proofs.Ythlbpjkopkicbaa
