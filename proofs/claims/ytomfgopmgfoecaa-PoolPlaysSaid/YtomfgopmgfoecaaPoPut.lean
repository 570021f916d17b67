/- A vote is put. -/
import Derived.Test.YtomfgopmgfoecaaPoPutD
import Derived.BigFrame
namespace Go.Proofs.Ytomfgopmgfoecaa
open Go.ChangeMaps Go.MapKept Go.Maps Go.RowKit Go.ChangeShapes Go.WideShapes Go.ChangeAt
set_option linter.unusedVariables false
set_option maxRecDepth 100000

theorem put_next {F F1 F2 : Nat → Prop} {w w1 w2 : World} {gb gl gt : Nat} (K1 : Kept F w w1) (A1 : (∀ k, F1 k → F k ∨ w.heap.size ≤ k) ∧ ∀ k, F k → F1 k) (k2 : Kept F1 w1 w2) (a2 : ∀ k, F2 k → F1 k ∨ w1.heap.size ≤ k) (b2 : ∀ k, F1 k → F2 k)
    (NF : ∀ k, k = gb ∨ k = gl ∨ k = gt → ¬ F1 k) (lt : ∀ k, k = gb ∨ k = gl ∨ k = gt → k < w1.heap.size) : Kept F w w2 ∧ ((∀ k, F2 k → F k ∨ w.heap.size ≤ k) ∧ ∀ k, F k → F2 k) ∧ (∀ k, k = gb ∨ k = gl ∨ k = gt → ¬ F2 k) :=
  ⟨K1.trans k2 A1.1, ⟨fun k e => (a2 k e).elim (A1.1 k) (fun e2 => .inr (Nat.le_trans K1.2.2.2.1 e2)), fun k e => b2 k (A1.2 k e)⟩, fun k hk e => (a2 k e).elim (NF k hk) (fun e2 => Nat.lt_irrefl _ (Nat.lt_of_lt_of_le (lt k hk) e2))⟩
def putP (S : PoS) (x : Sg) (j : Lk ⊕ Hh) : Option (List Nat) := if j = .inr x.h then some ((S.pl j).getD [] ++ [S.votes.length]) else if j = .inl x.k then some ((S.pl j).getD [] ++ [S.votes.length]) else S.pl j
/-- A vote is put, plainly. -/
def putS (S : PoS) (x : Sg) : PoS := ⟨S.votes ++ [x], if (S.pl (.inl x.k)).isSome then S.links else S.links ++ [x.k], addW S.wt x.k (S.wt x.k + x.st), putP S x, S.bal ++ [⟨x.h, x.k⟩]⟩
theorem PoB.cast {s bt bk bb n : Nat} {vv vl : Value} {hd : Lk ⊕ Hh → Option Value} {F : Nat → Prop} {S S' : PoS} {w : World} (h : PoB s bt bk bb vv vl hd F S n w) (e : S' = S) : PoB s bt bk bb vv vl hd F S' n w := by rw [e]; exact h
theorem put_eq (S : PoS) (x : Sg) (L1 L2 : List Nat) (h1 : L1 = (S.pl (.inl x.k)).getD []) (h2 : L2 = (S.pl (.inr x.h)).getD []) : putS S x = ⟨S.votes ++ [x], if (S.pl (.inl x.k)).isSome then S.links else S.links ++ [x.k], addW S.wt x.k (S.wt x.k + x.st), fun j => if j = .inr x.h then some (L2 ++ [S.votes.length]) else if j = .inl x.k then some (L1 ++ [S.votes.length]) else S.pl j, S.bal ++ [⟨x.h, x.k⟩]⟩ := by
  unfold putS
  congr 1
  funext j
  unfold putP
  by_cases e : j = .inr x.h
  · subst e
    rw [if_pos rfl, if_pos rfl, h2]
  · rw [if_neg e, if_neg e]
    by_cases e2 : j = .inl x.k
    · subst e2
      rw [if_pos rfl, if_pos rfl, h1]
    · rw [if_neg e2, if_neg e2]
def PutE (s bt bk bb : Nat) (F : Nat → Prop) (S : PoS) (n : Nat) (w w' : World) : Prop :=
  ∃ vv vl hd F', PoB s bt bk bb vv vl hd F' S n w' ∧ Kept F w w' ∧ (∀ k, F' k → F k ∨ w.heap.size ≤ k) ∧ ∀ k, F k → F' k
set_option maxRecDepth 1000000 in
set_option maxHeartbeats 8000000 in
theorem put_c (w : World) (s bt bk bb n : Nat) (vv vl : Value) (hd : Lk ⊕ Hh → Option Value) (F : Nat → Prop) (S : PoS) (x : Sg) (Ax : Option Addr) (mx cx : Nat) (hx : x.sv = .slice Ax mx cx) (h : PoB s bt bk bb vv vl hd F S n w) (hw0 : S.pl (.inl x.k) = none → S.wt x.k = 0)
    (hn : n ≤ 900000) (hv : S.votes.length ≤ 1000000) (hl : S.links.length ≤ 1000000) (hp : ∀ i, ((S.pl i).getD []).length ≤ 1000000) (hs : S.wt x.k + x.st ≤ 18446744073709551615) :
    Calls Try.prog 35 #[.pointer (some ⟨s, 0, none⟩), .agg (sgv x)] w fun e w' => e = .returned (.tuple #[]) ∧ PutE s bt bk bb F (putS S x) (n + 1 + 1 + 1 + 1) w w' := by
  obtain ⟨W, hW⟩ : ∃ W, W = w.alloc (.cells (sgv x) 42) := ⟨_, rfl⟩
  obtain ⟨gb, hgb⟩ : ∃ g, g = w.heap.size := ⟨_, rfl⟩
  have hB : Below w.heap.size w W := by rw [hW]; exact (Below.refl _ _).alloc (Nat.le_refl _) _
  have HX : Hid (SgB gb x W) := by rw [hW, hgb]; exact SgB.new
  have HF := Lib.hid (h.below hB)
  have HB := Lib.hid hB
  have HFI := Lib.hid h.fin
  have HGB := Lib.hid hgb
  obtain ⟨Ay, cy, hy, _⟩ := ownForm (h.row (.inl x.k)).1
  obtain ⟨Az, cz, hz, _⟩ := ownForm (h.row (.inr x.h)).1
  obtain ⟨L1, hL1⟩ : ∃ L, L = (S.pl (.inl x.k)).getD [] := ⟨_, rfl⟩
  obtain ⟨L2, hL2⟩ : ∃ L, L = (S.pl (.inr x.h)).getD [] := ⟨_, rfl⟩
  have hl1 := hp (.inl x.k)
  have hl2 := hp (.inr x.h)
  rw [← hL1] at hy hl1
  rw [← hL2] at hz hl2
  obtain ⟨b, hb⟩ : ∃ b, b = (S.pl (.inl x.k)).isSome := ⟨_, rfl⟩
  have HW := Lib.hid hW
  have HXX := Lib.hid hx
  have D := Lib.hid (And.intro hy (And.intro hz (And.intro hL1 (And.intro hL2 (And.intro hw0 hb)))))
  have Q := Lib.hid (And.intro hn (And.intro hv (And.intro hl (And.intro hl1 (And.intro hl2 hs)))))
  clear hW hB h hx hy hz hL1 hL2 hb hw0 hn hv hl hp hs hl1 hl2 hgb
  go_enter Try.func35, Try.ntmps35
  go_wp2_with fail
  rw [← HW.out, ← HGB.out]
  refine pp_r1 _ _ _ _ _ _ _ _ _ _ _ _ _ _ _ _ _ _ _ _ _ _ _ _ _ _ _ _ _ _ _ _ _ _ _ _ _ _ _ _ _ _ _ _ _ _ _ _ _ _ _ _ _ _ _ _ _ _ _ _ _ _ _ _ _ _ _ _ _ _ _ _ _ _ _ _ _ _ _ _ _ _ W s bt bk bb n vv vl hd F S x gb HF.out HX.out _ ?_
  intro u0 u1 u2 u3 u4 u5 u6 u7 w1 gl ⟨l1, e1, b1⟩
  have X1 := Lib.hid (HX.out.below (b1.mono (Nat.le_refl _)) HX.out.lt)
  have F1 := Lib.hid (HF.out.below b1)
  have L1' := Lib.hid l1
  have G1 := Lib.hid e1
  have B1 := Lib.hid (HB.out.trans (b1.mono HB.out.size))
  clear l1 e1 b1
  go_wp2_with fail
  refine pp_r2 _ _ _ _ _ _ _ _ _ _ _ _ _ _ _ _ _ _ _ _ _ _ _ _ _ _ _ _ _ _ _ _ _ _ _ _ _ _ _ _ _ _ _ _ _ _ _ _ _ _ _ _ _ _ _ _ _ _ _ _ _ _ _ _ _ _ _ _ _ _ _ _ _ _ _ _ _ _ _ _ _ _ w1 s bt bk bb n vv vl hd F S x gl Ay L1.length cy b F1.out L1'.out D.out.1 D.out.2.2.2.2.2 D.out.2.2.2.2.1 _ ?_
  intro v0 v1 v2 v3 v4 v5 v6 v7 v8 w2 gt ⟨t1, e1, b1⟩
  have LO : Hid (Loc gb gl gt x (S.wt x.k) (.slice Ay L1.length cy) w2) := ⟨X1.out.below b1 X1.out.lt, L1'.out.below b1 L1'.out.lt, t1⟩
  have HF2 := Lib.hid (F1.out.below b1)
  have KF : Hid (Kept F w w2) := Kept.of_below (B1.out.trans (b1.mono B1.out.size))
  have NF : Hid (∀ k, k = gb ∨ k = gl ∨ k = gt → ¬ F k) := fun k hk e => by
    have h1 := HFI.out k e
    have h2 := HGB.out
    have h3 := G1.out
    have h4 := HB.out.size
    have h5 := B1.out.size
    rcases hk with hk | hk | hk <;> omega
  have AF : Hid ((∀ k, F k → F k ∨ w.heap.size ≤ k) ∧ ∀ k, F k → F k) := ⟨fun k e => .inl e, fun k e => e⟩
  clear t1 e1 b1 X1 L1' F1 HX HF
  cases b with
  | true =>
    go_wp2_with fail
    refine pp_r5 _ _ _ _ _ _ _ _ _ _ _ _ _ _ _ _ _ _ _ _ _ _ _ _ _ _ _ _ _ _ _ _ _ _ _ _ _ _ _ _ _ _ _ _ _ _ _ _ _ _ _ _ _ _ _ _ _ _ _ _ _ _ _ _ _ _ _ _ _ _ _ _ _ _ _ _ _ _ _ w2 s bt bk bb n vv vl hd F S x gb gl gt (S.wt x.k) Ay L1 cy S.votes.length HF2.out LO.out NF.out D.out.2.2.1 D.out.1 (by have := Q.out; omega) Q.out.2.2.2.1 Q.out.2.2.2.2.2 _ ?_
    intro x0 x1 x2 x3 x4 x5 x6 x7 x8 x9 x10 x11 x12 x13 x14 x15 w4 ⟨v4, F4, f4, k4, a4, b4, l4⟩
    have N4 := Lib.hid (put_next KF.out AF.out k4 a4 b4 NF.out LO.out.lt)
    have HF4 := Lib.hid f4
    have LO4 := Lib.hid l4
    clear f4 k4 a4 b4 l4
    go_wp2_with fail
    refine pp_r6 _ _ _ _ _ _ _ _ _ _ _ _ _ _ _ _ _ _ _ _ _ _ _ _ _ _ _ _ _ _ _ _ _ _ _ _ _ _ _ _ _ _ _ _ _ _ _ _ _ _ _ _ _ _ _ _ _ _ _ _ _ _ _ _ _ _ _ _ _ _ _ _ _ _ _ _ _ _ _ w4 s bt bk bb (n + 1) vv vl _ F4 _ x gb gl gt (S.wt x.k) _ Az L2 cz S.votes.length HF4.out LO4.out N4.out.2.2 (by rw [D.out.2.2.2.1]; rfl) D.out.2.1 (by have := Q.out; omega) Q.out.2.2.2.2.1 _ ?_
    intro y0 y1 y2 y3 y4 y5 y6 y7 y8 y9 y10 y11 w5 ⟨v5, F5, f5, k5, a5, b5, l5⟩
    have N5 := Lib.hid (put_next N4.out.1 N4.out.2.1 k5 a5 b5 N4.out.2.2 LO4.out.lt)
    have HF5 := Lib.hid f5
    have LO5 := Lib.hid l5
    clear f5 k5 a5 b5 l5
    go_wp2_with fail
    refine pp_r7 _ _ _ _ _ _ _ _ _ _ _ _ _ _ _ _ _ _ _ _ _ _ _ _ _ _ _ _ _ _ _ _ _ _ _ _ _ _ _ _ _ _ _ _ _ _ _ _ _ _ _ _ _ _ _ _ _ _ _ _ _ _ _ _ _ _ _ _ _ _ _ _ _ _ _ _ _ _ _ w5 s bt bk bb (n + 1 + 1 + 1) vv vl _ F5 _ x gb gl gt (S.wt x.k) _ S.votes.length HF5.out LO5.out N5.out.2.2 (by have := Q.out; omega) _ ?_
    intro z0 z1 z2 z3 z4 z5 z6 z7 z8 w6 ⟨f6, k6, l6⟩
    have N6 := Lib.hid (put_next N5.out.1 N5.out.2.1 k6 (fun k e => .inl e) (fun k e => e) N5.out.2.2 LO5.out.lt)
    have HF6 := Lib.hid f6
    have LO6 := Lib.hid l6
    clear f6 k6 l6
    go_wp2_with fail
    refine pp_r8 _ _ _ _ _ _ _ _ _ _ _ _ _ _ _ _ _ _ _ _ _ _ _ _ _ _ _ _ _ _ _ _ _ _ _ _ _ _ _ _ _ _ _ _ _ _ _ _ _ _ _ _ _ _ _ _ _ _ _ _ _ _ _ _ _ _ _ _ _ _ _ _ _ _ _ _ _ _ _ _ _ w6 s bt bk bb (n + 1 + 1 + 1 + 1) vv vl _ F5 _ x gb gl gt (S.wt x.k) _ HXX.out HF6.out LO6.out N6.out.2.2 Q.out.2.1 _ ?_
    intro q0 q1 q2 q3 q4 q5 q6 q7 q8 q9 w7 ⟨v7, F7, f7, k7, a7, b7, l7⟩
    have N7 := Lib.hid (put_next N6.out.1 N6.out.2.1 k7 a7 b7 N6.out.2.2 LO6.out.lt)
    have FIN : Hid (PutE s bt bk bb F (putS S x) (n + 1 + 1 + 1 + 1) w w7) := by
      have e5 := put_eq S x L1 L2 D.out.2.2.1 D.out.2.2.2.1
      rw [← D.out.2.2.2.2.2] at e5
      exact ⟨_, _, _, F7, PoB.cast f7 e5, N7.out.1, N7.out.2.1.1, N7.out.2.1.2⟩
    clear f7 k7 a7 b7 l7
    go_wp2_with fail
    exact bodyPost_end (results_none rfl _ _ _) rfl ⟨rfl, FIN.out⟩
  | false =>
    go_wp2_with fail
    refine pp_r4 _ _ _ _ _ _ _ _ _ _ _ _ _ _ _ _ _ _ _ _ _ _ _ _ _ _ _ _ _ _ _ _ _ _ _ _ _ _ _ _ _ _ _ _ _ _ _ _ _ _ _ _ _ _ _ _ _ _ _ _ _ _ _ _ _ _ _ _ _ _ _ _ _ _ _ _ _ _ _ _ _ w2 s bt bk bb n vv vl hd F S x gb gl gt (S.wt x.k) _ HF2.out LO.out NF.out Q.out.2.2.1 _ ?_
    intro p0 p1 p2 p3 p4 p5 p6 p7 p8 p9 w3 ⟨vl3, F3, f3, k3, a3, b3, l3⟩
    have N3 := Lib.hid (put_next KF.out AF.out k3 a3 b3 NF.out LO.out.lt)
    have K3 := Lib.hid N3.out.1
    have A3 := Lib.hid N3.out.2.1
    have NF3 := Lib.hid N3.out.2.2
    have HF3 := Lib.hid f3
    have LO3 := Lib.hid l3
    clear f3 k3 a3 b3 l3
    go_wp2_with fail
    refine pp_r5 _ _ _ _ _ _ _ _ _ _ _ _ _ _ _ _ _ _ _ _ _ _ _ _ _ _ _ _ _ _ _ _ _ _ _ _ _ _ _ _ _ _ _ _ _ _ _ _ _ _ _ _ _ _ _ _ _ _ _ _ _ _ _ _ _ _ _ _ _ _ _ _ _ _ _ _ _ _ _ w3 s bt bk bb n vv vl3 hd F3 _ x gb gl gt (S.wt x.k) Ay L1 cy S.votes.length HF3.out LO3.out NF3.out D.out.2.2.1 D.out.1 (by have := Q.out; omega) Q.out.2.2.2.1 Q.out.2.2.2.2.2 _ ?_
    intro x0 x1 x2 x3 x4 x5 x6 x7 x8 x9 x10 x11 x12 x13 x14 x15 w4 ⟨v4, F4, f4, k4, a4, b4, l4⟩
    have N4 := Lib.hid (put_next K3.out A3.out k4 a4 b4 NF3.out LO3.out.lt)
    have HF4 := Lib.hid f4
    have LO4 := Lib.hid l4
    clear f4 k4 a4 b4 l4
    go_wp2_with fail
    refine pp_r6 _ _ _ _ _ _ _ _ _ _ _ _ _ _ _ _ _ _ _ _ _ _ _ _ _ _ _ _ _ _ _ _ _ _ _ _ _ _ _ _ _ _ _ _ _ _ _ _ _ _ _ _ _ _ _ _ _ _ _ _ _ _ _ _ _ _ _ _ _ _ _ _ _ _ _ _ _ _ _ w4 s bt bk bb (n + 1) vv vl3 _ F4 _ x gb gl gt (S.wt x.k) _ Az L2 cz S.votes.length HF4.out LO4.out N4.out.2.2 (by rw [D.out.2.2.2.1]; rfl) D.out.2.1 (by have := Q.out; omega) Q.out.2.2.2.2.1 _ ?_
    intro y0 y1 y2 y3 y4 y5 y6 y7 y8 y9 y10 y11 w5 ⟨v5, F5, f5, k5, a5, b5, l5⟩
    have N5 := Lib.hid (put_next N4.out.1 N4.out.2.1 k5 a5 b5 N4.out.2.2 LO4.out.lt)
    have HF5 := Lib.hid f5
    have LO5 := Lib.hid l5
    clear f5 k5 a5 b5 l5
    go_wp2_with fail
    refine pp_r7 _ _ _ _ _ _ _ _ _ _ _ _ _ _ _ _ _ _ _ _ _ _ _ _ _ _ _ _ _ _ _ _ _ _ _ _ _ _ _ _ _ _ _ _ _ _ _ _ _ _ _ _ _ _ _ _ _ _ _ _ _ _ _ _ _ _ _ _ _ _ _ _ _ _ _ _ _ _ _ w5 s bt bk bb (n + 1 + 1 + 1) vv vl3 _ F5 _ x gb gl gt (S.wt x.k) _ S.votes.length HF5.out LO5.out N5.out.2.2 (by have := Q.out; omega) _ ?_
    intro z0 z1 z2 z3 z4 z5 z6 z7 z8 w6 ⟨f6, k6, l6⟩
    have N6 := Lib.hid (put_next N5.out.1 N5.out.2.1 k6 (fun k e => .inl e) (fun k e => e) N5.out.2.2 LO5.out.lt)
    have HF6 := Lib.hid f6
    have LO6 := Lib.hid l6
    clear f6 k6 l6
    go_wp2_with fail
    refine pp_r8 _ _ _ _ _ _ _ _ _ _ _ _ _ _ _ _ _ _ _ _ _ _ _ _ _ _ _ _ _ _ _ _ _ _ _ _ _ _ _ _ _ _ _ _ _ _ _ _ _ _ _ _ _ _ _ _ _ _ _ _ _ _ _ _ _ _ _ _ _ _ _ _ _ _ _ _ _ _ _ _ _ w6 s bt bk bb (n + 1 + 1 + 1 + 1) vv vl3 _ F5 _ x gb gl gt (S.wt x.k) _ HXX.out HF6.out LO6.out N6.out.2.2 Q.out.2.1 _ ?_
    intro q0 q1 q2 q3 q4 q5 q6 q7 q8 q9 w7 ⟨v7, F7, f7, k7, a7, b7, l7⟩
    have N7 := Lib.hid (put_next N6.out.1 N6.out.2.1 k7 a7 b7 N6.out.2.2 LO6.out.lt)
    have FIN : Hid (PutE s bt bk bb F (putS S x) (n + 1 + 1 + 1 + 1) w w7) := by
      have e5 := put_eq S x L1 L2 D.out.2.2.1 D.out.2.2.2.1
      rw [← D.out.2.2.2.2.2] at e5
      exact ⟨_, _, _, F7, PoB.cast f7 e5, N7.out.1, N7.out.2.1.1, N7.out.2.1.2⟩
    clear f7 k7 a7 b7 l7
    go_wp2_with fail
    exact bodyPost_end (results_none rfl _ _ _) rfl ⟨rfl, FIN.out⟩
end Go.Proofs.Ytomfgopmgfoecaa
