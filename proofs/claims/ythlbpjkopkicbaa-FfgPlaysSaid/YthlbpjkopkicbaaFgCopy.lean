/- A gadget is copied. -/
import Derived.Test.YthlbpjkopkicbaaFgCpS
namespace Go.Proofs.Ythlbpjkopkicbaa
open Go.ChangeMaps Go.MapKept Go.Maps Go.WideElems Go.RowKit Go.ChangeShapes Go.WideShapes Go.ChangeAt
set_option linter.unusedVariables false
set_option maxRecDepth 100000

/-- Those who wait, as far as they have been gone over. -/
noncomputable def overS (S : FgS) (left : Lit → Bool) : FgS := { S with waiting := fun p => if left (klP p) = true then none else S.waiting p }
theorem FgB.hdRow' {s bt bs bw n : Nat} {vl : Value} {hd : Pt → Option Value} {F : Nat → Prop} {S : FgS} {w : World} (h : FgB s bt bs bw vl hd F S n w) {p : Pt} {v : Value} {LL : List Lk} (hv : hd p = some v) (hw : S.waiting p = some LL) : w.ownsRow 0 36 66 v LL.length (lks LL) := by
  obtain ⟨L2, e1, e2⟩ := h.hdRow hv
  rw [hw] at e1
  injection e1 with e1
  subst e1
  exact e2
/-- A copy under way. -/
def CpJ (it bw sz n : Nat) (sN m1 m2 m3 : Nat) (vN : Value) (S : FgS) (D : DataW Value) (w : World) (cnt : Nat) (u : World) : Prop :=
  ∃ (left : Lit → Bool) (hdN : Pt → Option Value) (nv n1 : Nat), u.ranges Try.prog 29 heldR bw it sz D left cnt ∧ FgB sN m1 m2 m3 vN hdN (fun k => w.heap.size ≤ k ∧ k < u.heap.size ∧ k ≠ it) (overS S left) n1 u ∧ MapF 29 klP u m3 nv hdN ∧ nv + cnt ≤ sz ∧ n1 ≤ n + nv ∧ (∀ p, left (klP p) = true → hdN p = none) ∧ Below w.heap.size w u ∧ w.heap.size ≤ it ∧ it < u.heap.size
theorem ranges_kept {u u' : World} {bw it sz cnt m : Nat} {D : DataW Value} {left : Lit → Bool} (h : u.ranges Try.prog 29 heldR bw it sz D left cnt) (hg : u.grownBy u' (some m)) (h1 : some bw ≠ some m) (h2 : some it ≠ some m) : u'.ranges Try.prog 29 heldR bw it sz D left cnt := h.kept hg h1 h2
set_option maxRecDepth 1000000 in
set_option maxHeartbeats 8000000 in
theorem clone_c (w : World) (s bt bs bw n : Nat) (vl : Value) (hd : Pt → Option Value) (F : Nat → Prop) (S : FgS) (h : FgB s bt bs bw vl hd F S n w) (hlk : S.links.length ≤ 1000000) (hM : ∀ p LL, S.waiting p = some LL → LL.length ≤ 1000000) (hn : n ≤ 900000) :
    Calls Try.prog 39 #[.pointer (some ⟨s, 0, none⟩)] w fun e w' => ∃ sN m1 m2 m3 vN hdN n', e = .returned (.pointer (some ⟨sN, 0, none⟩)) ∧ FgB sN m1 m2 m3 vN hdN (fun k => w.heap.size ≤ k ∧ k < w'.heap.size) S n' w' ∧ n' ≤ 2 * n ∧ Below w.heap.size w w' := by
  have hzp := zero_pt
  have hsz := h.waits.size
  have HB := Lib.hid h
  have HMM := Lib.hid hM
  have HSZ := Lib.hid hsz
  clear hM hsz
  go_enter Try.func39, Try.ntmps39
  go_wp2_with fail
  refine cp_r1 _ _ _ _ _ _ _ _ _ _ _ _ _ _ _ _ _ _ _ _ _ _ _ _ _ _ _ _ _ _ _ _ _ _ _ _ _ _ _ _ _ w s bt bs bw n vl hd F S h hlk _ ?_
  rintro t3 t6 t7 t8 t9 t10 t11 t12 t13 t14 t15 t16 t17 t18 t19 t20 t21 t22 t23 w1 ⟨sN, m1, m2, m3, vN, rfl, f1, q1, b1⟩
  have h1 := h.below b1
  have c3 : w1.cell? ⟨s, 3, none⟩ = some (.map (some bw)) := cell_of_row w1 s 3 _ _ (0, 0) h1.cells
  obtain ⟨D, hown, hD⟩ := h1.waits.tight
  obtain ⟨sz, hsE⟩ : ∃ sz, sz = mapSize w1 bw := ⟨_, rfl⟩
  rw [← hsE] at hown
  have hsn : sz ≤ n := by rw [hsE]; exact h1.waits.size
  have HSN := Lib.hid hsn
  have hbwl : bw < w.heap.size := h.fin bw h.foot.2.2.2.1
  have hm3l : w.heap.size ≤ m3 ∧ m3 < w1.heap.size := f1.foot.2.2.2.1
  have HDD := Lib.hid hD
  have HOWN := Lib.hid hown
  have F1 := Lib.hid f1
  have Q1 := Lib.hid q1
  have B1 := Lib.hid b1
  have H1 := Lib.hid h1
  have HBW := Lib.hid (And.intro hbwl hm3l)
  clear f1 q1 b1 hD h1 hbwl hm3l h hsE hsn
  go_wp2_with (first
    | (at_range; refine wpList_range_own _ rfl (.tmp 27) 71 rfl 29 _ keyP.law Try.underlying71 heldR bw sz D rfl HOWN.out ?_; intro w0 hrg0 hg0 hs0; go_frame)
    | fail)
  go_loopw [4] (fun v4 u => ∃ cnt, CpJ w1.heap.size bw sz n sN m1 m2 m3 vN S D w cnt u) (fun _ u => u.rangeLeft bw w1.heap.size)
  case atStart =>
    have e0 : overS S (Maps.has D) = { S with waiting := fun _ => none } := by
      unfold overS
      congr 1
      funext p
      have e := has_f keyP HDD.out p
      by_cases hh : Maps.has D (klP p) = true
      · rw [if_pos hh]
      · rw [if_neg hh]
        cases hw : S.waiting p with
        | none => rfl
        | some LL =>
          have := H1.out.rows p
          rw [hw] at this
          obtain ⟨v, e1, _⟩ := this
          rw [e1] at e
          exact absurd e hh
    have hB0 : Below w1.heap.size w1 w0 := (Below.refl _ _).grown hg0 (Nat.le_refl _) (fun k e => by cases e)
    have f0 : FgB sN m1 m2 m3 vN (fun _ => none) (fun k => w.heap.size ≤ k ∧ k < w0.heap.size ∧ k ≠ w1.heap.size) (overS S (Maps.has D)) n w0 := by
      rw [e0]
      exact (F1.out.below hB0).wider (fun k hk => ⟨hk.1, Nat.lt_of_lt_of_le hk.2 hB0.size, by have := hk.2; omega⟩) (fun k hk => hk.2.1)
    exact ⟨Maps.size D, Maps.has D, fun _ => none, 0, n, hrg0, f0, Q1.out.keep (hB0.block _ Q1.out.lt), by rw [Nat.zero_add]; exact HOWN.out.size_le, by omega, fun p _ => rfl, B1.out.trans (hB0.mono B1.out.size), B1.out.size, by omega⟩
  case round =>
    obtain ⟨cnt, left, hdN, nv, n1, q1, q2, q3, q4, q5, q6, q7, q8⟩ := hrel
    have R1 := Lib.hid q1
    have G1 := Lib.hid q2
    have W1 := Lib.hid q3
    have CN := Lib.hid (And.intro q4 q5)
    have N1 := Lib.hid q6
    have B2 := Lib.hid q7
    have IT := Lib.hid q8
    clear q1 q2 q3 q4 q5 q6 q7 q8
    go_wp2_with (first
      | (at_next; refine wpList_next_ranges _ rfl (.tmp 28) rfl 29 keyP.law heldR (fun p : Pt => Value.agg (pv p)) (fun v : Value => v) key_point_inv (fun v y _ => ⟨v, rfl⟩) bw w1.heap.size sz D left cnt rfl R1.out ?_ ?_)
      | fail)
    · intro h0 hl0
      have e0 : overS S left = S := by
        unfold overS
        have : (fun p => if left (klP p) = true then none else S.waiting p) = S.waiting := by
          funext p
          rw [if_neg (by rw [hl0 _]; simp)]
        rw [this]
      have G2 := G1.out
      rw [e0] at G2
      have G2h := Lib.hid G2
      clear G2
      go_wp2_with fail
      go_ret
      exact ⟨sN, m1, m2, m3, vN, hdN, n1, rfl, G2h.out.wider (fun k hk => ⟨hk.1, hk.2.1⟩) (fun k hk => hk.2), by have := CN.out; have := HSN.out; omega, B2.out⟩
    · intro x c kl ya yb w2 cnt1 hkey hlk2 hv hat hrg1 hlt hg1 hs1 hen
      have ekl : kl = klP x := by
        have e := keyP.at_ x
        rw [hkey] at e
        injection e
      subst ekl
      have hdx : hd x = some c := by
        have e1 : ya = .held c := by
          unfold heldR at hv
          injection hv with hv
          injection hv with hv _
          exact hv.symm
        subst e1
        have e2 := hat .nil
        rw [HDD.out] at e2
        cases hs : hd x with
        | none => rw [hs] at e2; cases e2
        | some v => rw [hs] at e2; injection e2 with e2; rw [e2]
      have HU := HB.out.below B2.out
      obtain ⟨LL, hwx, hox⟩ := HU.hdRow hdx
      have hl6 := HMM.out x LL hwx
      obtain ⟨A, cc, rfl, _⟩ := ownForm hox
      have it1 : w.heap.size ≤ w1.heap.size := B1.out.size
      have itl : w1.heap.size < wr.heap.size := IT.out.2
      obtain ⟨u1, hu1⟩ : ∃ u1, u1 = w2.alloc (.cells (pv x) 29) := ⟨_, rfl⟩
      have b1 : Below w2.heap.size w2 u1 := by rw [hu1]; exact (Below.refl _ _).alloc (Nat.le_refl _) _
      have X1 : Hid (PkB w2.heap.size x u1) := by rw [hu1]; exact PkB.new
      have R2 : Hid (u1.ranges Try.prog 29 heldR bw w1.heap.size sz D (fun z => left z && !z.sameKey (klP x)) cnt1) := by rw [hu1]; exact hrg1.alloc _
      have q2 := (G1.out.keep (w' := w2) (fun k hk => hg1.block k hk.2.1 (fun e => by injection e with e; exact hk.2.2 e)) hg1.size).below b1
      have G2 : Hid (FgB sN m1 m2 m3 vN hdN (fun k => w.heap.size ≤ k ∧ k < u1.heap.size ∧ k ≠ w1.heap.size) (overS S left) n1 u1) := q2.wider (fun k hk => ⟨hk.1, Nat.lt_of_lt_of_le hk.2.1 (Nat.le_trans hg1.size b1.size), hk.2.2⟩) (fun k hk => hk.2.1)
      have k3 : u1.heap[m3]? = wr.heap[m3]? := (b1.block _ (Nat.lt_of_lt_of_le W1.out.lt hg1.size)).trans (hg1.block _ W1.out.lt (fun e => by injection e with e; have := HBW.out.2.2; omega))
      have W2 := Lib.hid (W1.out.keep k3)
      have BB : Hid (Below w.heap.size w u1) := (B2.out.grown hg1 B2.out.size (fun k e => by injection e with e; omega)).trans (b1.mono (Nat.le_trans B2.out.size hg1.size))
      have O2 : Hid (u1.ownsRow 0 36 66 (.slice A LL.length cc) LL.length (lks LL)) := ownKeep (HB.out.hdRow' hdx hwx) (fun g hg => BB.out.block g (HB.out.fin g (HB.out.hdF hdx hg)))
      have HU1 := Lib.hid hu1
      have ITU : Hid (w1.heap.size < u1.heap.size) := Nat.lt_of_lt_of_le itl (Nat.le_trans hg1.size b1.size)
      have HLT := Lib.hid hlt
      have HWX := Lib.hid hwx
      have x1 := X1.out.row
      clear hkey hlk2 hv hat hrg1 hg1 hs1 b1 hu1 q2 k3 hox HU hdx hwx
      go_wp2_with (first
        | (refine wpList_store_row rfl 29 (.tmp 4) (.tmp 32) rfl w2.heap.size (pv x) rfl rfl 29 (pv ptZ) (heap_alloc_new w2 _) (size_pv x) (by rw [show (pv x).size = 33 from rowV_size _ _]; exact rowV_size _ _) (rowV_one 33 _ (pf_one x)) ?_; rw [World.setRow_alloc_new]; rw [← HU1.out])
        | fail)
      refine cp_r5 _ _ _ _ _ _ _ _ _ _ _ _ _ _ _ _ _ _ _ _ _ _ _ _ _ _ _ _ _ _ _ _ _ _ _ _ _ _ _ u1 sN m1 m2 m3 n1 nv w.heap.size w1.heap.size w2.heap.size cc vN hdN (overS S left) x LL A G2.out W2.out X1.out O2.out hl6 BB.out.size (by have := CN.out; have := HSN.out; omega) (by have := CN.out; have := HSN.out; omega) ITU.out _ ?_
      rintro t34 t35 t36 t37 t38 t39 t40 w3 ⟨v', f3, e3, g3⟩
      have R3 := Lib.hid (ranges_kept R2.out g3 (fun e => by injection e with e; have := HBW.out; omega) (fun e => by injection e with e; have := HBW.out; omega))
      have B3 := Lib.hid (BB.out.grown g3 BB.out.size (fun k e => by injection e with e; have := HBW.out; omega))
      have ES : overS S (fun z => left z && !z.sameKey (klP x)) = { overS S left with waiting := fun q => if q = x then some LL else (overS S left).waiting q } := by
        unfold overS
        congr 1
        funext q
        show (if (left (klP q) && !(klP q).sameKey (klP x)) = true then none else S.waiting q) = if q = x then some LL else if left (klP q) = true then none else S.waiting q
        rw [klP_same]
        by_cases e : q = x
        · subst e
          rw [if_pos rfl, decide_eq_true rfl, Bool.not_true, Bool.and_false, if_neg (by simp)]
          exact HWX.out
        · rw [if_neg e, decide_eq_false e, Bool.not_false, Bool.and_true]
      rw [← ES] at f3
      have F3 := Lib.hid f3
      have E3 := Lib.hid e3
      have I3 := Lib.hid (And.intro IT.out.1 (Nat.lt_of_lt_of_le ITU.out g3.size))
      clear f3 e3 g3 ES x1
      go_wp2_with fail
      refine ⟨⟨cnt1, _, _, nv + 1, n1 + 1, R3.out, F3.out, E3.out, by have := CN.out; have := HLT.out; omega, by have := CN.out; omega, fun p hp => ?_, B3.out, I3.out⟩, ?_⟩
      · have hp' : (left (klP p) && !(klP p).sameKey (klP x)) = true := hp
        rw [klP_same] at hp'
        unfold setF
        by_cases e : p = x
        · rw [decide_eq_true e, Bool.not_true, Bool.and_false] at hp'
          cases hp'
        · rw [if_neg e]
          rw [decide_eq_false e, Bool.not_false, Bool.and_true] at hp'
          exact N1.out p hp'
      · rw [R3.out.left_eq, R1.out.left_eq]
        exact HLT.out
end Go.Proofs.Ythlbpjkopkicbaa
