/- What follows of a link: a round. -/
import Derived.Test.YthlbpjkopkicbaaFgFolR
import Derived.Deep.WholeRow
namespace Go.Proofs.Ythlbpjkopkicbaa
open Go.ChangeMaps Go.MapKept Go.Maps Go.RowKit Go.ChangeShapes Go.WideShapes Go.ChangeAt
set_option linter.unusedVariables false
set_option maxRecDepth 100000

def blockOf (i : Nat) : Code → Option Code
  | .block n c => if n = i then some (.block n c) else blockOf i c
  | .seq a b => match blockOf i a with
    | some c => some c
    | none => blockOf i b
  | .cond _ a b => match blockOf i a with
    | some c => some c
    | none => blockOf i b
  | .loop c => blockOf i c
  | .scope c => blockOf i c
  | _ => none
theorem zero_link (u : World) : (zeroValue 36).run Try.prog u = .ok (.agg (lv lkZ)) u := by kernel_rfl
/-- A round that has come to its k-th link. -/
def FolR (s bt bs bw : Nat) (vl : Value) (F : Nat → Prop) (M : Nat) (S : FgS) (n : Nat) (w : World) (LL : List Lk) (k : Nat) (v5 : Value) (u : World) : Prop :=
  ∃ hd' n', FgB s bt bs bw vl hd' F (roundS S (LL.take k)).1 n' u ∧ n' ≤ n + 2 * k ∧ u.ownsRow w.heap.size 36 66 v5 (roundS S (LL.take k)).2.length (lks (roundS S (LL.take k)).2) ∧ Kept F w u ∧ mapSize u bw ≤ mapSize w bw ∧ ((roundS S (LL.take k)).2 = [] ∨ mapSize u bw < mapSize w bw) ∧ (roundS S (LL.take k)).2.length ≤ M * (mapSize w bw - mapSize u bw) ∧ ∀ p L, (roundS S (LL.take k)).1.waiting p = some L → L.length ≤ M
theorem FolR.start {s bt bs bw n M : Nat} {vl : Value} {hd : Pt → Option Value} {F : Nat → Prop} {S : FgS} {w : World} {LL : List Lk} (h : FgB s bt bs bw vl hd F S n w) (hM : ∀ p L, S.waiting p = some L → L.length ≤ M) : FolR s bt bs bw vl F M S n w LL 0 (.slice none 0 0) w :=
  ⟨hd, n, h, Nat.le_refl _, ⟨rfl, .inl ⟨rfl, rfl⟩⟩, Kept.refl F w, Nat.le_refl _, .inl rfl, Nat.zero_le _, hM⟩
theorem stepA_wait (S : FgS) (x : Lk) : (stepA S x).waiting = S.waiting := by unfold stepA; split <;> rfl
theorem link_cells {w : World} {base g c : Nat} {LL : List Lk} (h : w.ownsRow base 36 66 (.slice (some ⟨g, 0, none⟩) LL.length c) LL.length (lks LL)) {k : Nat} {x : Lk} (hk : LL[k]? = some x) : w.rangeAt g (k * 66) (lC x) := fun j v hv => by
  have hj : j < 66 := by rw [← lC_len x]; exact (List.getElem?_eq_some_iff.1 hv).1
  have hl : k < LL.length := (List.getElem?_eq_some_iff.1 hk).1
  rw [h.cellAt (k * 66 + j) (by omega), lks_at LL k j x hk hj, hv]
theorem near_test (x : Lk) : ((x.t.e : Int) == IntKind.u64.wrap ((x.s.e : Int) + 1)) = near x := by
  unfold near
  rw [Bool.eq_iff_iff, beq_iff_eq, decide_eq_true_eq, IntKind.wrap_u64]
  omega
theorem FolR.skip {s bt bs bw n M k n' : Nat} {vl v5 : Value} {hd1 : Pt → Option Value} {F : Nat → Prop} {S : FgS} {w u u' : World} {LL : List Lk} {x : Lk} (old : FolR s bt bs bw vl F M S n w LL k v5 u) (hxk : LL[k]? = some x) (hst : ¬ stN (stepA (roundS S (LL.take k)).1 x).stands x.t = 0)
    (hf : FgB s bt bs bw vl hd1 F (stepA (roundS S (LL.take k)).1 x) n' u') (hn' : n' ≤ n + 2 * (k + 1)) (ho : u'.ownsRow w.heap.size 36 66 v5 (roundS S (LL.take k)).2.length (lks (roundS S (LL.take k)).2)) (hK : Kept F w u') (hm : mapSize u' bw = mapSize u bw) : FolR s bt bs bw vl F M S n w LL (k + 1) v5 u' := by
  obtain ⟨hd0, n0, h1, h2, h3, h4, h5, h6, h7, h8⟩ := old
  unfold FolR
  rw [round_take S LL k x hxk]
  unfold stepS stepB stepN
  rw [if_neg hst, if_neg hst, List.append_nil]
  refine ⟨hd1, n', hf, hn', ho, hK, by omega, by rw [hm]; exact h6, by rw [hm]; exact h7, fun p L hp => h8 p L ?_⟩
  rw [stepA_wait] at hp
  exact hp
theorem FolR.take {s bt bs bw n M k n' : Nat} {vl v5 v' : Value} {hd2 : Pt → Option Value} {F : Nat → Prop} {S : FgS} {w u u' : World} {LL : List Lk} {x : Lk} (old : FolR s bt bs bw vl F M S n w LL k v5 u) (hxk : LL[k]? = some x) (hst : stN (stepA (roundS S (LL.take k)).1 x).stands x.t = 0)
    (hf : FgB s bt bs bw vl hd2 F { stepA (roundS S (LL.take k)).1 x with stands := setSt (stepA (roundS S (LL.take k)).1 x).stands x.t (some 1), waiting := setWt (stepA (roundS S (LL.take k)).1 x).waiting x.t none } n' u') (hn' : n' ≤ n + 2 * (k + 1))
    (ho : u'.ownsRow w.heap.size 36 66 v' ((roundS S (LL.take k)).2 ++ ((stepA (roundS S (LL.take k)).1 x).waiting x.t).getD []).length (lks ((roundS S (LL.take k)).2 ++ ((stepA (roundS S (LL.take k)).1 x).waiting x.t).getD []))) (hK : Kept F w u')
    (hm : mapSize u' bw + (if ((stepA (roundS S (LL.take k)).1 x).waiting x.t).isSome = true then 1 else 0) = mapSize u bw) : FolR s bt bs bw vl F M S n w LL (k + 1) v' u' := by
  obtain ⟨hd0, n0, h1, h2, h3, h4, h5, h6, h7, h8⟩ := old
  unfold FolR
  rw [round_take S LL k x hxk]
  unfold stepS stepB stepN
  rw [if_pos hst, if_pos hst]
  have h8' : ∀ p L, setWt (stepA (roundS S (LL.take k)).1 x).waiting x.t none p = some L → L.length ≤ M := fun p L hp => by
    unfold setWt at hp
    split at hp
    · cases hp
    · rw [stepA_wait] at hp
      exact h8 p L hp
  cases hw : (stepA (roundS S (LL.take k)).1 x).waiting x.t with
  | none =>
    rw [hw] at hm ho
    simp only [Option.getD_none, List.append_nil] at hm ho ⊢
    have hm' : mapSize u' bw = mapSize u bw := by simpa using hm
    exact ⟨hd2, n', hf, hn', ho, hK, by omega, by rw [hm']; exact h6, by rw [hm']; exact h7, h8'⟩
  | some W =>
    have hW : W.length ≤ M := h8 x.t W (by rw [← stepA_wait (roundS S (LL.take k)).1 x]; exact hw)
    rw [hw] at hm ho
    simp only [Option.isSome_some, Option.getD_some, if_true] at hm ho ⊢
    refine ⟨hd2, n', hf, hn', ho, hK, by omega, .inr (by omega), ?_, h8'⟩
    rw [List.length_append, show mapSize w bw - mapSize u' bw = (mapSize w bw - mapSize u bw) + 1 by omega, Nat.mul_succ]
    omega
theorem wait_some {s bt bs bw n : Nat} {vl : Value} {hd : Pt → Option Value} {F : Nat → Prop} {S : FgS} {w : World} (h : FgB s bt bs bw vl hd F S n w) (p : Pt) : (hd p).isSome = (S.waiting p).isSome := by
  have := h.rows p
  cases hw : S.waiting p with
  | none => rw [hw] at this; rw [show hd p = none from this]; rfl
  | some L =>
    rw [hw] at this
    obtain ⟨v, h1, _⟩ := this
    rw [h1]
    rfl
noncomputable def folB0 : Code := ((Try.f47.body.bind (blockOf 0))).getD .skip
set_option maxRecDepth 1000000 in
set_option maxHeartbeats 8000000 in
theorem fol_b0 (c1 c2 c3 c4 c6 c7 c8 c9 c13 c14 c15 c16 c17 c18 c19 c20 c21 c22 c23 c24 c25 c26 c27 c28 c29 c30 c31 c32 c33 c34 c35 c36 c37 c38 c39 c40 c41 c42 c43 c44 c45 c46 c47 c48 c49 c50 c51 c52 c53 c54 c55 c56 c57 c58 c59 c60 c61 c62 c63 : Value) (w : World) (s bt bs bw gL cL n M BL : Nat) (vl : Value) (hd : Pt → Option Value) (F : Nat → Prop) (S : FgS) (LL : List Lk) (h : FgB s bt bs bw vl hd F S n w)
    (hL : w.ownsRow BL 36 66 (.slice (some ⟨gL, 0, none⟩) LL.length cL) LL.length (lks LL)) (hgF : ¬ F gL) (hM : ∀ p L, S.waiting p = some L → L.length ≤ M) (hM2 : M ≤ 100000) (hW : mapSize w bw ≤ 1000) (hn : n ≤ 1000000000) (hLL : LL.length ≤ 200000000)
    (Q : Exit → Act → World → Prop) (hQ : ∀ (u7 u12 u13 u14 u15 u16 u17 u18 u19 u20 u21 u22 u23 u24 u25 u26 u27 u28 u29 u30 u31 u32 u33 u34 u35 u36 u37 u38 u39 u40 u41 u42 u43 u44 u45 u46 u47 u48 u49 u50 u51 u52 u53 u54 u55 u56 u57 u58 u59 v5 : Value) (w' : World), FolR s bt bs bw vl F M S n w LL LL.length v5 w' → Q .normal ⟨#[.pointer (some ⟨s, 0, none⟩), c1, c2, c3, c4, v5, c6, u7, c8, c9, .slice (some ⟨gL, 0, none⟩) LL.length cL, .int .i64 (LL.length : Int), u12, u13, u14, u15, u16, u17, u18, u19, u20, u21, u22, u23, u24, u25, u26, u27, u28, u29, u30, u31, u32, u33, u34, u35, u36, u37, u38, u39, u40, u41, u42, u43, u44, u45, u46, u47, u48, u49, u50, u51, u52, u53, u54, u55, u56, u57, u58, u59, c60, c61, c62, c63], []⟩ w') :
    Code.wp Try.prog folB0 Q ⟨#[.pointer (some ⟨s, 0, none⟩), c1, c2, c3, c4, .slice none 0 0, c6, c7, c8, c9, .slice (some ⟨gL, 0, none⟩) LL.length cL, .int .i64 (LL.length : Int), .int .i64 0, c13, c14, c15, c16, c17, c18, c19, c20, c21, c22, c23, c24, c25, c26, c27, c28, c29, c30, c31, c32, c33, c34, c35, c36, c37, c38, c39, c40, c41, c42, c43, c44, c45, c46, c47, c48, c49, c50, c51, c52, c53, c54, c55, c56, c57, c58, c59, c60, c61, c62, c63], []⟩ w := by
  conv => arg 2; whnf
  try dsimp only at hQ ⊢
  have hgl := (hL.lt gL rfl).2
  have HQ := Lib.hid hQ
  have HM0 := Lib.hid (FolR.start (LL := LL) h hM)
  have HL := Lib.hid hL
  clear hQ hM hL
  go_wp2_with fail
  go_loopw [12, 5] (fun v12 v5 u => ∃ k : Nat, k ≤ LL.length ∧ v12 = .int .i64 (k : Int) ∧ FolR s bt bs bw vl F M S n w LL k v5 u) (fun v12 _ _ => LL.length - (intOf v12).toNat)
  case atStart => exact ⟨0, Nat.zero_le _, rfl, HM0.out⟩
  case round =>
    obtain ⟨k, hk, rfl, hR⟩ := hrel
    have HR := Lib.hid hR
    clear hR
    by_cases hlt : k < LL.length
    · obtain ⟨x, hxk⟩ : ∃ x, LL[k]? = some x := ⟨_, List.getElem?_eq_getElem hlt⟩
      obtain ⟨hd1, n1, h1, hn1, ho1, hK1, hm1, hd2, hlen1, hM1⟩ := HR.out
      have hrow : wr.ownsRow BL 36 66 (.slice (some ⟨gL, 0, none⟩) LL.length cL) LL.length (lks LL) := ownKeep HL.out (fun g hg => by
        injection hg with hg
        subst hg
        exact hK1.2.2.2.2 _ hgl hgF)
      have kx := link_cells hrow hxk
      have hzl := zero_link
      obtain ⟨u1, hu1⟩ : ∃ u1, u1 = wr.alloc (.cells (lv x) 36) := ⟨_, rfl⟩
      have b1 : Below wr.heap.size wr u1 := by rw [hu1]; exact (Below.refl _ _).alloc (Nat.le_refl _) _
      have HX1 : Hid (LkB wr.heap.size x u1) := by rw [hu1]; exact LkB.new
      have HU1 := Lib.hid hu1
      have HB1 := Lib.hid b1
      have G1 : Hid (FgB s bt bs bw vl hd1 F (roundS S (LL.take k)).1 n1 wr ∧ n1 ≤ n + 2 * k ∧ wr.ownsRow w.heap.size 36 66 u5 (roundS S (LL.take k)).2.length (lks (roundS S (LL.take k)).2) ∧ Kept F w wr ∧ (roundS S (LL.take k)).2.length ≤ 100000000 ∧ ∀ p L, (roundS S (LL.take k)).1.waiting p = some L → L.length ≤ 100000) := ⟨h1, hn1, ho1, hK1, Nat.le_trans hlen1 (Nat.le_trans (Nat.mul_le_mul hM2 (show mapSize w bw - mapSize wr bw ≤ 1000 by omega)) (by decide)), fun p L hp => Nat.le_trans (hM1 p L hp) hM2⟩
      have NG : Hid (¬ F wr.heap.size) := fun e => by have := h1.fin _ e; omega
      have HS1 : Hid (FgB s bt bs bw vl hd1 F (roundS S (LL.take k)).1 n1 u1 ∧ Kept F w u1 ∧ mapSize u1 bw = mapSize wr bw ∧ u1.ownsRow w.heap.size 36 66 u5 (roundS S (LL.take k)).2.length (lks (roundS S (LL.take k)).2)) := ⟨h1.below b1, hK1.trans (F' := F) (Kept.of_below b1) (fun k e => .inl e), mapSize_keep (b1.block bw (h1.fin bw h1.foot.2.2.2.1)), ownKeep ho1 (fun g hg => b1.block g (ho1.lt g hg).2)⟩
      clear hrow hu1 b1 h1 hn1 ho1 hK1 hm1 hd2 hlen1 hM1
      have qn := near_test x
      cases hnr : near x
      · rw [hnr] at qn
        have eA : (stepA (roundS S (LL.take k)).1 x) = (roundS S (LL.take k)).1 := by unfold stepA; rw [if_neg (by rw [hnr]; decide)]
        go_wp2_with (first
          | (refine wpList_load_mid rfl 36 (.tmp 14) rfl gL (k * 66) (by go_simp) (lC x) _ kx Try.underlying36 rfl (by rw [size_lv x]; rfl) ?_; rw [lC_arr])
          | (refine wpList_store_row rfl 36 (.tmp 7) (.tmp 15) rfl wr.heap.size (lv x) rfl rfl 36 (lv lkZ) (heap_alloc_new wr _) (size_lv x) (by unfold lv; rw [rowV_size, rowV_size]) (rowV_one 66 _ (lkf_one x)) ?_; rw [World.setRow_alloc_new]; rw [← HU1.out]; have c33 := HX1.out.epochT; have c0 := HX1.out.epoch)
          | fail)
        have HA : Hid (FgB s bt bs bw vl hd1 F (stepA (roundS S (LL.take k)).1 x) n1 u1 ∧ Kept F w u1 ∧ LkB wr.heap.size x u1 ∧ mapSize u1 bw = mapSize wr bw ∧ u1.ownsRow w.heap.size 36 66 u5 (roundS S (LL.take k)).2.length (lks (roundS S (LL.take k)).2)) := ⟨by rw [eA]; exact HS1.out.1, HS1.out.2.1, HX1.out, HS1.out.2.2.1, HS1.out.2.2.2⟩
        clear eA
        refine fol_r8 _ _ _ _ _ _ _ _ _ _ _ _ _ _ _ _ _ _ _ _ _ _ _ _ _ _ _ _ _ _ _ _ _ _ _ _ _ _ _ _ _ _ _ _ _ _ _ _ _ _ _ _ _ _ _ _ _ _ _ _ _ _ u1 s bt bs bw wr.heap.size n1 vl hd1 F (stepA (roundS S (LL.take k)).1 x) x HA.out.1 HA.out.2.2.1 NG.out _ ?_
        intro t30 t31 t32 t33 t34 t35 t36 w3 ⟨hf3, hk3, hx3, hs3⟩
        have HC : Hid (FgB s bt bs bw vl hd1 F (stepA (roundS S (LL.take k)).1 x) n1 w3 ∧ Kept F w w3 ∧ LkB wr.heap.size x w3 ∧ mapSize w3 bw = mapSize wr bw ∧ w3.ownsRow w.heap.size 36 66 u5 (roundS S (LL.take k)).2.length (lks (roundS S (LL.take k)).2)) := ⟨hf3, HA.out.2.1.trans hk3 (fun k e => .inl e), hx3, hs3.trans HA.out.2.2.2.1, ownKeep HA.out.2.2.2.2 (fun g hg => hk3.2.2.2.2 g (HA.out.2.2.2.2.lt g hg).2 (fun e => by have := h.fin g e; have := (HA.out.2.2.2.2.lt g hg).1; omega))⟩
        clear hf3 hk3 hx3 hs3
        by_cases hst : stN (stepA (roundS S (LL.take k)).1 x).stands x.t = 0
        · rw [decide_eq_true hst]
          go_wp2_with fail
          refine fol_r9 _ _ _ _ _ _ _ _ _ _ _ _ _ _ _ _ _ _ _ _ _ _ _ _ _ _ _ _ _ _ _ _ _ _ _ _ _ _ _ _ _ _ _ _ _ _ _ _ _ _ _ _ _ _ _ _ _ _ _ _ _ _ w3 s bt bs bw wr.heap.size n1 vl hd1 F (stepA (roundS S (LL.take k)).1 x) x HC.out.1 HC.out.2.2.1 NG.out (by have := G1.out.2.1; omega) _ ?_
          intro t38 t39 t40 t41 t42 t43 w4 ⟨hf4, hk4, hx4, hs4⟩
          have HD : Hid (FgB s bt bs bw vl hd1 F { (stepA (roundS S (LL.take k)).1 x) with stands := setSt (stepA (roundS S (LL.take k)).1 x).stands x.t (some 1) } (n1 + 1) w4 ∧ Kept F w w4 ∧ LkB wr.heap.size x w4 ∧ mapSize w4 bw = mapSize wr bw ∧ w4.ownsRow w.heap.size 36 66 u5 (roundS S (LL.take k)).2.length (lks (roundS S (LL.take k)).2)) := ⟨hf4, HC.out.2.1.trans hk4 (fun k e => .inl e), hx4, hs4.trans HC.out.2.2.2.1, ownKeep HC.out.2.2.2.2 (fun g hg => hk4.2.2.2.2 g (HC.out.2.2.2.2.lt g hg).2 (fun e => by have := h.fin g e; have := (HC.out.2.2.2.2.lt g hg).1; omega))⟩
          clear hf4 hk4 hx4 hs4
          go_wp2_with fail
          refine fol_r10 _ _ _ _ _ _ _ _ _ _ _ _ _ _ _ _ _ _ _ _ _ _ _ _ _ _ _ _ _ _ _ _ _ _ _ _ _ _ _ _ _ _ _ _ _ _ _ _ _ _ _ _ _ _ _ _ _ _ _ _ _ w4 s bt bs bw wr.heap.size (n1 + 1) vl hd1 F { (stepA (roundS S (LL.take k)).1 x) with stands := setSt (stepA (roundS S (LL.take k)).1 x).stands x.t (some 1) } x HD.out.1 HD.out.2.2.1 NG.out u5 (roundS S (LL.take k)).2 w.heap.size HD.out.2.1.2.2.2.1 HD.out.2.2.2.2 (fun k e => ⟨fun e2 => by have := h.fin k e2; have := (G1.out.2.2.1.lt k e).1; omega, fun e2 => by have := (G1.out.2.2.1.lt k e).2; omega⟩) (by
            have h1 := G1.out.2.2.2.2.1
            cases hw : (stepA (roundS S (LL.take k)).1 x).waiting x.t with
            | none => simp only [Option.getD_none, List.length_nil]; omega
            | some W =>
              have := G1.out.2.2.2.2.2 x.t W (by rw [← stepA_wait (roundS S (LL.take k)).1 x]; exact hw)
              simp only [Option.getD_some]
              omega) _ ?_
          intro t44 t45 t46 t47 t48 t49 t50 t51 v' w5 ⟨hf5, hk5, hx5, ho5, hb5⟩
          have HE : Hid (FgB s bt bs bw vl hd1 F { (stepA (roundS S (LL.take k)).1 x) with stands := setSt (stepA (roundS S (LL.take k)).1 x).stands x.t (some 1) } (n1 + 1) w5 ∧ Kept F w w5 ∧ LkB wr.heap.size x w5 ∧ mapSize w5 bw = mapSize wr bw ∧ w5.ownsRow w.heap.size 36 66 v' ((roundS S (LL.take k)).2 ++ ((stepA (roundS S (LL.take k)).1 x).waiting x.t).getD []).length (lks ((roundS S (LL.take k)).2 ++ ((stepA (roundS S (LL.take k)).1 x).waiting x.t).getD []))) := ⟨hf5, HD.out.2.1.trans hk5 (fun k e => .inr (G1.out.2.2.1.lt k e).1), hx5, (mapSize_keep (hk5.2.2.2.2 bw (HD.out.1.fin bw HD.out.1.foot.2.2.2.1) (fun e => by have := (G1.out.2.2.1.lt bw e).1; have := h.fin bw h.foot.2.2.2.1; omega))).trans HD.out.2.2.2.1, ho5⟩
          clear hf5 hk5 hx5 ho5 hb5
          go_wp2_with fail
          refine fol_r11 _ _ _ _ _ _ _ _ _ _ _ _ _ _ _ _ _ _ _ _ _ _ _ _ _ _ _ _ _ _ _ _ _ _ _ _ _ _ _ _ _ _ _ _ _ _ _ _ _ _ _ _ _ _ _ _ _ _ _ _ _ _ w5 s bt bs bw wr.heap.size (n1 + 1) vl hd1 F { (stepA (roundS S (LL.take k)).1 x) with stands := setSt (stepA (roundS S (LL.take k)).1 x).stands x.t (some 1) } x HE.out.1 HE.out.2.2.1 NG.out _ ?_
          intro t53 t54 t55 t56 t57 t58 w6 ⟨hf6, hk6, hx6, hs6⟩
          have FIN := Lib.hid (HR.out.take hxk hst hf6 (by have := G1.out.2.1; omega) (ownKeep HE.out.2.2.2.2 (fun g hg => hk6.2.2.2.2 g (HE.out.2.2.2.2.lt g hg).2 (fun e => by have := h.fin g e; have := (HE.out.2.2.2.2.lt g hg).1; omega))) (HE.out.2.1.trans hk6 (fun k e => .inl e)) (by rw [← HE.out.2.2.2.1, ← hs6, ← wait_some HE.out.1 x.t]))
          clear hf6 hk6 hx6 hs6
          go_wp2_with fail
          exact ⟨⟨k + 1, by omega, by go_num, FIN.out⟩, by simp [intOf]; omega⟩
        · rw [decide_eq_false hst]
          have FIN := Lib.hid (HR.out.skip hxk hst HC.out.1 (by have := G1.out.2.1; omega) HC.out.2.2.2.2 HC.out.2.1 HC.out.2.2.2.1)
          go_wp2_with fail
          exact ⟨⟨k + 1, by omega, by go_num, FIN.out⟩, by simp [intOf]; omega⟩
      · rw [hnr] at qn
        have eA : (stepA (roundS S (LL.take k)).1 x) = { (roundS S (LL.take k)).1 with stands := setSt (roundS S (LL.take k)).1.stands x.s (some 2) } := by unfold stepA; rw [if_pos hnr]
        go_wp2_with (first
          | (refine wpList_load_mid rfl 36 (.tmp 14) rfl gL (k * 66) (by go_simp) (lC x) _ kx Try.underlying36 rfl (by rw [size_lv x]; rfl) ?_; rw [lC_arr])
          | (refine wpList_store_row rfl 36 (.tmp 7) (.tmp 15) rfl wr.heap.size (lv x) rfl rfl 36 (lv lkZ) (heap_alloc_new wr _) (size_lv x) (by unfold lv; rw [rowV_size, rowV_size]) (rowV_one 66 _ (lkf_one x)) ?_; rw [World.setRow_alloc_new]; rw [← HU1.out]; have c33 := HX1.out.epochT; have c0 := HX1.out.epoch)
          | fail)
        refine fol_r7 _ _ _ _ _ _ _ _ _ _ _ _ _ _ _ _ _ _ _ _ _ _ _ _ _ _ _ _ _ _ _ _ _ _ _ _ _ _ _ _ _ _ _ _ _ _ _ _ _ _ _ _ _ _ _ _ _ _ _ _ _ _ u1 s bt bs bw wr.heap.size n1 vl hd1 F (roundS S (LL.take k)).1 x HS1.out.1 HX1.out NG.out (by have := G1.out.2.1; omega) _ ?_
        intro t24 t25 t26 t27 t28 t29 w2 ⟨hf2, hk2, hx2, hs2⟩
        rw [← eA] at hf2
        have HA : Hid (FgB s bt bs bw vl hd1 F (stepA (roundS S (LL.take k)).1 x) (n1 + 1) w2 ∧ Kept F w w2 ∧ LkB wr.heap.size x w2 ∧ mapSize w2 bw = mapSize wr bw ∧ w2.ownsRow w.heap.size 36 66 u5 (roundS S (LL.take k)).2.length (lks (roundS S (LL.take k)).2)) := ⟨hf2, HS1.out.2.1.trans hk2 (fun k e => .inl e), hx2, hs2.trans HS1.out.2.2.1, ownKeep HS1.out.2.2.2 (fun g hg => hk2.2.2.2.2 g (HS1.out.2.2.2.lt g hg).2 (fun e => by have := h.fin g e; have := (HS1.out.2.2.2.lt g hg).1; omega))⟩
        clear hf2 hk2 hx2 hs2 eA
        go_wp2_with fail
        refine fol_r8 _ _ _ _ _ _ _ _ _ _ _ _ _ _ _ _ _ _ _ _ _ _ _ _ _ _ _ _ _ _ _ _ _ _ _ _ _ _ _ _ _ _ _ _ _ _ _ _ _ _ _ _ _ _ _ _ _ _ _ _ _ _ w2 s bt bs bw wr.heap.size (n1 + 1) vl hd1 F (stepA (roundS S (LL.take k)).1 x) x HA.out.1 HA.out.2.2.1 NG.out _ ?_
        intro t30 t31 t32 t33 t34 t35 t36 w3 ⟨hf3, hk3, hx3, hs3⟩
        have HC : Hid (FgB s bt bs bw vl hd1 F (stepA (roundS S (LL.take k)).1 x) (n1 + 1) w3 ∧ Kept F w w3 ∧ LkB wr.heap.size x w3 ∧ mapSize w3 bw = mapSize wr bw ∧ w3.ownsRow w.heap.size 36 66 u5 (roundS S (LL.take k)).2.length (lks (roundS S (LL.take k)).2)) := ⟨hf3, HA.out.2.1.trans hk3 (fun k e => .inl e), hx3, hs3.trans HA.out.2.2.2.1, ownKeep HA.out.2.2.2.2 (fun g hg => hk3.2.2.2.2 g (HA.out.2.2.2.2.lt g hg).2 (fun e => by have := h.fin g e; have := (HA.out.2.2.2.2.lt g hg).1; omega))⟩
        clear hf3 hk3 hx3 hs3
        by_cases hst : stN (stepA (roundS S (LL.take k)).1 x).stands x.t = 0
        · rw [decide_eq_true hst]
          go_wp2_with fail
          refine fol_r9 _ _ _ _ _ _ _ _ _ _ _ _ _ _ _ _ _ _ _ _ _ _ _ _ _ _ _ _ _ _ _ _ _ _ _ _ _ _ _ _ _ _ _ _ _ _ _ _ _ _ _ _ _ _ _ _ _ _ _ _ _ _ w3 s bt bs bw wr.heap.size (n1 + 1) vl hd1 F (stepA (roundS S (LL.take k)).1 x) x HC.out.1 HC.out.2.2.1 NG.out (by have := G1.out.2.1; omega) _ ?_
          intro t38 t39 t40 t41 t42 t43 w4 ⟨hf4, hk4, hx4, hs4⟩
          have HD : Hid (FgB s bt bs bw vl hd1 F { (stepA (roundS S (LL.take k)).1 x) with stands := setSt (stepA (roundS S (LL.take k)).1 x).stands x.t (some 1) } ((n1 + 1) + 1) w4 ∧ Kept F w w4 ∧ LkB wr.heap.size x w4 ∧ mapSize w4 bw = mapSize wr bw ∧ w4.ownsRow w.heap.size 36 66 u5 (roundS S (LL.take k)).2.length (lks (roundS S (LL.take k)).2)) := ⟨hf4, HC.out.2.1.trans hk4 (fun k e => .inl e), hx4, hs4.trans HC.out.2.2.2.1, ownKeep HC.out.2.2.2.2 (fun g hg => hk4.2.2.2.2 g (HC.out.2.2.2.2.lt g hg).2 (fun e => by have := h.fin g e; have := (HC.out.2.2.2.2.lt g hg).1; omega))⟩
          clear hf4 hk4 hx4 hs4
          go_wp2_with fail
          refine fol_r10 _ _ _ _ _ _ _ _ _ _ _ _ _ _ _ _ _ _ _ _ _ _ _ _ _ _ _ _ _ _ _ _ _ _ _ _ _ _ _ _ _ _ _ _ _ _ _ _ _ _ _ _ _ _ _ _ _ _ _ _ _ w4 s bt bs bw wr.heap.size ((n1 + 1) + 1) vl hd1 F { (stepA (roundS S (LL.take k)).1 x) with stands := setSt (stepA (roundS S (LL.take k)).1 x).stands x.t (some 1) } x HD.out.1 HD.out.2.2.1 NG.out u5 (roundS S (LL.take k)).2 w.heap.size HD.out.2.1.2.2.2.1 HD.out.2.2.2.2 (fun k e => ⟨fun e2 => by have := h.fin k e2; have := (G1.out.2.2.1.lt k e).1; omega, fun e2 => by have := (G1.out.2.2.1.lt k e).2; omega⟩) (by
            have h1 := G1.out.2.2.2.2.1
            cases hw : (stepA (roundS S (LL.take k)).1 x).waiting x.t with
            | none => simp only [Option.getD_none, List.length_nil]; omega
            | some W =>
              have := G1.out.2.2.2.2.2 x.t W (by rw [← stepA_wait (roundS S (LL.take k)).1 x]; exact hw)
              simp only [Option.getD_some]
              omega) _ ?_
          intro t44 t45 t46 t47 t48 t49 t50 t51 v' w5 ⟨hf5, hk5, hx5, ho5, hb5⟩
          have HE : Hid (FgB s bt bs bw vl hd1 F { (stepA (roundS S (LL.take k)).1 x) with stands := setSt (stepA (roundS S (LL.take k)).1 x).stands x.t (some 1) } ((n1 + 1) + 1) w5 ∧ Kept F w w5 ∧ LkB wr.heap.size x w5 ∧ mapSize w5 bw = mapSize wr bw ∧ w5.ownsRow w.heap.size 36 66 v' ((roundS S (LL.take k)).2 ++ ((stepA (roundS S (LL.take k)).1 x).waiting x.t).getD []).length (lks ((roundS S (LL.take k)).2 ++ ((stepA (roundS S (LL.take k)).1 x).waiting x.t).getD []))) := ⟨hf5, HD.out.2.1.trans hk5 (fun k e => .inr (G1.out.2.2.1.lt k e).1), hx5, (mapSize_keep (hk5.2.2.2.2 bw (HD.out.1.fin bw HD.out.1.foot.2.2.2.1) (fun e => by have := (G1.out.2.2.1.lt bw e).1; have := h.fin bw h.foot.2.2.2.1; omega))).trans HD.out.2.2.2.1, ho5⟩
          clear hf5 hk5 hx5 ho5 hb5
          go_wp2_with fail
          refine fol_r11 _ _ _ _ _ _ _ _ _ _ _ _ _ _ _ _ _ _ _ _ _ _ _ _ _ _ _ _ _ _ _ _ _ _ _ _ _ _ _ _ _ _ _ _ _ _ _ _ _ _ _ _ _ _ _ _ _ _ _ _ _ _ w5 s bt bs bw wr.heap.size ((n1 + 1) + 1) vl hd1 F { (stepA (roundS S (LL.take k)).1 x) with stands := setSt (stepA (roundS S (LL.take k)).1 x).stands x.t (some 1) } x HE.out.1 HE.out.2.2.1 NG.out _ ?_
          intro t53 t54 t55 t56 t57 t58 w6 ⟨hf6, hk6, hx6, hs6⟩
          have FIN := Lib.hid (HR.out.take hxk hst hf6 (by have := G1.out.2.1; omega) (ownKeep HE.out.2.2.2.2 (fun g hg => hk6.2.2.2.2 g (HE.out.2.2.2.2.lt g hg).2 (fun e => by have := h.fin g e; have := (HE.out.2.2.2.2.lt g hg).1; omega))) (HE.out.2.1.trans hk6 (fun k e => .inl e)) (by rw [← HE.out.2.2.2.1, ← hs6, ← wait_some HE.out.1 x.t]))
          clear hf6 hk6 hx6 hs6
          go_wp2_with fail
          exact ⟨⟨k + 1, by omega, by go_num, FIN.out⟩, by simp [intOf]; omega⟩
        · rw [decide_eq_false hst]
          have FIN := Lib.hid (HR.out.skip hxk hst HC.out.1 (by have := G1.out.2.1; omega) HC.out.2.2.2.2 HC.out.2.1 HC.out.2.2.2.1)
          go_wp2_with fail
          exact ⟨⟨k + 1, by omega, by go_num, FIN.out⟩, by simp [intOf]; omega⟩
    · obtain rfl : k = LL.length := by omega
      go_wp2_with fail
      exact HQ.out _ _ _ _ _ _ _ _ _ _ _ _ _ _ _ _ _ _ _ _ _ _ _ _ _ _ _ _ _ _ _ _ _ _ _ _ _ _ _ _ _ _ _ _ _ _ _ _ _ _ _ HR.out
end Go.Proofs.Ythlbpjkopkicbaa
