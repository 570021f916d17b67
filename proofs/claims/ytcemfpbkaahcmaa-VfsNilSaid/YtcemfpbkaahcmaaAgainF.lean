/- Contract: the two loops of the comparison of two disks. -/
import Derived.Test.YtcemfpbkaahcmaaAgainR
import Derived.Test.YtcemfpbkaahcmaaRoundM
import Derived.Test.YtcemfpbkaahcmaaBackP
namespace Go.Proofs.Ytcemfpbkaahcmaa
open Go.RowKit Go.Shelf
attribute [local go_sem] Oper.semAt_some
set_option linter.unusedVariables false

noncomputable def againRF (k : Nat) : Code := ((Try.f15.body.map rangesOf).bind (·[k]?)).getD .skip
set_option maxRecDepth 1000000 in
set_option maxHeartbeats 4000000 in
theorem again_rf0 (c0 c1 c4 c6 c7 c8 c9 c10 c11 c12 c13 c14 c15 c16 c17 c18 c19 c20 c21 c22 c23 c24 c25 c26 c27 c28 c29 c30 c32 c33 c34 c35 c36 c37 c38 c39 c40 c41 c42 c43 c44 c45 c46 c47 c48 c49 c50 c51 c52 c53 c54 c55 c56 c57 c58 c59 c60 c61 c62 c63 c64 c65 c66 c67 c68 c69 c70 c71 c72 c73 c74 c75 c76 c77 c78 c79 c80 c81 c82 c83 : Value) (w : World) (base1 base2 p1 p2 m1 m2 ba bb bn lo a : Nat) (S T : DS)
    (hca : w.cell? ⟨ba, 0, none⟩ = some (.pointer (some ⟨p1, 0, none⟩))) (hcb : w.cell? ⟨bb, 0, none⟩ = some (.pointer (some ⟨p2, 0, none⟩))) (hbn : w.heap[bn]? = some (.cells #[.int .i64 0] 3 (0, 0)))
    (hb1 : ba < bn) (hb2 : bb < bn) (hb3 : bn < lo) (hlo : lo ≤ w.heap.size) (hS : Holds w base1 p1 S m1) (hT : Holds w base2 p2 T m2) (hl : S.D.length ≤ 1099511627776) (htw : ∀ q ∈ S.D, Twin S T (q.1, S.sz q)) (hI : IterAt w lo a S)
    (Q : Exit → Act → World → Prop) (hQ : ∀ (D : Nat) (W : World), w.heap.size ≤ D → W.heap[D]? = some (.deferred (some [])) → w.grownBy W (some bn) → W.heap[bn]? = some (.cells #[.int .i64 (S.D.length : Int)] 3 (0, 0)) → Q .normal ⟨#[c0, c1, .pointer (some ⟨ba, 0, none⟩), .pointer (some ⟨bb, 0, none⟩), c4, .pointer (some ⟨bn, 0, none⟩), c6, c7, c8, c9, c10, c11, c12, c13, c14, c15, c16, c17, c18, c19, c20, c21, c22, c23, c24, c25, c26, c27, c28, c29, c30, .func (.func 51) #[] #[.pointer (some ⟨a, 0, none⟩), .pointer (some ⟨a + 1, 0, none⟩)], c32, c33, c34, c35, c36, c37, c38, c39, c40, c41, c42, c43, c44, c45, c46, c47, c48, c49, c50, c51, c52, c53, c54, c55, c56, c57, c58, c59, c60, c61, c62, c63, c64, c65, c66, c67, c68, c69, c70, c71, c72, c73, c74, c75, c76, c77, c78, c79, c80, c81, c82, c83], [{ target := .collected D, args := #[] }]⟩ W) :
    Code.wpIn Fence.wide 9 Try.prog (againRF 0) Q ⟨#[c0, c1, .pointer (some ⟨ba, 0, none⟩), .pointer (some ⟨bb, 0, none⟩), c4, .pointer (some ⟨bn, 0, none⟩), c6, c7, c8, c9, c10, c11, c12, c13, c14, c15, c16, c17, c18, c19, c20, c21, c22, c23, c24, c25, c26, c27, c28, c29, c30, .func (.func 51) #[] #[.pointer (some ⟨a, 0, none⟩), .pointer (some ⟨a + 1, 0, none⟩)], c32, c33, c34, c35, c36, c37, c38, c39, c40, c41, c42, c43, c44, c45, c46, c47, c48, c49, c50, c51, c52, c53, c54, c55, c56, c57, c58, c59, c60, c61, c62, c63, c64, c65, c66, c67, c68, c69, c70, c71, c72, c73, c74, c75, c76, c77, c78, c79, c80, c81, c82, c83], []⟩ w := by
  conv => arg 4; whnf
  dsimp only at hQ ⊢
  have hlt : bn < w.heap.size := by omega
  have hlen := S.listN_length (P := Twin S T) htw
  have hst := files_stops Fence.wide 8 trivial rfl (by omega) w lo a S hI hl (P := Twin S T) htw (KpC lo w.heap.size) (fun _ _ h => h)
  rw [hlen] at hst
  refine wpIn_rangeFunc_ownG (w0 := w) rfl (by omega) (gf := 51) (lb := #[.pointer (some ⟨a, 0, none⟩), .pointer (some ⟨a + 1, 0, none⟩)]) rfl trivial (enters_of Try.func51 (by kernel_rfl) rfl)
    hst kpC_t (fun W l o o' hl _ _ _ => kpC_b W l o o' hl) (Below.refl _ _) (fun _ => rfl)
    (CountI w bn) (fun _ _ _ => False) (countI_from hlt) (fun _ _ _ _ _ hs _ _ => hs) ⟨World.grownBy.refl _ _, hbn⟩
    (fun x => ⟨#[c0, c1, .pointer (some ⟨ba, 0, none⟩), .pointer (some ⟨bb, 0, none⟩), c4, .pointer (some ⟨bn, 0, none⟩), c6, strV x.1.1, .int .i64 x.1.2, c9, c10, c11, c12, c13, c14, c15, c16, c17, c18, c19, c20, c21, c22, c23, c24, c25, c26, c27, c28, c29, c30, .func (.func 51) #[] #[.pointer (some ⟨a, 0, none⟩), .pointer (some ⟨a + 1, 0, none⟩)], strV x.1.1, .int .i64 x.1.2, c34, c35, c36, c37, c38, c39, c40, c41, c42, c43, c44, c45, c46, c47, c48, c49, c50, c51, c52, c53, c54, c55, c56, c57, c58, c59, c60, c61, c62, c63, c64, c65, c66, c67, c68, c69, c70, c71, c72, c73, c74, c75, c76, c77, c78, c79, c80, c81, c82, c83], []⟩) ?assign ?body ?done ?stop
  case assign =>
    intro l x W K hK
    gi_wp2
    exact hK
  case stop =>
    rintro D c pre W _ _ h _
    exact h.elim
  case done =>
    rintro D xs W hD rfl hi hK
    refine hQ D W hD hK hi.1 ?_
    have := hi.2
    rw [hlen] at this
    exact this
  case body =>
    rintro l pre ⟨⟨y, z⟩, hx⟩ W ⟨hg, hn⟩ hpre
    obtain ⟨b, e1, e2, e3, hbl⟩ := hx.same
    simp only at e1 e2 e3
    subst e3
    have hy := le_max hx.len
    simp only at hy
    have hSW := hS.box hbn hg
    have hTW := hT.box hbn hg
    have ka := (World.cell?_of_block (a := ⟨ba, 0, none⟩) (hg.block ba (by omega) (fun e => by injection e with e; omega))).trans hca
    have kb := (World.cell?_of_block (a := ⟨bb, 0, none⟩) (hg.block bb (by omega) (fun e => by injection e with e; omega))).trans hcb
    have hlas1 := lasts_disk hSW y hy
    rw [show S.find y true = 0 from hx.f1, e1, if_pos rfl] at hlas1
    have hlas2 := lasts_disk hTW y hy
    rw [show T.find y true = 0 from hx.f2, e2, if_pos rfl] at hlas2
    have hrs1 : S.readS y = b := by unfold DS.readS; rw [if_pos (show S.find y true = 0 from hx.f1), e1]
    have hrs2 : T.readS y = b := by unfold DS.readS; rw [if_pos (show T.find y true = 0 from hx.f2), e2]
    have HRD1 := Lib.hid (fun (u : World) (hu : W.grownBy u none) => read_here (hSW.grow hu) hrs1 hy)
    have HRD2 := Lib.hid (fun (u : World) (hu : W.grownBy u none) => read_here (hTW.grow hu) hrs2 hy)
    have HS := Lib.hid (fun (u : World) (hu : W.grownBy u none) => (⟨(World.cell?_of_block (a := ⟨ba, 0, none⟩) (hu.block ba (by have := hg.size; show ba < _; omega) (by simp))).trans ka, (World.cell?_of_block (a := ⟨bb, 0, none⟩) (hu.block bb (by have := hg.size; show bb < _; omega) (by simp))).trans kb,
      (hu.block bn (by have := hg.size; omega) (by simp)).trans hn⟩ : _ ∧ _ ∧ _))
    have q1 : (pre.length : Int) + 1 ≤ 9223372036854775807 := by omega
    have HD := Lib.hid (⟨rfl, rfl, rfl, Nat.le_refl _, fun _ _ _ => rfl⟩ : W.grownBy W.drew none)
    have hrd1 := (HRD1.out W.drew HD.out).mono fun e w2 h => (⟨h.1, h.2.2⟩ : _ ∧ _)
    have HRD3 := Lib.hid (fun (u : World) (hu : Below W.drew.heap.size W.drew u) => (HRD2.out u (HD.out.trans (grown_below hu (Nat.le_refl _) none))).mono fun e w2 h => (⟨h.1, h.2.2⟩ : _ ∧ _))
    have HP := Lib.hid hpre
    clear hst hSW hTW hpre
    dsimp only
    unfold strV at hlas1 hlas2 hrd1 HRD3 ⊢
    clear hlen hl
    gi_wp2_with (first
      | (refine ⟨trivial, ?_⟩; gi_at_call 28; refine (CallsIn.inRound l (callsIn_wide.2 hlas2)).mono ?_; clear hlas2; rintro e w' ⟨rfl, rfl⟩)
      | (refine ⟨trivial, ?_⟩; gi_at_call 28; refine (CallsIn.inRound l (callsIn_wide.2 hlas1)).mono ?_; clear hlas1; rintro e w' ⟨rfl, rfl⟩))
    refine again_r12 _ _ _ _ _ _ _ _ _ _ _ _ _ _ _ _ _ _ _ _ _ _ _ _ _ _ _ _ _ _ _ _ _ _ _ _ _ _ _ _ _ _ _ _ _ _ _ _ _ _ _ _ _ _ _ _ _ _ _ _ _ _ _ _ _ _ _ _ _ _ _ _ _ _ _ _ l _ W p1 p2 ba bb b y hbl (fun u hu => ?_) hrd1 HRD3.out _ (by rintro ⟨_, _, h⟩; exact h) ?_
    · obtain ⟨k1, k2, _⟩ := HS.out u (HD.out.trans (grown_below hu (Nat.le_refl _) none))
      exact ⟨k1, k2⟩
    · intro _ _ _ _ _ _ _ _ _ _ _ _ _ _ _ _ _ _ _ _ _ _ _ _ w2 hb2
      dsimp only
      have hg2 : W.grownBy w2 none := HD.out.trans (grown_below hb2 (Nat.le_refl _) none)
      obtain ⟨_, _, hn2⟩ := HS.out w2 hg2
      have HN2 := Lib.hid hn2
      have kn := cell_of_one hn2
      have fn := free_block (j := 0) hn2
      clear hn2
      gi_wp2
      have hg3 := (grown_none hg2 (some bn)).trans (grown_set w2 ⟨bn, 0, none⟩ (.int .i64 ((pre.length : Int) + 1)))
      exact ⟨KeepsFrom.of_grownBy hg3 (fun j e => by injection e with e; omega), kpC_grown hg3 hb3 hg.size, hg.trans hg3, by rw [List.length_append]; exact set_block HN2.out _⟩
/-- Between two rounds: n counts down. -/
def CountD (w : World) (bn N : Nat) {α : Type} (pre : List α) (W : World) : Prop := w.grownBy W (some bn) ∧ W.heap[bn]? = some (.cells #[.int .i64 ((N : Int) - (pre.length : Int))] 3 (0, 0))
theorem countD_from {w : World} {bn N : Nat} {α : Type} (hbn : bn < w.heap.size) : OwnFrom w.heap.size (CountD w bn N (α := α)) := fun s A B row hs hg hr => by
  refine ⟨⟨hg.os.trans hs.1.os, hg.tape.trans hs.1.tape, hg.output.trans hs.1.output, Nat.le_trans hs.1.size hg.size, fun k hk hne => ?_⟩, ?_⟩
  · exact (hg.block k (Nat.lt_of_lt_of_le hk hs.1.size) (fun e => by have := (hr k e.symm).1; omega)).trans (hs.1.block k hk hne)
  · exact (hg.block bn (Nat.lt_of_lt_of_le hbn hs.1.size) (fun e => by have := (hr bn e.symm).1; omega)).trans hs.2
set_option maxRecDepth 1000000 in
set_option maxHeartbeats 4000000 in
theorem again_rf1 (c0 c1 c2 c3 c4 c6 c7 c8 c9 c10 c11 c12 c13 c14 c15 c16 c17 c18 c19 c20 c21 c22 c23 c24 c25 c26 c27 c28 c29 c30 c31 c32 c33 c34 c35 c36 c37 c38 c39 c40 c41 c42 c43 c44 c45 c46 c47 c48 c49 c50 c51 c52 c53 c54 c55 c56 c57 c58 c59 c60 c61 c62 c63 c64 c65 c66 c67 c68 c69 c70 c71 c72 c73 c74 c75 c76 c78 c79 c80 c81 c82 c83 : Value) (ds : List Deferred) (w : World) (bn lo a N : Nat) (T : DS) (hbn : w.heap[bn]? = some (.cells #[.int .i64 (N : Int)] 3 (0, 0))) (hN : N = T.D.length)
    (hb3 : bn < lo) (hlo : lo ≤ w.heap.size) (hl : T.D.length ≤ 1099511627776) (hI : IterAt w lo a T)
    (Q : Exit → Act → World → Prop) (hQ : ∀ (D : Nat) (W : World), w.heap.size ≤ D → W.heap[D]? = some (.deferred (some [])) → w.grownBy W (some bn) → W.heap[bn]? = some (.cells #[.int .i64 0] 3 (0, 0)) → Q .normal ⟨#[c0, c1, c2, c3, c4, .pointer (some ⟨bn, 0, none⟩), c6, c7, c8, c9, c10, c11, c12, c13, c14, c15, c16, c17, c18, c19, c20, c21, c22, c23, c24, c25, c26, c27, c28, c29, c30, c31, c32, c33, c34, c35, c36, c37, c38, c39, c40, c41, c42, c43, c44, c45, c46, c47, c48, c49, c50, c51, c52, c53, c54, c55, c56, c57, c58, c59, c60, c61, c62, c63, c64, c65, c66, c67, c68, c69, c70, c71, c72, c73, c74, c75, c76, .func (.func 51) #[] #[.pointer (some ⟨a, 0, none⟩), .pointer (some ⟨a + 1, 0, none⟩)], c78, c79, c80, c81, c82, c83], { target := .collected D, args := #[] } :: ds⟩ W) :
    Code.wpIn Fence.wide 9 Try.prog (againRF 1) Q ⟨#[c0, c1, c2, c3, c4, .pointer (some ⟨bn, 0, none⟩), c6, c7, c8, c9, c10, c11, c12, c13, c14, c15, c16, c17, c18, c19, c20, c21, c22, c23, c24, c25, c26, c27, c28, c29, c30, c31, c32, c33, c34, c35, c36, c37, c38, c39, c40, c41, c42, c43, c44, c45, c46, c47, c48, c49, c50, c51, c52, c53, c54, c55, c56, c57, c58, c59, c60, c61, c62, c63, c64, c65, c66, c67, c68, c69, c70, c71, c72, c73, c74, c75, c76, .func (.func 51) #[] #[.pointer (some ⟨a, 0, none⟩), .pointer (some ⟨a + 1, 0, none⟩)], c78, c79, c80, c81, c82, c83], ds⟩ w := by
  conv => arg 4; whnf
  dsimp only at hQ ⊢
  have hlt : bn < w.heap.size := by omega
  have htw : ∀ q ∈ T.D, (fun x : Str × Int => True) (q.1, T.sz q) := fun _ _ => trivial
  have hlen := T.listN_length (P := fun x : Str × Int => True) htw
  have hst := files_stops Fence.wide 8 trivial rfl (by omega) w lo a T hI hl (P := fun x : Str × Int => True) htw (KpC lo w.heap.size) (fun _ _ h => h)
  rw [hlen] at hst
  refine wpIn_rangeFunc_ownG (w0 := w) rfl (by omega) (gf := 51) (lb := #[.pointer (some ⟨a, 0, none⟩), .pointer (some ⟨a + 1, 0, none⟩)]) rfl trivial (enters_of Try.func51 (by kernel_rfl) rfl)
    hst kpC_t (fun W l o o' hl _ _ _ => kpC_b W l o o' hl) (Below.refl _ _) (fun _ => rfl)
    (CountD w bn N) (fun _ _ _ => False) (countD_from hlt) (fun _ _ _ _ _ hs _ _ => hs) ⟨World.grownBy.refl _ _, by simpa using hbn⟩
    (fun x => ⟨#[c0, c1, c2, c3, c4, .pointer (some ⟨bn, 0, none⟩), c6, c7, c8, c9, c10, c11, c12, c13, c14, c15, c16, c17, c18, c19, c20, c21, c22, c23, c24, c25, c26, c27, c28, c29, c30, c31, c32, c33, c34, c35, c36, c37, c38, c39, c40, c41, c42, c43, c44, c45, c46, c47, c48, c49, c50, c51, c52, c53, c54, c55, c56, c57, c58, c59, c60, c61, c62, c63, c64, c65, c66, c67, c68, c69, c70, c71, c72, c73, c74, c75, c76, .func (.func 51) #[] #[.pointer (some ⟨a, 0, none⟩), .pointer (some ⟨a + 1, 0, none⟩)], strV x.1.1, .int .i64 x.1.2, c80, c81, c82, c83], []⟩) ?assign ?body ?done ?stop
  case assign =>
    intro l x W K hK
    gi_wp2
    exact hK
  case stop =>
    rintro D c pre W _ _ h _
    exact h.elim
  case done =>
    rintro D xs W hD rfl hi hK
    refine hQ D W hD hK hi.1 ?_
    have := hi.2
    rw [hlen, hN, Int.sub_self] at this
    exact this
  case body =>
    rintro l pre ⟨⟨y, z⟩, hx⟩ W ⟨hg, hn⟩ hpre
    have HN := Lib.hid hn
    have q1 : (N : Int) - (pre.length : Int) - 1 ≤ 9223372036854775807 := by omega
    have q2 : -9223372036854775808 ≤ (N : Int) - (pre.length : Int) - 1 := by omega
    have kn := cell_of_one hn
    have fn := free_block (j := 0) hn
    have hpN : pre.length < N := by omega
    clear hn hst hN hpre hl
    dsimp only
    gi_wp2
    have hg3 : W.grownBy (W.setCell ⟨bn, 0, none⟩ (.int .i64 ((N : Int) - (pre.length : Int) - 1))) (some bn) := grown_set W ⟨bn, 0, none⟩ (.int .i64 ((N : Int) - (pre.length : Int) - 1))
    refine ⟨KeepsFrom.of_grownBy hg3 (fun j e => by injection e with e; omega), kpC_grown hg3 hb3 hg.size, hg.trans hg3, ?_⟩
    have e : (N : Int) - ((pre ++ [(⟨(y, z), hx⟩ : Nz fun x : Str × Int => True)]).length : Int) = (N : Int) - (pre.length : Int) - 1 := by rw [List.length_append]; simp; omega
    rw [e]
    exact set_block HN.out _
end Go.Proofs.Ytcemfpbkaahcmaa
