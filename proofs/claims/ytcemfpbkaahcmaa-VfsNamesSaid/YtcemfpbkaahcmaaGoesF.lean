/- Contract: the loop of the law of names, over the files of a disk with one file. -/
import Derived.Test.YtcemfpbkaahcmaaGoesQ
import Derived.Test.YtcemfpbkaahcmaaFilesIter
import Derived.RangeFuncFrom
import Derived.RangeFuncWrites
namespace Go.Proofs.Ytcemfpbkaahcmaa
open Go.RowKit Go.Shelf
attribute [local go_sem] Oper.semAt_some
set_option linter.unusedVariables false

/-- A round keeps the cells from lo up to hi. -/
def KpC (lo hi : Nat) (W W' : World) : Prop := ∀ q : Addr, lo ≤ q.block → q.block < hi → W'.cell? q = W.cell? q
theorem kpC_t {lo hi : Nat} {A B C : World} (h : KpC lo hi A B) (k : KpC lo hi B C) : KpC lo hi A C := fun q h1 h2 => (k q h1 h2).trans (h q h1 h2)
theorem kpC_b {lo hi : Nat} (W : World) (l : Nat) (o o' : Obj) (hl : hi ≤ l) : KpC lo hi W (W.putObj l o') := fun q h1 h2 =>
  World.cell?_of_block (World.putObj_heap_other (by omega))
theorem kpC_grown {lo hi bn : Nat} {W W' : World} (h : W.grownBy W' (some bn)) (hb : bn < lo) (hs : hi ≤ W.heap.size) : KpC lo hi W W' := fun q h1 h2 =>
  World.cell?_of_block (h.block q.block (by omega) (fun e => by injection e with e; omega))
theorem grown_none {w w' : World} (h : w.grownBy w' none) (row : Option Nat) : w.grownBy w' row := ⟨h.os, h.tape, h.output, h.size, fun k hk _ => h.block k hk (by simp)⟩
/-- A box of a number is no part of a disk. -/
theorem Holds.box {w w' : World} {base p m bn : Nat} {S : DS} {cs : Array Value} (h : Holds w base p S m) (hb : w.heap[bn]? = some (.cells cs 3 (0, 0))) (hg : w.grownBy w' (some bn)) : Holds w' base p S m := by
  obtain ⟨hG, fb, lb, sv, rv, hM⟩ := h
  refine ⟨hG, fb, lb, sv, rv, hM.kept hg (fun g e => ?_)⟩
  injection e with e
  subst e
  exact OffDisk.box hb (by decide)
/-- Between two rounds: n counts, all else that was there ahead of the loop lies as it lay. -/
def CountI (w : World) (bn : Nat) {α : Type} (pre : List α) (W : World) : Prop := w.grownBy W (some bn) ∧ W.heap[bn]? = some (.cells #[.int .i64 (pre.length : Int)] 3 (0, 0))
theorem countI_from {w : World} {bn : Nat} {α : Type} (hbn : bn < w.heap.size) : OwnFrom w.heap.size (CountI w bn (α := α)) := fun s A B row hs hg hr => by
  refine ⟨⟨hg.os.trans hs.1.os, hg.tape.trans hs.1.tape, hg.output.trans hs.1.output, Nat.le_trans hs.1.size hg.size, fun k hk hne => ?_⟩, ?_⟩
  · exact (hg.block k (Nat.lt_of_lt_of_le hk hs.1.size) (fun e => by have := (hr k e.symm).1; omega)).trans (hs.1.block k hk hne)
  · exact (hg.block bn (Nat.lt_of_lt_of_le hbn hs.1.size) (fun e => by have := (hr bn e.symm).1; omega)).trans hs.2
noncomputable def namesRF : Code := ((Try.f6.body.map rangesOf).bind (·[0]?)).getD .skip
set_option maxRecDepth 1000000 in
set_option maxHeartbeats 4000000 in
theorem names_rf (c0 c1 c2 c3 c5 c6 c7 c8 c9 c10 c13 c14 c15 c16 c17 c18 c19 c20 c21 c22 c23 c24 c25 c26 c27 c28 c29 c30 c31 c32 c33 c34 c35 c36 c37 c38 c39 c40 c41 c42 c43 c44 c45 c46 c47 c48 c49 c50 c51 c52 c53 c54 c55 c56 c57 c58 c59 c60 c61 c62 c63 c64 c65 c66 c67 c68 c69 c70 c71 c72 c73 c74 c75 c76 c77 c78 c79 c80 c81 c82 c83 c84 c85 c86 c87 c88 c89 c90 c91 c92 c93 c94 c95 c96 c97 c98 c99 c100 c101 c102 c103 c104 c105 c106 c107 c108 c109 c111 c112 c113 c114 c115 c116 c117 c118 c119 c120 c121 c122 c123 c124 c125 c126 c127 c128 c129 c130 c131 c132 c133 c134 c135 c136 c137 c138 c139 c140 c141 c142 c143 c144 c145 c146 c147 : Value) (w : World) (base p m bb bc bn lo a hi cb : Nat) (A : Option Addr) (b : List UInt8) (y : Str) (S : DS)
    (hcb : w.cell? ⟨bb, 0, none⟩ = some (.slice A b.length cb)) (hcc : w.cell? ⟨bc, 0, none⟩ = some (.pointer (some ⟨p, 0, none⟩))) (hbn : w.heap[bn]? = some (.cells #[.int .i64 0] 3 (0, 0)))
    (hb1 : bb < bn) (hb2 : bc < bn) (hb3 : bn < lo) (hlo : lo ≤ w.heap.size) (hh : Holds w base p S m) (hS : OneFile S y b) (hI : IterAt w lo a S) (hr : Rd w 0 hi A b) (hhi : hi ≤ bn) (hr2 : b.length ≤ 9000)
    (Q : Exit → Act → World → Prop) (hQ : ∀ (D : Nat) (W : World), w.heap.size ≤ D → W.heap[D]? = some (.deferred (some [])) → CountI w bn [()] W → Q .normal ⟨#[c0, c1, c2, c3, .pointer (some ⟨bb, 0, none⟩), c5, c6, c7, c8, c9, c10, .pointer (some ⟨bc, 0, none⟩), .pointer (some ⟨bn, 0, none⟩), c13, c14, c15, c16, c17, c18, c19, c20, c21, c22, c23, c24, c25, c26, c27, c28, c29, c30, c31, c32, c33, c34, c35, c36, c37, c38, c39, c40, c41, c42, c43, c44, c45, c46, c47, c48, c49, c50, c51, c52, c53, c54, c55, c56, c57, c58, c59, c60, c61, c62, c63, c64, c65, c66, c67, c68, c69, c70, c71, c72, c73, c74, c75, c76, c77, c78, c79, c80, c81, c82, c83, c84, c85, c86, c87, c88, c89, c90, c91, c92, c93, c94, c95, c96, c97, c98, c99, c100, c101, c102, c103, c104, c105, c106, c107, c108, c109, .func (.func 51) #[] #[.pointer (some ⟨a, 0, none⟩), .pointer (some ⟨a + 1, 0, none⟩)], c111, c112, c113, c114, c115, c116, c117, c118, c119, c120, c121, c122, c123, c124, c125, c126, c127, c128, c129, c130, c131, c132, c133, c134, c135, c136, c137, c138, c139, c140, c141, c142, c143, c144, c145, c146, c147], [{ target := .collected D, args := #[] }]⟩ W) :
    Code.wpIn Fence.wide 9 Try.prog namesRF Q ⟨#[c0, c1, c2, c3, .pointer (some ⟨bb, 0, none⟩), c5, c6, c7, c8, c9, c10, .pointer (some ⟨bc, 0, none⟩), .pointer (some ⟨bn, 0, none⟩), c13, c14, c15, c16, c17, c18, c19, c20, c21, c22, c23, c24, c25, c26, c27, c28, c29, c30, c31, c32, c33, c34, c35, c36, c37, c38, c39, c40, c41, c42, c43, c44, c45, c46, c47, c48, c49, c50, c51, c52, c53, c54, c55, c56, c57, c58, c59, c60, c61, c62, c63, c64, c65, c66, c67, c68, c69, c70, c71, c72, c73, c74, c75, c76, c77, c78, c79, c80, c81, c82, c83, c84, c85, c86, c87, c88, c89, c90, c91, c92, c93, c94, c95, c96, c97, c98, c99, c100, c101, c102, c103, c104, c105, c106, c107, c108, c109, .func (.func 51) #[] #[.pointer (some ⟨a, 0, none⟩), .pointer (some ⟨a + 1, 0, none⟩)], c111, c112, c113, c114, c115, c116, c117, c118, c119, c120, c121, c122, c123, c124, c125, c126, c127, c128, c129, c130, c131, c132, c133, c134, c135, c136, c137, c138, c139, c140, c141, c142, c143, c144, c145, c146, c147], []⟩ w := by
  conv => arg 4; whnf
  dsimp only at hQ ⊢
  have hlt : bn < w.heap.size := by omega
  have hnm : ∀ q ∈ S.D, (fun x : Str × Int => x = (y, (b.length : Int))) (q.1, S.sz q) := hS.all
  have hlen := S.listN_length (P := fun x : Str × Int => x = (y, (b.length : Int))) hnm
  rw [hS.len] at hlen
  have hst := files_stops Fence.wide 8 trivial rfl (by omega) w lo a S hI (by rw [hS.len]; omega) (P := fun x : Str × Int => x = (y, (b.length : Int))) hnm (KpC lo w.heap.size) (fun _ _ h => h)
  rw [hlen] at hst
  refine wpIn_rangeFunc_ownG (w0 := w) rfl (by omega) (gf := 51) (lb := #[.pointer (some ⟨a, 0, none⟩), .pointer (some ⟨a + 1, 0, none⟩)]) rfl trivial (enters_of Try.func51 (by kernel_rfl) rfl)
    hst kpC_t (fun W l o o' hl _ _ _ => kpC_b W l o o' hl) (Below.refl _ _) (fun _ => rfl)
    (CountI w bn) (fun _ _ _ => False) (countI_from hlt) (fun _ _ _ _ _ hs _ _ => hs) ⟨World.grownBy.refl _ _, hbn⟩
    (fun x => ⟨#[c0, c1, c2, c3, .pointer (some ⟨bb, 0, none⟩), c5, c6, c7, c8, c9, c10, .pointer (some ⟨bc, 0, none⟩), .pointer (some ⟨bn, 0, none⟩), c13, strV x.1.1, .int .i64 x.1.2, c16, c17, c18, c19, c20, c21, c22, c23, c24, c25, c26, c27, c28, c29, c30, c31, c32, c33, c34, c35, c36, c37, c38, c39, c40, c41, c42, c43, c44, c45, c46, c47, c48, c49, c50, c51, c52, c53, c54, c55, c56, c57, c58, c59, c60, c61, c62, c63, c64, c65, c66, c67, c68, c69, c70, c71, c72, c73, c74, c75, c76, c77, c78, c79, c80, c81, c82, c83, c84, c85, c86, c87, c88, c89, c90, c91, c92, c93, c94, c95, c96, c97, c98, c99, c100, c101, c102, c103, c104, c105, c106, c107, c108, c109, .func (.func 51) #[] #[.pointer (some ⟨a, 0, none⟩), .pointer (some ⟨a + 1, 0, none⟩)], strV x.1.1, .int .i64 x.1.2, c113, c114, c115, c116, c117, c118, c119, c120, c121, c122, c123, c124, c125, c126, c127, c128, c129, c130, c131, c132, c133, c134, c135, c136, c137, c138, c139, c140, c141, c142, c143, c144, c145, c146, c147], []⟩) ?assign ?body ?done ?stop
  case assign =>
    intro l x W K hK
    gi_wp2
    exact hK
  case stop =>
    rintro D c pre W _ _ h _
    exact h.elim
  case done =>
    rintro D xs W hD rfl hi hK
    refine hQ D W hD hK ⟨hi.1, ?_⟩
    have := hi.2
    rw [hlen] at this
    exact this
  case body =>
    rintro l pre ⟨⟨y2, z2⟩, hx⟩ W ⟨hg, hn⟩ hpre
    obtain ⟨e1, rfl⟩ := Prod.mk.inj hx
    obtain rfl := e1.symm
    have hpre0 : pre.length = 0 := by omega
    rw [hpre0] at hn
    simp only [Int.natCast_zero] at hn
    have hhW := hh.box hbn hg
    have kb := (World.cell?_of_block (a := ⟨bb, 0, none⟩) (hg.block bb (by omega) (fun e => by injection e with e; omega))).trans hcb
    have kc := (World.cell?_of_block (a := ⟨bc, 0, none⟩) (hg.block bc (by omega) (fun e => by injection e with e; omega))).trans hcc
    have hrW := hr.keep (w' := W) (fun q _ h2 => World.cell?_of_block (hg.block q.block (by omega) (fun e => by injection e with e; omega)))
    have hy := le_max (mayB_le hS.may)
    have hlas := lasts_disk hhW y hy
    rw [hS.find.1, hS.find.2, if_pos rfl] at hlas
    have hnum := fun e u => num_any e u
    have HRD := Lib.hid (fun (u : World) (hu : W.grownBy u none) => read_here (hhW.grow hu) hS.readS hy)
    have HS := Lib.hid (fun (u : World) (hu : W.grownBy u none) => (⟨(World.cell?_of_block (a := ⟨bb, 0, none⟩) (hu.block bb (by have := hg.size; show bb < _; omega) (by simp))).trans kb, (World.cell?_of_block (a := ⟨bc, 0, none⟩) (hu.block bc (by have := hg.size; show bc < _; omega) (by simp))).trans kc,
      run_str (hrW.keep (w' := u) (fun q _ h2 => World.cell?_of_block (hu.block q.block (by have := hg.size; omega) (by simp)))) b.length cb rfl,
      (hu.block bn (by have := hg.size; omega) (by simp)).trans hn⟩ : _ ∧ _ ∧ _ ∧ _))
    clear e1
    dsimp only
    unfold strV at hlas ⊢
    gi_wp2_with (first
      | (gi_at_call 28; refine (CallsIn.inRound l (callsIn_wide.2 hlas)).mono ?_; rintro e w' ⟨rfl, rfl⟩)
      | (refine ⟨trivial, ?_⟩; gi_at_call 28; refine (CallsIn.inRound l (callsIn_wide.2 hlas)).mono ?_; rintro e w' ⟨rfl, rfl⟩))
    have HD := Lib.hid (⟨rfl, rfl, rfl, Nat.le_refl _, fun _ _ _ => rfl⟩ : W.grownBy W.drew none)
    have hrd := (HRD.out W.drew HD.out).mono fun e w2 h => (⟨h.1, trivial, h.2.2⟩ : _ ∧ True ∧ _)
    unfold strOf at HS
    unfold strV at hrd
    clear hlas hst
    refine names_r28 _ _ _ _ _ _ _ _ _ _ _ _ _ _ _ _ _ _ _ _ _ _ _ _ _ _ _ _ _ _ _ _ _ _ _ _ _ _ _ _ _ _ _ _ _ _ _ _ _ _ _ _ _ _ _ _ _ _ _ _ _ _ _ _ _ _ _ _ _ _ _ _ _ _ _ _ _ _ _ _ _ _ _ _ _ _ _ _ _ _ _ _ _ _ _ _ _ _ _ _ _ _ _ _ _ _ _ _ _ _ _ _ _ _ _ _ _ _ _ _ _ _ _ _ _ _ _ _ _ _ _ _ _ _ _ _ _ _ _ _ _ _ l _ W p bb bc cb A b y (fun u hu => ?_) (by have := hr2; omega) hrd _ (by rintro ⟨_, _, h⟩; exact h) ?_
    · obtain ⟨k1, k2, s1, _⟩ := HS.out u (HD.out.trans (grown_below hu (Nat.le_refl _) none))
      exact ⟨k1, k2, s1⟩
    · intro _ _ _ _ _ _ _ _ _ _ _ _ _ _ _ _ _ _ _ _ _ w2 hb2
      dsimp only
      have hg2 : W.grownBy w2 none := HD.out.trans (grown_below hb2 (Nat.le_refl _) none)
      obtain ⟨_, _, _, hn2⟩ := HS.out w2 hg2
      have HN2 := Lib.hid hn2
      have kn := cell_of_one hn2
      have fn := free_block (j := 0) hn2
      clear hn2
      gi_wp2
      have hg3 := (grown_none hg2 (some bn)).trans (grown_set w2 ⟨bn, 0, none⟩ (.int .i64 1))
      exact ⟨KeepsFrom.of_grownBy hg3 (fun j e => by injection e with e; omega), kpC_grown hg3 hb3 hg.size, hg.trans hg3, by rw [List.length_append, hpre0]; exact set_block HN2.out _⟩
end Go.Proofs.Ytcemfpbkaahcmaa
