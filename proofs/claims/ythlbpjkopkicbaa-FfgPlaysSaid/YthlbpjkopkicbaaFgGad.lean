/- Any gadget in memory, with what always holds of it; its links. -/
import Derived.Test.YthlbpjkopkicbaaFgInv
import Derived.Test.YthlbpjkopkicbaaFgNew
import Derived.Test.YthlbpjkopkicbaaFgAll
namespace Go.Proofs.Ythlbpjkopkicbaa
open Go.ChangeMaps Go.MapKept Go.Maps Go.WideElems Go.RowKit Go.ChangeShapes Go.WideShapes Go.ChangeAt
set_option linter.unusedVariables false
set_option maxRecDepth 100000

/-- A gadget in memory: with its bounds, and what always holds. -/
structure GadG (a : Pt) (g : Nat) (F : Nat → Prop) (S : FgS) (w : World) : Prop where
  mem : FgK g F S (nS S.told.length) S.told.length (1 + 2 * S.told.length) w
  inv : Inv a S
variable {a : Pt} {g : Nat} {F : Nat → Prop} {S : FgS} {w w' : World}
theorem GadG.pre (h : GadG a g F S w) (hm : S.told.length ≤ 59) : S.told.length ≤ 1000 ∧ 1 + 2 * S.told.length ≤ 1000 ∧ nS S.told.length ≤ 800000 ∧ S.links.length ≤ 1000000 := by
  have h2 := nS_59 hm
  rw [h.inv.same]
  omega
theorem GadG.below (h : GadG a g F S w) (hb : Below w.heap.size w w') : GadG a g F S w' := { h with mem := h.mem.below hb }
theorem gad_start {s bt bs bw : Nat} {vl : Value} {hd : Pt → Option Value} (hgF : ¬ F g) (ga : GaB g s w) (fb : FgB s bt bs bw vl hd F (S0 a) 1 w) : GadG a g F (S0 a) w where
  mem := ⟨s, bt, bs, bw, _, _, ga, hgF, ga.lt, fb, (fun p L h => by cases h), Nat.le_trans fb.waits.size (by show 1 ≤ 1 + _; omega)⟩
  inv := inv_start a
/-- What a link that is told leaves. -/
def StrongG (a : Pt) (g : Nat) (F : Nat → Prop) (S : FgS) (x : Lk) (w : World) (e : Ending) (w' : World) : Prop :=
  ∃ er F' S', e = .returned (.int .i64 er) ∧ Strongs S x S' er ∧ GadG a g F' S' w' ∧ Kept F w w' ∧ (∀ k, F' k → F k ∨ w.heap.size ≤ k) ∧ S'.told.length ≤ S.told.length + 1 ∧ (er ≠ 0 → S' = S) ∧ (er = 0 → S'.told = S.told ++ [x])
theorem strongG_c (h : GadG a g F S w) (x : Lk) (hm : S.told.length ≤ 59) : Calls Try.prog 13 #[.pointer (some ⟨g, 0, none⟩), .agg (lv x)] w (StrongG a g F S x w) := by
  obtain ⟨p1, p2, p3, p4⟩ := h.pre hm
  refine (strong_c g F S _ _ _ x w h.mem p1 p2 p3 p4).mono ?_
  rintro e w' ⟨er, F', S', rfl, hs, fk, kp, hF, _, hR⟩
  refine ⟨er, F', S', rfl, hs, ?_⟩
  rcases hs with ⟨q1, rfl, rfl⟩ | ⟨q1, q2, rfl, rfl⟩ | ⟨q1, q2, rfl, q4⟩
  · exact ⟨{ mem := hR (by omega), inv := h.inv }, kp, hF, by omega, fun _ => rfl, fun e => by omega⟩
  · exact ⟨{ mem := hR (by omega), inv := h.inv }, kp, hF, by omega, fun _ => rfl, fun e => by omega⟩
  · obtain ⟨i1, i2⟩ := inv_puts h.inv q1 q2 q4
    have hl : S'.told.length = S.told.length + 1 := by rw [i2, List.length_append]; rfl
    refine ⟨{ mem := ?_, inv := i1 }, kp, hF, by omega, fun e => absurd rfl e, fun _ => i2⟩
    rw [hl]
    exact fk.mono (by show _ ≤ nS _ + 5 + 2 * (_ * (1 + 2 * _)); exact Nat.le_refl _) (Nat.le_refl _) (by omega)
theorem cloneL_c (w : World) (b : Nat) (A : Option Addr) (c : Nat) (L : List Lk) (h : w.ownsRow b 36 66 (.slice A L.length c) L.length (lks L)) (hl : L.length ≤ 1000000) :
    Calls Try.prog 38 #[.slice A L.length c] w fun e w' => ∃ A' c', e = .returned (.slice A' L.length c') ∧ w'.ownsRow w.heap.size 36 66 (.slice A' L.length c') L.length (lks L) ∧ Below w.heap.size w w' := by
  obtain ⟨i0, hi0⟩ : ∃ i0, Try.prog.info? 36 = some i0 := ⟨_, (Option.some_get (by kernel_rfl)).symm⟩
  obtain ⟨hz0, hz1, hz2⟩ := link_row hi0
  have hnil := fun (u : World) (a : Option Addr) (n : Nat) => Lib.run_eql_slice_nil (P := Try.prog) u 30 36 a n c 0 0 Try.underlying30
  rcases h.2 with ⟨e, h0⟩ | ⟨g, cap, cur, e, h1, h2, h3⟩
  · injection e with e1 e2 e3
    subst e1
    subst e3
    have hL : L = [] := List.length_eq_zero_iff.1 h0
    subst hL
    clear h h0 e2
    go_enter Try.func38, Try.ntmps38
    go_wp2_with fail
    go_ret
    exact ⟨none, 0, rfl, ⟨rfl, .inl ⟨rfl, rfl⟩⟩, Below.refl _ _⟩
  · injection e with e1 e2 e3
    subst e1
    subst e3
    obtain ⟨w1, hw1⟩ : ∃ w1, w1 = w.alloc (.cells #[] 36) := ⟨_, rfl⟩
    have b1 : Below w.heap.size w w1 := by rw [hw1]; exact (Below.refl _ _).alloc (Nat.le_refl _) _
    have n1 : w1.ownsRow w.heap.size 36 66 (.slice (some ⟨w.heap.size, 0, none⟩) 0 0) 0 [] := by
      refine ⟨rfl, .inr ⟨w.heap.size, 0, #[], rfl, Nat.le_refl _, by rw [hw1]; exact heap_alloc_new w _, Nat.le_refl _, Nat.zero_le _, rfl, rfl⟩⟩
    have o1 : w1.ownsRow b 36 66 (.slice (some ⟨g, 0, none⟩) L.length c) L.length (lks L) := ownKeep h (fun k hk => b1.block k (h.lt k hk).2)
    have N1 := Lib.hid n1
    have O1 := Lib.hid o1
    have B1 := Lib.hid b1
    have HW1 := Lib.hid hw1
    clear hw1 n1 o1 b1 h h1 h2 h3
    go_enter Try.func38, Try.ntmps38
    go_wp2_with (first
      | (rw [← HW1.out]; at_builtin; refine wpList_append_row rfl (.tmp 5) (.tmp 6) 30 rfl w.heap.size 36 i0 _ 66 80 Try.underlying30 hi0 hz0 hz1 hz2 (by show (lv lkZ).size = 66; exact rowV_size _ _) (by decide) (.slice (some ⟨w.heap.size, 0, none⟩) 0 0) 0 [] rfl N1.out b _ L.length (lks L) rfl O1.out (lks_one L) (by unfold maxLen; omega) (by omega) B1.out.size ?_; intro v' w3 o3 g3 b3; rw [List.nil_append, Nat.zero_add] at o3)
      | fail)
    go_ret
    obtain ⟨A', c', rfl, _⟩ := ownForm o3
    have hk : ∀ k, (Value.slice (some ⟨w.heap.size, 0, none⟩) 0 0).ownBlock = some k → w.heap.size ≤ k := fun k e => by
      injection e with e
      exact Nat.le_of_eq e
    exact ⟨A', c', rfl, o3, B1.out.grown g3 B1.out.size hk⟩
/-- The links of a gadget. -/
theorem links_c (h : GadG a g F S w) (hl : S.told.length ≤ 59) : Calls Try.prog 21 #[.pointer (some ⟨g, 0, none⟩)] w fun e w' => ∃ A' c', e = .returned (.slice A' S.told.length c') ∧ w'.ownsRow w.heap.size 36 66 (.slice A' S.told.length c') S.told.length (lks S.told) ∧ Below w.heap.size w w' := by
  obtain ⟨s, bt, bs, bw, vl, hd, ga, hgF, hgl, hB, _, _⟩ := h.mem
  have hs := h.inv.same
  have ho := hB.links
  obtain ⟨A, c, rfl, _⟩ := ownForm ho
  have c0 : w.cell? ⟨s, 0, none⟩ = some (.slice A S.links.length c) := cell_of_row w s 0 _ _ (0, 0) hB.cells
  rw [hs] at ho c0
  have CL := Lib.hid (cloneL_c w 0 A c S.told ho (by omega))
  have GA := Lib.hid ga
  clear ho hB h ga
  go_enter Try.func21, Try.ntmps21
  go_wp2_with fail
  refine (seen_c g s w GA.out).mono ?_
  rintro e w1 ⟨rfl, rfl⟩
  go_wp2_with fail
  refine CL.out.mono ?_
  rintro e w2 ⟨A', c', rfl, o2, b2⟩
  go_wp2_with fail
  go_ret
  exact ⟨A', c', rfl, o2, b2⟩
end Go.Proofs.Ythlbpjkopkicbaa
