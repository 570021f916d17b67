/- Two gadgets beside one another; a copy; what more links do. -/
import Derived.Test.YthlbpjkopkicbaaFgCopy
import Derived.Test.YthlbpjkopkicbaaEqStep
namespace Go.Proofs.Ythlbpjkopkicbaa
open Go.ChangeMaps Go.MapKept Go.Maps Go.WideElems Go.RowKit Go.ChangeShapes Go.WideShapes Go.ChangeAt
set_option linter.unusedVariables false
set_option maxRecDepth 100000

/-- More links: what stands still stands. -/
theorem inv_mono {a : Pt} {S T : FgS} (hS : Inv a S) (hT : Inv a T) (hsub : ∀ y ∈ S.told, y ∈ T.told) : ∀ (n : Nat) (p : Pt), p.e ≤ n → 1 ≤ stN S.stands p → 1 ≤ stN T.stands p := by
  intro n
  induction n with
  | zero =>
    intro p hp h
    rcases hS.pend.fro p h with rfl | ⟨y, y1, y2, y3⟩
    · have := hT.pend.anc; omega
    · have hm := hS.may y y1
      have : y.s.e < y.t.e := by unfold mayL at hm; simp at hm; exact hm.2
      rw [y2] at this; omega
  | succ n ih =>
    intro p hp h
    rcases hS.pend.fro p h with rfl | ⟨y, y1, y2, y3⟩
    · have := hT.pend.anc; omega
    · have hm := hS.may y y1
      have hlt : y.s.e < y.t.e := by unfold mayL at hm; simp at hm; exact hm.2
      rw [y2] at hlt
      have := hT.closed (hsub y y1) (ih y.s (by omega) y3)
      rw [y2] at this
      exact this
theorem inv_stands {a : Pt} {S T : FgS} (hS : Inv a S) (hT : Inv a T) (h : ∀ y, y ∈ S.told ↔ y ∈ T.told) (p : Pt) : 1 ≤ stN S.stands p ↔ 1 ≤ stN T.stands p :=
  ⟨inv_mono hS hT (fun y hy => (h y).1 hy) _ p (Nat.le_refl _), inv_mono hT hS (fun y hy => (h y).2 hy) _ p (Nat.le_refl _)⟩
theorem inv_final {a : Pt} {S T : FgS} (hS : Inv a S) (hT : Inv a T) (h : ∀ y, y ∈ S.told ↔ y ∈ T.told) (p : Pt) : 2 ≤ stN S.stands p ↔ 2 ≤ stN T.stands p := by
  have e1 : 2 ≤ stN S.stands p ↔ stN S.stands p = 2 := by have := hS.pend.le2 p; omega
  have e2 : 2 ≤ stN T.stands p ↔ stN T.stands p = 2 := by have := hT.pend.le2 p; omega
  rw [e1, e2, hS.final p, hT.final p]
  constructor
  · rintro (e | ⟨y, y1, y2, y3, y4⟩)
    · exact .inl e
    · exact .inr ⟨y, (h y).1 y1, y2, y3, (inv_stands hS hT h p).1 y4⟩
  · rintro (e | ⟨y, y1, y2, y3, y4⟩)
    · exact .inl e
    · exact .inr ⟨y, (h y).2 y1, y2, y3, (inv_stands hS hT h p).2 y4⟩
theorem rise_nodup {L : List Pt} (h : Rise L) : L.Nodup := h.imp (fun h e => by rw [e] at h; exact Nat.lt_irrefl _ h)
theorem nodup_le {α : Type} [BEq α] [LawfulBEq α] (z : α) {L M : List α} (h : L.Nodup) (hs : ∀ y ∈ L, y ∈ M) : L.length ≤ M.length :=
  row_count (fun k => M.getD k z) M.length L h (fun y hy => by
    obtain ⟨k, hk⟩ := List.getElem?_of_mem (hs y hy)
    exact ⟨k, (List.getElem?_eq_some_iff.1 hk).1, by show y = M.getD k z; rw [List.getD_eq_getElem?_getD, hk]; rfl⟩)
/-- Who has been told. -/
theorem strong_told {S S' : FgS} {x : Lk} {er : Int} (hs : Strongs S x S' er) (h0 : er ≠ 0 → S' = S) (h1 : er = 0 → S'.told = S.told ++ [x]) (y : Lk) : y ∈ S'.told ↔ y ∈ S.told ∨ (y = x ∧ mayL x = true) := by
  rcases hs with ⟨q1, q2, rfl⟩ | ⟨q1, q2, q3, rfl⟩ | ⟨q1, q2, q3, q4⟩
  · constructor
    · exact .inl
    · rintro (e | ⟨_, e⟩)
      · exact e
      · rw [q1] at e; cases e
  · constructor
    · exact .inl
    · rintro (e | ⟨rfl, _⟩)
      · exact e
      · exact q2
  · rw [h1 q3, List.mem_append, List.mem_singleton]
    constructor
    · rintro (e | e)
      · exact .inl e
      · exact .inr ⟨e, q1⟩
    · rintro (e | ⟨e, _⟩)
      · exact .inl e
      · exact .inr e
theorem GadG.keep {a : Pt} {g : Nat} {F : Nat → Prop} {S : FgS} {w w' : World} (h : GadG a g F S w) (hg : w'.heap[g]? = w.heap[g]?) (hk : ∀ k, F k → w'.heap[k]? = w.heap[k]?) (hs : w.heap.size ≤ w'.heap.size) : GadG a g F S w' := { h with mem := h.mem.keep hg hk hs }
theorem GadG.fin {a : Pt} {g : Nat} {F : Nat → Prop} {S : FgS} {w : World} (h : GadG a g F S w) : g < w.heap.size ∧ ∀ k, F k → k < w.heap.size := by
  obtain ⟨s, bt, bs, bw, vl, hd, h1, h2, h3, h4, h5, h6⟩ := h.mem
  exact ⟨h3, h4.fin⟩
/-- Two gadgets of one anchor. -/
structure Two (a : Pt) (ga gb : Nat) (W0 : World) (Fa Fb : Nat → Prop) (Sa Sb : FgS) (u : World) : Prop where
  A : GadG a ga Fa Sa u
  B : GadG a gb Fb Sb u
  dis : ∀ k, Fa k → ¬ Fb k
  na : ¬ Fb ga
  nb : ¬ Fa gb
  lo : ∀ k, Fa k ∨ Fb k → W0.heap.size ≤ k
  bel : Below W0.heap.size W0 u
section
variable {a : Pt} {ga gb : Nat} {W0 : World} {Fa Fb : Nat → Prop} {Sa Sb : FgS} {u u' : World}
theorem Two.below (h : Two a ga gb W0 Fa Fb Sa Sb u) (hb : Below u.heap.size u u') : Two a ga gb W0 Fa Fb Sa Sb u' := { h with A := h.A.below hb, B := h.B.below hb, bel := h.bel.trans (hb.mono h.bel.size) }
theorem Two.swap (h : Two a ga gb W0 Fa Fb Sa Sb u) : Two a gb ga W0 Fb Fa Sb Sa u where
  A := h.B
  B := h.A
  dis k h1 h2 := h.dis k h2 h1
  na := h.nb
  nb := h.na
  lo k hk := h.lo k hk.symm
  bel := h.bel
theorem Two.step {x : Lk} {e : Ending} (h : Two a ga gb W0 Fa Fb Sa Sb u) (hs : StrongG a ga Fa Sa x u e u') : ∃ er F' S', e = .returned (.int .i64 er) ∧ Two a ga gb W0 F' Fb S' Sb u' ∧ (∀ y, y ∈ S'.told ↔ y ∈ Sa.told ∨ (y = x ∧ mayL x = true)) := by
  obtain ⟨er, F', S', rfl, q1, q2, q3, q4, _, q6, q7⟩ := hs
  have hB := h.B.fin
  refine ⟨er, F', S', rfl, { A := q2, B := h.B.keep (q3.2.2.2.2 gb hB.1 h.nb) (fun k hk => q3.2.2.2.2 k (hB.2 k hk) (fun e => h.dis k e hk)) q3.2.2.2.1, dis := fun k hk hb => (q4 k hk).elim (fun e => h.dis k e hb) (fun e => by have := hB.2 k hb; omega), na := h.na, nb := fun e => (q4 gb e).elim h.nb (fun e2 => by have := hB.1; omega), lo := fun k hk => hk.elim (fun e => (q4 k e).elim (fun e2 => h.lo k (.inl e2)) (fun e2 => Nat.le_trans h.bel.size e2)) (fun e => h.lo k (.inr e)), bel := h.bel.trans (q3.below h.bel.size (fun k hk => h.lo k (.inl hk))) }, strong_told q1 q6 q7⟩
end
/-- What is told of those that stand so, of whatever gadget. -/
def AllB (S : FgS) (least : Nat) (w : World) (e : Ending) (w' : World) : Prop := ∃ A c Lp, e = .returned (.slice A Lp.length c) ∧ (∀ p, p ∈ Lp ↔ least ≤ stN S.stands p) ∧ w'.ownsRow w.heap.size 29 33 (.slice A Lp.length c) Lp.length (pts Lp) ∧ Below w.heap.size w w' ∧ Lp.length ≤ 1000000000 ∧ Rise Lp
theorem allJustifiedB_c {g s bt bs bw n : Nat} {vl : Value} {hd : Pt → Option Value} {F : Nat → Prop} {S : FgS} {w : World} (ga : GaB g s w) (hB : FgB s bt bs bw vl hd F S n w) (hn : n ≤ 1000000000) : Calls Try.prog 17 #[.pointer (some ⟨g, 0, none⟩)] w (AllB S 1 w) := by
  have CS := Lib.hid (sortedN_c w s bt bs bw _ 1 vl hd F S hB (Nat.le_refl _) (by omega))
  have GA := Lib.hid ga
  clear hB ga
  go_enter Try.func17, Try.ntmps17
  go_wp2_with fail
  refine (seen_c g s w GA.out).mono ?_
  rintro e w1 ⟨rfl, rfl⟩
  go_wp2_with fail
  refine CS.out.mono ?_
  rintro e w2 ⟨A', c', Lp, rfl, m2, o2, b2, l2, r2⟩
  go_wp2_with fail
  go_ret
  exact ⟨A', c', Lp, rfl, m2, o2, b2, by omega, r2⟩
theorem built_ga (s : Nat) : Try.prog.built 51 [(0, .pointer (some ⟨s, 0, none⟩))] = some #[.pointer (some ⟨s, 0, none⟩)] := by kernel_rfl
theorem copy_c {a : Pt} {g : Nat} {F : Nat → Prop} {S : FgS} {w : World} (h : GadG a g F S w) (hl : S.told.length ≤ 59) : Calls Try.prog 24 #[.pointer (some ⟨g, 0, none⟩)] w fun e w' => ∃ g' sN m1 m2 m3 vN hdN F' n', e = .returned (.pointer (some ⟨g', 0, none⟩)) ∧ GaB g' sN w' ∧ FgB sN m1 m2 m3 vN hdN F' S n' w' ∧ n' ≤ 1000000000 ∧ Below w.heap.size w w' ∧ (∀ k, F' k → w.heap.size ≤ k) ∧ w.heap.size ≤ g' := by
  obtain ⟨p1, p2, p3, p4⟩ := h.pre hl
  obtain ⟨s, bt, bs, bw, vl, hd, ga, hgF, hgl, hB, hM, hK⟩ := h.mem
  have CC := Lib.hid (clone_c w s bt bs bw _ vl hd F S hB (by rw [h.inv.same]; omega) (fun p LL hw => by have := hM p LL hw; omega) (by omega))
  have GA := Lib.hid ga
  have g0 : w.cell? ⟨g, 0, none⟩ = some (.pointer (some ⟨s, 0, none⟩)) := cell_of_row w g 0 _ _ (0, 0) ga
  have P3 := Lib.hid p3
  clear hB hM hK ga h p1 p2 p3 p4
  go_enter Try.func24, Try.ntmps24
  go_wp2_with fail
  refine (isNone_c g s w GA.out).mono ?_
  rintro e w1 ⟨rfl, rfl⟩
  go_wp2_with fail
  refine CC.out.mono ?_
  rintro e w2 ⟨sN, m1, m2, m3, vN, hdN, n', rfl, f2, l2, b2⟩
  obtain ⟨w3, hw3⟩ : ∃ w3, w3 = w2.alloc (.cells #[.pointer (some ⟨sN, 0, none⟩)] 51) := ⟨_, rfl⟩
  have b3 : Below w2.heap.size w2 w3 := by rw [hw3]; exact (Below.refl _ _).alloc (Nat.le_refl _) _
  have G3 : Hid (GaB w2.heap.size sN w3) := by rw [hw3]; exact heap_alloc_new w2 _
  have F3 := Lib.hid (f2.below b3)
  have B3 := Lib.hid (b2.trans (b3.mono b2.size))
  have L3 := Lib.hid l2
  have SZ2 := Lib.hid b2.size
  have HW3 := Lib.hid hw3
  clear f2 l2 b2 b3 hw3 g0
  go_wp2_with (first
    | (refine wpList_build_as' rfl 51 #[(0, .tmp 9)] rfl _ _ (built_ga sN) (by kernel_rfl) ?_)
    | fail)
  rw [← HW3.out]
  go_ret
  exact ⟨_, sN, m1, m2, m3, vN, hdN, _, n', rfl, G3.out, F3.out, by have := P3.out; have := L3.out; omega, B3.out, fun k hk => hk.1, SZ2.out⟩
noncomputable def sm_r6C : Code := ((Try.f16.body.bind (regionOf 6))).getD .skip
set_option maxRecDepth 1000000 in
set_option maxHeartbeats 8000000 in
theorem sm_r6 (c2 c3 c4 c6 c7 c8 c9 c10 c11 c12 c13 c14 c15 c16 c17 c18 c19 c20 c21 c22 c23 c24 c25 : Value) (w : World) (ga gb n ca cb k : Nat) (p : Pt) (hk : k < n) (hx : w.rangeAt ga (k * 33) (pC p)) (hy : w.rangeAt gb (k * 33) (pC p))
    (Q : Exit → Act → World → Prop) (hQ : ∀ (u17 u18 u19 u20 u21 u22 u23 u24 : Value) (w' : World), Below w.heap.size w w' → Q .normal ⟨#[.slice (some ⟨ga, 0, none⟩) n ca, .slice (some ⟨gb, 0, none⟩) n cb, c2, c3, c4, .int .i64 (k : Int), c6, c7, c8, c9, c10, c11, c12, c13, c14, c15, c16, u17, u18, u19, u20, u21, u22, u23, u24, .bool false], []⟩ w') :
    Code.wp Try.prog sm_r6C Q ⟨#[.slice (some ⟨ga, 0, none⟩) n ca, .slice (some ⟨gb, 0, none⟩) n cb, c2, c3, c4, .int .i64 (k : Int), c6, c7, c8, c9, c10, c11, c12, c13, c14, c15, c16, c17, c18, c19, c20, c21, c22, c23, c24, c25], []⟩ w := by
  conv => arg 2; whnf
  try dsimp only at hQ ⊢
  have q1 : (k : Int) < (n : Int) := by omega
  have RX : Hid (w.drew.rangeAt ga (k * 33) (pC p) ∧ w.drew.rangeAt gb (k * 33) (pC p)) := ⟨hx, hy⟩
  clear hx hy
  refine wp_region_noPanic ?_
  refine wp_region_held_drew (S := (fun u => u.rangeAt ga (k * 33) (pC p) ∧ u.rangeAt gb (k * 33) (pC p))) (by kernel_rfl) (RX.out) (fun hHeld => ?_)
  refine takeH (i := 0) (d := 17) (oi := _) (v := .slice (some ⟨ga, 0, none⟩) n ca) rfl (by kernel_rfl) (by kernel_rfl) (by kernel_rfl) (by kernel_rfl) (fun _ _ _ h => h) (Or.inl ⟨by kernel_rfl, by intro u hSw; clear hSw; go_simp⟩) hHeld ?_
  try simp only [List.setIfInBounds_toArray, List.set_cons_zero, List.set_cons_succ]
  refine takeH (i := 1) (d := 18) (oi := _) (v := .int .i64 (k : Int)) rfl (by kernel_rfl) (by kernel_rfl) (by kernel_rfl) (by kernel_rfl) (fun _ _ _ h => h) (Or.inl ⟨by kernel_rfl, by intro u hSw; clear hSw; go_simp⟩) hHeld ?_
  try simp only [List.setIfInBounds_toArray, List.set_cons_zero, List.set_cons_succ]
  refine takeH (i := 2) (d := 19) (oi := _) (v := .pointer (some ⟨ga, (k * 33), none⟩)) rfl (by kernel_rfl) (by kernel_rfl) (by kernel_rfl) (by kernel_rfl) (fun _ _ _ h => h) (Or.inl ⟨by kernel_rfl, by intro u hSw; clear hSw; go_simp⟩) hHeld ?_
  try simp only [List.setIfInBounds_toArray, List.set_cons_zero, List.set_cons_succ]
  refine takeH (i := 3) (d := 20) (oi := _) (v := .agg (pv p)) rfl (by kernel_rfl) (by kernel_rfl) (by kernel_rfl) (by kernel_rfl) (fun _ _ _ h => h) (yieldsIf_load_midC (by kernel_rfl) _ _ rfl (ga) (k * 33) rfl (pC p) (pv p) (pC_arr p) _ (fun u hSw => hSw.1) Try.underlying29 rfl (size_pv p)) hHeld ?_
  try simp only [List.setIfInBounds_toArray, List.set_cons_zero, List.set_cons_succ]
  refine takeH (i := 4) (d := 21) (oi := _) (v := .slice (some ⟨gb, 0, none⟩) n cb) rfl (by kernel_rfl) (by kernel_rfl) (by kernel_rfl) (by kernel_rfl) (fun _ _ _ h => h) (Or.inl ⟨by kernel_rfl, by intro u hSw; clear hSw; go_simp⟩) hHeld ?_
  try simp only [List.setIfInBounds_toArray, List.set_cons_zero, List.set_cons_succ]
  refine takeH (i := 5) (d := 22) (oi := _) (v := .int .i64 (k : Int)) rfl (by kernel_rfl) (by kernel_rfl) (by kernel_rfl) (by kernel_rfl) (fun _ _ _ h => h) (Or.inl ⟨by kernel_rfl, by intro u hSw; clear hSw; go_simp⟩) hHeld ?_
  try simp only [List.setIfInBounds_toArray, List.set_cons_zero, List.set_cons_succ]
  refine takeH (i := 6) (d := 23) (oi := _) (v := .pointer (some ⟨gb, (k * 33), none⟩)) rfl (by kernel_rfl) (by kernel_rfl) (by kernel_rfl) (by kernel_rfl) (fun _ _ _ h => h) (Or.inl ⟨by kernel_rfl, by intro u hSw; clear hSw; go_simp⟩) hHeld ?_
  try simp only [List.setIfInBounds_toArray, List.set_cons_zero, List.set_cons_succ]
  refine takeH (i := 7) (d := 24) (oi := _) (v := .agg (pv p)) rfl (by kernel_rfl) (by kernel_rfl) (by kernel_rfl) (by kernel_rfl) (fun _ _ _ h => h) (yieldsIf_load_midC (by kernel_rfl) _ _ rfl (gb) (k * 33) rfl (pC p) (pv p) (pC_arr p) _ (fun u hSw => hSw.2) Try.underlying29 rfl (size_pv p)) hHeld ?_
  try simp only [List.setIfInBounds_toArray, List.set_cons_zero, List.set_cons_succ]
  refine takeH (i := 8) (d := 25) (oi := _) (v := .bool false) rfl (by kernel_rfl) (by kernel_rfl) (by kernel_rfl) (by kernel_rfl) (fun _ _ _ h => h) ((show (.bool false : Value) = .bool (!decide (p = p)) by simp).symm ▸ yieldsIf_neq (by kernel_rfl) 29 29 (.tmp 20) (.tmp 24) rfl (pv p) (pv p) rfl rfl guard_point _ (eq_point9 p p)) hHeld ?_
  try simp only [List.setIfInBounds_toArray, List.set_cons_zero, List.set_cons_succ]
  refine wpAnyH_done (by kernel_rfl) ?_ _
  refine NoPanic.normal ?_
  exact hQ _ _ _ _ _ _ _ _ _ ((Below.refl w.heap.size w).drew)
/-- Two lists that are the same. -/
theorem same_c (w : World) (A B : Option Addr) (n ca cb : Nat) (Lp : List Pt) (hn : n = Lp.length) (hn2 : n ≤ 1000000000) (hA : ∀ u, Below w.heap.size w u → ∀ (k : Nat) p, Lp[k]? = some p → ∃ g, A = some ⟨g, 0, none⟩ ∧ u.rangeAt g (k * 33) (pC p)) (hB : ∀ u, Below w.heap.size w u → ∀ (k : Nat) p, Lp[k]? = some p → ∃ g, B = some ⟨g, 0, none⟩ ∧ u.rangeAt g (k * 33) (pC p)) :
    Calls Try.prog 16 #[.slice A n ca, .slice B n cb] w fun e w' => e = .returned (.bool true) ∧ Below w.heap.size w w' := by
  have HA := Lib.hid hA
  have HB := Lib.hid hB
  have HN := Lib.hid hn
  clear hA hB hn
  go_enter Try.func16, Try.ntmps16
  go_wp2_with fail
  go_loopw [5] (fun v5 u => ∃ k, k ≤ n ∧ v5 = .int .i64 (k : Int) ∧ Below w.heap.size w u) (fun v5 _ => n - (intOf v5).toNat)
  case atStart => exact ⟨0, Nat.zero_le _, rfl, Below.refl _ _⟩
  case round =>
    obtain ⟨k, hk, rfl, q1⟩ := hrel
    have B1 := Lib.hid q1
    clear q1
    by_cases hkn : k < n
    · obtain ⟨p, hp⟩ : ∃ p, Lp[k]? = some p := ⟨_, List.getElem?_eq_getElem (by have := HN.out; omega)⟩
      obtain ⟨ga, rfl, ka⟩ := HA.out wr B1.out k p hp
      obtain ⟨gb, rfl, kb⟩ := HB.out wr B1.out k p hp
      clear hp
      go_wp2_with fail
      refine sm_r6 _ _ _ _ _ _ _ _ _ _ _ _ _ _ _ _ _ _ _ _ _ _ _ wr ga gb n ca cb k p hkn ka kb _ ?_
      intro t17 t18 t19 t20 t21 t22 t23 t24 w2 b2
      have B2 := Lib.hid (B1.out.trans (b2.mono B1.out.size))
      clear b2 ka kb
      go_wp2_with fail
      exact ⟨⟨k + 1, by omega, by go_num, B2.out⟩, by simp [intOf]; omega⟩
    · obtain rfl : k = n := by omega
      go_wp2_with fail
      go_ret
      exact ⟨rfl, B1.out⟩
end Go.Proofs.Ythlbpjkopkicbaa
