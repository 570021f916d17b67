/- A link is told strong: the call. -/
import Derived.Test.YthlbpjkopkicbaaFgPut
namespace Go.Proofs.Ythlbpjkopkicbaa
open Go.ChangeMaps Go.MapKept Go.Maps Go.RowKit Go.ChangeShapes Go.WideShapes Go.ChangeAt
set_option linter.unusedVariables false
set_option maxRecDepth 100000

/-- A gadget in memory, with what bounds it. -/
def FgK (g : Nat) (F : Nat → Prop) (S : FgS) (n M K : Nat) (w : World) : Prop := ∃ s bt bs bw vl hd, GaB g s w ∧ ¬ F g ∧ g < w.heap.size ∧ FgB s bt bs bw vl hd F S n w ∧ (∀ p L, S.waiting p = some L → L.length ≤ M) ∧ mapSize w bw ≤ K
theorem FgB.wider {s bt bs bw n : Nat} {vl : Value} {hd : Pt → Option Value} {F F' : Nat → Prop} {S : FgS} {w : World} (h : FgB s bt bs bw vl hd F S n w) (hF : ∀ k, F k → F' k) (hf : ∀ k, F' k → k < w.heap.size) : FgB s bt bs bw vl hd F' S n w where
  cells := h.cells
  told := h.told
  stands := h.stands
  waits := h.waits
  links := h.links
  rows p := by
    have := h.rows p
    cases hw : S.waiting p with
    | none => rw [hw] at this; exact this
    | some L =>
      rw [hw] at this
      obtain ⟨v, h1, h2, h3⟩ := this
      exact ⟨v, h1, h2, fun k hk => hF k (h3 k hk)⟩
  apart := h.apart
  apartL := h.apartL
  foot := ⟨hF _ h.foot.1, hF _ h.foot.2.1, hF _ h.foot.2.2.1, hF _ h.foot.2.2.2.1, fun k hk => hF k (h.foot.2.2.2.2 k hk)⟩
  ne := h.ne
  fin := hf
theorem FgK.toM {g : Nat} {F : Nat → Prop} {S : FgS} {n M K : Nat} {w : World} (h : FgK g F S n M K w) : FgM g (fun k => F k ∨ k = g) S n w := by
  obtain ⟨s, bt, bs, bw, vl, hd, h1, h2, h3, h4, _⟩ := h
  exact ⟨s, bt, bs, bw, vl, hd, h1, .inr rfl, h4.wider (fun k hk => .inl hk) (fun k hk => hk.elim (h4.fin k) (fun e => by omega))⟩
theorem FgK.keep {g : Nat} {F : Nat → Prop} {S : FgS} {n M K : Nat} {w w' : World} (h : FgK g F S n M K w) (hg : w'.heap[g]? = w.heap[g]?) (hk : ∀ k, F k → w'.heap[k]? = w.heap[k]?) (hs : w.heap.size ≤ w'.heap.size) : FgK g F S n M K w' := by
  obtain ⟨s, bt, bs, bw, vl, hd, h1, h2, h3, h4, h5, h6⟩ := h
  exact ⟨s, bt, bs, bw, vl, hd, hg.trans h1, h2, by omega, h4.keep hk hs, h5, by rw [mapSize_keep (hk bw h4.foot.2.2.2.1)]; exact h6⟩
theorem FgK.below {g : Nat} {F : Nat → Prop} {S : FgS} {n M K : Nat} {w w' : World} (h : FgK g F S n M K w) (hb : Below w.heap.size w w') : FgK g F S n M K w' := by
  have h' := h
  obtain ⟨s, bt, bs, bw, vl, hd, h1, h2, h3, h4, h5, h6⟩ := h'
  exact h.keep (hb.block g h3) (fun k hk => hb.block k (h4.fin k hk)) hb.size
theorem FgK.mono {g : Nat} {F : Nat → Prop} {S : FgS} {n M K n' M' K' : Nat} {w : World} (h : FgK g F S n M K w) (hn : n ≤ n') (hM : M ≤ M') (hK : K ≤ K') : FgK g F S n' M' K' w := by
  obtain ⟨s, bt, bs, bw, vl, hd, h1, h2, h3, h4, h5, h6⟩ := h
  exact ⟨s, bt, bs, bw, vl, hd, h1, h2, h3, h4.mono hn, fun p L hp => Nat.le_trans (h5 p L hp) hM, Nat.le_trans h6 hK⟩
/-- What a link that is told is answered. -/
def Strongs (S : FgS) (x : Lk) (S' : FgS) (er : Int) : Prop := (mayL x = false ∧ er = 2 ∧ S' = S) ∨ (mayL x = true ∧ x ∈ S.told ∧ er = 11 ∧ S' = S) ∨ (mayL x = true ∧ x ∉ S.told ∧ er = 0 ∧ Puts S x S')
def StrongE (g : Nat) (F : Nat → Prop) (S : FgS) (x : Lk) (n M K : Nat) (w : World) (e : Ending) (w' : World) : Prop := ∃ er F' S', e = .returned (.int .i64 er) ∧ Strongs S x S' er ∧ FgK g F' S' (n + 5 + 2 * (M * K)) (M + 1) (K + 2) w' ∧ Kept F w w' ∧ (∀ k, F' k → F k ∨ w.heap.size ≤ k) ∧ (∀ k, F k → F' k) ∧ (er ≠ 0 → FgK g F' S n M K w')
set_option maxRecDepth 1000000 in
set_option maxHeartbeats 8000000 in
theorem strong_c (g : Nat) (F : Nat → Prop) (S : FgS) (n M kk : Nat) (x : Lk) (w : World) (h : FgK g F S n M kk w) (hM2 : M ≤ 1000) (hK2 : kk ≤ 1000) (hn : n ≤ 800000) (hl : S.links.length ≤ 1000000) :
    Calls Try.prog 13 #[.pointer (some ⟨g, 0, none⟩), .agg (lv x)] w (StrongE g F S x n M kk w) := by
  have h0 := h
  obtain ⟨s, bt, bs, bw, vl, hd, hg, hgF, hgl, h, hM, hK⟩ := h
  obtain ⟨W, hW'⟩ : ∃ W, W = w.alloc (.cells (lv x) 36) := ⟨_, rfl⟩
  have hB : Below w.heap.size w W := by rw [hW']; exact (Below.refl _ _).alloc (Nat.le_refl _) _
  have HX : Hid (LkB w.heap.size x W) := by rw [hW']; exact LkB.new
  have HF := Lib.hid (h.below hB)
  have HG : Hid (GaB g s W) := (hB.block g hgl).trans hg
  have HB := Lib.hid hB
  have HW := Lib.hid hW'
  have H0 := Lib.hid h0
  have HMM := Lib.hid hM
  have HKK := Lib.hid hK
  have HFW := Lib.hid h
  clear hW' hB h hM h0 hg hK
  go_enter Try.func13, Try.ntmps13
  go_wp2_with fail
  rw [← HW.out]
  refine (isNone_c g s W HG.out).mono ?_
  rintro e w1 ⟨rfl, rfl⟩
  have c0 := HX.out.row
  go_wp2_with (first
    | (refine wpList_load_row rfl 36 (.tmp 3) rfl w.heap.size rfl 36 (lv x) (0, 0) _ c0 Try.underlying36 rfl (size_lv x) ?_)
    | fail)
  refine (mayLink_c x w1).mono ?_
  rintro e w2 ⟨rfl, b2⟩
  have HB2 := Lib.hid (HB.out.trans (b2.mono HB.out.size))
  have F2 := Lib.hid (HF.out.below b2)
  have X2 := Lib.hid (HX.out.below b2 HX.out.lt)
  have GL : Hid (g < w.heap.size) := hgl
  have G2 : Hid (GaB g s w2) := (b2.block g (Nat.lt_of_lt_of_le hgl HB.out.size)).trans HG.out
  clear b2 c0
  cases hm : mayL x
  · go_wp2_with fail
    go_ret
    exact ⟨2, F, S, rfl, .inl ⟨hm, rfl, rfl⟩, (H0.out.mono (by omega) (Nat.le_succ _) (by omega)).below HB2.out, Kept.of_below HB2.out, fun k e => .inl e, fun k e => e, fun _ => H0.out.below HB2.out⟩
  · have KP : Hid (∀ u : World, Below w2.heap.size w2.drew u → GaB g s u ∧ FgB s bt bs bw vl hd F S n u ∧ LkB w.heap.size x u) := fun u hu => ⟨(hu.block g (Nat.lt_of_lt_of_le GL.out HB2.out.size)).trans (show GaB g s w2.drew from G2.out), (show FgB _ _ _ _ _ _ _ _ _ w2.drew from F2.out.below ((Below.refl _ _).drew)).below hu, (show LkB _ _ w2.drew from X2.out).below hu X2.out.lt⟩
    have BX : Hid (Below w2.heap.size w2.drew w2.drew) := Below.refl _ _
    clear G2 F2 X2 HF HX HG
    go_wp2_with fail
    rename_i K1 hK1
    refine wp_region_noPanic ?_
    refine wp_region_held_drew (S := (fun u => GaB g s u ∧ FgB s bt bs bw vl hd F S n u ∧ LkB w.heap.size x u)) (by kernel_rfl) (KP.out _ BX.out) (fun hHeld => ?_)
    refine takeH (i := 0) (d := 13) (oi := _) (v := .pointer (some ⟨g, 0, none⟩)) rfl (by kernel_rfl) (by kernel_rfl) (by kernel_rfl) (by kernel_rfl) (fun _ _ _ h => h) (Or.inl ⟨by kernel_rfl, by intro u hSw; clear hSw; go_simp⟩) hHeld ?_
    try simp only [List.setIfInBounds_toArray, List.set_cons_zero, List.set_cons_succ]
    refine takeH (i := 1) (d := 14) (oi := _) (v := .pointer (some ⟨g, 0, none⟩)) rfl (by kernel_rfl) (by kernel_rfl) (by kernel_rfl) (by kernel_rfl) (fun _ _ _ h => h) (Or.inl ⟨by kernel_rfl, by intro u hSw; clear hSw; go_simp⟩) hHeld ?_
    try simp only [List.setIfInBounds_toArray, List.set_cons_zero, List.set_cons_succ]
    refine takeH (i := 2) (d := 15) (oi := _) (v := .pointer (some ⟨g, 0, none⟩)) rfl (by kernel_rfl) (by kernel_rfl) (by kernel_rfl) (by kernel_rfl) (fun _ _ _ h => h) (Or.inl ⟨by kernel_rfl, by intro u hSw; clear hSw; go_simp⟩) hHeld ?_
    try simp only [List.setIfInBounds_toArray, List.set_cons_zero, List.set_cons_succ]
    refine takeH (i := 3) (d := 16) (oi := _) (v := .pointer (some ⟨s, 0, none⟩)) rfl (by kernel_rfl) (by kernel_rfl) (by kernel_rfl) (by kernel_rfl) (fun _ _ _ h => h) (Or.inl ⟨by kernel_rfl, by intro u hSw; (have hc : u.cell? ⟨g, 0, none⟩ = some (.pointer (some ⟨s, 0, none⟩)) := cell_of_row u g 0 _ _ (0, 0) hSw.1; clear hSw; go_simp)⟩) hHeld ?_
    try simp only [List.setIfInBounds_toArray, List.set_cons_zero, List.set_cons_succ]
    refine takeH (i := 4) (d := 17) (oi := _) (v := .agg (lv x)) rfl (by kernel_rfl) (by kernel_rfl) (by kernel_rfl) (by kernel_rfl) (fun _ _ _ h => h) (yieldsIf_load_midC (by kernel_rfl) _ _ rfl (w.heap.size) 0 rfl (lC x) (lv x) (lC_arr x) _ (fun u hSw => hSw.2.2.all) Try.underlying36 rfl (size_lv x)) hHeld ?_
    try simp only [List.setIfInBounds_toArray, List.set_cons_zero, List.set_cons_succ]
    refine wpAnyH_ready (rs := [5]) (by kernel_rfl) (by simp) ?_
    refine AllReadyH.cons (o := _) rfl (fun K hK => ?_) (AllReadyH.nil)
    go_simp
    go_at_call 31
    refine (has_c s bt bs bw vl hd F S n x _ (KP.out _ BX.out).2.1).mono ?_
    rintro e w3 ⟨rfl, b3⟩
    have BX := Lib.hid (BX.out.trans (b3.mono BX.out.size))
    clear b3
    go_simp
    refine hK.out _ _ (KP.out _ BX.out) (fun hHeld => ?_)
    clear hK K
    try simp only [Act.put, List.setIfInBounds_toArray, List.set_cons_zero, List.set_cons_succ]
    refine takeH (i := 6) (d := 12) (oi := _) (v := .bool (decide (x ∈ S.told))) rfl (by kernel_rfl) (by kernel_rfl) (by kernel_rfl) (by kernel_rfl) (fun _ _ _ h => h) (Or.inl ⟨by kernel_rfl, by intro u hSw; clear hSw; go_simp⟩) hHeld ?_
    try simp only [List.setIfInBounds_toArray, List.set_cons_zero, List.set_cons_succ]
    refine wpAnyH_done (by kernel_rfl) ?_ _
    refine NoPanic.normal ?_
    first
      | apply hK1
      | apply K1
    clear hK1 K1

    have HB3 := Lib.hid (hdBelowF HB2.out BX.out)
    have K3 := Lib.hid (KP.out _ BX.out)
    clear BX KP
    by_cases ht : x ∈ S.told
    · rw [decide_eq_true ht]
      go_wp2_with fail
      go_ret
      exact ⟨11, F, S, rfl, .inr (.inl ⟨hm, ht, rfl, rfl⟩), (H0.out.mono (by omega) (Nat.le_succ _) (by omega)).below HB3.out, Kept.of_below HB3.out, fun k e => .inl e, fun k e => e, fun _ => H0.out.below HB3.out⟩
    · rw [decide_eq_false ht]
      have HM3 : Hid (mapSize w3 bw ≤ kk) := by rw [mapSize_keep (HB3.out.block bw (HFW.out.fin bw HFW.out.foot.2.2.2.1))]; exact HKK.out
      have KQ : Hid (∀ u : World, Below w3.heap.size w3.drew u → GaB g s u ∧ FgB s bt bs bw vl hd F S n u ∧ LkB w.heap.size x u) := fun u hu => ⟨(hu.block g (Nat.lt_of_lt_of_le GL.out HB3.out.size)).trans (show GaB g s w3.drew from K3.out.1), (show FgB _ _ _ _ _ _ _ _ _ w3.drew from K3.out.2.1.below ((Below.refl _ _).drew)).below hu, (show LkB _ _ w3.drew from K3.out.2.2).below hu K3.out.2.2.lt⟩
      have BY : Hid (Below w3.heap.size w3.drew w3.drew) := Below.refl _ _
      go_wp2_with fail
      rename_i K2 hK2
      refine wp_region_noPanic ?_
      refine wp_region_held_drew (S := (fun u => GaB g s u ∧ LkB w.heap.size x u)) (by kernel_rfl) (⟨(KQ.out _ BY.out).1, (KQ.out _ BY.out).2.2⟩) (fun hHeld => ?_)
      refine takeH (i := 0) (d := 19) (oi := _) (v := .pointer (some ⟨g, 0, none⟩)) rfl (by kernel_rfl) (by kernel_rfl) (by kernel_rfl) (by kernel_rfl) (fun _ _ _ h => h) (Or.inl ⟨by kernel_rfl, by intro u hSw; clear hSw; go_simp⟩) hHeld ?_
      try simp only [List.setIfInBounds_toArray, List.set_cons_zero, List.set_cons_succ]
      refine takeH (i := 1) (d := 20) (oi := _) (v := .pointer (some ⟨g, 0, none⟩)) rfl (by kernel_rfl) (by kernel_rfl) (by kernel_rfl) (by kernel_rfl) (fun _ _ _ h => h) (Or.inl ⟨by kernel_rfl, by intro u hSw; clear hSw; go_simp⟩) hHeld ?_
      try simp only [List.setIfInBounds_toArray, List.set_cons_zero, List.set_cons_succ]
      refine takeH (i := 2) (d := 21) (oi := _) (v := .pointer (some ⟨g, 0, none⟩)) rfl (by kernel_rfl) (by kernel_rfl) (by kernel_rfl) (by kernel_rfl) (fun _ _ _ h => h) (Or.inl ⟨by kernel_rfl, by intro u hSw; clear hSw; go_simp⟩) hHeld ?_
      try simp only [List.setIfInBounds_toArray, List.set_cons_zero, List.set_cons_succ]
      refine takeH (i := 3) (d := 22) (oi := _) (v := .pointer (some ⟨s, 0, none⟩)) rfl (by kernel_rfl) (by kernel_rfl) (by kernel_rfl) (by kernel_rfl) (fun _ _ _ h => h) (Or.inl ⟨by kernel_rfl, by intro u hSw; (have hc : u.cell? ⟨g, 0, none⟩ = some (.pointer (some ⟨s, 0, none⟩)) := cell_of_row u g 0 _ _ (0, 0) hSw.1; clear hSw; go_simp)⟩) hHeld ?_
      try simp only [List.setIfInBounds_toArray, List.set_cons_zero, List.set_cons_succ]
      refine takeH (i := 4) (d := 23) (oi := _) (v := .agg (lv x)) rfl (by kernel_rfl) (by kernel_rfl) (by kernel_rfl) (by kernel_rfl) (fun _ _ _ h => h) (yieldsIf_load_midC (by kernel_rfl) _ _ rfl (w.heap.size) 0 rfl (lC x) (lv x) (lC_arr x) _ (fun u hSw => hSw.2.all) Try.underlying36 rfl (size_lv x)) hHeld ?_
      try simp only [List.setIfInBounds_toArray, List.set_cons_zero, List.set_cons_succ]
      refine wpAnyH_ready (rs := [5]) (by kernel_rfl) (by simp) ?_
      refine AllReadyH.cons (o := _) rfl (fun K hK => ?_) (AllReadyH.nil)

      obtain ⟨v4, hv4⟩ : ∃ v4, v4 = w3.drew := ⟨_, rfl⟩
      have Q4 := KQ.out _ BY.out
      have B4 := Lib.hid (hdBelowF HB3.out BY.out)
      have M4 : mapSize w3.drew bw ≤ kk := HM3.out
      rw [← hv4] at Q4 B4 M4 ⊢
      have Q4h := Lib.hid Q4
      have CP := Lib.hid (put_c v4 s bt bs bw n M vl hd F S x Q4.2.1 HMM.out (by omega) (by omega) (by omega) hl)
      clear hv4 Q4
      go_simp
      go_at_call 32
      refine CP.out.mono ?_
      rintro e w5 ⟨rfl, vl5, hd5, F5, S5, n5, p1, p2, p3, p4, p5, p6, p7, p8⟩
      have g5 : GaB g s w5 := (p3.2.2.2.2 g (Nat.lt_of_lt_of_le GL.out B4.out.size) hgF).trans Q4h.out.1
      have hMK : M * mapSize v4 bw ≤ M * kk := Nat.mul_le_mul_left M M4
      have FIN : Hid (Strongs S x S5 0 ∧ FgK g F5 S5 (n + 5 + 2 * (M * kk)) (M + 1) (kk + 2) w5 ∧ Kept F w w5 ∧ (∀ k, F5 k → F k ∨ w.heap.size ≤ k) ∧ ∀ k, F k → F5 k) := ⟨.inr (.inr ⟨hm, ht, rfl, p1⟩), ⟨s, bt, bs, bw, vl5, hd5, g5, fun e => (p4 g e).elim hgF (fun e2 => by have := B4.out.size; have := GL.out; omega), by have := p3.2.2.2.1; have := B4.out.size; have := GL.out; omega, p2.mono (by omega), p7, by omega⟩, (Kept.of_below B4.out).trans p3 (fun k e => .inl e), fun k e => (p4 k e).imp id (fun e2 => by have := B4.out.size; omega), p5⟩
      have X5 : Hid (GaB g s w5 ∧ LkB w.heap.size x w5) := ⟨g5, p3.fill Q4h.out.2.2 (fun e => by have := HFW.out.fin _ e; omega)⟩
      clear p1 p2 p3 p4 p5 p6 p7 p8 g5 hMK
      go_simp
      refine hK.out _ _ X5.out (fun hHeld => ?_)
      clear hK K
      refine wpAnyH_done (by kernel_rfl) ?_ _
      refine NoPanic.normal ?_
      first
        | apply hK2
        | apply K2
      clear hK2 K2
      go_wp2_with fail
      go_ret
      exact ⟨0, F5, S5, rfl, FIN.out.1, FIN.out.2.1, FIN.out.2.2.1, FIN.out.2.2.2.1, FIN.out.2.2.2.2, fun h => absurd rfl h⟩
end Go.Proofs.Ythlbpjkopkicbaa
