/- A vote is added. -/
import Derived.Test.YtomfgopmgfoecaaPoCheck
import Derived.BigFrame
namespace Go.Proofs.Ytomfgopmgfoecaa
open Go.ChangeMaps Go.MapKept Go.Maps Go.RowKit Go.ChangeShapes Go.WideShapes Go.ChangeAt
set_option linter.unusedVariables false
set_option maxRecDepth 100000

/-- What always holds of a pool's numbers. -/
structure PoOk (S : PoS) : Prop where
  wt0 : ∀ k, S.pl (.inl k) = none → S.wt k = 0
  len : ∀ i, ((S.pl i).getD []).length ≤ S.votes.length
  links : S.links.length ≤ S.votes.length
  wt : ∀ k, S.wt k ≤ 4294967296 * S.votes.length
theorem PoOk.put {S : PoS} (h : PoOk S) (x : Sg) (hs : x.st ≤ 4294967296) : PoOk (putS S x) := by
  have hl : (putS S x).votes.length = S.votes.length + 1 := by unfold putS; simp
  refine ⟨fun k hk => ?_, fun i => ?_, ?_, fun k => ?_⟩
  · have h1 : putP S x (.inl k) = none := hk
    unfold putP at h1
    rw [if_neg (by intro e; cases e)] at h1
    by_cases e : k = x.k
    · subst e
      rw [if_pos rfl] at h1
      cases h1
    · rw [if_neg (by intro e2; injection e2 with e2; exact e e2)] at h1
      show addW S.wt x.k _ k = 0
      unfold addW
      rw [if_neg e]
      exact h.wt0 k h1
  · rw [hl]
    show ((putP S x i).getD []).length ≤ _
    have := h.len i
    unfold putP
    split
    · simp; exact this
    · split
      · simp; exact this
      · omega
  · rw [hl]
    have := h.links
    unfold putS
    show (if _ then _ else _ : List Lk).length ≤ _
    split
    · omega
    · rw [List.length_append, List.length_singleton]; omega
  · rw [hl]
    have h1 := h.wt k
    have h2 := h.wt x.k
    show addW S.wt x.k _ k ≤ _
    unfold addW
    split <;> omega
/-- A pool in memory: its block, the blocks F that it may turn, its votes. -/
def PoM (g : Nat) (F : Nat → Prop) (S : PoS) (w : World) : Prop := ∃ s bt bk bb vv vl hd, PlB g s w ∧ ¬ F g ∧ PoB s bt bk bb vv vl hd F S (4 * S.votes.length) w ∧ PoOk S ∧ S.votes.length ≤ 65536
theorem PoM.below {g : Nat} {F : Nat → Prop} {S : PoS} {w w' : World} (h : PoM g F S w) (hb : Below w.heap.size w w') : PoM g F S w' := by
  obtain ⟨s, bt, bk, bb, vv, vl, hd, h1, h2, h3, h4⟩ := h
  exact ⟨s, bt, bk, bb, vv, vl, hd, (hb.block g (blk_lt h1)).trans h1, h2, h3.below hb, h4⟩
theorem PoM.kept {g : Nat} {F G : Nat → Prop} {S : PoS} {w w' : World} (h : PoM g F S w) (hk : Kept G w w') (hg : ¬ G g) (hG : ∀ k, F k → ¬ G k) : PoM g F S w' := by
  obtain ⟨s, bt, bk, bb, vv, vl, hd, h1, h2, h3, h4⟩ := h
  exact ⟨s, bt, bk, bb, vv, vl, hd, (hk.2.2.2.2 g (blk_lt h1) hg).trans h1, h2, h3.keep (fun k e => hk.2.2.2.2 k (h3.fin k e) (hG k e)) hk.2.2.2.1, h4⟩
theorem PoM.fin {g : Nat} {F : Nat → Prop} {S : PoS} {w : World} (h : PoM g F S w) : g < w.heap.size ∧ ∀ k, F k → k < w.heap.size := by
  obtain ⟨s, bt, bk, bb, vv, vl, hd, h1, h2, h3, h4⟩ := h
  exact ⟨blk_lt h1, h3.fin⟩
theorem built_sg (n : Int) (k : Lk) (A : Option Addr) (m c : Nat) (h : Hh) (st : Nat) : Try.prog.built 42 [(0, .agg (vtw n k (.slice A m c))), (1, .agg (hhv h)), (2, .int .u64 (st : Int))] = some (sgv ⟨n, k, .slice A m c, h, st⟩) := by kernel_rfl
/-- The signature that is kept: memory of its own, which no pool turns. -/
def SigP (w : World) (w' : World) (F' : Nat → Prop) (A' : Option Addr) (l : List UInt8) : Prop := ∃ hi, w.heap.size ≤ hi ∧ hi ≤ w'.heap.size ∧ Rd w' w.heap.size hi A' l ∧ ∀ k, w.heap.size ≤ k → k < hi → ¬ F' k
def AddOk (g : Nat) (F : Nat → Prop) (S : PoS) (nv : Int) (k : Lk) (l : List UInt8) (kh : Hh) (st : Nat) (w w' : World) : Prop :=
  ∃ A' c' F', PoM g F' (putS S ⟨nv, k, .slice A' l.length c', kh, st⟩) w' ∧ Kept F w w' ∧ (∀ k, F' k → F k ∨ w.heap.size ≤ k) ∧ (∀ k, F k → F' k) ∧ SigP w w' F' A' l
set_option maxHeartbeats 8000000 in
theorem add_c {g : Nat} {F : Nat → Prop} {S : PoS} {w : World} (hM : PoM g F S w) (nv : Int) (k : Lk) (A : Option Addr) (c : Nat) (l : List UInt8) (kh : Hh) (st : Nat) (hst : st < 18446744073709551616) (hr : Rd w 0 w.heap.size A l) (hl : l.length ≤ 140737488355328) :
    Calls Try.prog 17 #[.pointer (some ⟨g, 0, none⟩), .agg (vtw nv k (.slice A l.length c)), .agg (hhv kh), .int .u64 (st : Int)] w fun e w' =>
      (chk S nv k l.length kh st ≠ 0 ∧ e = .returned (.tuple #[.int .u64 0, .int .i64 (chk S nv k l.length kh st : Nat)]) ∧ Below w.heap.size w w') ∨
      (chk S nv k l.length kh st = 0 ∧ e = .returned (.tuple #[.int .u64 (S.wt k + st : Nat), .int .i64 0]) ∧ AddOk g F S nv k l kh st w w') := by
  obtain ⟨s, bt, bk, bb, vv, vl, hd, hg, hgF, h, hok, hv⟩ := hM
  obtain ⟨W0, hW0⟩ : ∃ W0, W0 = w.alloc (.cells (vtw nv k (.slice A l.length c)) 40) := ⟨_, rfl⟩
  obtain ⟨W, hW⟩ : ∃ W, W = W0.alloc (.cells (hhv kh) 24) := ⟨_, rfl⟩
  have b0 : Below w.heap.size w W0 := by rw [hW0]; exact (Below.refl _ _).alloc (Nat.le_refl _) _
  have b1 : Below W0.heap.size W0 W := by rw [hW]; exact (Below.refl _ _).alloc (Nat.le_refl _) _
  have z0 : W0.heap.size = w.heap.size + 1 := by rw [hW0]; simp
  have v0 : VtK w.heap.size nv k (.slice A l.length c) W0 := by rw [hW0]; exact VtK.new
  have v1 := v0.below b1 v0.lt
  have h1 : HhB (w.heap.size + 1) kh W := by rw [← z0, hW]; exact Fill.of_row (heap_alloc_new W0 _)
  have bb1 := b0.trans (b1.mono b0.size)
  have hF := h.below bb1
  have hg1 : PlB g s W := (bb1.block g (blk_lt hg)).trans hg
  have r1 : Rd W 0 W.heap.size A l := (hr.below bb1 (Nat.le_refl _)).wide (Nat.le_refl _) bb1.size
  have KP : Hid (∀ u : World, Below W.heap.size W u → PlB g s u ∧ PoB s bt bk bb vv vl hd F S (4 * S.votes.length) u ∧ VtK w.heap.size nv k (.slice A l.length c) u ∧ HhB (w.heap.size + 1) kh u ∧ Rd u 0 u.heap.size A l) := fun u hu => ⟨(hu.block g (blk_lt hg1)).trans hg1, hF.below hu, v1.below hu v1.lt, Fill.below h1 hu (Fill.lt h1), (r1.below hu (Nat.le_refl _)).wide (Nat.le_refl _) hu.size⟩
  have HW0 := Lib.hid hW0
  have HW := Lib.hid hW
  have HB := Lib.hid bb1
  have FI := Lib.hid h.fin
  have NG := Lib.hid hgF
  have HG0 := Lib.hid hg
  have HLL := Lib.hid hl
  have OK := Lib.hid hok
  have HV := Lib.hid hv
  have k1 := v1.row
  have k2 : W.heap[w.heap.size + 1]? = some (.cells (hhv kh) 24 (0, 0)) := Fill.done h1
  have HCH := Lib.hid (check_c hg1 hF nv k A l.length c kh st)
  obtain ⟨q, hq⟩ : ∃ q, q = chk S nv k l.length kh st := ⟨_, rfl⟩
  have HQ : Hid (q = 0 → S.votes.length < 65536 ∧ st ≤ 4294967296) := fun e => by
    rw [hq] at e
    unfold chk at e
    split at e
    · next hc =>
      simp at hc
      split at e
      · cases e
      · split at e
        · cases e
        · exact ⟨by omega, hc.2⟩
    · cases e
  rw [← hq] at HCH ⊢
  clear hW0 hW b0 b1 z0 v0 v1 h1 bb1 hF hg1 hq h hg hgF hok hv r1 hr hl
  go_enter Try.func17, Try.ntmps17
  go_upto_region 1 with fail
  rw [← HW0.out, ← HW.out]
  go_wp2_with (first
    | (refine wpList_load_row rfl 40 (.tmp 5) rfl w.heap.size rfl 40 (vtw nv k (.slice A l.length c)) (0, 0) _ k1 Try.underlying40 rfl (size_vtw _ _ _) ?_)
    | (refine wpList_load_row rfl 24 (.tmp 6) rfl (w.heap.size + 1) rfl 24 (hhv kh) (0, 0) _ k2 Try.underlying24 rfl (size_hhv kh) ?_)
    | fail)
  refine HCH.out.mono ?_
  rintro e w3 ⟨rfl, b3⟩
  have BX := Lib.hid b3
  clear b3 k1 k2 HCH
  rcases Nat.eq_zero_or_pos q with rfl | hpos
  · have HO : Hid ((S.pl (.inl k) = none → S.wt k = 0) ∧ S.links.length ≤ 1000000 ∧ (∀ i, ((S.pl i).getD []).length ≤ 1000000) ∧ S.votes.length < 65536 ∧ S.wt k + st ≤ 18446744073709551615) := by
      have h1 := HQ.out rfl
      have h2 := OK.out.links
      have h3 := OK.out.wt k
      exact ⟨OK.out.wt0 k, by omega, fun i => by have := OK.out.len i; omega, h1.1, by omega⟩
    have HST := Lib.hid (HQ.out rfl).2
    clear HQ
    go_wp2_with fail
    obtain ⟨w2, hw2⟩ : ∃ w2, w2 = w3.drew := ⟨_, rfl⟩
    replace BX := Lib.hid (show Below W.heap.size W w2 by rw [hw2]; exact BX.out.drew)
    rename_i K1 hK1
    refine wp_region_noPanic ?_
    refine wp_region_held_drew (S := (fun u => PlB g s u ∧ VtK w.heap.size nv k (.slice A l.length c) u ∧ HhB (w.heap.size + 1) kh u)) (by kernel_rfl) (by rw [← hw2]; exact ⟨(KP.out _ BX.out).1, (KP.out _ BX.out).2.2.1, (KP.out _ BX.out).2.2.2.1⟩) (fun hHeld => ?_)
    rw [← hw2]
    rw [← hw2] at hHeld
    clear hw2
    refine takeH (i := 0) (d := 19) (oi := _) (v := .pointer (some ⟨g, 0, none⟩)) rfl (by kernel_rfl) (by kernel_rfl) (by kernel_rfl) (by kernel_rfl) (fun _ _ _ h => h) (Or.inl ⟨by kernel_rfl, by intro u hSw; clear hSw; go_simp⟩) hHeld ?_
    try simp only [List.setIfInBounds_toArray, List.set_cons_zero, List.set_cons_succ]
    refine takeH (i := 1) (d := 20) (oi := _) (v := .pointer (some ⟨g, 0, none⟩)) rfl (by kernel_rfl) (by kernel_rfl) (by kernel_rfl) (by kernel_rfl) (fun _ _ _ h => h) (Or.inl ⟨by kernel_rfl, by intro u hSw; clear hSw; go_simp⟩) hHeld ?_
    try simp only [List.setIfInBounds_toArray, List.set_cons_zero, List.set_cons_succ]
    refine takeH (i := 2) (d := 21) (oi := _) (v := .pointer (some ⟨g, 0, none⟩)) rfl (by kernel_rfl) (by kernel_rfl) (by kernel_rfl) (by kernel_rfl) (fun _ _ _ h => h) (Or.inl ⟨by kernel_rfl, by intro u hSw; clear hSw; go_simp⟩) hHeld ?_
    try simp only [List.setIfInBounds_toArray, List.set_cons_zero, List.set_cons_succ]
    refine takeH (i := 3) (d := 22) (oi := _) (v := .pointer (some ⟨s, 0, none⟩)) rfl (by kernel_rfl) (by kernel_rfl) (by kernel_rfl) (by kernel_rfl) (fun _ _ _ h => h) (Or.inl ⟨by kernel_rfl, by intro u hSw; (have hc : u.cell? ⟨g, 0, none⟩ = some (.pointer (some ⟨s, 0, none⟩)) := cell_of_row u g 0 _ _ (0, 0) hSw.1; clear hSw; go_simp)⟩) hHeld ?_
    try simp only [List.setIfInBounds_toArray, List.set_cons_zero, List.set_cons_succ]
    refine takeH (i := 4) (d := 23) (oi := _) (v := .agg (vtw nv k (.slice A l.length c))) rfl (by kernel_rfl) (by kernel_rfl) (by kernel_rfl) (by kernel_rfl) (fun _ _ _ h => h) (yieldsIf_load_midC (by kernel_rfl) _ _ rfl (w.heap.size) 0 rfl (vtC nv k (.slice A l.length c)) (vtw nv k (.slice A l.length c)) (vtC_arr nv k (.slice A l.length c)) _ (fun u hSw => hSw.2.1.all) Try.underlying40 rfl (size_vtw nv k (.slice A l.length c))) hHeld ?_
    try simp only [List.setIfInBounds_toArray, List.set_cons_zero, List.set_cons_succ]
    refine takeH (i := 5) (d := 24) (oi := _) (v := .agg (hhv kh)) rfl (by kernel_rfl) (by kernel_rfl) (by kernel_rfl) (by kernel_rfl) (fun _ _ _ h => h) (yieldsIf_load_midC (by kernel_rfl) _ _ rfl ((w.heap.size + 1)) 0 rfl (hhC kh) (hhv kh) (hhC_arr kh) _ (fun u hSw => hhB_all hSw.2.2) Try.underlying24 rfl (size_hhv kh)) hHeld ?_
    try simp only [List.setIfInBounds_toArray, List.set_cons_zero, List.set_cons_succ]
    refine takeH (i := 6) (d := 25) (oi := _) (v := .int .u64 (st : Int)) rfl (by kernel_rfl) (by kernel_rfl) (by kernel_rfl) (by kernel_rfl) (fun _ _ _ h => h) (Or.inl ⟨by kernel_rfl, by intro u hSw; clear hSw; go_simp⟩) hHeld ?_
    try simp only [List.setIfInBounds_toArray, List.set_cons_zero, List.set_cons_succ]
    refine takeH (i := 7) (d := 26) (oi := _) (v := .agg (sgv ⟨nv, k, .slice A l.length c, kh, st⟩)) rfl (by kernel_rfl) (by kernel_rfl) (by kernel_rfl) (by kernel_rfl) (fun _ _ _ h => h) (yieldsIf_build (by kernel_rfl) 42 #[(0, .tmp 23), (1, .tmp 24), (2, .tmp 25)] rfl _ _ (built_sg _ _ _ _ _ _ _) (by kernel_rfl)) hHeld ?_
    try simp only [List.setIfInBounds_toArray, List.set_cons_zero, List.set_cons_succ]
    refine wpAnyH_ready (rs := [8]) (by kernel_rfl) (by simp) ?_
    refine AllReadyH.cons (o := _) rfl (fun K hK => ?_) (AllReadyH.nil)
    go_simp
    go_at_call 36
    refine (cloneSigned_c ⟨nv, k, .slice A l.length c, kh, st⟩ A c l _ rfl (KP.out _ BX.out).2.2.2.2 HLL.out).mono ?_
    rintro e w2 ⟨A', c', rfl, lc, o2, b2⟩
    have OW := Lib.hid (o2.rd.wide (Nat.le_trans HB.out.size BX.out.size) (Nat.le_refl _))
    have BX := Lib.hid (BX.out.trans (b2.mono BX.out.size))
    clear b2 o2
    go_simp
    refine hK.out _ _ (⟨(KP.out _ BX.out).1, (KP.out _ BX.out).2.2.1, (KP.out _ BX.out).2.2.2.1⟩) (fun hHeld => ?_)
    clear hK K
    try simp only [Act.put, List.setIfInBounds_toArray, List.set_cons_zero, List.set_cons_succ]
    refine wpAnyH_ready (rs := [9]) (by kernel_rfl) (by simp) ?_
    refine AllReadyH.cons (o := _) rfl (fun K hK => ?_) (AllReadyH.nil)
    go_simp
    go_at_call 35
    refine (put_c _ s bt bk bb _ vv vl hd F S (withSig ⟨nv, k, .slice A l.length c, kh, st⟩ (.slice A' l.length c')) A' l.length c' rfl (KP.out _ BX.out).2.1 HO.out.1 (by have := HO.out.2.2.2.1; omega) (by have := HO.out.2.2.2.1; omega) HO.out.2.1 HO.out.2.2.1 HO.out.2.2.2.2).mono ?_
    rintro e w5 ⟨rfl, vv5, vl5, hd5, F5, f5, k5, a5, b5⟩
    have P5 : Hid (PlB g s w5 ∧ VtK w.heap.size nv k (.slice A l.length c) w5 ∧ HhB (w.heap.size + 1) kh w5) := by
      have q := KP.out _ BX.out
      have z1 := HB.out.size
      exact ⟨(k5.2.2.2.2 g (blk_lt q.1) NG.out).trans q.1, k5.fill q.2.2.1 (fun e => by have := FI.out _ e; omega), k5.fill q.2.2.2.1 (fun e => by have := FI.out _ e; omega)⟩
    have F5' := Lib.hid f5
    have A5 : Hid (Kept F w w5 ∧ (∀ k, F5 k → F k ∨ w.heap.size ≤ k) ∧ (∀ k, F k → F5 k) ∧ SigP w w5 F5 A' l) := by
      have z1 := HB.out.size
      have z2 := BX.out.size
      refine ⟨(Kept.of_below (HB.out.trans (BX.out.mono HB.out.size))).trans k5 (fun k e => .inl e), fun k e => (a5 k e).imp id (fun e2 => by omega), b5, _, ?_, k5.2.2.2.1, OW.out.keep (fun p h1 h2 => ?_), fun k h1 h2 e => ?_⟩
      · omega
      · exact World.cell?_of_block (k5.2.2.2.2 p.block h2 (fun e => by have := FI.out _ e; omega))
      · rcases a5 k e with e2 | e2
        · have := FI.out _ e2; omega
        · omega
    clear f5 k5 a5 b5
    go_simp
    refine hK.out _ _ (P5.out) (fun hHeld => ?_)
    clear hK K
    try simp only [Act.put, List.setIfInBounds_toArray, List.set_cons_zero, List.set_cons_succ]
    refine wpAnyH_done (by kernel_rfl) ?_ _
    refine NoPanic.normal ?_
    first
      | apply hK1
      | apply K1
    clear hK1 K1
    have k5 := P5.out.2.1.row
    have WC := Lib.hid (fun (u : World) (hu : Below w5.heap.size w5 u) => weight_c (g := g) ((hu.block g (blk_lt P5.out.1)).trans P5.out.1) (F5'.out.below hu) k ((OK.out.put (withSig ⟨nv, k, .slice A l.length c, kh, st⟩ (.slice A' l.length c')) HST.out).wt0 k))
    have EW : Hid ((putS S (withSig ⟨nv, k, .slice A l.length c, kh, st⟩ (.slice A' l.length c'))).wt k = S.wt k + st) := Lib.hid (by show addW S.wt k _ k = _; unfold addW; rw [if_pos rfl]; rfl)
    rw [EW.out] at WC
    have FIN : Hid (∀ u : World, Below w5.heap.size w5 u → AddOk g F S nv k l kh st w u) := fun u hu => by
      refine ⟨A', c', F5, ⟨s, bt, bk, bb, vv5, vl5, hd5, (hu.block g (blk_lt P5.out.1)).trans P5.out.1, fun e => (A5.out.2.1 g e).elim NG.out (fun e2 => by have := blk_lt (KP.out W (Below.refl _ _)).1; have hh := HB.out; exact absurd (blk_lt (w := w) (HG0.out)) (by omega)), (F5'.out.below hu).mono (by show _ ≤ 4 * (S.votes ++ [_]).length; simp; omega), OK.out.put _ HST.out, by show (S.votes ++ [_]).length ≤ _; have := HO.out.2.2.2.1; simp; omega⟩, A5.out.1.trans (F' := F) (Kept.of_below hu) (fun k e => .inl e), A5.out.2.1, A5.out.2.2.1, ?_⟩
      obtain ⟨hi, g1, g2, g3, g4⟩ := A5.out.2.2.2
      exact ⟨hi, g1, Nat.le_trans g2 hu.size, g3.below hu g2, g4⟩
    go_wp2_with (first
      | (refine wpList_load_row rfl 40 (.tmp 5) rfl w.heap.size rfl 40 (vtw nv k (.slice A l.length c)) (0, 0) _ k5 Try.underlying40 rfl (size_vtw _ _ _) ?_)
      | fail)
    refine (linkOf_c nv k (.slice A l.length c) _).mono ?_
    rintro e w6 ⟨rfl, b6⟩
    go_wp2_with fail
    refine (WC.out w6 b6).mono ?_
    rintro e w7 ⟨rfl, b7⟩
    have FIN7 := Lib.hid (FIN.out w7 (b6.trans (b7.mono b6.size)))
    clear b6 b7 k5
    go_wp2_with fail
    go_ret2
    exact ⟨rfl, FIN7.out⟩
  · have hne : ¬ (q : Int) = 0 := by omega
    have hne2 : ((q : Int) == 0) = false := by rw [beq_eq_false_iff_ne]; omega
    have hne3 : ¬ q = 0 := by omega
    go_wp2_with fail
    go_ret2
    exact .inl ⟨hne3, rfl, HB.out.trans (BX.out.mono HB.out.size)⟩
end Go.Proofs.Ytomfgopmgfoecaa
