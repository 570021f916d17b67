/- Contract: the reference's text of a vote. -/
import Derived.Test.YtmebppfbdeokeaaCdRVote
namespace Go.Proofs.Ytmebppfbdeokeaa
open Go.ChangeShapes Go.WideShapes Go.ChangeAt Go.RowKit
set_option linter.unusedVariables false
set_option maxRecDepth 100000

/-- The four bytes of the sign. -/
theorem signBytes {w : World} {g : Nat} (h : w.heap[g]? = some (.cells #[.int .u8 118, .int .u8 111, .int .u8 116, .int .u8 101] 5 (0, 0))) : Rd w 0 w.heap.size (some ⟨g, 0, none⟩) voteSignL := fun _ => by
  refine ⟨g, 0, rfl, Nat.zero_le _, ?_, fun j x hx => ?_⟩
  · rcases Nat.lt_or_ge g w.heap.size with hlt | hge
    · exact hlt
    · rw [Array.getElem?_eq_none hge] at h; cases h
  · rw [Nat.zero_add, cell_of_row w g j _ _ (0, 0) h]
    match j, hx with
    | 0, hx => injection hx with hx; subst hx; rfl
    | 1, hx => injection hx with hx; subst hx; rfl
    | 2, hx => injection hx with hx; subst hx; rfl
    | 3, hx => injection hx with hx; subst hx; rfl
    | k + 4, hx => simp [voteSignL] at hx
theorem heap_in {w : World} {g : Nat} {o : Obj} (h : w.heap[g]? = some o) : g < w.heap.size := by
  rcases Nat.lt_or_ge g w.heap.size with h1 | h1
  · exact h1
  · rw [Array.getElem?_eq_none h1] at h; cases h
/-- A constant's row is marked. -/
theorem convert_const {P : Program} (u : World) (t e : TypeId) (C : Array Value) (g n c : Nat) (hh : u.heap[g]? = some (.cells C e (0, 0))) (ht : P.underlying t = some (.slice e)) (he : P.underlying e = some (.int .u8)) :
    (convert t t (.slice (some ⟨g, 0, none⟩) n c)).run P u = .ok (.slice (some ⟨g, 0, none⟩) n c) (u.freeze ⟨g, C.size, none⟩ 1) := by
  have hsh : u.shape? g = some (e, C.size) := by unfold World.shape?; rw [hh]
  simp [convert, run_underlying ht, run_underlying he, markStringish, hsh]
theorem freeze_cells (u : World) (a : Addr) (n : Nat) : (∀ x, (u.freeze a n).cell? x = u.cell? x) ∧ (u.freeze a n).heap.size = u.heap.size ∧ (∀ k, k ≠ a.block → (u.freeze a n).heap[k]? = u.heap[k]?) ∧ (u.freeze a n).os = u.os ∧ (u.freeze a n).tape = u.tape ∧ (u.freeze a n).output = u.output := by
  unfold World.freeze
  split
  · exact ⟨fun _ => rfl, rfl, fun _ _ => rfl, rfl, rfl, rfl⟩
  · refine ⟨fun x => ?_, by simp, fun k hk => ?_, rfl, rfl, rfl⟩
    · unfold World.cell?
      simp only [Array.getElem?_modify]
      by_cases h : a.block = x.block
      · rw [if_pos h]
        cases hx : u.heap[x.block]? with
        | none => rfl
        | some o => cases o <;> rfl
      · rw [if_neg h]
    · simp only [Array.getElem?_modify]
      rw [if_neg (fun h => hk h.symm)]
theorem freeze_below {B g : Nat} {w u v : World} (h : Below B w u) (hg : B ≤ g) (hf : (∀ x, v.cell? x = u.cell? x) ∧ v.heap.size = u.heap.size ∧ (∀ k, k ≠ g → v.heap[k]? = u.heap[k]?) ∧ v.os = u.os ∧ v.tape = u.tape ∧ v.output = u.output) : Below B w v :=
  ⟨hf.2.2.2.1.trans h.os, hf.2.2.2.2.1.trans h.tape, hf.2.2.2.2.2.trans h.output, by rw [hf.2.1]; exact h.size, fun k hk => (hf.2.2.1 k (by omega)).trans (h.block k hk)⟩
theorem rd_same {u v : World} {A : Option Addr} {l : List UInt8} (h : Rd u 0 u.heap.size A l) (hc : ∀ x, v.cell? x = u.cell? x) (hs : v.heap.size = u.heap.size) : Rd v 0 v.heap.size A l := fun hn => by
  obtain ⟨b, off, e, h1, h2, h3⟩ := h hn
  exact ⟨b, off, e, h1, by rw [hs]; exact h2, fun j x hx => (hc _).trans (h3 j x hx)⟩
set_option maxHeartbeats 64000000 in
theorem refText_c (n e1 : Nat) (l1 : List UInt8) (e2 : Nat) (l2 : List UInt8) (sv : Value) (w : World) (hn : n < 256) (he1 : e1 < 18446744073709551616) (he2 : e2 < 18446744073709551616) (hl1 : l1.length = 32) (hl2 : l2.length = 32) :
    Calls Try.prog 10 #[.agg (vtV (n : Int) e1 l1 e2 l2 sv)] w (RNewP w (txL n e1 l1 e2 l2)) := by
  obtain ⟨W, hW⟩ : ∃ W, W = w.alloc (.cells (vtV (n : Int) e1 l1 e2 l2 sv) 29) := ⟨_, rfl⟩
  have hb : Below w.heap.size w W := by rw [hW]; exact (Below.refl _ _).alloc (Nat.le_refl _) _
  have v0 : VtB w.heap.size (n : Int) e1 l1 e2 l2 sv W := by rw [hW]; exact VtB.new
  have hlt : w.heap.size < W.heap.size := v0.lt
  have KP : Hid (∀ u : World, Below W.heap.size W.drew u → VtB w.heap.size (n : Int) e1 l1 e2 l2 sv u) := fun u hu => (show VtB _ _ _ _ _ _ _ W.drew from v0).below hu hlt
  have BX : Hid (Below W.heap.size W.drew W.drew) := Below.refl _ _
  have HW := Lib.hid hW
  have HB := Lib.hid hb
  have HN := Lib.hid hn
  have hw8 : (n : Int) % 256 = (n : Int) := by omega
  have hw9 : IntKind.u8.wrap (n : Int) = (n : Int) := by rw [IntKind.wrap_u8']; omega
  have CP1 := Lib.hid (fun u => refPointB_c e1 l1 u he1 hl1)
  have CP2 := Lib.hid (fun u => refPointB_c e2 l2 u he2 hl2)
  have HP1 := Lib.hid (ptL_length e1 l1 hl1)
  have HP2 := Lib.hid (ptL_length e2 l2 hl2)
  clear hW hb v0 hlt hn he1 he2 hl1 hl2
  go_enter Try.func10, Try.ntmps10
  go_wp2_with fail
  rw [← HW.out]
  rename_i K1 hK1
  refine wp_region_noPanic ?_
  refine wp_region_held_drew (S := (fun u => VtB w.heap.size (n : Int) e1 l1 e2 l2 sv u)) (by kernel_rfl) (KP.out _ BX.out) (fun hHeld => ?_)
  refine takeH (i := 2) (d := 5) (oi := _) (v := .pointer (some ⟨w.heap.size, 0, none⟩)) rfl (by kernel_rfl) (by kernel_rfl) (by kernel_rfl) (by kernel_rfl) (fun _ _ _ h => h) (Or.inl ⟨by rfl, by intro u hSw; go_simp⟩) hHeld ?_
  try simp only [List.setIfInBounds_toArray, List.set_cons_zero, List.set_cons_succ]
  refine takeH (i := 3) (d := 6) (oi := _) (v := .int .i64 (n : Int)) rfl (by kernel_rfl) (by kernel_rfl) (by kernel_rfl) (by kernel_rfl) (fun _ _ _ h => h) (Or.inl ⟨by rfl, by intro u hSw; (have hn := hSw.num; clear hSw; go_simp)⟩) hHeld ?_
  try simp only [List.setIfInBounds_toArray, List.set_cons_zero, List.set_cons_succ]
  refine takeH (i := 4) (d := 7) (oi := _) (v := .int .u8 (n : Int)) rfl (by kernel_rfl) (by kernel_rfl) (by kernel_rfl) (by kernel_rfl) (fun _ _ _ h => h) (Or.inl ⟨by rfl, by intro u hSw; go_simp⟩) hHeld ?_
  try simp only [List.setIfInBounds_toArray, List.set_cons_zero, List.set_cons_succ]
  refine takeH (i := 6) (d := 9) (oi := _) (v := .pointer (some ⟨w.heap.size, 1, none⟩)) rfl (by kernel_rfl) (by kernel_rfl) (by kernel_rfl) (by kernel_rfl) (fun _ _ _ h => h) (Or.inl ⟨by rfl, by intro u hSw; go_simp⟩) hHeld ?_
  try simp only [List.setIfInBounds_toArray, List.set_cons_zero, List.set_cons_succ]
  refine takeH (i := 7) (d := 10) (oi := _) (v := .agg (ptV e1 l1)) rfl (by kernel_rfl) (by kernel_rfl) (by kernel_rfl) (by kernel_rfl) (fun _ _ _ h => h) (yieldsIf_load_midC (by rfl) _ _ rfl w.heap.size 1 rfl (ptC e1 l1) (ptV e1 l1) rfl _ (fun w h => h.src) Try.underlying26 rfl (size_ptV _ _)) hHeld ?_
  try simp only [List.setIfInBounds_toArray, List.set_cons_zero, List.set_cons_succ]
  refine takeH (i := 9) (d := 12) (oi := _) (v := .pointer (some ⟨w.heap.size, 34, none⟩)) rfl (by kernel_rfl) (by kernel_rfl) (by kernel_rfl) (by kernel_rfl) (fun _ _ _ h => h) (Or.inl ⟨by rfl, by intro u hSw; go_simp⟩) hHeld ?_
  try simp only [List.setIfInBounds_toArray, List.set_cons_zero, List.set_cons_succ]
  refine takeH (i := 10) (d := 13) (oi := _) (v := .agg (ptV e2 l2)) rfl (by kernel_rfl) (by kernel_rfl) (by kernel_rfl) (by kernel_rfl) (fun _ _ _ h => h) (yieldsIf_load_midC (by rfl) _ _ rfl w.heap.size 34 rfl (ptC e2 l2) (ptV e2 l2) rfl _ (fun w h => h.tgt) Try.underlying26 rfl (size_ptV _ _)) hHeld ?_
  try simp only [List.setIfInBounds_toArray, List.set_cons_zero, List.set_cons_succ]
  refine wpAnyH_ready (rs := [0, 5, 8]) (by kernel_rfl) (by simp) ?_
  refine AllReadyH.cons (o := _) rfl (fun K hK => ?_) (AllReadyH.cons (o := _) rfl (fun K hK => ?_) (AllReadyH.cons (o := _) rfl (fun K hK => ?_) (AllReadyH.nil)))
  · go_simp
    obtain ⟨wv, hwv⟩ : ∃ wv, wv = (W.alloc (.cells #[.int .u8 118, .int .u8 111, .int .u8 116, .int .u8 101] 5)).drew := ⟨_, rfl⟩
    have bb : Below W.drew.heap.size W.drew wv := by
      rw [hwv]
      have h0 := ((Below.refl W.heap.size W).alloc (Nat.le_refl _) (.cells #[.int .u8 118, .int .u8 111, .int .u8 116, .int .u8 101] 5)).drew
      exact ⟨h0.os, h0.tape, h0.output, h0.size, h0.block⟩
    have hh : wv.heap[W.heap.size]? = some (.cells #[.int .u8 118, .int .u8 111, .int .u8 116, .int .u8 101] 5 (0, 0)) := by rw [hwv]; exact heap_alloc_new W _
    have HG := Lib.hid (show W.heap.size ≤ W.heap.size from Nat.le_refl _)
    have BX := Lib.hid (BX.out.trans (bb.mono BX.out.size))
    (try have R1 := Lib.hid ((R1.out.below bb (Nat.le_refl _)).wide (Nat.le_refl _) bb.size))
    (try have R2 := Lib.hid ((R2.out.below bb (Nat.le_refl _)).wide (Nat.le_refl _) bb.size))
    (try have RB := Lib.hid ((RB.out.below bb (Nat.le_refl _)).wide (Nat.le_refl _) bb.size))
    (try have RV := Lib.hid ((RV.out.below bb (Nat.le_refl _)).wide (Nat.le_refl _) bb.size))
    (try have HV := Lib.hid ((bb.block _ (heap_in HV.out)).trans HV.out))
    have RV : Hid (Rd wv 0 wv.heap.size (some ⟨W.heap.size, 0, none⟩) voteSignL) := signBytes hh
    have HV := Lib.hid hh
    rw [← hwv]
    clear bb hh hwv
    refine hK.out _ _ (KP.out _ BX.out) (fun hHeld => ?_)
    clear hK K
    try simp only [Act.put, List.setIfInBounds_toArray, List.set_cons_zero, List.set_cons_succ]
    refine wpAnyH_ready (rs := [1, 5, 8]) (by kernel_rfl) (by simp) ?_
    refine AllReadyH.cons (o := _) rfl (fun K hK => ?_) (AllReadyH.cons (o := _) rfl (fun K hK => ?_) (AllReadyH.cons (o := _) rfl (fun K hK => ?_) (AllReadyH.nil)))
    · obtain ⟨wz, hwz⟩ : ∃ wz, wz = wv.freeze ⟨W.heap.size, 4, none⟩ 1 := ⟨_, rfl⟩
      have kcv : (convert 27 27 (.slice (some ⟨W.heap.size, 0, none⟩) 4 4)).run Try.prog wv = .ok (.slice (some ⟨W.heap.size, 0, none⟩) 4 4) wz := by rw [hwz]; exact convert_const wv _ _ #[.int .u8 118, .int .u8 111, .int .u8 116, .int .u8 101] _ 4 4 HV.out Try.underlying27 Try.underlying5
      have hfz := freeze_cells wv ⟨W.heap.size, 4, none⟩ 1
      rw [← hwz] at hfz
      have BX := Lib.hid (freeze_below BX.out HG.out hfz)
      (try have R1 := Lib.hid (rd_same R1.out hfz.1 hfz.2.1))
      (try have R2 := Lib.hid (rd_same R2.out hfz.1 hfz.2.1))
      (try have RB := Lib.hid (rd_same RB.out hfz.1 hfz.2.1))
      have RV := Lib.hid (rd_same RV.out hfz.1 hfz.2.1)
      clear hwz hfz HV HG
      go_simp
      refine hK.out _ _ (KP.out _ BX.out) (fun hHeld => ?_)
      clear hK K kcv
      try simp only [Act.put, List.setIfInBounds_toArray, List.set_cons_zero, List.set_cons_succ]
      refine wpAnyH_ready (rs := [5, 8]) (by kernel_rfl) (by simp) ?_
      refine AllReadyH.cons (o := _) rfl (fun K hK => ?_) (AllReadyH.cons (o := _) rfl (fun K hK => ?_) (AllReadyH.nil))
      · go_simp
        obtain ⟨wb, hwb⟩ : ∃ wb, wb = wz.alloc (.cells #[.int .u8 (n : Int)] 5) := ⟨_, rfl⟩
        have bb : Below wz.heap.size wz wb := by
          rw [hwb]
          skip
          exact (Below.refl _ _).alloc (Nat.le_refl _) _
        have hh : wb.heap[wz.heap.size]? = some (.cells #[.int .u8 (n : Int)] 5 (0, 0)) := by rw [hwb]; exact heap_alloc_new wz _
        have BX := Lib.hid (BX.out.trans (bb.mono BX.out.size))
        (try have R1 := Lib.hid ((R1.out.below bb (Nat.le_refl _)).wide (Nat.le_refl _) bb.size))
        (try have R2 := Lib.hid ((R2.out.below bb (Nat.le_refl _)).wide (Nat.le_refl _) bb.size))
        (try have RB := Lib.hid ((RB.out.below bb (Nat.le_refl _)).wide (Nat.le_refl _) bb.size))
        (try have RV := Lib.hid ((RV.out.below bb (Nat.le_refl _)).wide (Nat.le_refl _) bb.size))
        (try have HV := Lib.hid ((bb.block _ (heap_in HV.out)).trans HV.out))
        have RB : Hid (Rd wb 0 wb.heap.size (some ⟨wz.heap.size, 0, none⟩) (putL n 1)) := oneByte n hh HN.out
        rw [← hwb]
        clear bb hh hwb
        refine hK.out _ _ (KP.out _ BX.out) (fun hHeld => ?_)
        clear hK K
        try simp only [Act.put, List.setIfInBounds_toArray, List.set_cons_zero, List.set_cons_succ]
        refine wpAnyH_ready (rs := [8]) (by kernel_rfl) (by simp) ?_
        refine AllReadyH.cons (o := _) rfl (fun K hK => ?_) (AllReadyH.nil)
        go_simp
        go_at_call 30
        refine (CP1.out _).mono ?_
        rintro y w1 ⟨A1, c1, rfl, hc1, o1, b1⟩
        have BX := Lib.hid (BX.out.trans (b1.mono BX.out.size))
        (try have R1 := Lib.hid ((R1.out.below b1 (Nat.le_refl _)).wide (Nat.le_refl _) b1.size))
        (try have R2 := Lib.hid ((R2.out.below b1 (Nat.le_refl _)).wide (Nat.le_refl _) b1.size))
        (try have RB := Lib.hid ((RB.out.below b1 (Nat.le_refl _)).wide (Nat.le_refl _) b1.size))
        (try have RV := Lib.hid ((RV.out.below b1 (Nat.le_refl _)).wide (Nat.le_refl _) b1.size))
        (try have HV := Lib.hid ((b1.block _ (heap_in HV.out)).trans HV.out))
        have R1 := Lib.hid (o1.rd.wide (Nat.zero_le _) (Nat.le_refl _))
        clear o1
        clear b1
        go_simp
        refine hK.out _ _ (KP.out _ BX.out) (fun hHeld => ?_)
        clear hK K
        try simp only [Act.put, List.setIfInBounds_toArray, List.set_cons_zero, List.set_cons_succ]
        refine wpAnyH_ready (rs := [11]) (by kernel_rfl) (by simp) ?_
        refine AllReadyH.cons (o := _) rfl (fun K hK => ?_) (AllReadyH.nil)
        go_simp
        go_at_call 30
        refine (CP2.out _).mono ?_
        rintro y w2 ⟨A2, c2, rfl, hc2, o2, b2⟩
        have BX := Lib.hid (BX.out.trans (b2.mono BX.out.size))
        (try have R1 := Lib.hid ((R1.out.below b2 (Nat.le_refl _)).wide (Nat.le_refl _) b2.size))
        (try have R2 := Lib.hid ((R2.out.below b2 (Nat.le_refl _)).wide (Nat.le_refl _) b2.size))
        (try have RB := Lib.hid ((RB.out.below b2 (Nat.le_refl _)).wide (Nat.le_refl _) b2.size))
        (try have RV := Lib.hid ((RV.out.below b2 (Nat.le_refl _)).wide (Nat.le_refl _) b2.size))
        (try have HV := Lib.hid ((b2.block _ (heap_in HV.out)).trans HV.out))
        have R2 := Lib.hid (o2.rd.wide (Nat.zero_le _) (Nat.le_refl _))
        clear o2
        clear b2
        go_simp
        refine hK.out _ _ (KP.out _ BX.out) (fun hHeld => ?_)
        clear hK K
        try simp only [Act.put, List.setIfInBounds_toArray, List.set_cons_zero, List.set_cons_succ]
        refine wpAnyH_ready (rs := [12]) (by kernel_rfl) (by simp) ?_
        refine AllReadyH.cons (o := _) rfl (fun K hK => ?_) AllReadyH.nil
        go_simp
        refine hK.out _ _ (KP.out _ (BX.out.alloc BX.out.size _)) (fun hHeld => ?_)
        clear hK K
        try simp only [Act.put, List.setIfInBounds_toArray, List.set_cons_zero, List.set_cons_succ]
        refine wpAnyH_ready (rs := [13]) (by kernel_rfl) (by simp) ?_
        refine AllReadyH.cons (o := _) rfl (fun K hK => ?_) AllReadyH.nil
        go_simp
        go_at_call 29
        refine (joinRL [(some ⟨W.heap.size, 0, none⟩, 4, voteSignL), (some ⟨wz.heap.size, 0, none⟩, 1, putL n 1), (A1, c1, ptL e1 l1), (A2, c2, ptL e2 l2)] w2 _ (by simp [putL_length, voteSignL]) (fun x hx => by
            simp only [List.mem_cons, List.not_mem_nil, or_false] at hx
            rcases hx with rfl | rfl | rfl | rfl
            · exact RV.out
            · exact RB.out
            · exact R1.out
            · exact R2.out) 4 rfl (by simp) (by have h1 := HP1.out; have h2 := HP2.out; simp [flat, putL_length, h1, h2, voteSignL])).mono ?_
        rintro y w4 ⟨A4, c4, rfl, hc4, ha4, o4, b4⟩
        have HX3 := Lib.hid BX.out.size
        have BX := Lib.hid (BX.out.trans (b4.mono BX.out.size))
        clear b4
        go_simp
        refine hK.out _ _ (KP.out _ BX.out) (fun hHeld => ?_)
        clear hK K
        try simp only [Act.put, List.setIfInBounds_toArray, List.set_cons_zero, List.set_cons_succ]
        refine takeH (i := 14) (d := 2) (oi := _) (v := .slice A4 (flat [(some ⟨W.heap.size, 0, none⟩, 4, voteSignL), (some ⟨wz.heap.size, 0, none⟩, 1, putL n 1), (A1, c1, ptL e1 l1), (A2, c2, ptL e2 l2)]).length c4) rfl (by kernel_rfl) (by kernel_rfl) (by kernel_rfl) (by kernel_rfl) (fun _ _ _ h => h) (Or.inl ⟨by rfl, by intro u hSw; go_simp⟩) hHeld ?_
        try simp only [List.setIfInBounds_toArray, List.set_cons_zero, List.set_cons_succ]
        refine wpAnyH_done (by kernel_rfl) ?_ _
        refine NoPanic.normal ?_
        apply hK1
        clear hK1 K1
        go_wp2_with fail
        go_ret
        have hf : flat [(some ⟨W.heap.size, 0, none⟩, 4, voteSignL), (some ⟨wz.heap.size, 0, none⟩, 1, putL n 1), (A1, c1, ptL e1 l1), (A2, c2, ptL e2 l2)] = txL n e1 l1 e2 l2 := by simp [flat, txL, lkL]
        rw [hf] at hc4 o4 ⊢
        exact ⟨A4, c4, rfl, hc4, o4.wide (Nat.le_trans HB.out.size HX3.out) (Nat.le_refl _), hdBelow HB.out BX.out⟩
      · go_simp
        go_at_call 30
        refine (CP1.out _).mono ?_
        rintro y w1 ⟨A1, c1, rfl, hc1, o1, b1⟩
        have BX := Lib.hid (BX.out.trans (b1.mono BX.out.size))
        (try have R1 := Lib.hid ((R1.out.below b1 (Nat.le_refl _)).wide (Nat.le_refl _) b1.size))
        (try have R2 := Lib.hid ((R2.out.below b1 (Nat.le_refl _)).wide (Nat.le_refl _) b1.size))
        (try have RB := Lib.hid ((RB.out.below b1 (Nat.le_refl _)).wide (Nat.le_refl _) b1.size))
        (try have RV := Lib.hid ((RV.out.below b1 (Nat.le_refl _)).wide (Nat.le_refl _) b1.size))
        (try have HV := Lib.hid ((b1.block _ (heap_in HV.out)).trans HV.out))
        have R1 := Lib.hid (o1.rd.wide (Nat.zero_le _) (Nat.le_refl _))
        clear o1
        clear b1
        go_simp
        refine hK.out _ _ (KP.out _ BX.out) (fun hHeld => ?_)
        clear hK K
        try simp only [Act.put, List.setIfInBounds_toArray, List.set_cons_zero, List.set_cons_succ]
        refine wpAnyH_ready (rs := [5, 11]) (by kernel_rfl) (by simp) ?_
        refine AllReadyH.cons (o := _) rfl (fun K hK => ?_) (AllReadyH.cons (o := _) rfl (fun K hK => ?_) (AllReadyH.nil))
        · go_simp
          obtain ⟨wb, hwb⟩ : ∃ wb, wb = w1.alloc (.cells #[.int .u8 (n : Int)] 5) := ⟨_, rfl⟩
          have bb : Below w1.heap.size w1 wb := by
            rw [hwb]
            skip
            exact (Below.refl _ _).alloc (Nat.le_refl _) _
          have hh : wb.heap[w1.heap.size]? = some (.cells #[.int .u8 (n : Int)] 5 (0, 0)) := by rw [hwb]; exact heap_alloc_new w1 _
          have BX := Lib.hid (BX.out.trans (bb.mono BX.out.size))
          (try have R1 := Lib.hid ((R1.out.below bb (Nat.le_refl _)).wide (Nat.le_refl _) bb.size))
          (try have R2 := Lib.hid ((R2.out.below bb (Nat.le_refl _)).wide (Nat.le_refl _) bb.size))
          (try have RB := Lib.hid ((RB.out.below bb (Nat.le_refl _)).wide (Nat.le_refl _) bb.size))
          (try have RV := Lib.hid ((RV.out.below bb (Nat.le_refl _)).wide (Nat.le_refl _) bb.size))
          (try have HV := Lib.hid ((bb.block _ (heap_in HV.out)).trans HV.out))
          have RB : Hid (Rd wb 0 wb.heap.size (some ⟨w1.heap.size, 0, none⟩) (putL n 1)) := oneByte n hh HN.out
          rw [← hwb]
          clear bb hh hwb
          refine hK.out _ _ (KP.out _ BX.out) (fun hHeld => ?_)
          clear hK K
          try simp only [Act.put, List.setIfInBounds_toArray, List.set_cons_zero, List.set_cons_succ]
          refine wpAnyH_ready (rs := [11]) (by kernel_rfl) (by simp) ?_
          refine AllReadyH.cons (o := _) rfl (fun K hK => ?_) (AllReadyH.nil)
          go_simp
          go_at_call 30
          refine (CP2.out _).mono ?_
          rintro y w2 ⟨A2, c2, rfl, hc2, o2, b2⟩
          have BX := Lib.hid (BX.out.trans (b2.mono BX.out.size))
          (try have R1 := Lib.hid ((R1.out.below b2 (Nat.le_refl _)).wide (Nat.le_refl _) b2.size))
          (try have R2 := Lib.hid ((R2.out.below b2 (Nat.le_refl _)).wide (Nat.le_refl _) b2.size))
          (try have RB := Lib.hid ((RB.out.below b2 (Nat.le_refl _)).wide (Nat.le_refl _) b2.size))
          (try have RV := Lib.hid ((RV.out.below b2 (Nat.le_refl _)).wide (Nat.le_refl _) b2.size))
          (try have HV := Lib.hid ((b2.block _ (heap_in HV.out)).trans HV.out))
          have R2 := Lib.hid (o2.rd.wide (Nat.zero_le _) (Nat.le_refl _))
          clear o2
          clear b2
          go_simp
          refine hK.out _ _ (KP.out _ BX.out) (fun hHeld => ?_)
          clear hK K
          try simp only [Act.put, List.setIfInBounds_toArray, List.set_cons_zero, List.set_cons_succ]
          refine wpAnyH_ready (rs := [12]) (by kernel_rfl) (by simp) ?_
          refine AllReadyH.cons (o := _) rfl (fun K hK => ?_) AllReadyH.nil
          go_simp
          refine hK.out _ _ (KP.out _ (BX.out.alloc BX.out.size _)) (fun hHeld => ?_)
          clear hK K
          try simp only [Act.put, List.setIfInBounds_toArray, List.set_cons_zero, List.set_cons_succ]
          refine wpAnyH_ready (rs := [13]) (by kernel_rfl) (by simp) ?_
          refine AllReadyH.cons (o := _) rfl (fun K hK => ?_) AllReadyH.nil
          go_simp
          go_at_call 29
          refine (joinRL [(some ⟨W.heap.size, 0, none⟩, 4, voteSignL), (some ⟨w1.heap.size, 0, none⟩, 1, putL n 1), (A1, c1, ptL e1 l1), (A2, c2, ptL e2 l2)] w2 _ (by simp [putL_length, voteSignL]) (fun x hx => by
              simp only [List.mem_cons, List.not_mem_nil, or_false] at hx
              rcases hx with rfl | rfl | rfl | rfl
              · exact RV.out
              · exact RB.out
              · exact R1.out
              · exact R2.out) 4 rfl (by simp) (by have h1 := HP1.out; have h2 := HP2.out; simp [flat, putL_length, h1, h2, voteSignL])).mono ?_
          rintro y w4 ⟨A4, c4, rfl, hc4, ha4, o4, b4⟩
          have HX3 := Lib.hid BX.out.size
          have BX := Lib.hid (BX.out.trans (b4.mono BX.out.size))
          clear b4
          go_simp
          refine hK.out _ _ (KP.out _ BX.out) (fun hHeld => ?_)
          clear hK K
          try simp only [Act.put, List.setIfInBounds_toArray, List.set_cons_zero, List.set_cons_succ]
          refine takeH (i := 14) (d := 2) (oi := _) (v := .slice A4 (flat [(some ⟨W.heap.size, 0, none⟩, 4, voteSignL), (some ⟨w1.heap.size, 0, none⟩, 1, putL n 1), (A1, c1, ptL e1 l1), (A2, c2, ptL e2 l2)]).length c4) rfl (by kernel_rfl) (by kernel_rfl) (by kernel_rfl) (by kernel_rfl) (fun _ _ _ h => h) (Or.inl ⟨by rfl, by intro u hSw; go_simp⟩) hHeld ?_
          try simp only [List.setIfInBounds_toArray, List.set_cons_zero, List.set_cons_succ]
          refine wpAnyH_done (by kernel_rfl) ?_ _
          refine NoPanic.normal ?_
          apply hK1
          clear hK1 K1
          go_wp2_with fail
          go_ret
          have hf : flat [(some ⟨W.heap.size, 0, none⟩, 4, voteSignL), (some ⟨w1.heap.size, 0, none⟩, 1, putL n 1), (A1, c1, ptL e1 l1), (A2, c2, ptL e2 l2)] = txL n e1 l1 e2 l2 := by simp [flat, txL, lkL]
          rw [hf] at hc4 o4 ⊢
          exact ⟨A4, c4, rfl, hc4, o4.wide (Nat.le_trans HB.out.size HX3.out) (Nat.le_refl _), hdBelow HB.out BX.out⟩
        · go_simp
          go_at_call 30
          refine (CP2.out _).mono ?_
          rintro y w2 ⟨A2, c2, rfl, hc2, o2, b2⟩
          have BX := Lib.hid (BX.out.trans (b2.mono BX.out.size))
          (try have R1 := Lib.hid ((R1.out.below b2 (Nat.le_refl _)).wide (Nat.le_refl _) b2.size))
          (try have R2 := Lib.hid ((R2.out.below b2 (Nat.le_refl _)).wide (Nat.le_refl _) b2.size))
          (try have RB := Lib.hid ((RB.out.below b2 (Nat.le_refl _)).wide (Nat.le_refl _) b2.size))
          (try have RV := Lib.hid ((RV.out.below b2 (Nat.le_refl _)).wide (Nat.le_refl _) b2.size))
          (try have HV := Lib.hid ((b2.block _ (heap_in HV.out)).trans HV.out))
          have R2 := Lib.hid (o2.rd.wide (Nat.zero_le _) (Nat.le_refl _))
          clear o2
          clear b2
          go_simp
          refine hK.out _ _ (KP.out _ BX.out) (fun hHeld => ?_)
          clear hK K
          try simp only [Act.put, List.setIfInBounds_toArray, List.set_cons_zero, List.set_cons_succ]
          refine wpAnyH_ready (rs := [5]) (by kernel_rfl) (by simp) ?_
          refine AllReadyH.cons (o := _) rfl (fun K hK => ?_) (AllReadyH.nil)
          go_simp
          obtain ⟨wb, hwb⟩ : ∃ wb, wb = w2.alloc (.cells #[.int .u8 (n : Int)] 5) := ⟨_, rfl⟩
          have bb : Below w2.heap.size w2 wb := by
            rw [hwb]
            skip
            exact (Below.refl _ _).alloc (Nat.le_refl _) _
          have hh : wb.heap[w2.heap.size]? = some (.cells #[.int .u8 (n : Int)] 5 (0, 0)) := by rw [hwb]; exact heap_alloc_new w2 _
          have BX := Lib.hid (BX.out.trans (bb.mono BX.out.size))
          (try have R1 := Lib.hid ((R1.out.below bb (Nat.le_refl _)).wide (Nat.le_refl _) bb.size))
          (try have R2 := Lib.hid ((R2.out.below bb (Nat.le_refl _)).wide (Nat.le_refl _) bb.size))
          (try have RB := Lib.hid ((RB.out.below bb (Nat.le_refl _)).wide (Nat.le_refl _) bb.size))
          (try have RV := Lib.hid ((RV.out.below bb (Nat.le_refl _)).wide (Nat.le_refl _) bb.size))
          (try have HV := Lib.hid ((bb.block _ (heap_in HV.out)).trans HV.out))
          have RB : Hid (Rd wb 0 wb.heap.size (some ⟨w2.heap.size, 0, none⟩) (putL n 1)) := oneByte n hh HN.out
          rw [← hwb]
          clear bb hh hwb
          refine hK.out _ _ (KP.out _ BX.out) (fun hHeld => ?_)
          clear hK K
          try simp only [Act.put, List.setIfInBounds_toArray, List.set_cons_zero, List.set_cons_succ]
          refine wpAnyH_ready (rs := [12]) (by kernel_rfl) (by simp) ?_
          refine AllReadyH.cons (o := _) rfl (fun K hK => ?_) AllReadyH.nil
          go_simp
          refine hK.out _ _ (KP.out _ (BX.out.alloc BX.out.size _)) (fun hHeld => ?_)
          clear hK K
          try simp only [Act.put, List.setIfInBounds_toArray, List.set_cons_zero, List.set_cons_succ]
          refine wpAnyH_ready (rs := [13]) (by kernel_rfl) (by simp) ?_
          refine AllReadyH.cons (o := _) rfl (fun K hK => ?_) AllReadyH.nil
          go_simp
          go_at_call 29
          refine (joinRL [(some ⟨W.heap.size, 0, none⟩, 4, voteSignL), (some ⟨w2.heap.size, 0, none⟩, 1, putL n 1), (A1, c1, ptL e1 l1), (A2, c2, ptL e2 l2)] wb _ (by simp [putL_length, voteSignL]) (fun x hx => by
              simp only [List.mem_cons, List.not_mem_nil, or_false] at hx
              rcases hx with rfl | rfl | rfl | rfl
              · exact RV.out
              · exact RB.out
              · exact R1.out
              · exact R2.out) 4 rfl (by simp) (by have h1 := HP1.out; have h2 := HP2.out; simp [flat, putL_length, h1, h2, voteSignL])).mono ?_
          rintro y w4 ⟨A4, c4, rfl, hc4, ha4, o4, b4⟩
          have HX3 := Lib.hid BX.out.size
          have BX := Lib.hid (BX.out.trans (b4.mono BX.out.size))
          clear b4
          go_simp
          refine hK.out _ _ (KP.out _ BX.out) (fun hHeld => ?_)
          clear hK K
          try simp only [Act.put, List.setIfInBounds_toArray, List.set_cons_zero, List.set_cons_succ]
          refine takeH (i := 14) (d := 2) (oi := _) (v := .slice A4 (flat [(some ⟨W.heap.size, 0, none⟩, 4, voteSignL), (some ⟨w2.heap.size, 0, none⟩, 1, putL n 1), (A1, c1, ptL e1 l1), (A2, c2, ptL e2 l2)]).length c4) rfl (by kernel_rfl) (by kernel_rfl) (by kernel_rfl) (by kernel_rfl) (fun _ _ _ h => h) (Or.inl ⟨by rfl, by intro u hSw; go_simp⟩) hHeld ?_
          try simp only [List.setIfInBounds_toArray, List.set_cons_zero, List.set_cons_succ]
          refine wpAnyH_done (by kernel_rfl) ?_ _
          refine NoPanic.normal ?_
          apply hK1
          clear hK1 K1
          go_wp2_with fail
          go_ret
          have hf : flat [(some ⟨W.heap.size, 0, none⟩, 4, voteSignL), (some ⟨w2.heap.size, 0, none⟩, 1, putL n 1), (A1, c1, ptL e1 l1), (A2, c2, ptL e2 l2)] = txL n e1 l1 e2 l2 := by simp [flat, txL, lkL]
          rw [hf] at hc4 o4 ⊢
          exact ⟨A4, c4, rfl, hc4, o4.wide (Nat.le_trans HB.out.size HX3.out) (Nat.le_refl _), hdBelow HB.out BX.out⟩
    · go_simp
      obtain ⟨wb, hwb⟩ : ∃ wb, wb = wv.alloc (.cells #[.int .u8 (n : Int)] 5) := ⟨_, rfl⟩
      have bb : Below wv.heap.size wv wb := by
        rw [hwb]
        skip
        exact (Below.refl _ _).alloc (Nat.le_refl _) _
      have hh : wb.heap[wv.heap.size]? = some (.cells #[.int .u8 (n : Int)] 5 (0, 0)) := by rw [hwb]; exact heap_alloc_new wv _
      have BX := Lib.hid (BX.out.trans (bb.mono BX.out.size))
      (try have R1 := Lib.hid ((R1.out.below bb (Nat.le_refl _)).wide (Nat.le_refl _) bb.size))
      (try have R2 := Lib.hid ((R2.out.below bb (Nat.le_refl _)).wide (Nat.le_refl _) bb.size))
      (try have RB := Lib.hid ((RB.out.below bb (Nat.le_refl _)).wide (Nat.le_refl _) bb.size))
      (try have RV := Lib.hid ((RV.out.below bb (Nat.le_refl _)).wide (Nat.le_refl _) bb.size))
      (try have HV := Lib.hid ((bb.block _ (heap_in HV.out)).trans HV.out))
      have RB : Hid (Rd wb 0 wb.heap.size (some ⟨wv.heap.size, 0, none⟩) (putL n 1)) := oneByte n hh HN.out
      rw [← hwb]
      clear bb hh hwb
      refine hK.out _ _ (KP.out _ BX.out) (fun hHeld => ?_)
      clear hK K
      try simp only [Act.put, List.setIfInBounds_toArray, List.set_cons_zero, List.set_cons_succ]
      refine wpAnyH_ready (rs := [1, 8]) (by kernel_rfl) (by simp) ?_
      refine AllReadyH.cons (o := _) rfl (fun K hK => ?_) (AllReadyH.cons (o := _) rfl (fun K hK => ?_) (AllReadyH.nil))
      · obtain ⟨wz, hwz⟩ : ∃ wz, wz = wb.freeze ⟨W.heap.size, 4, none⟩ 1 := ⟨_, rfl⟩
        have kcv : (convert 27 27 (.slice (some ⟨W.heap.size, 0, none⟩) 4 4)).run Try.prog wb = .ok (.slice (some ⟨W.heap.size, 0, none⟩) 4 4) wz := by rw [hwz]; exact convert_const wb _ _ #[.int .u8 118, .int .u8 111, .int .u8 116, .int .u8 101] _ 4 4 HV.out Try.underlying27 Try.underlying5
        have hfz := freeze_cells wb ⟨W.heap.size, 4, none⟩ 1
        rw [← hwz] at hfz
        have BX := Lib.hid (freeze_below BX.out HG.out hfz)
        (try have R1 := Lib.hid (rd_same R1.out hfz.1 hfz.2.1))
        (try have R2 := Lib.hid (rd_same R2.out hfz.1 hfz.2.1))
        (try have RB := Lib.hid (rd_same RB.out hfz.1 hfz.2.1))
        have RV := Lib.hid (rd_same RV.out hfz.1 hfz.2.1)
        clear hwz hfz HV HG
        go_simp
        refine hK.out _ _ (KP.out _ BX.out) (fun hHeld => ?_)
        clear hK K kcv
        try simp only [Act.put, List.setIfInBounds_toArray, List.set_cons_zero, List.set_cons_succ]
        refine wpAnyH_ready (rs := [8]) (by kernel_rfl) (by simp) ?_
        refine AllReadyH.cons (o := _) rfl (fun K hK => ?_) (AllReadyH.nil)
        go_simp
        go_at_call 30
        refine (CP1.out _).mono ?_
        rintro y w1 ⟨A1, c1, rfl, hc1, o1, b1⟩
        have BX := Lib.hid (BX.out.trans (b1.mono BX.out.size))
        (try have R1 := Lib.hid ((R1.out.below b1 (Nat.le_refl _)).wide (Nat.le_refl _) b1.size))
        (try have R2 := Lib.hid ((R2.out.below b1 (Nat.le_refl _)).wide (Nat.le_refl _) b1.size))
        (try have RB := Lib.hid ((RB.out.below b1 (Nat.le_refl _)).wide (Nat.le_refl _) b1.size))
        (try have RV := Lib.hid ((RV.out.below b1 (Nat.le_refl _)).wide (Nat.le_refl _) b1.size))
        (try have HV := Lib.hid ((b1.block _ (heap_in HV.out)).trans HV.out))
        have R1 := Lib.hid (o1.rd.wide (Nat.zero_le _) (Nat.le_refl _))
        clear o1
        clear b1
        go_simp
        refine hK.out _ _ (KP.out _ BX.out) (fun hHeld => ?_)
        clear hK K
        try simp only [Act.put, List.setIfInBounds_toArray, List.set_cons_zero, List.set_cons_succ]
        refine wpAnyH_ready (rs := [11]) (by kernel_rfl) (by simp) ?_
        refine AllReadyH.cons (o := _) rfl (fun K hK => ?_) (AllReadyH.nil)
        go_simp
        go_at_call 30
        refine (CP2.out _).mono ?_
        rintro y w2 ⟨A2, c2, rfl, hc2, o2, b2⟩
        have BX := Lib.hid (BX.out.trans (b2.mono BX.out.size))
        (try have R1 := Lib.hid ((R1.out.below b2 (Nat.le_refl _)).wide (Nat.le_refl _) b2.size))
        (try have R2 := Lib.hid ((R2.out.below b2 (Nat.le_refl _)).wide (Nat.le_refl _) b2.size))
        (try have RB := Lib.hid ((RB.out.below b2 (Nat.le_refl _)).wide (Nat.le_refl _) b2.size))
        (try have RV := Lib.hid ((RV.out.below b2 (Nat.le_refl _)).wide (Nat.le_refl _) b2.size))
        (try have HV := Lib.hid ((b2.block _ (heap_in HV.out)).trans HV.out))
        have R2 := Lib.hid (o2.rd.wide (Nat.zero_le _) (Nat.le_refl _))
        clear o2
        clear b2
        go_simp
        refine hK.out _ _ (KP.out _ BX.out) (fun hHeld => ?_)
        clear hK K
        try simp only [Act.put, List.setIfInBounds_toArray, List.set_cons_zero, List.set_cons_succ]
        refine wpAnyH_ready (rs := [12]) (by kernel_rfl) (by simp) ?_
        refine AllReadyH.cons (o := _) rfl (fun K hK => ?_) AllReadyH.nil
        go_simp
        refine hK.out _ _ (KP.out _ (BX.out.alloc BX.out.size _)) (fun hHeld => ?_)
        clear hK K
        try simp only [Act.put, List.setIfInBounds_toArray, List.set_cons_zero, List.set_cons_succ]
        refine wpAnyH_ready (rs := [13]) (by kernel_rfl) (by simp) ?_
        refine AllReadyH.cons (o := _) rfl (fun K hK => ?_) AllReadyH.nil
        go_simp
        go_at_call 29
        refine (joinRL [(some ⟨W.heap.size, 0, none⟩, 4, voteSignL), (some ⟨wv.heap.size, 0, none⟩, 1, putL n 1), (A1, c1, ptL e1 l1), (A2, c2, ptL e2 l2)] w2 _ (by simp [putL_length, voteSignL]) (fun x hx => by
            simp only [List.mem_cons, List.not_mem_nil, or_false] at hx
            rcases hx with rfl | rfl | rfl | rfl
            · exact RV.out
            · exact RB.out
            · exact R1.out
            · exact R2.out) 4 rfl (by simp) (by have h1 := HP1.out; have h2 := HP2.out; simp [flat, putL_length, h1, h2, voteSignL])).mono ?_
        rintro y w4 ⟨A4, c4, rfl, hc4, ha4, o4, b4⟩
        have HX3 := Lib.hid BX.out.size
        have BX := Lib.hid (BX.out.trans (b4.mono BX.out.size))
        clear b4
        go_simp
        refine hK.out _ _ (KP.out _ BX.out) (fun hHeld => ?_)
        clear hK K
        try simp only [Act.put, List.setIfInBounds_toArray, List.set_cons_zero, List.set_cons_succ]
        refine takeH (i := 14) (d := 2) (oi := _) (v := .slice A4 (flat [(some ⟨W.heap.size, 0, none⟩, 4, voteSignL), (some ⟨wv.heap.size, 0, none⟩, 1, putL n 1), (A1, c1, ptL e1 l1), (A2, c2, ptL e2 l2)]).length c4) rfl (by kernel_rfl) (by kernel_rfl) (by kernel_rfl) (by kernel_rfl) (fun _ _ _ h => h) (Or.inl ⟨by rfl, by intro u hSw; go_simp⟩) hHeld ?_
        try simp only [List.setIfInBounds_toArray, List.set_cons_zero, List.set_cons_succ]
        refine wpAnyH_done (by kernel_rfl) ?_ _
        refine NoPanic.normal ?_
        apply hK1
        clear hK1 K1
        go_wp2_with fail
        go_ret
        have hf : flat [(some ⟨W.heap.size, 0, none⟩, 4, voteSignL), (some ⟨wv.heap.size, 0, none⟩, 1, putL n 1), (A1, c1, ptL e1 l1), (A2, c2, ptL e2 l2)] = txL n e1 l1 e2 l2 := by simp [flat, txL, lkL]
        rw [hf] at hc4 o4 ⊢
        exact ⟨A4, c4, rfl, hc4, o4.wide (Nat.le_trans HB.out.size HX3.out) (Nat.le_refl _), hdBelow HB.out BX.out⟩
      · go_simp
        go_at_call 30
        refine (CP1.out _).mono ?_
        rintro y w1 ⟨A1, c1, rfl, hc1, o1, b1⟩
        have BX := Lib.hid (BX.out.trans (b1.mono BX.out.size))
        (try have R1 := Lib.hid ((R1.out.below b1 (Nat.le_refl _)).wide (Nat.le_refl _) b1.size))
        (try have R2 := Lib.hid ((R2.out.below b1 (Nat.le_refl _)).wide (Nat.le_refl _) b1.size))
        (try have RB := Lib.hid ((RB.out.below b1 (Nat.le_refl _)).wide (Nat.le_refl _) b1.size))
        (try have RV := Lib.hid ((RV.out.below b1 (Nat.le_refl _)).wide (Nat.le_refl _) b1.size))
        (try have HV := Lib.hid ((b1.block _ (heap_in HV.out)).trans HV.out))
        have R1 := Lib.hid (o1.rd.wide (Nat.zero_le _) (Nat.le_refl _))
        clear o1
        clear b1
        go_simp
        refine hK.out _ _ (KP.out _ BX.out) (fun hHeld => ?_)
        clear hK K
        try simp only [Act.put, List.setIfInBounds_toArray, List.set_cons_zero, List.set_cons_succ]
        refine wpAnyH_ready (rs := [1, 11]) (by kernel_rfl) (by simp) ?_
        refine AllReadyH.cons (o := _) rfl (fun K hK => ?_) (AllReadyH.cons (o := _) rfl (fun K hK => ?_) (AllReadyH.nil))
        · obtain ⟨wz, hwz⟩ : ∃ wz, wz = w1.freeze ⟨W.heap.size, 4, none⟩ 1 := ⟨_, rfl⟩
          have kcv : (convert 27 27 (.slice (some ⟨W.heap.size, 0, none⟩) 4 4)).run Try.prog w1 = .ok (.slice (some ⟨W.heap.size, 0, none⟩) 4 4) wz := by rw [hwz]; exact convert_const w1 _ _ #[.int .u8 118, .int .u8 111, .int .u8 116, .int .u8 101] _ 4 4 HV.out Try.underlying27 Try.underlying5
          have hfz := freeze_cells w1 ⟨W.heap.size, 4, none⟩ 1
          rw [← hwz] at hfz
          have BX := Lib.hid (freeze_below BX.out HG.out hfz)
          (try have R1 := Lib.hid (rd_same R1.out hfz.1 hfz.2.1))
          (try have R2 := Lib.hid (rd_same R2.out hfz.1 hfz.2.1))
          (try have RB := Lib.hid (rd_same RB.out hfz.1 hfz.2.1))
          have RV := Lib.hid (rd_same RV.out hfz.1 hfz.2.1)
          clear hwz hfz HV HG
          go_simp
          refine hK.out _ _ (KP.out _ BX.out) (fun hHeld => ?_)
          clear hK K kcv
          try simp only [Act.put, List.setIfInBounds_toArray, List.set_cons_zero, List.set_cons_succ]
          refine wpAnyH_ready (rs := [11]) (by kernel_rfl) (by simp) ?_
          refine AllReadyH.cons (o := _) rfl (fun K hK => ?_) (AllReadyH.nil)
          go_simp
          go_at_call 30
          refine (CP2.out _).mono ?_
          rintro y w2 ⟨A2, c2, rfl, hc2, o2, b2⟩
          have BX := Lib.hid (BX.out.trans (b2.mono BX.out.size))
          (try have R1 := Lib.hid ((R1.out.below b2 (Nat.le_refl _)).wide (Nat.le_refl _) b2.size))
          (try have R2 := Lib.hid ((R2.out.below b2 (Nat.le_refl _)).wide (Nat.le_refl _) b2.size))
          (try have RB := Lib.hid ((RB.out.below b2 (Nat.le_refl _)).wide (Nat.le_refl _) b2.size))
          (try have RV := Lib.hid ((RV.out.below b2 (Nat.le_refl _)).wide (Nat.le_refl _) b2.size))
          (try have HV := Lib.hid ((b2.block _ (heap_in HV.out)).trans HV.out))
          have R2 := Lib.hid (o2.rd.wide (Nat.zero_le _) (Nat.le_refl _))
          clear o2
          clear b2
          go_simp
          refine hK.out _ _ (KP.out _ BX.out) (fun hHeld => ?_)
          clear hK K
          try simp only [Act.put, List.setIfInBounds_toArray, List.set_cons_zero, List.set_cons_succ]
          refine wpAnyH_ready (rs := [12]) (by kernel_rfl) (by simp) ?_
          refine AllReadyH.cons (o := _) rfl (fun K hK => ?_) AllReadyH.nil
          go_simp
          refine hK.out _ _ (KP.out _ (BX.out.alloc BX.out.size _)) (fun hHeld => ?_)
          clear hK K
          try simp only [Act.put, List.setIfInBounds_toArray, List.set_cons_zero, List.set_cons_succ]
          refine wpAnyH_ready (rs := [13]) (by kernel_rfl) (by simp) ?_
          refine AllReadyH.cons (o := _) rfl (fun K hK => ?_) AllReadyH.nil
          go_simp
          go_at_call 29
          refine (joinRL [(some ⟨W.heap.size, 0, none⟩, 4, voteSignL), (some ⟨wv.heap.size, 0, none⟩, 1, putL n 1), (A1, c1, ptL e1 l1), (A2, c2, ptL e2 l2)] w2 _ (by simp [putL_length, voteSignL]) (fun x hx => by
              simp only [List.mem_cons, List.not_mem_nil, or_false] at hx
              rcases hx with rfl | rfl | rfl | rfl
              · exact RV.out
              · exact RB.out
              · exact R1.out
              · exact R2.out) 4 rfl (by simp) (by have h1 := HP1.out; have h2 := HP2.out; simp [flat, putL_length, h1, h2, voteSignL])).mono ?_
          rintro y w4 ⟨A4, c4, rfl, hc4, ha4, o4, b4⟩
          have HX3 := Lib.hid BX.out.size
          have BX := Lib.hid (BX.out.trans (b4.mono BX.out.size))
          clear b4
          go_simp
          refine hK.out _ _ (KP.out _ BX.out) (fun hHeld => ?_)
          clear hK K
          try simp only [Act.put, List.setIfInBounds_toArray, List.set_cons_zero, List.set_cons_succ]
          refine takeH (i := 14) (d := 2) (oi := _) (v := .slice A4 (flat [(some ⟨W.heap.size, 0, none⟩, 4, voteSignL), (some ⟨wv.heap.size, 0, none⟩, 1, putL n 1), (A1, c1, ptL e1 l1), (A2, c2, ptL e2 l2)]).length c4) rfl (by kernel_rfl) (by kernel_rfl) (by kernel_rfl) (by kernel_rfl) (fun _ _ _ h => h) (Or.inl ⟨by rfl, by intro u hSw; go_simp⟩) hHeld ?_
          try simp only [List.setIfInBounds_toArray, List.set_cons_zero, List.set_cons_succ]
          refine wpAnyH_done (by kernel_rfl) ?_ _
          refine NoPanic.normal ?_
          apply hK1
          clear hK1 K1
          go_wp2_with fail
          go_ret
          have hf : flat [(some ⟨W.heap.size, 0, none⟩, 4, voteSignL), (some ⟨wv.heap.size, 0, none⟩, 1, putL n 1), (A1, c1, ptL e1 l1), (A2, c2, ptL e2 l2)] = txL n e1 l1 e2 l2 := by simp [flat, txL, lkL]
          rw [hf] at hc4 o4 ⊢
          exact ⟨A4, c4, rfl, hc4, o4.wide (Nat.le_trans HB.out.size HX3.out) (Nat.le_refl _), hdBelow HB.out BX.out⟩
        · go_simp
          go_at_call 30
          refine (CP2.out _).mono ?_
          rintro y w2 ⟨A2, c2, rfl, hc2, o2, b2⟩
          have BX := Lib.hid (BX.out.trans (b2.mono BX.out.size))
          (try have R1 := Lib.hid ((R1.out.below b2 (Nat.le_refl _)).wide (Nat.le_refl _) b2.size))
          (try have R2 := Lib.hid ((R2.out.below b2 (Nat.le_refl _)).wide (Nat.le_refl _) b2.size))
          (try have RB := Lib.hid ((RB.out.below b2 (Nat.le_refl _)).wide (Nat.le_refl _) b2.size))
          (try have RV := Lib.hid ((RV.out.below b2 (Nat.le_refl _)).wide (Nat.le_refl _) b2.size))
          (try have HV := Lib.hid ((b2.block _ (heap_in HV.out)).trans HV.out))
          have R2 := Lib.hid (o2.rd.wide (Nat.zero_le _) (Nat.le_refl _))
          clear o2
          clear b2
          go_simp
          refine hK.out _ _ (KP.out _ BX.out) (fun hHeld => ?_)
          clear hK K
          try simp only [Act.put, List.setIfInBounds_toArray, List.set_cons_zero, List.set_cons_succ]
          refine wpAnyH_ready (rs := [1]) (by kernel_rfl) (by simp) ?_
          refine AllReadyH.cons (o := _) rfl (fun K hK => ?_) (AllReadyH.nil)
          obtain ⟨wz, hwz⟩ : ∃ wz, wz = w2.freeze ⟨W.heap.size, 4, none⟩ 1 := ⟨_, rfl⟩
          have kcv : (convert 27 27 (.slice (some ⟨W.heap.size, 0, none⟩) 4 4)).run Try.prog w2 = .ok (.slice (some ⟨W.heap.size, 0, none⟩) 4 4) wz := by rw [hwz]; exact convert_const w2 _ _ #[.int .u8 118, .int .u8 111, .int .u8 116, .int .u8 101] _ 4 4 HV.out Try.underlying27 Try.underlying5
          have hfz := freeze_cells w2 ⟨W.heap.size, 4, none⟩ 1
          rw [← hwz] at hfz
          have BX := Lib.hid (freeze_below BX.out HG.out hfz)
          (try have R1 := Lib.hid (rd_same R1.out hfz.1 hfz.2.1))
          (try have R2 := Lib.hid (rd_same R2.out hfz.1 hfz.2.1))
          (try have RB := Lib.hid (rd_same RB.out hfz.1 hfz.2.1))
          have RV := Lib.hid (rd_same RV.out hfz.1 hfz.2.1)
          clear hwz hfz HV HG
          go_simp
          refine hK.out _ _ (KP.out _ BX.out) (fun hHeld => ?_)
          clear hK K kcv
          try simp only [Act.put, List.setIfInBounds_toArray, List.set_cons_zero, List.set_cons_succ]
          refine wpAnyH_ready (rs := [12]) (by kernel_rfl) (by simp) ?_
          refine AllReadyH.cons (o := _) rfl (fun K hK => ?_) AllReadyH.nil
          go_simp
          refine hK.out _ _ (KP.out _ (BX.out.alloc BX.out.size _)) (fun hHeld => ?_)
          clear hK K
          try simp only [Act.put, List.setIfInBounds_toArray, List.set_cons_zero, List.set_cons_succ]
          refine wpAnyH_ready (rs := [13]) (by kernel_rfl) (by simp) ?_
          refine AllReadyH.cons (o := _) rfl (fun K hK => ?_) AllReadyH.nil
          go_simp
          go_at_call 29
          refine (joinRL [(some ⟨W.heap.size, 0, none⟩, 4, voteSignL), (some ⟨wv.heap.size, 0, none⟩, 1, putL n 1), (A1, c1, ptL e1 l1), (A2, c2, ptL e2 l2)] wz _ (by simp [putL_length, voteSignL]) (fun x hx => by
              simp only [List.mem_cons, List.not_mem_nil, or_false] at hx
              rcases hx with rfl | rfl | rfl | rfl
              · exact RV.out
              · exact RB.out
              · exact R1.out
              · exact R2.out) 4 rfl (by simp) (by have h1 := HP1.out; have h2 := HP2.out; simp [flat, putL_length, h1, h2, voteSignL])).mono ?_
          rintro y w4 ⟨A4, c4, rfl, hc4, ha4, o4, b4⟩
          have HX3 := Lib.hid BX.out.size
          have BX := Lib.hid (BX.out.trans (b4.mono BX.out.size))
          clear b4
          go_simp
          refine hK.out _ _ (KP.out _ BX.out) (fun hHeld => ?_)
          clear hK K
          try simp only [Act.put, List.setIfInBounds_toArray, List.set_cons_zero, List.set_cons_succ]
          refine takeH (i := 14) (d := 2) (oi := _) (v := .slice A4 (flat [(some ⟨W.heap.size, 0, none⟩, 4, voteSignL), (some ⟨wv.heap.size, 0, none⟩, 1, putL n 1), (A1, c1, ptL e1 l1), (A2, c2, ptL e2 l2)]).length c4) rfl (by kernel_rfl) (by kernel_rfl) (by kernel_rfl) (by kernel_rfl) (fun _ _ _ h => h) (Or.inl ⟨by rfl, by intro u hSw; go_simp⟩) hHeld ?_
          try simp only [List.setIfInBounds_toArray, List.set_cons_zero, List.set_cons_succ]
          refine wpAnyH_done (by kernel_rfl) ?_ _
          refine NoPanic.normal ?_
          apply hK1
          clear hK1 K1
          go_wp2_with fail
          go_ret
          have hf : flat [(some ⟨W.heap.size, 0, none⟩, 4, voteSignL), (some ⟨wv.heap.size, 0, none⟩, 1, putL n 1), (A1, c1, ptL e1 l1), (A2, c2, ptL e2 l2)] = txL n e1 l1 e2 l2 := by simp [flat, txL, lkL]
          rw [hf] at hc4 o4 ⊢
          exact ⟨A4, c4, rfl, hc4, o4.wide (Nat.le_trans HB.out.size HX3.out) (Nat.le_refl _), hdBelow HB.out BX.out⟩
    · go_simp
      go_at_call 30
      refine (CP1.out _).mono ?_
      rintro y w1 ⟨A1, c1, rfl, hc1, o1, b1⟩
      have BX := Lib.hid (BX.out.trans (b1.mono BX.out.size))
      (try have R1 := Lib.hid ((R1.out.below b1 (Nat.le_refl _)).wide (Nat.le_refl _) b1.size))
      (try have R2 := Lib.hid ((R2.out.below b1 (Nat.le_refl _)).wide (Nat.le_refl _) b1.size))
      (try have RB := Lib.hid ((RB.out.below b1 (Nat.le_refl _)).wide (Nat.le_refl _) b1.size))
      (try have RV := Lib.hid ((RV.out.below b1 (Nat.le_refl _)).wide (Nat.le_refl _) b1.size))
      (try have HV := Lib.hid ((b1.block _ (heap_in HV.out)).trans HV.out))
      have R1 := Lib.hid (o1.rd.wide (Nat.zero_le _) (Nat.le_refl _))
      clear o1
      clear b1
      go_simp
      refine hK.out _ _ (KP.out _ BX.out) (fun hHeld => ?_)
      clear hK K
      try simp only [Act.put, List.setIfInBounds_toArray, List.set_cons_zero, List.set_cons_succ]
      refine wpAnyH_ready (rs := [1, 5, 11]) (by kernel_rfl) (by simp) ?_
      refine AllReadyH.cons (o := _) rfl (fun K hK => ?_) (AllReadyH.cons (o := _) rfl (fun K hK => ?_) (AllReadyH.cons (o := _) rfl (fun K hK => ?_) (AllReadyH.nil)))
      · obtain ⟨wz, hwz⟩ : ∃ wz, wz = w1.freeze ⟨W.heap.size, 4, none⟩ 1 := ⟨_, rfl⟩
        have kcv : (convert 27 27 (.slice (some ⟨W.heap.size, 0, none⟩) 4 4)).run Try.prog w1 = .ok (.slice (some ⟨W.heap.size, 0, none⟩) 4 4) wz := by rw [hwz]; exact convert_const w1 _ _ #[.int .u8 118, .int .u8 111, .int .u8 116, .int .u8 101] _ 4 4 HV.out Try.underlying27 Try.underlying5
        have hfz := freeze_cells w1 ⟨W.heap.size, 4, none⟩ 1
        rw [← hwz] at hfz
        have BX := Lib.hid (freeze_below BX.out HG.out hfz)
        (try have R1 := Lib.hid (rd_same R1.out hfz.1 hfz.2.1))
        (try have R2 := Lib.hid (rd_same R2.out hfz.1 hfz.2.1))
        (try have RB := Lib.hid (rd_same RB.out hfz.1 hfz.2.1))
        have RV := Lib.hid (rd_same RV.out hfz.1 hfz.2.1)
        clear hwz hfz HV HG
        go_simp
        refine hK.out _ _ (KP.out _ BX.out) (fun hHeld => ?_)
        clear hK K kcv
        try simp only [Act.put, List.setIfInBounds_toArray, List.set_cons_zero, List.set_cons_succ]
        refine wpAnyH_ready (rs := [5, 11]) (by kernel_rfl) (by simp) ?_
        refine AllReadyH.cons (o := _) rfl (fun K hK => ?_) (AllReadyH.cons (o := _) rfl (fun K hK => ?_) (AllReadyH.nil))
        · go_simp
          obtain ⟨wb, hwb⟩ : ∃ wb, wb = wz.alloc (.cells #[.int .u8 (n : Int)] 5) := ⟨_, rfl⟩
          have bb : Below wz.heap.size wz wb := by
            rw [hwb]
            skip
            exact (Below.refl _ _).alloc (Nat.le_refl _) _
          have hh : wb.heap[wz.heap.size]? = some (.cells #[.int .u8 (n : Int)] 5 (0, 0)) := by rw [hwb]; exact heap_alloc_new wz _
          have BX := Lib.hid (BX.out.trans (bb.mono BX.out.size))
          (try have R1 := Lib.hid ((R1.out.below bb (Nat.le_refl _)).wide (Nat.le_refl _) bb.size))
          (try have R2 := Lib.hid ((R2.out.below bb (Nat.le_refl _)).wide (Nat.le_refl _) bb.size))
          (try have RB := Lib.hid ((RB.out.below bb (Nat.le_refl _)).wide (Nat.le_refl _) bb.size))
          (try have RV := Lib.hid ((RV.out.below bb (Nat.le_refl _)).wide (Nat.le_refl _) bb.size))
          (try have HV := Lib.hid ((bb.block _ (heap_in HV.out)).trans HV.out))
          have RB : Hid (Rd wb 0 wb.heap.size (some ⟨wz.heap.size, 0, none⟩) (putL n 1)) := oneByte n hh HN.out
          rw [← hwb]
          clear bb hh hwb
          refine hK.out _ _ (KP.out _ BX.out) (fun hHeld => ?_)
          clear hK K
          try simp only [Act.put, List.setIfInBounds_toArray, List.set_cons_zero, List.set_cons_succ]
          refine wpAnyH_ready (rs := [11]) (by kernel_rfl) (by simp) ?_
          refine AllReadyH.cons (o := _) rfl (fun K hK => ?_) (AllReadyH.nil)
          go_simp
          go_at_call 30
          refine (CP2.out _).mono ?_
          rintro y w2 ⟨A2, c2, rfl, hc2, o2, b2⟩
          have BX := Lib.hid (BX.out.trans (b2.mono BX.out.size))
          (try have R1 := Lib.hid ((R1.out.below b2 (Nat.le_refl _)).wide (Nat.le_refl _) b2.size))
          (try have R2 := Lib.hid ((R2.out.below b2 (Nat.le_refl _)).wide (Nat.le_refl _) b2.size))
          (try have RB := Lib.hid ((RB.out.below b2 (Nat.le_refl _)).wide (Nat.le_refl _) b2.size))
          (try have RV := Lib.hid ((RV.out.below b2 (Nat.le_refl _)).wide (Nat.le_refl _) b2.size))
          (try have HV := Lib.hid ((b2.block _ (heap_in HV.out)).trans HV.out))
          have R2 := Lib.hid (o2.rd.wide (Nat.zero_le _) (Nat.le_refl _))
          clear o2
          clear b2
          go_simp
          refine hK.out _ _ (KP.out _ BX.out) (fun hHeld => ?_)
          clear hK K
          try simp only [Act.put, List.setIfInBounds_toArray, List.set_cons_zero, List.set_cons_succ]
          refine wpAnyH_ready (rs := [12]) (by kernel_rfl) (by simp) ?_
          refine AllReadyH.cons (o := _) rfl (fun K hK => ?_) AllReadyH.nil
          go_simp
          refine hK.out _ _ (KP.out _ (BX.out.alloc BX.out.size _)) (fun hHeld => ?_)
          clear hK K
          try simp only [Act.put, List.setIfInBounds_toArray, List.set_cons_zero, List.set_cons_succ]
          refine wpAnyH_ready (rs := [13]) (by kernel_rfl) (by simp) ?_
          refine AllReadyH.cons (o := _) rfl (fun K hK => ?_) AllReadyH.nil
          go_simp
          go_at_call 29
          refine (joinRL [(some ⟨W.heap.size, 0, none⟩, 4, voteSignL), (some ⟨wz.heap.size, 0, none⟩, 1, putL n 1), (A1, c1, ptL e1 l1), (A2, c2, ptL e2 l2)] w2 _ (by simp [putL_length, voteSignL]) (fun x hx => by
              simp only [List.mem_cons, List.not_mem_nil, or_false] at hx
              rcases hx with rfl | rfl | rfl | rfl
              · exact RV.out
              · exact RB.out
              · exact R1.out
              · exact R2.out) 4 rfl (by simp) (by have h1 := HP1.out; have h2 := HP2.out; simp [flat, putL_length, h1, h2, voteSignL])).mono ?_
          rintro y w4 ⟨A4, c4, rfl, hc4, ha4, o4, b4⟩
          have HX3 := Lib.hid BX.out.size
          have BX := Lib.hid (BX.out.trans (b4.mono BX.out.size))
          clear b4
          go_simp
          refine hK.out _ _ (KP.out _ BX.out) (fun hHeld => ?_)
          clear hK K
          try simp only [Act.put, List.setIfInBounds_toArray, List.set_cons_zero, List.set_cons_succ]
          refine takeH (i := 14) (d := 2) (oi := _) (v := .slice A4 (flat [(some ⟨W.heap.size, 0, none⟩, 4, voteSignL), (some ⟨wz.heap.size, 0, none⟩, 1, putL n 1), (A1, c1, ptL e1 l1), (A2, c2, ptL e2 l2)]).length c4) rfl (by kernel_rfl) (by kernel_rfl) (by kernel_rfl) (by kernel_rfl) (fun _ _ _ h => h) (Or.inl ⟨by rfl, by intro u hSw; go_simp⟩) hHeld ?_
          try simp only [List.setIfInBounds_toArray, List.set_cons_zero, List.set_cons_succ]
          refine wpAnyH_done (by kernel_rfl) ?_ _
          refine NoPanic.normal ?_
          apply hK1
          clear hK1 K1
          go_wp2_with fail
          go_ret
          have hf : flat [(some ⟨W.heap.size, 0, none⟩, 4, voteSignL), (some ⟨wz.heap.size, 0, none⟩, 1, putL n 1), (A1, c1, ptL e1 l1), (A2, c2, ptL e2 l2)] = txL n e1 l1 e2 l2 := by simp [flat, txL, lkL]
          rw [hf] at hc4 o4 ⊢
          exact ⟨A4, c4, rfl, hc4, o4.wide (Nat.le_trans HB.out.size HX3.out) (Nat.le_refl _), hdBelow HB.out BX.out⟩
        · go_simp
          go_at_call 30
          refine (CP2.out _).mono ?_
          rintro y w2 ⟨A2, c2, rfl, hc2, o2, b2⟩
          have BX := Lib.hid (BX.out.trans (b2.mono BX.out.size))
          (try have R1 := Lib.hid ((R1.out.below b2 (Nat.le_refl _)).wide (Nat.le_refl _) b2.size))
          (try have R2 := Lib.hid ((R2.out.below b2 (Nat.le_refl _)).wide (Nat.le_refl _) b2.size))
          (try have RB := Lib.hid ((RB.out.below b2 (Nat.le_refl _)).wide (Nat.le_refl _) b2.size))
          (try have RV := Lib.hid ((RV.out.below b2 (Nat.le_refl _)).wide (Nat.le_refl _) b2.size))
          (try have HV := Lib.hid ((b2.block _ (heap_in HV.out)).trans HV.out))
          have R2 := Lib.hid (o2.rd.wide (Nat.zero_le _) (Nat.le_refl _))
          clear o2
          clear b2
          go_simp
          refine hK.out _ _ (KP.out _ BX.out) (fun hHeld => ?_)
          clear hK K
          try simp only [Act.put, List.setIfInBounds_toArray, List.set_cons_zero, List.set_cons_succ]
          refine wpAnyH_ready (rs := [5]) (by kernel_rfl) (by simp) ?_
          refine AllReadyH.cons (o := _) rfl (fun K hK => ?_) (AllReadyH.nil)
          go_simp
          obtain ⟨wb, hwb⟩ : ∃ wb, wb = w2.alloc (.cells #[.int .u8 (n : Int)] 5) := ⟨_, rfl⟩
          have bb : Below w2.heap.size w2 wb := by
            rw [hwb]
            skip
            exact (Below.refl _ _).alloc (Nat.le_refl _) _
          have hh : wb.heap[w2.heap.size]? = some (.cells #[.int .u8 (n : Int)] 5 (0, 0)) := by rw [hwb]; exact heap_alloc_new w2 _
          have BX := Lib.hid (BX.out.trans (bb.mono BX.out.size))
          (try have R1 := Lib.hid ((R1.out.below bb (Nat.le_refl _)).wide (Nat.le_refl _) bb.size))
          (try have R2 := Lib.hid ((R2.out.below bb (Nat.le_refl _)).wide (Nat.le_refl _) bb.size))
          (try have RB := Lib.hid ((RB.out.below bb (Nat.le_refl _)).wide (Nat.le_refl _) bb.size))
          (try have RV := Lib.hid ((RV.out.below bb (Nat.le_refl _)).wide (Nat.le_refl _) bb.size))
          (try have HV := Lib.hid ((bb.block _ (heap_in HV.out)).trans HV.out))
          have RB : Hid (Rd wb 0 wb.heap.size (some ⟨w2.heap.size, 0, none⟩) (putL n 1)) := oneByte n hh HN.out
          rw [← hwb]
          clear bb hh hwb
          refine hK.out _ _ (KP.out _ BX.out) (fun hHeld => ?_)
          clear hK K
          try simp only [Act.put, List.setIfInBounds_toArray, List.set_cons_zero, List.set_cons_succ]
          refine wpAnyH_ready (rs := [12]) (by kernel_rfl) (by simp) ?_
          refine AllReadyH.cons (o := _) rfl (fun K hK => ?_) AllReadyH.nil
          go_simp
          refine hK.out _ _ (KP.out _ (BX.out.alloc BX.out.size _)) (fun hHeld => ?_)
          clear hK K
          try simp only [Act.put, List.setIfInBounds_toArray, List.set_cons_zero, List.set_cons_succ]
          refine wpAnyH_ready (rs := [13]) (by kernel_rfl) (by simp) ?_
          refine AllReadyH.cons (o := _) rfl (fun K hK => ?_) AllReadyH.nil
          go_simp
          go_at_call 29
          refine (joinRL [(some ⟨W.heap.size, 0, none⟩, 4, voteSignL), (some ⟨w2.heap.size, 0, none⟩, 1, putL n 1), (A1, c1, ptL e1 l1), (A2, c2, ptL e2 l2)] wb _ (by simp [putL_length, voteSignL]) (fun x hx => by
              simp only [List.mem_cons, List.not_mem_nil, or_false] at hx
              rcases hx with rfl | rfl | rfl | rfl
              · exact RV.out
              · exact RB.out
              · exact R1.out
              · exact R2.out) 4 rfl (by simp) (by have h1 := HP1.out; have h2 := HP2.out; simp [flat, putL_length, h1, h2, voteSignL])).mono ?_
          rintro y w4 ⟨A4, c4, rfl, hc4, ha4, o4, b4⟩
          have HX3 := Lib.hid BX.out.size
          have BX := Lib.hid (BX.out.trans (b4.mono BX.out.size))
          clear b4
          go_simp
          refine hK.out _ _ (KP.out _ BX.out) (fun hHeld => ?_)
          clear hK K
          try simp only [Act.put, List.setIfInBounds_toArray, List.set_cons_zero, List.set_cons_succ]
          refine takeH (i := 14) (d := 2) (oi := _) (v := .slice A4 (flat [(some ⟨W.heap.size, 0, none⟩, 4, voteSignL), (some ⟨w2.heap.size, 0, none⟩, 1, putL n 1), (A1, c1, ptL e1 l1), (A2, c2, ptL e2 l2)]).length c4) rfl (by kernel_rfl) (by kernel_rfl) (by kernel_rfl) (by kernel_rfl) (fun _ _ _ h => h) (Or.inl ⟨by rfl, by intro u hSw; go_simp⟩) hHeld ?_
          try simp only [List.setIfInBounds_toArray, List.set_cons_zero, List.set_cons_succ]
          refine wpAnyH_done (by kernel_rfl) ?_ _
          refine NoPanic.normal ?_
          apply hK1
          clear hK1 K1
          go_wp2_with fail
          go_ret
          have hf : flat [(some ⟨W.heap.size, 0, none⟩, 4, voteSignL), (some ⟨w2.heap.size, 0, none⟩, 1, putL n 1), (A1, c1, ptL e1 l1), (A2, c2, ptL e2 l2)] = txL n e1 l1 e2 l2 := by simp [flat, txL, lkL]
          rw [hf] at hc4 o4 ⊢
          exact ⟨A4, c4, rfl, hc4, o4.wide (Nat.le_trans HB.out.size HX3.out) (Nat.le_refl _), hdBelow HB.out BX.out⟩
      · go_simp
        obtain ⟨wb, hwb⟩ : ∃ wb, wb = w1.alloc (.cells #[.int .u8 (n : Int)] 5) := ⟨_, rfl⟩
        have bb : Below w1.heap.size w1 wb := by
          rw [hwb]
          skip
          exact (Below.refl _ _).alloc (Nat.le_refl _) _
        have hh : wb.heap[w1.heap.size]? = some (.cells #[.int .u8 (n : Int)] 5 (0, 0)) := by rw [hwb]; exact heap_alloc_new w1 _
        have BX := Lib.hid (BX.out.trans (bb.mono BX.out.size))
        (try have R1 := Lib.hid ((R1.out.below bb (Nat.le_refl _)).wide (Nat.le_refl _) bb.size))
        (try have R2 := Lib.hid ((R2.out.below bb (Nat.le_refl _)).wide (Nat.le_refl _) bb.size))
        (try have RB := Lib.hid ((RB.out.below bb (Nat.le_refl _)).wide (Nat.le_refl _) bb.size))
        (try have RV := Lib.hid ((RV.out.below bb (Nat.le_refl _)).wide (Nat.le_refl _) bb.size))
        (try have HV := Lib.hid ((bb.block _ (heap_in HV.out)).trans HV.out))
        have RB : Hid (Rd wb 0 wb.heap.size (some ⟨w1.heap.size, 0, none⟩) (putL n 1)) := oneByte n hh HN.out
        rw [← hwb]
        clear bb hh hwb
        refine hK.out _ _ (KP.out _ BX.out) (fun hHeld => ?_)
        clear hK K
        try simp only [Act.put, List.setIfInBounds_toArray, List.set_cons_zero, List.set_cons_succ]
        refine wpAnyH_ready (rs := [1, 11]) (by kernel_rfl) (by simp) ?_
        refine AllReadyH.cons (o := _) rfl (fun K hK => ?_) (AllReadyH.cons (o := _) rfl (fun K hK => ?_) (AllReadyH.nil))
        · obtain ⟨wz, hwz⟩ : ∃ wz, wz = wb.freeze ⟨W.heap.size, 4, none⟩ 1 := ⟨_, rfl⟩
          have kcv : (convert 27 27 (.slice (some ⟨W.heap.size, 0, none⟩) 4 4)).run Try.prog wb = .ok (.slice (some ⟨W.heap.size, 0, none⟩) 4 4) wz := by rw [hwz]; exact convert_const wb _ _ #[.int .u8 118, .int .u8 111, .int .u8 116, .int .u8 101] _ 4 4 HV.out Try.underlying27 Try.underlying5
          have hfz := freeze_cells wb ⟨W.heap.size, 4, none⟩ 1
          rw [← hwz] at hfz
          have BX := Lib.hid (freeze_below BX.out HG.out hfz)
          (try have R1 := Lib.hid (rd_same R1.out hfz.1 hfz.2.1))
          (try have R2 := Lib.hid (rd_same R2.out hfz.1 hfz.2.1))
          (try have RB := Lib.hid (rd_same RB.out hfz.1 hfz.2.1))
          have RV := Lib.hid (rd_same RV.out hfz.1 hfz.2.1)
          clear hwz hfz HV HG
          go_simp
          refine hK.out _ _ (KP.out _ BX.out) (fun hHeld => ?_)
          clear hK K kcv
          try simp only [Act.put, List.setIfInBounds_toArray, List.set_cons_zero, List.set_cons_succ]
          refine wpAnyH_ready (rs := [11]) (by kernel_rfl) (by simp) ?_
          refine AllReadyH.cons (o := _) rfl (fun K hK => ?_) (AllReadyH.nil)
          go_simp
          go_at_call 30
          refine (CP2.out _).mono ?_
          rintro y w2 ⟨A2, c2, rfl, hc2, o2, b2⟩
          have BX := Lib.hid (BX.out.trans (b2.mono BX.out.size))
          (try have R1 := Lib.hid ((R1.out.below b2 (Nat.le_refl _)).wide (Nat.le_refl _) b2.size))
          (try have R2 := Lib.hid ((R2.out.below b2 (Nat.le_refl _)).wide (Nat.le_refl _) b2.size))
          (try have RB := Lib.hid ((RB.out.below b2 (Nat.le_refl _)).wide (Nat.le_refl _) b2.size))
          (try have RV := Lib.hid ((RV.out.below b2 (Nat.le_refl _)).wide (Nat.le_refl _) b2.size))
          (try have HV := Lib.hid ((b2.block _ (heap_in HV.out)).trans HV.out))
          have R2 := Lib.hid (o2.rd.wide (Nat.zero_le _) (Nat.le_refl _))
          clear o2
          clear b2
          go_simp
          refine hK.out _ _ (KP.out _ BX.out) (fun hHeld => ?_)
          clear hK K
          try simp only [Act.put, List.setIfInBounds_toArray, List.set_cons_zero, List.set_cons_succ]
          refine wpAnyH_ready (rs := [12]) (by kernel_rfl) (by simp) ?_
          refine AllReadyH.cons (o := _) rfl (fun K hK => ?_) AllReadyH.nil
          go_simp
          refine hK.out _ _ (KP.out _ (BX.out.alloc BX.out.size _)) (fun hHeld => ?_)
          clear hK K
          try simp only [Act.put, List.setIfInBounds_toArray, List.set_cons_zero, List.set_cons_succ]
          refine wpAnyH_ready (rs := [13]) (by kernel_rfl) (by simp) ?_
          refine AllReadyH.cons (o := _) rfl (fun K hK => ?_) AllReadyH.nil
          go_simp
          go_at_call 29
          refine (joinRL [(some ⟨W.heap.size, 0, none⟩, 4, voteSignL), (some ⟨w1.heap.size, 0, none⟩, 1, putL n 1), (A1, c1, ptL e1 l1), (A2, c2, ptL e2 l2)] w2 _ (by simp [putL_length, voteSignL]) (fun x hx => by
              simp only [List.mem_cons, List.not_mem_nil, or_false] at hx
              rcases hx with rfl | rfl | rfl | rfl
              · exact RV.out
              · exact RB.out
              · exact R1.out
              · exact R2.out) 4 rfl (by simp) (by have h1 := HP1.out; have h2 := HP2.out; simp [flat, putL_length, h1, h2, voteSignL])).mono ?_
          rintro y w4 ⟨A4, c4, rfl, hc4, ha4, o4, b4⟩
          have HX3 := Lib.hid BX.out.size
          have BX := Lib.hid (BX.out.trans (b4.mono BX.out.size))
          clear b4
          go_simp
          refine hK.out _ _ (KP.out _ BX.out) (fun hHeld => ?_)
          clear hK K
          try simp only [Act.put, List.setIfInBounds_toArray, List.set_cons_zero, List.set_cons_succ]
          refine takeH (i := 14) (d := 2) (oi := _) (v := .slice A4 (flat [(some ⟨W.heap.size, 0, none⟩, 4, voteSignL), (some ⟨w1.heap.size, 0, none⟩, 1, putL n 1), (A1, c1, ptL e1 l1), (A2, c2, ptL e2 l2)]).length c4) rfl (by kernel_rfl) (by kernel_rfl) (by kernel_rfl) (by kernel_rfl) (fun _ _ _ h => h) (Or.inl ⟨by rfl, by intro u hSw; go_simp⟩) hHeld ?_
          try simp only [List.setIfInBounds_toArray, List.set_cons_zero, List.set_cons_succ]
          refine wpAnyH_done (by kernel_rfl) ?_ _
          refine NoPanic.normal ?_
          apply hK1
          clear hK1 K1
          go_wp2_with fail
          go_ret
          have hf : flat [(some ⟨W.heap.size, 0, none⟩, 4, voteSignL), (some ⟨w1.heap.size, 0, none⟩, 1, putL n 1), (A1, c1, ptL e1 l1), (A2, c2, ptL e2 l2)] = txL n e1 l1 e2 l2 := by simp [flat, txL, lkL]
          rw [hf] at hc4 o4 ⊢
          exact ⟨A4, c4, rfl, hc4, o4.wide (Nat.le_trans HB.out.size HX3.out) (Nat.le_refl _), hdBelow HB.out BX.out⟩
        · go_simp
          go_at_call 30
          refine (CP2.out _).mono ?_
          rintro y w2 ⟨A2, c2, rfl, hc2, o2, b2⟩
          have BX := Lib.hid (BX.out.trans (b2.mono BX.out.size))
          (try have R1 := Lib.hid ((R1.out.below b2 (Nat.le_refl _)).wide (Nat.le_refl _) b2.size))
          (try have R2 := Lib.hid ((R2.out.below b2 (Nat.le_refl _)).wide (Nat.le_refl _) b2.size))
          (try have RB := Lib.hid ((RB.out.below b2 (Nat.le_refl _)).wide (Nat.le_refl _) b2.size))
          (try have RV := Lib.hid ((RV.out.below b2 (Nat.le_refl _)).wide (Nat.le_refl _) b2.size))
          (try have HV := Lib.hid ((b2.block _ (heap_in HV.out)).trans HV.out))
          have R2 := Lib.hid (o2.rd.wide (Nat.zero_le _) (Nat.le_refl _))
          clear o2
          clear b2
          go_simp
          refine hK.out _ _ (KP.out _ BX.out) (fun hHeld => ?_)
          clear hK K
          try simp only [Act.put, List.setIfInBounds_toArray, List.set_cons_zero, List.set_cons_succ]
          refine wpAnyH_ready (rs := [1]) (by kernel_rfl) (by simp) ?_
          refine AllReadyH.cons (o := _) rfl (fun K hK => ?_) (AllReadyH.nil)
          obtain ⟨wz, hwz⟩ : ∃ wz, wz = w2.freeze ⟨W.heap.size, 4, none⟩ 1 := ⟨_, rfl⟩
          have kcv : (convert 27 27 (.slice (some ⟨W.heap.size, 0, none⟩) 4 4)).run Try.prog w2 = .ok (.slice (some ⟨W.heap.size, 0, none⟩) 4 4) wz := by rw [hwz]; exact convert_const w2 _ _ #[.int .u8 118, .int .u8 111, .int .u8 116, .int .u8 101] _ 4 4 HV.out Try.underlying27 Try.underlying5
          have hfz := freeze_cells w2 ⟨W.heap.size, 4, none⟩ 1
          rw [← hwz] at hfz
          have BX := Lib.hid (freeze_below BX.out HG.out hfz)
          (try have R1 := Lib.hid (rd_same R1.out hfz.1 hfz.2.1))
          (try have R2 := Lib.hid (rd_same R2.out hfz.1 hfz.2.1))
          (try have RB := Lib.hid (rd_same RB.out hfz.1 hfz.2.1))
          have RV := Lib.hid (rd_same RV.out hfz.1 hfz.2.1)
          clear hwz hfz HV HG
          go_simp
          refine hK.out _ _ (KP.out _ BX.out) (fun hHeld => ?_)
          clear hK K kcv
          try simp only [Act.put, List.setIfInBounds_toArray, List.set_cons_zero, List.set_cons_succ]
          refine wpAnyH_ready (rs := [12]) (by kernel_rfl) (by simp) ?_
          refine AllReadyH.cons (o := _) rfl (fun K hK => ?_) AllReadyH.nil
          go_simp
          refine hK.out _ _ (KP.out _ (BX.out.alloc BX.out.size _)) (fun hHeld => ?_)
          clear hK K
          try simp only [Act.put, List.setIfInBounds_toArray, List.set_cons_zero, List.set_cons_succ]
          refine wpAnyH_ready (rs := [13]) (by kernel_rfl) (by simp) ?_
          refine AllReadyH.cons (o := _) rfl (fun K hK => ?_) AllReadyH.nil
          go_simp
          go_at_call 29
          refine (joinRL [(some ⟨W.heap.size, 0, none⟩, 4, voteSignL), (some ⟨w1.heap.size, 0, none⟩, 1, putL n 1), (A1, c1, ptL e1 l1), (A2, c2, ptL e2 l2)] wz _ (by simp [putL_length, voteSignL]) (fun x hx => by
              simp only [List.mem_cons, List.not_mem_nil, or_false] at hx
              rcases hx with rfl | rfl | rfl | rfl
              · exact RV.out
              · exact RB.out
              · exact R1.out
              · exact R2.out) 4 rfl (by simp) (by have h1 := HP1.out; have h2 := HP2.out; simp [flat, putL_length, h1, h2, voteSignL])).mono ?_
          rintro y w4 ⟨A4, c4, rfl, hc4, ha4, o4, b4⟩
          have HX3 := Lib.hid BX.out.size
          have BX := Lib.hid (BX.out.trans (b4.mono BX.out.size))
          clear b4
          go_simp
          refine hK.out _ _ (KP.out _ BX.out) (fun hHeld => ?_)
          clear hK K
          try simp only [Act.put, List.setIfInBounds_toArray, List.set_cons_zero, List.set_cons_succ]
          refine takeH (i := 14) (d := 2) (oi := _) (v := .slice A4 (flat [(some ⟨W.heap.size, 0, none⟩, 4, voteSignL), (some ⟨w1.heap.size, 0, none⟩, 1, putL n 1), (A1, c1, ptL e1 l1), (A2, c2, ptL e2 l2)]).length c4) rfl (by kernel_rfl) (by kernel_rfl) (by kernel_rfl) (by kernel_rfl) (fun _ _ _ h => h) (Or.inl ⟨by rfl, by intro u hSw; go_simp⟩) hHeld ?_
          try simp only [List.setIfInBounds_toArray, List.set_cons_zero, List.set_cons_succ]
          refine wpAnyH_done (by kernel_rfl) ?_ _
          refine NoPanic.normal ?_
          apply hK1
          clear hK1 K1
          go_wp2_with fail
          go_ret
          have hf : flat [(some ⟨W.heap.size, 0, none⟩, 4, voteSignL), (some ⟨w1.heap.size, 0, none⟩, 1, putL n 1), (A1, c1, ptL e1 l1), (A2, c2, ptL e2 l2)] = txL n e1 l1 e2 l2 := by simp [flat, txL, lkL]
          rw [hf] at hc4 o4 ⊢
          exact ⟨A4, c4, rfl, hc4, o4.wide (Nat.le_trans HB.out.size HX3.out) (Nat.le_refl _), hdBelow HB.out BX.out⟩
      · go_simp
        go_at_call 30
        refine (CP2.out _).mono ?_
        rintro y w2 ⟨A2, c2, rfl, hc2, o2, b2⟩
        have BX := Lib.hid (BX.out.trans (b2.mono BX.out.size))
        (try have R1 := Lib.hid ((R1.out.below b2 (Nat.le_refl _)).wide (Nat.le_refl _) b2.size))
        (try have R2 := Lib.hid ((R2.out.below b2 (Nat.le_refl _)).wide (Nat.le_refl _) b2.size))
        (try have RB := Lib.hid ((RB.out.below b2 (Nat.le_refl _)).wide (Nat.le_refl _) b2.size))
        (try have RV := Lib.hid ((RV.out.below b2 (Nat.le_refl _)).wide (Nat.le_refl _) b2.size))
        (try have HV := Lib.hid ((b2.block _ (heap_in HV.out)).trans HV.out))
        have R2 := Lib.hid (o2.rd.wide (Nat.zero_le _) (Nat.le_refl _))
        clear o2
        clear b2
        go_simp
        refine hK.out _ _ (KP.out _ BX.out) (fun hHeld => ?_)
        clear hK K
        try simp only [Act.put, List.setIfInBounds_toArray, List.set_cons_zero, List.set_cons_succ]
        refine wpAnyH_ready (rs := [1, 5]) (by kernel_rfl) (by simp) ?_
        refine AllReadyH.cons (o := _) rfl (fun K hK => ?_) (AllReadyH.cons (o := _) rfl (fun K hK => ?_) (AllReadyH.nil))
        · obtain ⟨wz, hwz⟩ : ∃ wz, wz = w2.freeze ⟨W.heap.size, 4, none⟩ 1 := ⟨_, rfl⟩
          have kcv : (convert 27 27 (.slice (some ⟨W.heap.size, 0, none⟩) 4 4)).run Try.prog w2 = .ok (.slice (some ⟨W.heap.size, 0, none⟩) 4 4) wz := by rw [hwz]; exact convert_const w2 _ _ #[.int .u8 118, .int .u8 111, .int .u8 116, .int .u8 101] _ 4 4 HV.out Try.underlying27 Try.underlying5
          have hfz := freeze_cells w2 ⟨W.heap.size, 4, none⟩ 1
          rw [← hwz] at hfz
          have BX := Lib.hid (freeze_below BX.out HG.out hfz)
          (try have R1 := Lib.hid (rd_same R1.out hfz.1 hfz.2.1))
          (try have R2 := Lib.hid (rd_same R2.out hfz.1 hfz.2.1))
          (try have RB := Lib.hid (rd_same RB.out hfz.1 hfz.2.1))
          have RV := Lib.hid (rd_same RV.out hfz.1 hfz.2.1)
          clear hwz hfz HV HG
          go_simp
          refine hK.out _ _ (KP.out _ BX.out) (fun hHeld => ?_)
          clear hK K kcv
          try simp only [Act.put, List.setIfInBounds_toArray, List.set_cons_zero, List.set_cons_succ]
          refine wpAnyH_ready (rs := [5]) (by kernel_rfl) (by simp) ?_
          refine AllReadyH.cons (o := _) rfl (fun K hK => ?_) (AllReadyH.nil)
          go_simp
          obtain ⟨wb, hwb⟩ : ∃ wb, wb = wz.alloc (.cells #[.int .u8 (n : Int)] 5) := ⟨_, rfl⟩
          have bb : Below wz.heap.size wz wb := by
            rw [hwb]
            skip
            exact (Below.refl _ _).alloc (Nat.le_refl _) _
          have hh : wb.heap[wz.heap.size]? = some (.cells #[.int .u8 (n : Int)] 5 (0, 0)) := by rw [hwb]; exact heap_alloc_new wz _
          have BX := Lib.hid (BX.out.trans (bb.mono BX.out.size))
          (try have R1 := Lib.hid ((R1.out.below bb (Nat.le_refl _)).wide (Nat.le_refl _) bb.size))
          (try have R2 := Lib.hid ((R2.out.below bb (Nat.le_refl _)).wide (Nat.le_refl _) bb.size))
          (try have RB := Lib.hid ((RB.out.below bb (Nat.le_refl _)).wide (Nat.le_refl _) bb.size))
          (try have RV := Lib.hid ((RV.out.below bb (Nat.le_refl _)).wide (Nat.le_refl _) bb.size))
          (try have HV := Lib.hid ((bb.block _ (heap_in HV.out)).trans HV.out))
          have RB : Hid (Rd wb 0 wb.heap.size (some ⟨wz.heap.size, 0, none⟩) (putL n 1)) := oneByte n hh HN.out
          rw [← hwb]
          clear bb hh hwb
          refine hK.out _ _ (KP.out _ BX.out) (fun hHeld => ?_)
          clear hK K
          try simp only [Act.put, List.setIfInBounds_toArray, List.set_cons_zero, List.set_cons_succ]
          refine wpAnyH_ready (rs := [12]) (by kernel_rfl) (by simp) ?_
          refine AllReadyH.cons (o := _) rfl (fun K hK => ?_) AllReadyH.nil
          go_simp
          refine hK.out _ _ (KP.out _ (BX.out.alloc BX.out.size _)) (fun hHeld => ?_)
          clear hK K
          try simp only [Act.put, List.setIfInBounds_toArray, List.set_cons_zero, List.set_cons_succ]
          refine wpAnyH_ready (rs := [13]) (by kernel_rfl) (by simp) ?_
          refine AllReadyH.cons (o := _) rfl (fun K hK => ?_) AllReadyH.nil
          go_simp
          go_at_call 29
          refine (joinRL [(some ⟨W.heap.size, 0, none⟩, 4, voteSignL), (some ⟨wz.heap.size, 0, none⟩, 1, putL n 1), (A1, c1, ptL e1 l1), (A2, c2, ptL e2 l2)] wb _ (by simp [putL_length, voteSignL]) (fun x hx => by
              simp only [List.mem_cons, List.not_mem_nil, or_false] at hx
              rcases hx with rfl | rfl | rfl | rfl
              · exact RV.out
              · exact RB.out
              · exact R1.out
              · exact R2.out) 4 rfl (by simp) (by have h1 := HP1.out; have h2 := HP2.out; simp [flat, putL_length, h1, h2, voteSignL])).mono ?_
          rintro y w4 ⟨A4, c4, rfl, hc4, ha4, o4, b4⟩
          have HX3 := Lib.hid BX.out.size
          have BX := Lib.hid (BX.out.trans (b4.mono BX.out.size))
          clear b4
          go_simp
          refine hK.out _ _ (KP.out _ BX.out) (fun hHeld => ?_)
          clear hK K
          try simp only [Act.put, List.setIfInBounds_toArray, List.set_cons_zero, List.set_cons_succ]
          refine takeH (i := 14) (d := 2) (oi := _) (v := .slice A4 (flat [(some ⟨W.heap.size, 0, none⟩, 4, voteSignL), (some ⟨wz.heap.size, 0, none⟩, 1, putL n 1), (A1, c1, ptL e1 l1), (A2, c2, ptL e2 l2)]).length c4) rfl (by kernel_rfl) (by kernel_rfl) (by kernel_rfl) (by kernel_rfl) (fun _ _ _ h => h) (Or.inl ⟨by rfl, by intro u hSw; go_simp⟩) hHeld ?_
          try simp only [List.setIfInBounds_toArray, List.set_cons_zero, List.set_cons_succ]
          refine wpAnyH_done (by kernel_rfl) ?_ _
          refine NoPanic.normal ?_
          apply hK1
          clear hK1 K1
          go_wp2_with fail
          go_ret
          have hf : flat [(some ⟨W.heap.size, 0, none⟩, 4, voteSignL), (some ⟨wz.heap.size, 0, none⟩, 1, putL n 1), (A1, c1, ptL e1 l1), (A2, c2, ptL e2 l2)] = txL n e1 l1 e2 l2 := by simp [flat, txL, lkL]
          rw [hf] at hc4 o4 ⊢
          exact ⟨A4, c4, rfl, hc4, o4.wide (Nat.le_trans HB.out.size HX3.out) (Nat.le_refl _), hdBelow HB.out BX.out⟩
        · go_simp
          obtain ⟨wb, hwb⟩ : ∃ wb, wb = w2.alloc (.cells #[.int .u8 (n : Int)] 5) := ⟨_, rfl⟩
          have bb : Below w2.heap.size w2 wb := by
            rw [hwb]
            skip
            exact (Below.refl _ _).alloc (Nat.le_refl _) _
          have hh : wb.heap[w2.heap.size]? = some (.cells #[.int .u8 (n : Int)] 5 (0, 0)) := by rw [hwb]; exact heap_alloc_new w2 _
          have BX := Lib.hid (BX.out.trans (bb.mono BX.out.size))
          (try have R1 := Lib.hid ((R1.out.below bb (Nat.le_refl _)).wide (Nat.le_refl _) bb.size))
          (try have R2 := Lib.hid ((R2.out.below bb (Nat.le_refl _)).wide (Nat.le_refl _) bb.size))
          (try have RB := Lib.hid ((RB.out.below bb (Nat.le_refl _)).wide (Nat.le_refl _) bb.size))
          (try have RV := Lib.hid ((RV.out.below bb (Nat.le_refl _)).wide (Nat.le_refl _) bb.size))
          (try have HV := Lib.hid ((bb.block _ (heap_in HV.out)).trans HV.out))
          have RB : Hid (Rd wb 0 wb.heap.size (some ⟨w2.heap.size, 0, none⟩) (putL n 1)) := oneByte n hh HN.out
          rw [← hwb]
          clear bb hh hwb
          refine hK.out _ _ (KP.out _ BX.out) (fun hHeld => ?_)
          clear hK K
          try simp only [Act.put, List.setIfInBounds_toArray, List.set_cons_zero, List.set_cons_succ]
          refine wpAnyH_ready (rs := [1]) (by kernel_rfl) (by simp) ?_
          refine AllReadyH.cons (o := _) rfl (fun K hK => ?_) (AllReadyH.nil)
          obtain ⟨wz, hwz⟩ : ∃ wz, wz = wb.freeze ⟨W.heap.size, 4, none⟩ 1 := ⟨_, rfl⟩
          have kcv : (convert 27 27 (.slice (some ⟨W.heap.size, 0, none⟩) 4 4)).run Try.prog wb = .ok (.slice (some ⟨W.heap.size, 0, none⟩) 4 4) wz := by rw [hwz]; exact convert_const wb _ _ #[.int .u8 118, .int .u8 111, .int .u8 116, .int .u8 101] _ 4 4 HV.out Try.underlying27 Try.underlying5
          have hfz := freeze_cells wb ⟨W.heap.size, 4, none⟩ 1
          rw [← hwz] at hfz
          have BX := Lib.hid (freeze_below BX.out HG.out hfz)
          (try have R1 := Lib.hid (rd_same R1.out hfz.1 hfz.2.1))
          (try have R2 := Lib.hid (rd_same R2.out hfz.1 hfz.2.1))
          (try have RB := Lib.hid (rd_same RB.out hfz.1 hfz.2.1))
          have RV := Lib.hid (rd_same RV.out hfz.1 hfz.2.1)
          clear hwz hfz HV HG
          go_simp
          refine hK.out _ _ (KP.out _ BX.out) (fun hHeld => ?_)
          clear hK K kcv
          try simp only [Act.put, List.setIfInBounds_toArray, List.set_cons_zero, List.set_cons_succ]
          refine wpAnyH_ready (rs := [12]) (by kernel_rfl) (by simp) ?_
          refine AllReadyH.cons (o := _) rfl (fun K hK => ?_) AllReadyH.nil
          go_simp
          refine hK.out _ _ (KP.out _ (BX.out.alloc BX.out.size _)) (fun hHeld => ?_)
          clear hK K
          try simp only [Act.put, List.setIfInBounds_toArray, List.set_cons_zero, List.set_cons_succ]
          refine wpAnyH_ready (rs := [13]) (by kernel_rfl) (by simp) ?_
          refine AllReadyH.cons (o := _) rfl (fun K hK => ?_) AllReadyH.nil
          go_simp
          go_at_call 29
          refine (joinRL [(some ⟨W.heap.size, 0, none⟩, 4, voteSignL), (some ⟨w2.heap.size, 0, none⟩, 1, putL n 1), (A1, c1, ptL e1 l1), (A2, c2, ptL e2 l2)] wz _ (by simp [putL_length, voteSignL]) (fun x hx => by
              simp only [List.mem_cons, List.not_mem_nil, or_false] at hx
              rcases hx with rfl | rfl | rfl | rfl
              · exact RV.out
              · exact RB.out
              · exact R1.out
              · exact R2.out) 4 rfl (by simp) (by have h1 := HP1.out; have h2 := HP2.out; simp [flat, putL_length, h1, h2, voteSignL])).mono ?_
          rintro y w4 ⟨A4, c4, rfl, hc4, ha4, o4, b4⟩
          have HX3 := Lib.hid BX.out.size
          have BX := Lib.hid (BX.out.trans (b4.mono BX.out.size))
          clear b4
          go_simp
          refine hK.out _ _ (KP.out _ BX.out) (fun hHeld => ?_)
          clear hK K
          try simp only [Act.put, List.setIfInBounds_toArray, List.set_cons_zero, List.set_cons_succ]
          refine takeH (i := 14) (d := 2) (oi := _) (v := .slice A4 (flat [(some ⟨W.heap.size, 0, none⟩, 4, voteSignL), (some ⟨w2.heap.size, 0, none⟩, 1, putL n 1), (A1, c1, ptL e1 l1), (A2, c2, ptL e2 l2)]).length c4) rfl (by kernel_rfl) (by kernel_rfl) (by kernel_rfl) (by kernel_rfl) (fun _ _ _ h => h) (Or.inl ⟨by rfl, by intro u hSw; go_simp⟩) hHeld ?_
          try simp only [List.setIfInBounds_toArray, List.set_cons_zero, List.set_cons_succ]
          refine wpAnyH_done (by kernel_rfl) ?_ _
          refine NoPanic.normal ?_
          apply hK1
          clear hK1 K1
          go_wp2_with fail
          go_ret
          have hf : flat [(some ⟨W.heap.size, 0, none⟩, 4, voteSignL), (some ⟨w2.heap.size, 0, none⟩, 1, putL n 1), (A1, c1, ptL e1 l1), (A2, c2, ptL e2 l2)] = txL n e1 l1 e2 l2 := by simp [flat, txL, lkL]
          rw [hf] at hc4 o4 ⊢
          exact ⟨A4, c4, rfl, hc4, o4.wide (Nat.le_trans HB.out.size HX3.out) (Nat.le_refl _), hdBelow HB.out BX.out⟩
  · go_simp
    obtain ⟨wb, hwb⟩ : ∃ wb, wb = (W.alloc (.cells #[.int .u8 (n : Int)] 5)).drew := ⟨_, rfl⟩
    have bb : Below W.drew.heap.size W.drew wb := by
      rw [hwb]
      have h0 := ((Below.refl W.heap.size W).alloc (Nat.le_refl _) (.cells #[.int .u8 (n : Int)] 5)).drew
      exact ⟨h0.os, h0.tape, h0.output, h0.size, h0.block⟩
    have hh : wb.heap[W.heap.size]? = some (.cells #[.int .u8 (n : Int)] 5 (0, 0)) := by rw [hwb]; exact heap_alloc_new W _
    have BX := Lib.hid (BX.out.trans (bb.mono BX.out.size))
    (try have R1 := Lib.hid ((R1.out.below bb (Nat.le_refl _)).wide (Nat.le_refl _) bb.size))
    (try have R2 := Lib.hid ((R2.out.below bb (Nat.le_refl _)).wide (Nat.le_refl _) bb.size))
    (try have RB := Lib.hid ((RB.out.below bb (Nat.le_refl _)).wide (Nat.le_refl _) bb.size))
    (try have RV := Lib.hid ((RV.out.below bb (Nat.le_refl _)).wide (Nat.le_refl _) bb.size))
    (try have HV := Lib.hid ((bb.block _ (heap_in HV.out)).trans HV.out))
    have RB : Hid (Rd wb 0 wb.heap.size (some ⟨W.heap.size, 0, none⟩) (putL n 1)) := oneByte n hh HN.out
    rw [← hwb]
    clear bb hh hwb
    refine hK.out _ _ (KP.out _ BX.out) (fun hHeld => ?_)
    clear hK K
    try simp only [Act.put, List.setIfInBounds_toArray, List.set_cons_zero, List.set_cons_succ]
    refine wpAnyH_ready (rs := [0, 8]) (by kernel_rfl) (by simp) ?_
    refine AllReadyH.cons (o := _) rfl (fun K hK => ?_) (AllReadyH.cons (o := _) rfl (fun K hK => ?_) (AllReadyH.nil))
    · go_simp
      obtain ⟨wv, hwv⟩ : ∃ wv, wv = wb.alloc (.cells #[.int .u8 118, .int .u8 111, .int .u8 116, .int .u8 101] 5) := ⟨_, rfl⟩
      have bb : Below wb.heap.size wb wv := by
        rw [hwv]
        skip
        exact (Below.refl _ _).alloc (Nat.le_refl _) _
      have hh : wv.heap[wb.heap.size]? = some (.cells #[.int .u8 118, .int .u8 111, .int .u8 116, .int .u8 101] 5 (0, 0)) := by rw [hwv]; exact heap_alloc_new wb _
      have HG := Lib.hid (show W.heap.size ≤ wb.heap.size from BX.out.size)
      have BX := Lib.hid (BX.out.trans (bb.mono BX.out.size))
      (try have R1 := Lib.hid ((R1.out.below bb (Nat.le_refl _)).wide (Nat.le_refl _) bb.size))
      (try have R2 := Lib.hid ((R2.out.below bb (Nat.le_refl _)).wide (Nat.le_refl _) bb.size))
      (try have RB := Lib.hid ((RB.out.below bb (Nat.le_refl _)).wide (Nat.le_refl _) bb.size))
      (try have RV := Lib.hid ((RV.out.below bb (Nat.le_refl _)).wide (Nat.le_refl _) bb.size))
      (try have HV := Lib.hid ((bb.block _ (heap_in HV.out)).trans HV.out))
      have RV : Hid (Rd wv 0 wv.heap.size (some ⟨wb.heap.size, 0, none⟩) voteSignL) := signBytes hh
      have HV := Lib.hid hh
      rw [← hwv]
      clear bb hh hwv
      refine hK.out _ _ (KP.out _ BX.out) (fun hHeld => ?_)
      clear hK K
      try simp only [Act.put, List.setIfInBounds_toArray, List.set_cons_zero, List.set_cons_succ]
      refine wpAnyH_ready (rs := [1, 8]) (by kernel_rfl) (by simp) ?_
      refine AllReadyH.cons (o := _) rfl (fun K hK => ?_) (AllReadyH.cons (o := _) rfl (fun K hK => ?_) (AllReadyH.nil))
      · obtain ⟨wz, hwz⟩ : ∃ wz, wz = wv.freeze ⟨wb.heap.size, 4, none⟩ 1 := ⟨_, rfl⟩
        have kcv : (convert 27 27 (.slice (some ⟨wb.heap.size, 0, none⟩) 4 4)).run Try.prog wv = .ok (.slice (some ⟨wb.heap.size, 0, none⟩) 4 4) wz := by rw [hwz]; exact convert_const wv _ _ #[.int .u8 118, .int .u8 111, .int .u8 116, .int .u8 101] _ 4 4 HV.out Try.underlying27 Try.underlying5
        have hfz := freeze_cells wv ⟨wb.heap.size, 4, none⟩ 1
        rw [← hwz] at hfz
        have BX := Lib.hid (freeze_below BX.out HG.out hfz)
        (try have R1 := Lib.hid (rd_same R1.out hfz.1 hfz.2.1))
        (try have R2 := Lib.hid (rd_same R2.out hfz.1 hfz.2.1))
        (try have RB := Lib.hid (rd_same RB.out hfz.1 hfz.2.1))
        have RV := Lib.hid (rd_same RV.out hfz.1 hfz.2.1)
        clear hwz hfz HV HG
        go_simp
        refine hK.out _ _ (KP.out _ BX.out) (fun hHeld => ?_)
        clear hK K kcv
        try simp only [Act.put, List.setIfInBounds_toArray, List.set_cons_zero, List.set_cons_succ]
        refine wpAnyH_ready (rs := [8]) (by kernel_rfl) (by simp) ?_
        refine AllReadyH.cons (o := _) rfl (fun K hK => ?_) (AllReadyH.nil)
        go_simp
        go_at_call 30
        refine (CP1.out _).mono ?_
        rintro y w1 ⟨A1, c1, rfl, hc1, o1, b1⟩
        have BX := Lib.hid (BX.out.trans (b1.mono BX.out.size))
        (try have R1 := Lib.hid ((R1.out.below b1 (Nat.le_refl _)).wide (Nat.le_refl _) b1.size))
        (try have R2 := Lib.hid ((R2.out.below b1 (Nat.le_refl _)).wide (Nat.le_refl _) b1.size))
        (try have RB := Lib.hid ((RB.out.below b1 (Nat.le_refl _)).wide (Nat.le_refl _) b1.size))
        (try have RV := Lib.hid ((RV.out.below b1 (Nat.le_refl _)).wide (Nat.le_refl _) b1.size))
        (try have HV := Lib.hid ((b1.block _ (heap_in HV.out)).trans HV.out))
        have R1 := Lib.hid (o1.rd.wide (Nat.zero_le _) (Nat.le_refl _))
        clear o1
        clear b1
        go_simp
        refine hK.out _ _ (KP.out _ BX.out) (fun hHeld => ?_)
        clear hK K
        try simp only [Act.put, List.setIfInBounds_toArray, List.set_cons_zero, List.set_cons_succ]
        refine wpAnyH_ready (rs := [11]) (by kernel_rfl) (by simp) ?_
        refine AllReadyH.cons (o := _) rfl (fun K hK => ?_) (AllReadyH.nil)
        go_simp
        go_at_call 30
        refine (CP2.out _).mono ?_
        rintro y w2 ⟨A2, c2, rfl, hc2, o2, b2⟩
        have BX := Lib.hid (BX.out.trans (b2.mono BX.out.size))
        (try have R1 := Lib.hid ((R1.out.below b2 (Nat.le_refl _)).wide (Nat.le_refl _) b2.size))
        (try have R2 := Lib.hid ((R2.out.below b2 (Nat.le_refl _)).wide (Nat.le_refl _) b2.size))
        (try have RB := Lib.hid ((RB.out.below b2 (Nat.le_refl _)).wide (Nat.le_refl _) b2.size))
        (try have RV := Lib.hid ((RV.out.below b2 (Nat.le_refl _)).wide (Nat.le_refl _) b2.size))
        (try have HV := Lib.hid ((b2.block _ (heap_in HV.out)).trans HV.out))
        have R2 := Lib.hid (o2.rd.wide (Nat.zero_le _) (Nat.le_refl _))
        clear o2
        clear b2
        go_simp
        refine hK.out _ _ (KP.out _ BX.out) (fun hHeld => ?_)
        clear hK K
        try simp only [Act.put, List.setIfInBounds_toArray, List.set_cons_zero, List.set_cons_succ]
        refine wpAnyH_ready (rs := [12]) (by kernel_rfl) (by simp) ?_
        refine AllReadyH.cons (o := _) rfl (fun K hK => ?_) AllReadyH.nil
        go_simp
        refine hK.out _ _ (KP.out _ (BX.out.alloc BX.out.size _)) (fun hHeld => ?_)
        clear hK K
        try simp only [Act.put, List.setIfInBounds_toArray, List.set_cons_zero, List.set_cons_succ]
        refine wpAnyH_ready (rs := [13]) (by kernel_rfl) (by simp) ?_
        refine AllReadyH.cons (o := _) rfl (fun K hK => ?_) AllReadyH.nil
        go_simp
        go_at_call 29
        refine (joinRL [(some ⟨wb.heap.size, 0, none⟩, 4, voteSignL), (some ⟨W.heap.size, 0, none⟩, 1, putL n 1), (A1, c1, ptL e1 l1), (A2, c2, ptL e2 l2)] w2 _ (by simp [putL_length, voteSignL]) (fun x hx => by
            simp only [List.mem_cons, List.not_mem_nil, or_false] at hx
            rcases hx with rfl | rfl | rfl | rfl
            · exact RV.out
            · exact RB.out
            · exact R1.out
            · exact R2.out) 4 rfl (by simp) (by have h1 := HP1.out; have h2 := HP2.out; simp [flat, putL_length, h1, h2, voteSignL])).mono ?_
        rintro y w4 ⟨A4, c4, rfl, hc4, ha4, o4, b4⟩
        have HX3 := Lib.hid BX.out.size
        have BX := Lib.hid (BX.out.trans (b4.mono BX.out.size))
        clear b4
        go_simp
        refine hK.out _ _ (KP.out _ BX.out) (fun hHeld => ?_)
        clear hK K
        try simp only [Act.put, List.setIfInBounds_toArray, List.set_cons_zero, List.set_cons_succ]
        refine takeH (i := 14) (d := 2) (oi := _) (v := .slice A4 (flat [(some ⟨wb.heap.size, 0, none⟩, 4, voteSignL), (some ⟨W.heap.size, 0, none⟩, 1, putL n 1), (A1, c1, ptL e1 l1), (A2, c2, ptL e2 l2)]).length c4) rfl (by kernel_rfl) (by kernel_rfl) (by kernel_rfl) (by kernel_rfl) (fun _ _ _ h => h) (Or.inl ⟨by rfl, by intro u hSw; go_simp⟩) hHeld ?_
        try simp only [List.setIfInBounds_toArray, List.set_cons_zero, List.set_cons_succ]
        refine wpAnyH_done (by kernel_rfl) ?_ _
        refine NoPanic.normal ?_
        apply hK1
        clear hK1 K1
        go_wp2_with fail
        go_ret
        have hf : flat [(some ⟨wb.heap.size, 0, none⟩, 4, voteSignL), (some ⟨W.heap.size, 0, none⟩, 1, putL n 1), (A1, c1, ptL e1 l1), (A2, c2, ptL e2 l2)] = txL n e1 l1 e2 l2 := by simp [flat, txL, lkL]
        rw [hf] at hc4 o4 ⊢
        exact ⟨A4, c4, rfl, hc4, o4.wide (Nat.le_trans HB.out.size HX3.out) (Nat.le_refl _), hdBelow HB.out BX.out⟩
      · go_simp
        go_at_call 30
        refine (CP1.out _).mono ?_
        rintro y w1 ⟨A1, c1, rfl, hc1, o1, b1⟩
        have BX := Lib.hid (BX.out.trans (b1.mono BX.out.size))
        (try have R1 := Lib.hid ((R1.out.below b1 (Nat.le_refl _)).wide (Nat.le_refl _) b1.size))
        (try have R2 := Lib.hid ((R2.out.below b1 (Nat.le_refl _)).wide (Nat.le_refl _) b1.size))
        (try have RB := Lib.hid ((RB.out.below b1 (Nat.le_refl _)).wide (Nat.le_refl _) b1.size))
        (try have RV := Lib.hid ((RV.out.below b1 (Nat.le_refl _)).wide (Nat.le_refl _) b1.size))
        (try have HV := Lib.hid ((b1.block _ (heap_in HV.out)).trans HV.out))
        have R1 := Lib.hid (o1.rd.wide (Nat.zero_le _) (Nat.le_refl _))
        clear o1
        clear b1
        go_simp
        refine hK.out _ _ (KP.out _ BX.out) (fun hHeld => ?_)
        clear hK K
        try simp only [Act.put, List.setIfInBounds_toArray, List.set_cons_zero, List.set_cons_succ]
        refine wpAnyH_ready (rs := [1, 11]) (by kernel_rfl) (by simp) ?_
        refine AllReadyH.cons (o := _) rfl (fun K hK => ?_) (AllReadyH.cons (o := _) rfl (fun K hK => ?_) (AllReadyH.nil))
        · obtain ⟨wz, hwz⟩ : ∃ wz, wz = w1.freeze ⟨wb.heap.size, 4, none⟩ 1 := ⟨_, rfl⟩
          have kcv : (convert 27 27 (.slice (some ⟨wb.heap.size, 0, none⟩) 4 4)).run Try.prog w1 = .ok (.slice (some ⟨wb.heap.size, 0, none⟩) 4 4) wz := by rw [hwz]; exact convert_const w1 _ _ #[.int .u8 118, .int .u8 111, .int .u8 116, .int .u8 101] _ 4 4 HV.out Try.underlying27 Try.underlying5
          have hfz := freeze_cells w1 ⟨wb.heap.size, 4, none⟩ 1
          rw [← hwz] at hfz
          have BX := Lib.hid (freeze_below BX.out HG.out hfz)
          (try have R1 := Lib.hid (rd_same R1.out hfz.1 hfz.2.1))
          (try have R2 := Lib.hid (rd_same R2.out hfz.1 hfz.2.1))
          (try have RB := Lib.hid (rd_same RB.out hfz.1 hfz.2.1))
          have RV := Lib.hid (rd_same RV.out hfz.1 hfz.2.1)
          clear hwz hfz HV HG
          go_simp
          refine hK.out _ _ (KP.out _ BX.out) (fun hHeld => ?_)
          clear hK K kcv
          try simp only [Act.put, List.setIfInBounds_toArray, List.set_cons_zero, List.set_cons_succ]
          refine wpAnyH_ready (rs := [11]) (by kernel_rfl) (by simp) ?_
          refine AllReadyH.cons (o := _) rfl (fun K hK => ?_) (AllReadyH.nil)
          go_simp
          go_at_call 30
          refine (CP2.out _).mono ?_
          rintro y w2 ⟨A2, c2, rfl, hc2, o2, b2⟩
          have BX := Lib.hid (BX.out.trans (b2.mono BX.out.size))
          (try have R1 := Lib.hid ((R1.out.below b2 (Nat.le_refl _)).wide (Nat.le_refl _) b2.size))
          (try have R2 := Lib.hid ((R2.out.below b2 (Nat.le_refl _)).wide (Nat.le_refl _) b2.size))
          (try have RB := Lib.hid ((RB.out.below b2 (Nat.le_refl _)).wide (Nat.le_refl _) b2.size))
          (try have RV := Lib.hid ((RV.out.below b2 (Nat.le_refl _)).wide (Nat.le_refl _) b2.size))
          (try have HV := Lib.hid ((b2.block _ (heap_in HV.out)).trans HV.out))
          have R2 := Lib.hid (o2.rd.wide (Nat.zero_le _) (Nat.le_refl _))
          clear o2
          clear b2
          go_simp
          refine hK.out _ _ (KP.out _ BX.out) (fun hHeld => ?_)
          clear hK K
          try simp only [Act.put, List.setIfInBounds_toArray, List.set_cons_zero, List.set_cons_succ]
          refine wpAnyH_ready (rs := [12]) (by kernel_rfl) (by simp) ?_
          refine AllReadyH.cons (o := _) rfl (fun K hK => ?_) AllReadyH.nil
          go_simp
          refine hK.out _ _ (KP.out _ (BX.out.alloc BX.out.size _)) (fun hHeld => ?_)
          clear hK K
          try simp only [Act.put, List.setIfInBounds_toArray, List.set_cons_zero, List.set_cons_succ]
          refine wpAnyH_ready (rs := [13]) (by kernel_rfl) (by simp) ?_
          refine AllReadyH.cons (o := _) rfl (fun K hK => ?_) AllReadyH.nil
          go_simp
          go_at_call 29
          refine (joinRL [(some ⟨wb.heap.size, 0, none⟩, 4, voteSignL), (some ⟨W.heap.size, 0, none⟩, 1, putL n 1), (A1, c1, ptL e1 l1), (A2, c2, ptL e2 l2)] w2 _ (by simp [putL_length, voteSignL]) (fun x hx => by
              simp only [List.mem_cons, List.not_mem_nil, or_false] at hx
              rcases hx with rfl | rfl | rfl | rfl
              · exact RV.out
              · exact RB.out
              · exact R1.out
              · exact R2.out) 4 rfl (by simp) (by have h1 := HP1.out; have h2 := HP2.out; simp [flat, putL_length, h1, h2, voteSignL])).mono ?_
          rintro y w4 ⟨A4, c4, rfl, hc4, ha4, o4, b4⟩
          have HX3 := Lib.hid BX.out.size
          have BX := Lib.hid (BX.out.trans (b4.mono BX.out.size))
          clear b4
          go_simp
          refine hK.out _ _ (KP.out _ BX.out) (fun hHeld => ?_)
          clear hK K
          try simp only [Act.put, List.setIfInBounds_toArray, List.set_cons_zero, List.set_cons_succ]
          refine takeH (i := 14) (d := 2) (oi := _) (v := .slice A4 (flat [(some ⟨wb.heap.size, 0, none⟩, 4, voteSignL), (some ⟨W.heap.size, 0, none⟩, 1, putL n 1), (A1, c1, ptL e1 l1), (A2, c2, ptL e2 l2)]).length c4) rfl (by kernel_rfl) (by kernel_rfl) (by kernel_rfl) (by kernel_rfl) (fun _ _ _ h => h) (Or.inl ⟨by rfl, by intro u hSw; go_simp⟩) hHeld ?_
          try simp only [List.setIfInBounds_toArray, List.set_cons_zero, List.set_cons_succ]
          refine wpAnyH_done (by kernel_rfl) ?_ _
          refine NoPanic.normal ?_
          apply hK1
          clear hK1 K1
          go_wp2_with fail
          go_ret
          have hf : flat [(some ⟨wb.heap.size, 0, none⟩, 4, voteSignL), (some ⟨W.heap.size, 0, none⟩, 1, putL n 1), (A1, c1, ptL e1 l1), (A2, c2, ptL e2 l2)] = txL n e1 l1 e2 l2 := by simp [flat, txL, lkL]
          rw [hf] at hc4 o4 ⊢
          exact ⟨A4, c4, rfl, hc4, o4.wide (Nat.le_trans HB.out.size HX3.out) (Nat.le_refl _), hdBelow HB.out BX.out⟩
        · go_simp
          go_at_call 30
          refine (CP2.out _).mono ?_
          rintro y w2 ⟨A2, c2, rfl, hc2, o2, b2⟩
          have BX := Lib.hid (BX.out.trans (b2.mono BX.out.size))
          (try have R1 := Lib.hid ((R1.out.below b2 (Nat.le_refl _)).wide (Nat.le_refl _) b2.size))
          (try have R2 := Lib.hid ((R2.out.below b2 (Nat.le_refl _)).wide (Nat.le_refl _) b2.size))
          (try have RB := Lib.hid ((RB.out.below b2 (Nat.le_refl _)).wide (Nat.le_refl _) b2.size))
          (try have RV := Lib.hid ((RV.out.below b2 (Nat.le_refl _)).wide (Nat.le_refl _) b2.size))
          (try have HV := Lib.hid ((b2.block _ (heap_in HV.out)).trans HV.out))
          have R2 := Lib.hid (o2.rd.wide (Nat.zero_le _) (Nat.le_refl _))
          clear o2
          clear b2
          go_simp
          refine hK.out _ _ (KP.out _ BX.out) (fun hHeld => ?_)
          clear hK K
          try simp only [Act.put, List.setIfInBounds_toArray, List.set_cons_zero, List.set_cons_succ]
          refine wpAnyH_ready (rs := [1]) (by kernel_rfl) (by simp) ?_
          refine AllReadyH.cons (o := _) rfl (fun K hK => ?_) (AllReadyH.nil)
          obtain ⟨wz, hwz⟩ : ∃ wz, wz = w2.freeze ⟨wb.heap.size, 4, none⟩ 1 := ⟨_, rfl⟩
          have kcv : (convert 27 27 (.slice (some ⟨wb.heap.size, 0, none⟩) 4 4)).run Try.prog w2 = .ok (.slice (some ⟨wb.heap.size, 0, none⟩) 4 4) wz := by rw [hwz]; exact convert_const w2 _ _ #[.int .u8 118, .int .u8 111, .int .u8 116, .int .u8 101] _ 4 4 HV.out Try.underlying27 Try.underlying5
          have hfz := freeze_cells w2 ⟨wb.heap.size, 4, none⟩ 1
          rw [← hwz] at hfz
          have BX := Lib.hid (freeze_below BX.out HG.out hfz)
          (try have R1 := Lib.hid (rd_same R1.out hfz.1 hfz.2.1))
          (try have R2 := Lib.hid (rd_same R2.out hfz.1 hfz.2.1))
          (try have RB := Lib.hid (rd_same RB.out hfz.1 hfz.2.1))
          have RV := Lib.hid (rd_same RV.out hfz.1 hfz.2.1)
          clear hwz hfz HV HG
          go_simp
          refine hK.out _ _ (KP.out _ BX.out) (fun hHeld => ?_)
          clear hK K kcv
          try simp only [Act.put, List.setIfInBounds_toArray, List.set_cons_zero, List.set_cons_succ]
          refine wpAnyH_ready (rs := [12]) (by kernel_rfl) (by simp) ?_
          refine AllReadyH.cons (o := _) rfl (fun K hK => ?_) AllReadyH.nil
          go_simp
          refine hK.out _ _ (KP.out _ (BX.out.alloc BX.out.size _)) (fun hHeld => ?_)
          clear hK K
          try simp only [Act.put, List.setIfInBounds_toArray, List.set_cons_zero, List.set_cons_succ]
          refine wpAnyH_ready (rs := [13]) (by kernel_rfl) (by simp) ?_
          refine AllReadyH.cons (o := _) rfl (fun K hK => ?_) AllReadyH.nil
          go_simp
          go_at_call 29
          refine (joinRL [(some ⟨wb.heap.size, 0, none⟩, 4, voteSignL), (some ⟨W.heap.size, 0, none⟩, 1, putL n 1), (A1, c1, ptL e1 l1), (A2, c2, ptL e2 l2)] wz _ (by simp [putL_length, voteSignL]) (fun x hx => by
              simp only [List.mem_cons, List.not_mem_nil, or_false] at hx
              rcases hx with rfl | rfl | rfl | rfl
              · exact RV.out
              · exact RB.out
              · exact R1.out
              · exact R2.out) 4 rfl (by simp) (by have h1 := HP1.out; have h2 := HP2.out; simp [flat, putL_length, h1, h2, voteSignL])).mono ?_
          rintro y w4 ⟨A4, c4, rfl, hc4, ha4, o4, b4⟩
          have HX3 := Lib.hid BX.out.size
          have BX := Lib.hid (BX.out.trans (b4.mono BX.out.size))
          clear b4
          go_simp
          refine hK.out _ _ (KP.out _ BX.out) (fun hHeld => ?_)
          clear hK K
          try simp only [Act.put, List.setIfInBounds_toArray, List.set_cons_zero, List.set_cons_succ]
          refine takeH (i := 14) (d := 2) (oi := _) (v := .slice A4 (flat [(some ⟨wb.heap.size, 0, none⟩, 4, voteSignL), (some ⟨W.heap.size, 0, none⟩, 1, putL n 1), (A1, c1, ptL e1 l1), (A2, c2, ptL e2 l2)]).length c4) rfl (by kernel_rfl) (by kernel_rfl) (by kernel_rfl) (by kernel_rfl) (fun _ _ _ h => h) (Or.inl ⟨by rfl, by intro u hSw; go_simp⟩) hHeld ?_
          try simp only [List.setIfInBounds_toArray, List.set_cons_zero, List.set_cons_succ]
          refine wpAnyH_done (by kernel_rfl) ?_ _
          refine NoPanic.normal ?_
          apply hK1
          clear hK1 K1
          go_wp2_with fail
          go_ret
          have hf : flat [(some ⟨wb.heap.size, 0, none⟩, 4, voteSignL), (some ⟨W.heap.size, 0, none⟩, 1, putL n 1), (A1, c1, ptL e1 l1), (A2, c2, ptL e2 l2)] = txL n e1 l1 e2 l2 := by simp [flat, txL, lkL]
          rw [hf] at hc4 o4 ⊢
          exact ⟨A4, c4, rfl, hc4, o4.wide (Nat.le_trans HB.out.size HX3.out) (Nat.le_refl _), hdBelow HB.out BX.out⟩
    · go_simp
      go_at_call 30
      refine (CP1.out _).mono ?_
      rintro y w1 ⟨A1, c1, rfl, hc1, o1, b1⟩
      have BX := Lib.hid (BX.out.trans (b1.mono BX.out.size))
      (try have R1 := Lib.hid ((R1.out.below b1 (Nat.le_refl _)).wide (Nat.le_refl _) b1.size))
      (try have R2 := Lib.hid ((R2.out.below b1 (Nat.le_refl _)).wide (Nat.le_refl _) b1.size))
      (try have RB := Lib.hid ((RB.out.below b1 (Nat.le_refl _)).wide (Nat.le_refl _) b1.size))
      (try have RV := Lib.hid ((RV.out.below b1 (Nat.le_refl _)).wide (Nat.le_refl _) b1.size))
      (try have HV := Lib.hid ((b1.block _ (heap_in HV.out)).trans HV.out))
      have R1 := Lib.hid (o1.rd.wide (Nat.zero_le _) (Nat.le_refl _))
      clear o1
      clear b1
      go_simp
      refine hK.out _ _ (KP.out _ BX.out) (fun hHeld => ?_)
      clear hK K
      try simp only [Act.put, List.setIfInBounds_toArray, List.set_cons_zero, List.set_cons_succ]
      refine wpAnyH_ready (rs := [0, 11]) (by kernel_rfl) (by simp) ?_
      refine AllReadyH.cons (o := _) rfl (fun K hK => ?_) (AllReadyH.cons (o := _) rfl (fun K hK => ?_) (AllReadyH.nil))
      · go_simp
        obtain ⟨wv, hwv⟩ : ∃ wv, wv = w1.alloc (.cells #[.int .u8 118, .int .u8 111, .int .u8 116, .int .u8 101] 5) := ⟨_, rfl⟩
        have bb : Below w1.heap.size w1 wv := by
          rw [hwv]
          skip
          exact (Below.refl _ _).alloc (Nat.le_refl _) _
        have hh : wv.heap[w1.heap.size]? = some (.cells #[.int .u8 118, .int .u8 111, .int .u8 116, .int .u8 101] 5 (0, 0)) := by rw [hwv]; exact heap_alloc_new w1 _
        have HG := Lib.hid (show W.heap.size ≤ w1.heap.size from BX.out.size)
        have BX := Lib.hid (BX.out.trans (bb.mono BX.out.size))
        (try have R1 := Lib.hid ((R1.out.below bb (Nat.le_refl _)).wide (Nat.le_refl _) bb.size))
        (try have R2 := Lib.hid ((R2.out.below bb (Nat.le_refl _)).wide (Nat.le_refl _) bb.size))
        (try have RB := Lib.hid ((RB.out.below bb (Nat.le_refl _)).wide (Nat.le_refl _) bb.size))
        (try have RV := Lib.hid ((RV.out.below bb (Nat.le_refl _)).wide (Nat.le_refl _) bb.size))
        (try have HV := Lib.hid ((bb.block _ (heap_in HV.out)).trans HV.out))
        have RV : Hid (Rd wv 0 wv.heap.size (some ⟨w1.heap.size, 0, none⟩) voteSignL) := signBytes hh
        have HV := Lib.hid hh
        rw [← hwv]
        clear bb hh hwv
        refine hK.out _ _ (KP.out _ BX.out) (fun hHeld => ?_)
        clear hK K
        try simp only [Act.put, List.setIfInBounds_toArray, List.set_cons_zero, List.set_cons_succ]
        refine wpAnyH_ready (rs := [1, 11]) (by kernel_rfl) (by simp) ?_
        refine AllReadyH.cons (o := _) rfl (fun K hK => ?_) (AllReadyH.cons (o := _) rfl (fun K hK => ?_) (AllReadyH.nil))
        · obtain ⟨wz, hwz⟩ : ∃ wz, wz = wv.freeze ⟨w1.heap.size, 4, none⟩ 1 := ⟨_, rfl⟩
          have kcv : (convert 27 27 (.slice (some ⟨w1.heap.size, 0, none⟩) 4 4)).run Try.prog wv = .ok (.slice (some ⟨w1.heap.size, 0, none⟩) 4 4) wz := by rw [hwz]; exact convert_const wv _ _ #[.int .u8 118, .int .u8 111, .int .u8 116, .int .u8 101] _ 4 4 HV.out Try.underlying27 Try.underlying5
          have hfz := freeze_cells wv ⟨w1.heap.size, 4, none⟩ 1
          rw [← hwz] at hfz
          have BX := Lib.hid (freeze_below BX.out HG.out hfz)
          (try have R1 := Lib.hid (rd_same R1.out hfz.1 hfz.2.1))
          (try have R2 := Lib.hid (rd_same R2.out hfz.1 hfz.2.1))
          (try have RB := Lib.hid (rd_same RB.out hfz.1 hfz.2.1))
          have RV := Lib.hid (rd_same RV.out hfz.1 hfz.2.1)
          clear hwz hfz HV HG
          go_simp
          refine hK.out _ _ (KP.out _ BX.out) (fun hHeld => ?_)
          clear hK K kcv
          try simp only [Act.put, List.setIfInBounds_toArray, List.set_cons_zero, List.set_cons_succ]
          refine wpAnyH_ready (rs := [11]) (by kernel_rfl) (by simp) ?_
          refine AllReadyH.cons (o := _) rfl (fun K hK => ?_) (AllReadyH.nil)
          go_simp
          go_at_call 30
          refine (CP2.out _).mono ?_
          rintro y w2 ⟨A2, c2, rfl, hc2, o2, b2⟩
          have BX := Lib.hid (BX.out.trans (b2.mono BX.out.size))
          (try have R1 := Lib.hid ((R1.out.below b2 (Nat.le_refl _)).wide (Nat.le_refl _) b2.size))
          (try have R2 := Lib.hid ((R2.out.below b2 (Nat.le_refl _)).wide (Nat.le_refl _) b2.size))
          (try have RB := Lib.hid ((RB.out.below b2 (Nat.le_refl _)).wide (Nat.le_refl _) b2.size))
          (try have RV := Lib.hid ((RV.out.below b2 (Nat.le_refl _)).wide (Nat.le_refl _) b2.size))
          (try have HV := Lib.hid ((b2.block _ (heap_in HV.out)).trans HV.out))
          have R2 := Lib.hid (o2.rd.wide (Nat.zero_le _) (Nat.le_refl _))
          clear o2
          clear b2
          go_simp
          refine hK.out _ _ (KP.out _ BX.out) (fun hHeld => ?_)
          clear hK K
          try simp only [Act.put, List.setIfInBounds_toArray, List.set_cons_zero, List.set_cons_succ]
          refine wpAnyH_ready (rs := [12]) (by kernel_rfl) (by simp) ?_
          refine AllReadyH.cons (o := _) rfl (fun K hK => ?_) AllReadyH.nil
          go_simp
          refine hK.out _ _ (KP.out _ (BX.out.alloc BX.out.size _)) (fun hHeld => ?_)
          clear hK K
          try simp only [Act.put, List.setIfInBounds_toArray, List.set_cons_zero, List.set_cons_succ]
          refine wpAnyH_ready (rs := [13]) (by kernel_rfl) (by simp) ?_
          refine AllReadyH.cons (o := _) rfl (fun K hK => ?_) AllReadyH.nil
          go_simp
          go_at_call 29
          refine (joinRL [(some ⟨w1.heap.size, 0, none⟩, 4, voteSignL), (some ⟨W.heap.size, 0, none⟩, 1, putL n 1), (A1, c1, ptL e1 l1), (A2, c2, ptL e2 l2)] w2 _ (by simp [putL_length, voteSignL]) (fun x hx => by
              simp only [List.mem_cons, List.not_mem_nil, or_false] at hx
              rcases hx with rfl | rfl | rfl | rfl
              · exact RV.out
              · exact RB.out
              · exact R1.out
              · exact R2.out) 4 rfl (by simp) (by have h1 := HP1.out; have h2 := HP2.out; simp [flat, putL_length, h1, h2, voteSignL])).mono ?_
          rintro y w4 ⟨A4, c4, rfl, hc4, ha4, o4, b4⟩
          have HX3 := Lib.hid BX.out.size
          have BX := Lib.hid (BX.out.trans (b4.mono BX.out.size))
          clear b4
          go_simp
          refine hK.out _ _ (KP.out _ BX.out) (fun hHeld => ?_)
          clear hK K
          try simp only [Act.put, List.setIfInBounds_toArray, List.set_cons_zero, List.set_cons_succ]
          refine takeH (i := 14) (d := 2) (oi := _) (v := .slice A4 (flat [(some ⟨w1.heap.size, 0, none⟩, 4, voteSignL), (some ⟨W.heap.size, 0, none⟩, 1, putL n 1), (A1, c1, ptL e1 l1), (A2, c2, ptL e2 l2)]).length c4) rfl (by kernel_rfl) (by kernel_rfl) (by kernel_rfl) (by kernel_rfl) (fun _ _ _ h => h) (Or.inl ⟨by rfl, by intro u hSw; go_simp⟩) hHeld ?_
          try simp only [List.setIfInBounds_toArray, List.set_cons_zero, List.set_cons_succ]
          refine wpAnyH_done (by kernel_rfl) ?_ _
          refine NoPanic.normal ?_
          apply hK1
          clear hK1 K1
          go_wp2_with fail
          go_ret
          have hf : flat [(some ⟨w1.heap.size, 0, none⟩, 4, voteSignL), (some ⟨W.heap.size, 0, none⟩, 1, putL n 1), (A1, c1, ptL e1 l1), (A2, c2, ptL e2 l2)] = txL n e1 l1 e2 l2 := by simp [flat, txL, lkL]
          rw [hf] at hc4 o4 ⊢
          exact ⟨A4, c4, rfl, hc4, o4.wide (Nat.le_trans HB.out.size HX3.out) (Nat.le_refl _), hdBelow HB.out BX.out⟩
        · go_simp
          go_at_call 30
          refine (CP2.out _).mono ?_
          rintro y w2 ⟨A2, c2, rfl, hc2, o2, b2⟩
          have BX := Lib.hid (BX.out.trans (b2.mono BX.out.size))
          (try have R1 := Lib.hid ((R1.out.below b2 (Nat.le_refl _)).wide (Nat.le_refl _) b2.size))
          (try have R2 := Lib.hid ((R2.out.below b2 (Nat.le_refl _)).wide (Nat.le_refl _) b2.size))
          (try have RB := Lib.hid ((RB.out.below b2 (Nat.le_refl _)).wide (Nat.le_refl _) b2.size))
          (try have RV := Lib.hid ((RV.out.below b2 (Nat.le_refl _)).wide (Nat.le_refl _) b2.size))
          (try have HV := Lib.hid ((b2.block _ (heap_in HV.out)).trans HV.out))
          have R2 := Lib.hid (o2.rd.wide (Nat.zero_le _) (Nat.le_refl _))
          clear o2
          clear b2
          go_simp
          refine hK.out _ _ (KP.out _ BX.out) (fun hHeld => ?_)
          clear hK K
          try simp only [Act.put, List.setIfInBounds_toArray, List.set_cons_zero, List.set_cons_succ]
          refine wpAnyH_ready (rs := [1]) (by kernel_rfl) (by simp) ?_
          refine AllReadyH.cons (o := _) rfl (fun K hK => ?_) (AllReadyH.nil)
          obtain ⟨wz, hwz⟩ : ∃ wz, wz = w2.freeze ⟨w1.heap.size, 4, none⟩ 1 := ⟨_, rfl⟩
          have kcv : (convert 27 27 (.slice (some ⟨w1.heap.size, 0, none⟩) 4 4)).run Try.prog w2 = .ok (.slice (some ⟨w1.heap.size, 0, none⟩) 4 4) wz := by rw [hwz]; exact convert_const w2 _ _ #[.int .u8 118, .int .u8 111, .int .u8 116, .int .u8 101] _ 4 4 HV.out Try.underlying27 Try.underlying5
          have hfz := freeze_cells w2 ⟨w1.heap.size, 4, none⟩ 1
          rw [← hwz] at hfz
          have BX := Lib.hid (freeze_below BX.out HG.out hfz)
          (try have R1 := Lib.hid (rd_same R1.out hfz.1 hfz.2.1))
          (try have R2 := Lib.hid (rd_same R2.out hfz.1 hfz.2.1))
          (try have RB := Lib.hid (rd_same RB.out hfz.1 hfz.2.1))
          have RV := Lib.hid (rd_same RV.out hfz.1 hfz.2.1)
          clear hwz hfz HV HG
          go_simp
          refine hK.out _ _ (KP.out _ BX.out) (fun hHeld => ?_)
          clear hK K kcv
          try simp only [Act.put, List.setIfInBounds_toArray, List.set_cons_zero, List.set_cons_succ]
          refine wpAnyH_ready (rs := [12]) (by kernel_rfl) (by simp) ?_
          refine AllReadyH.cons (o := _) rfl (fun K hK => ?_) AllReadyH.nil
          go_simp
          refine hK.out _ _ (KP.out _ (BX.out.alloc BX.out.size _)) (fun hHeld => ?_)
          clear hK K
          try simp only [Act.put, List.setIfInBounds_toArray, List.set_cons_zero, List.set_cons_succ]
          refine wpAnyH_ready (rs := [13]) (by kernel_rfl) (by simp) ?_
          refine AllReadyH.cons (o := _) rfl (fun K hK => ?_) AllReadyH.nil
          go_simp
          go_at_call 29
          refine (joinRL [(some ⟨w1.heap.size, 0, none⟩, 4, voteSignL), (some ⟨W.heap.size, 0, none⟩, 1, putL n 1), (A1, c1, ptL e1 l1), (A2, c2, ptL e2 l2)] wz _ (by simp [putL_length, voteSignL]) (fun x hx => by
              simp only [List.mem_cons, List.not_mem_nil, or_false] at hx
              rcases hx with rfl | rfl | rfl | rfl
              · exact RV.out
              · exact RB.out
              · exact R1.out
              · exact R2.out) 4 rfl (by simp) (by have h1 := HP1.out; have h2 := HP2.out; simp [flat, putL_length, h1, h2, voteSignL])).mono ?_
          rintro y w4 ⟨A4, c4, rfl, hc4, ha4, o4, b4⟩
          have HX3 := Lib.hid BX.out.size
          have BX := Lib.hid (BX.out.trans (b4.mono BX.out.size))
          clear b4
          go_simp
          refine hK.out _ _ (KP.out _ BX.out) (fun hHeld => ?_)
          clear hK K
          try simp only [Act.put, List.setIfInBounds_toArray, List.set_cons_zero, List.set_cons_succ]
          refine takeH (i := 14) (d := 2) (oi := _) (v := .slice A4 (flat [(some ⟨w1.heap.size, 0, none⟩, 4, voteSignL), (some ⟨W.heap.size, 0, none⟩, 1, putL n 1), (A1, c1, ptL e1 l1), (A2, c2, ptL e2 l2)]).length c4) rfl (by kernel_rfl) (by kernel_rfl) (by kernel_rfl) (by kernel_rfl) (fun _ _ _ h => h) (Or.inl ⟨by rfl, by intro u hSw; go_simp⟩) hHeld ?_
          try simp only [List.setIfInBounds_toArray, List.set_cons_zero, List.set_cons_succ]
          refine wpAnyH_done (by kernel_rfl) ?_ _
          refine NoPanic.normal ?_
          apply hK1
          clear hK1 K1
          go_wp2_with fail
          go_ret
          have hf : flat [(some ⟨w1.heap.size, 0, none⟩, 4, voteSignL), (some ⟨W.heap.size, 0, none⟩, 1, putL n 1), (A1, c1, ptL e1 l1), (A2, c2, ptL e2 l2)] = txL n e1 l1 e2 l2 := by simp [flat, txL, lkL]
          rw [hf] at hc4 o4 ⊢
          exact ⟨A4, c4, rfl, hc4, o4.wide (Nat.le_trans HB.out.size HX3.out) (Nat.le_refl _), hdBelow HB.out BX.out⟩
      · go_simp
        go_at_call 30
        refine (CP2.out _).mono ?_
        rintro y w2 ⟨A2, c2, rfl, hc2, o2, b2⟩
        have BX := Lib.hid (BX.out.trans (b2.mono BX.out.size))
        (try have R1 := Lib.hid ((R1.out.below b2 (Nat.le_refl _)).wide (Nat.le_refl _) b2.size))
        (try have R2 := Lib.hid ((R2.out.below b2 (Nat.le_refl _)).wide (Nat.le_refl _) b2.size))
        (try have RB := Lib.hid ((RB.out.below b2 (Nat.le_refl _)).wide (Nat.le_refl _) b2.size))
        (try have RV := Lib.hid ((RV.out.below b2 (Nat.le_refl _)).wide (Nat.le_refl _) b2.size))
        (try have HV := Lib.hid ((b2.block _ (heap_in HV.out)).trans HV.out))
        have R2 := Lib.hid (o2.rd.wide (Nat.zero_le _) (Nat.le_refl _))
        clear o2
        clear b2
        go_simp
        refine hK.out _ _ (KP.out _ BX.out) (fun hHeld => ?_)
        clear hK K
        try simp only [Act.put, List.setIfInBounds_toArray, List.set_cons_zero, List.set_cons_succ]
        refine wpAnyH_ready (rs := [0]) (by kernel_rfl) (by simp) ?_
        refine AllReadyH.cons (o := _) rfl (fun K hK => ?_) (AllReadyH.nil)
        go_simp
        obtain ⟨wv, hwv⟩ : ∃ wv, wv = w2.alloc (.cells #[.int .u8 118, .int .u8 111, .int .u8 116, .int .u8 101] 5) := ⟨_, rfl⟩
        have bb : Below w2.heap.size w2 wv := by
          rw [hwv]
          skip
          exact (Below.refl _ _).alloc (Nat.le_refl _) _
        have hh : wv.heap[w2.heap.size]? = some (.cells #[.int .u8 118, .int .u8 111, .int .u8 116, .int .u8 101] 5 (0, 0)) := by rw [hwv]; exact heap_alloc_new w2 _
        have HG := Lib.hid (show W.heap.size ≤ w2.heap.size from BX.out.size)
        have BX := Lib.hid (BX.out.trans (bb.mono BX.out.size))
        (try have R1 := Lib.hid ((R1.out.below bb (Nat.le_refl _)).wide (Nat.le_refl _) bb.size))
        (try have R2 := Lib.hid ((R2.out.below bb (Nat.le_refl _)).wide (Nat.le_refl _) bb.size))
        (try have RB := Lib.hid ((RB.out.below bb (Nat.le_refl _)).wide (Nat.le_refl _) bb.size))
        (try have RV := Lib.hid ((RV.out.below bb (Nat.le_refl _)).wide (Nat.le_refl _) bb.size))
        (try have HV := Lib.hid ((bb.block _ (heap_in HV.out)).trans HV.out))
        have RV : Hid (Rd wv 0 wv.heap.size (some ⟨w2.heap.size, 0, none⟩) voteSignL) := signBytes hh
        have HV := Lib.hid hh
        rw [← hwv]
        clear bb hh hwv
        refine hK.out _ _ (KP.out _ BX.out) (fun hHeld => ?_)
        clear hK K
        try simp only [Act.put, List.setIfInBounds_toArray, List.set_cons_zero, List.set_cons_succ]
        refine wpAnyH_ready (rs := [1]) (by kernel_rfl) (by simp) ?_
        refine AllReadyH.cons (o := _) rfl (fun K hK => ?_) (AllReadyH.nil)
        obtain ⟨wz, hwz⟩ : ∃ wz, wz = wv.freeze ⟨w2.heap.size, 4, none⟩ 1 := ⟨_, rfl⟩
        have kcv : (convert 27 27 (.slice (some ⟨w2.heap.size, 0, none⟩) 4 4)).run Try.prog wv = .ok (.slice (some ⟨w2.heap.size, 0, none⟩) 4 4) wz := by rw [hwz]; exact convert_const wv _ _ #[.int .u8 118, .int .u8 111, .int .u8 116, .int .u8 101] _ 4 4 HV.out Try.underlying27 Try.underlying5
        have hfz := freeze_cells wv ⟨w2.heap.size, 4, none⟩ 1
        rw [← hwz] at hfz
        have BX := Lib.hid (freeze_below BX.out HG.out hfz)
        (try have R1 := Lib.hid (rd_same R1.out hfz.1 hfz.2.1))
        (try have R2 := Lib.hid (rd_same R2.out hfz.1 hfz.2.1))
        (try have RB := Lib.hid (rd_same RB.out hfz.1 hfz.2.1))
        have RV := Lib.hid (rd_same RV.out hfz.1 hfz.2.1)
        clear hwz hfz HV HG
        go_simp
        refine hK.out _ _ (KP.out _ BX.out) (fun hHeld => ?_)
        clear hK K kcv
        try simp only [Act.put, List.setIfInBounds_toArray, List.set_cons_zero, List.set_cons_succ]
        refine wpAnyH_ready (rs := [12]) (by kernel_rfl) (by simp) ?_
        refine AllReadyH.cons (o := _) rfl (fun K hK => ?_) AllReadyH.nil
        go_simp
        refine hK.out _ _ (KP.out _ (BX.out.alloc BX.out.size _)) (fun hHeld => ?_)
        clear hK K
        try simp only [Act.put, List.setIfInBounds_toArray, List.set_cons_zero, List.set_cons_succ]
        refine wpAnyH_ready (rs := [13]) (by kernel_rfl) (by simp) ?_
        refine AllReadyH.cons (o := _) rfl (fun K hK => ?_) AllReadyH.nil
        go_simp
        go_at_call 29
        refine (joinRL [(some ⟨w2.heap.size, 0, none⟩, 4, voteSignL), (some ⟨W.heap.size, 0, none⟩, 1, putL n 1), (A1, c1, ptL e1 l1), (A2, c2, ptL e2 l2)] wz _ (by simp [putL_length, voteSignL]) (fun x hx => by
            simp only [List.mem_cons, List.not_mem_nil, or_false] at hx
            rcases hx with rfl | rfl | rfl | rfl
            · exact RV.out
            · exact RB.out
            · exact R1.out
            · exact R2.out) 4 rfl (by simp) (by have h1 := HP1.out; have h2 := HP2.out; simp [flat, putL_length, h1, h2, voteSignL])).mono ?_
        rintro y w4 ⟨A4, c4, rfl, hc4, ha4, o4, b4⟩
        have HX3 := Lib.hid BX.out.size
        have BX := Lib.hid (BX.out.trans (b4.mono BX.out.size))
        clear b4
        go_simp
        refine hK.out _ _ (KP.out _ BX.out) (fun hHeld => ?_)
        clear hK K
        try simp only [Act.put, List.setIfInBounds_toArray, List.set_cons_zero, List.set_cons_succ]
        refine takeH (i := 14) (d := 2) (oi := _) (v := .slice A4 (flat [(some ⟨w2.heap.size, 0, none⟩, 4, voteSignL), (some ⟨W.heap.size, 0, none⟩, 1, putL n 1), (A1, c1, ptL e1 l1), (A2, c2, ptL e2 l2)]).length c4) rfl (by kernel_rfl) (by kernel_rfl) (by kernel_rfl) (by kernel_rfl) (fun _ _ _ h => h) (Or.inl ⟨by rfl, by intro u hSw; go_simp⟩) hHeld ?_
        try simp only [List.setIfInBounds_toArray, List.set_cons_zero, List.set_cons_succ]
        refine wpAnyH_done (by kernel_rfl) ?_ _
        refine NoPanic.normal ?_
        apply hK1
        clear hK1 K1
        go_wp2_with fail
        go_ret
        have hf : flat [(some ⟨w2.heap.size, 0, none⟩, 4, voteSignL), (some ⟨W.heap.size, 0, none⟩, 1, putL n 1), (A1, c1, ptL e1 l1), (A2, c2, ptL e2 l2)] = txL n e1 l1 e2 l2 := by simp [flat, txL, lkL]
        rw [hf] at hc4 o4 ⊢
        exact ⟨A4, c4, rfl, hc4, o4.wide (Nat.le_trans HB.out.size HX3.out) (Nat.le_refl _), hdBelow HB.out BX.out⟩
  · go_simp
    go_at_call 30
    refine (CP1.out _).mono ?_
    rintro y w1 ⟨A1, c1, rfl, hc1, o1, b1⟩
    have BX := Lib.hid (BX.out.trans (b1.mono BX.out.size))
    (try have R1 := Lib.hid ((R1.out.below b1 (Nat.le_refl _)).wide (Nat.le_refl _) b1.size))
    (try have R2 := Lib.hid ((R2.out.below b1 (Nat.le_refl _)).wide (Nat.le_refl _) b1.size))
    (try have RB := Lib.hid ((RB.out.below b1 (Nat.le_refl _)).wide (Nat.le_refl _) b1.size))
    (try have RV := Lib.hid ((RV.out.below b1 (Nat.le_refl _)).wide (Nat.le_refl _) b1.size))
    (try have HV := Lib.hid ((b1.block _ (heap_in HV.out)).trans HV.out))
    have R1 := Lib.hid (o1.rd.wide (Nat.zero_le _) (Nat.le_refl _))
    clear o1
    clear b1
    go_simp
    refine hK.out _ _ (KP.out _ BX.out) (fun hHeld => ?_)
    clear hK K
    try simp only [Act.put, List.setIfInBounds_toArray, List.set_cons_zero, List.set_cons_succ]
    refine wpAnyH_ready (rs := [0, 5, 11]) (by kernel_rfl) (by simp) ?_
    refine AllReadyH.cons (o := _) rfl (fun K hK => ?_) (AllReadyH.cons (o := _) rfl (fun K hK => ?_) (AllReadyH.cons (o := _) rfl (fun K hK => ?_) (AllReadyH.nil)))
    · go_simp
      obtain ⟨wv, hwv⟩ : ∃ wv, wv = w1.alloc (.cells #[.int .u8 118, .int .u8 111, .int .u8 116, .int .u8 101] 5) := ⟨_, rfl⟩
      have bb : Below w1.heap.size w1 wv := by
        rw [hwv]
        skip
        exact (Below.refl _ _).alloc (Nat.le_refl _) _
      have hh : wv.heap[w1.heap.size]? = some (.cells #[.int .u8 118, .int .u8 111, .int .u8 116, .int .u8 101] 5 (0, 0)) := by rw [hwv]; exact heap_alloc_new w1 _
      have HG := Lib.hid (show W.heap.size ≤ w1.heap.size from BX.out.size)
      have BX := Lib.hid (BX.out.trans (bb.mono BX.out.size))
      (try have R1 := Lib.hid ((R1.out.below bb (Nat.le_refl _)).wide (Nat.le_refl _) bb.size))
      (try have R2 := Lib.hid ((R2.out.below bb (Nat.le_refl _)).wide (Nat.le_refl _) bb.size))
      (try have RB := Lib.hid ((RB.out.below bb (Nat.le_refl _)).wide (Nat.le_refl _) bb.size))
      (try have RV := Lib.hid ((RV.out.below bb (Nat.le_refl _)).wide (Nat.le_refl _) bb.size))
      (try have HV := Lib.hid ((bb.block _ (heap_in HV.out)).trans HV.out))
      have RV : Hid (Rd wv 0 wv.heap.size (some ⟨w1.heap.size, 0, none⟩) voteSignL) := signBytes hh
      have HV := Lib.hid hh
      rw [← hwv]
      clear bb hh hwv
      refine hK.out _ _ (KP.out _ BX.out) (fun hHeld => ?_)
      clear hK K
      try simp only [Act.put, List.setIfInBounds_toArray, List.set_cons_zero, List.set_cons_succ]
      refine wpAnyH_ready (rs := [1, 5, 11]) (by kernel_rfl) (by simp) ?_
      refine AllReadyH.cons (o := _) rfl (fun K hK => ?_) (AllReadyH.cons (o := _) rfl (fun K hK => ?_) (AllReadyH.cons (o := _) rfl (fun K hK => ?_) (AllReadyH.nil)))
      · obtain ⟨wz, hwz⟩ : ∃ wz, wz = wv.freeze ⟨w1.heap.size, 4, none⟩ 1 := ⟨_, rfl⟩
        have kcv : (convert 27 27 (.slice (some ⟨w1.heap.size, 0, none⟩) 4 4)).run Try.prog wv = .ok (.slice (some ⟨w1.heap.size, 0, none⟩) 4 4) wz := by rw [hwz]; exact convert_const wv _ _ #[.int .u8 118, .int .u8 111, .int .u8 116, .int .u8 101] _ 4 4 HV.out Try.underlying27 Try.underlying5
        have hfz := freeze_cells wv ⟨w1.heap.size, 4, none⟩ 1
        rw [← hwz] at hfz
        have BX := Lib.hid (freeze_below BX.out HG.out hfz)
        (try have R1 := Lib.hid (rd_same R1.out hfz.1 hfz.2.1))
        (try have R2 := Lib.hid (rd_same R2.out hfz.1 hfz.2.1))
        (try have RB := Lib.hid (rd_same RB.out hfz.1 hfz.2.1))
        have RV := Lib.hid (rd_same RV.out hfz.1 hfz.2.1)
        clear hwz hfz HV HG
        go_simp
        refine hK.out _ _ (KP.out _ BX.out) (fun hHeld => ?_)
        clear hK K kcv
        try simp only [Act.put, List.setIfInBounds_toArray, List.set_cons_zero, List.set_cons_succ]
        refine wpAnyH_ready (rs := [5, 11]) (by kernel_rfl) (by simp) ?_
        refine AllReadyH.cons (o := _) rfl (fun K hK => ?_) (AllReadyH.cons (o := _) rfl (fun K hK => ?_) (AllReadyH.nil))
        · go_simp
          obtain ⟨wb, hwb⟩ : ∃ wb, wb = wz.alloc (.cells #[.int .u8 (n : Int)] 5) := ⟨_, rfl⟩
          have bb : Below wz.heap.size wz wb := by
            rw [hwb]
            skip
            exact (Below.refl _ _).alloc (Nat.le_refl _) _
          have hh : wb.heap[wz.heap.size]? = some (.cells #[.int .u8 (n : Int)] 5 (0, 0)) := by rw [hwb]; exact heap_alloc_new wz _
          have BX := Lib.hid (BX.out.trans (bb.mono BX.out.size))
          (try have R1 := Lib.hid ((R1.out.below bb (Nat.le_refl _)).wide (Nat.le_refl _) bb.size))
          (try have R2 := Lib.hid ((R2.out.below bb (Nat.le_refl _)).wide (Nat.le_refl _) bb.size))
          (try have RB := Lib.hid ((RB.out.below bb (Nat.le_refl _)).wide (Nat.le_refl _) bb.size))
          (try have RV := Lib.hid ((RV.out.below bb (Nat.le_refl _)).wide (Nat.le_refl _) bb.size))
          (try have HV := Lib.hid ((bb.block _ (heap_in HV.out)).trans HV.out))
          have RB : Hid (Rd wb 0 wb.heap.size (some ⟨wz.heap.size, 0, none⟩) (putL n 1)) := oneByte n hh HN.out
          rw [← hwb]
          clear bb hh hwb
          refine hK.out _ _ (KP.out _ BX.out) (fun hHeld => ?_)
          clear hK K
          try simp only [Act.put, List.setIfInBounds_toArray, List.set_cons_zero, List.set_cons_succ]
          refine wpAnyH_ready (rs := [11]) (by kernel_rfl) (by simp) ?_
          refine AllReadyH.cons (o := _) rfl (fun K hK => ?_) (AllReadyH.nil)
          go_simp
          go_at_call 30
          refine (CP2.out _).mono ?_
          rintro y w2 ⟨A2, c2, rfl, hc2, o2, b2⟩
          have BX := Lib.hid (BX.out.trans (b2.mono BX.out.size))
          (try have R1 := Lib.hid ((R1.out.below b2 (Nat.le_refl _)).wide (Nat.le_refl _) b2.size))
          (try have R2 := Lib.hid ((R2.out.below b2 (Nat.le_refl _)).wide (Nat.le_refl _) b2.size))
          (try have RB := Lib.hid ((RB.out.below b2 (Nat.le_refl _)).wide (Nat.le_refl _) b2.size))
          (try have RV := Lib.hid ((RV.out.below b2 (Nat.le_refl _)).wide (Nat.le_refl _) b2.size))
          (try have HV := Lib.hid ((b2.block _ (heap_in HV.out)).trans HV.out))
          have R2 := Lib.hid (o2.rd.wide (Nat.zero_le _) (Nat.le_refl _))
          clear o2
          clear b2
          go_simp
          refine hK.out _ _ (KP.out _ BX.out) (fun hHeld => ?_)
          clear hK K
          try simp only [Act.put, List.setIfInBounds_toArray, List.set_cons_zero, List.set_cons_succ]
          refine wpAnyH_ready (rs := [12]) (by kernel_rfl) (by simp) ?_
          refine AllReadyH.cons (o := _) rfl (fun K hK => ?_) AllReadyH.nil
          go_simp
          refine hK.out _ _ (KP.out _ (BX.out.alloc BX.out.size _)) (fun hHeld => ?_)
          clear hK K
          try simp only [Act.put, List.setIfInBounds_toArray, List.set_cons_zero, List.set_cons_succ]
          refine wpAnyH_ready (rs := [13]) (by kernel_rfl) (by simp) ?_
          refine AllReadyH.cons (o := _) rfl (fun K hK => ?_) AllReadyH.nil
          go_simp
          go_at_call 29
          refine (joinRL [(some ⟨w1.heap.size, 0, none⟩, 4, voteSignL), (some ⟨wz.heap.size, 0, none⟩, 1, putL n 1), (A1, c1, ptL e1 l1), (A2, c2, ptL e2 l2)] w2 _ (by simp [putL_length, voteSignL]) (fun x hx => by
              simp only [List.mem_cons, List.not_mem_nil, or_false] at hx
              rcases hx with rfl | rfl | rfl | rfl
              · exact RV.out
              · exact RB.out
              · exact R1.out
              · exact R2.out) 4 rfl (by simp) (by have h1 := HP1.out; have h2 := HP2.out; simp [flat, putL_length, h1, h2, voteSignL])).mono ?_
          rintro y w4 ⟨A4, c4, rfl, hc4, ha4, o4, b4⟩
          have HX3 := Lib.hid BX.out.size
          have BX := Lib.hid (BX.out.trans (b4.mono BX.out.size))
          clear b4
          go_simp
          refine hK.out _ _ (KP.out _ BX.out) (fun hHeld => ?_)
          clear hK K
          try simp only [Act.put, List.setIfInBounds_toArray, List.set_cons_zero, List.set_cons_succ]
          refine takeH (i := 14) (d := 2) (oi := _) (v := .slice A4 (flat [(some ⟨w1.heap.size, 0, none⟩, 4, voteSignL), (some ⟨wz.heap.size, 0, none⟩, 1, putL n 1), (A1, c1, ptL e1 l1), (A2, c2, ptL e2 l2)]).length c4) rfl (by kernel_rfl) (by kernel_rfl) (by kernel_rfl) (by kernel_rfl) (fun _ _ _ h => h) (Or.inl ⟨by rfl, by intro u hSw; go_simp⟩) hHeld ?_
          try simp only [List.setIfInBounds_toArray, List.set_cons_zero, List.set_cons_succ]
          refine wpAnyH_done (by kernel_rfl) ?_ _
          refine NoPanic.normal ?_
          apply hK1
          clear hK1 K1
          go_wp2_with fail
          go_ret
          have hf : flat [(some ⟨w1.heap.size, 0, none⟩, 4, voteSignL), (some ⟨wz.heap.size, 0, none⟩, 1, putL n 1), (A1, c1, ptL e1 l1), (A2, c2, ptL e2 l2)] = txL n e1 l1 e2 l2 := by simp [flat, txL, lkL]
          rw [hf] at hc4 o4 ⊢
          exact ⟨A4, c4, rfl, hc4, o4.wide (Nat.le_trans HB.out.size HX3.out) (Nat.le_refl _), hdBelow HB.out BX.out⟩
        · go_simp
          go_at_call 30
          refine (CP2.out _).mono ?_
          rintro y w2 ⟨A2, c2, rfl, hc2, o2, b2⟩
          have BX := Lib.hid (BX.out.trans (b2.mono BX.out.size))
          (try have R1 := Lib.hid ((R1.out.below b2 (Nat.le_refl _)).wide (Nat.le_refl _) b2.size))
          (try have R2 := Lib.hid ((R2.out.below b2 (Nat.le_refl _)).wide (Nat.le_refl _) b2.size))
          (try have RB := Lib.hid ((RB.out.below b2 (Nat.le_refl _)).wide (Nat.le_refl _) b2.size))
          (try have RV := Lib.hid ((RV.out.below b2 (Nat.le_refl _)).wide (Nat.le_refl _) b2.size))
          (try have HV := Lib.hid ((b2.block _ (heap_in HV.out)).trans HV.out))
          have R2 := Lib.hid (o2.rd.wide (Nat.zero_le _) (Nat.le_refl _))
          clear o2
          clear b2
          go_simp
          refine hK.out _ _ (KP.out _ BX.out) (fun hHeld => ?_)
          clear hK K
          try simp only [Act.put, List.setIfInBounds_toArray, List.set_cons_zero, List.set_cons_succ]
          refine wpAnyH_ready (rs := [5]) (by kernel_rfl) (by simp) ?_
          refine AllReadyH.cons (o := _) rfl (fun K hK => ?_) (AllReadyH.nil)
          go_simp
          obtain ⟨wb, hwb⟩ : ∃ wb, wb = w2.alloc (.cells #[.int .u8 (n : Int)] 5) := ⟨_, rfl⟩
          have bb : Below w2.heap.size w2 wb := by
            rw [hwb]
            skip
            exact (Below.refl _ _).alloc (Nat.le_refl _) _
          have hh : wb.heap[w2.heap.size]? = some (.cells #[.int .u8 (n : Int)] 5 (0, 0)) := by rw [hwb]; exact heap_alloc_new w2 _
          have BX := Lib.hid (BX.out.trans (bb.mono BX.out.size))
          (try have R1 := Lib.hid ((R1.out.below bb (Nat.le_refl _)).wide (Nat.le_refl _) bb.size))
          (try have R2 := Lib.hid ((R2.out.below bb (Nat.le_refl _)).wide (Nat.le_refl _) bb.size))
          (try have RB := Lib.hid ((RB.out.below bb (Nat.le_refl _)).wide (Nat.le_refl _) bb.size))
          (try have RV := Lib.hid ((RV.out.below bb (Nat.le_refl _)).wide (Nat.le_refl _) bb.size))
          (try have HV := Lib.hid ((bb.block _ (heap_in HV.out)).trans HV.out))
          have RB : Hid (Rd wb 0 wb.heap.size (some ⟨w2.heap.size, 0, none⟩) (putL n 1)) := oneByte n hh HN.out
          rw [← hwb]
          clear bb hh hwb
          refine hK.out _ _ (KP.out _ BX.out) (fun hHeld => ?_)
          clear hK K
          try simp only [Act.put, List.setIfInBounds_toArray, List.set_cons_zero, List.set_cons_succ]
          refine wpAnyH_ready (rs := [12]) (by kernel_rfl) (by simp) ?_
          refine AllReadyH.cons (o := _) rfl (fun K hK => ?_) AllReadyH.nil
          go_simp
          refine hK.out _ _ (KP.out _ (BX.out.alloc BX.out.size _)) (fun hHeld => ?_)
          clear hK K
          try simp only [Act.put, List.setIfInBounds_toArray, List.set_cons_zero, List.set_cons_succ]
          refine wpAnyH_ready (rs := [13]) (by kernel_rfl) (by simp) ?_
          refine AllReadyH.cons (o := _) rfl (fun K hK => ?_) AllReadyH.nil
          go_simp
          go_at_call 29
          refine (joinRL [(some ⟨w1.heap.size, 0, none⟩, 4, voteSignL), (some ⟨w2.heap.size, 0, none⟩, 1, putL n 1), (A1, c1, ptL e1 l1), (A2, c2, ptL e2 l2)] wb _ (by simp [putL_length, voteSignL]) (fun x hx => by
              simp only [List.mem_cons, List.not_mem_nil, or_false] at hx
              rcases hx with rfl | rfl | rfl | rfl
              · exact RV.out
              · exact RB.out
              · exact R1.out
              · exact R2.out) 4 rfl (by simp) (by have h1 := HP1.out; have h2 := HP2.out; simp [flat, putL_length, h1, h2, voteSignL])).mono ?_
          rintro y w4 ⟨A4, c4, rfl, hc4, ha4, o4, b4⟩
          have HX3 := Lib.hid BX.out.size
          have BX := Lib.hid (BX.out.trans (b4.mono BX.out.size))
          clear b4
          go_simp
          refine hK.out _ _ (KP.out _ BX.out) (fun hHeld => ?_)
          clear hK K
          try simp only [Act.put, List.setIfInBounds_toArray, List.set_cons_zero, List.set_cons_succ]
          refine takeH (i := 14) (d := 2) (oi := _) (v := .slice A4 (flat [(some ⟨w1.heap.size, 0, none⟩, 4, voteSignL), (some ⟨w2.heap.size, 0, none⟩, 1, putL n 1), (A1, c1, ptL e1 l1), (A2, c2, ptL e2 l2)]).length c4) rfl (by kernel_rfl) (by kernel_rfl) (by kernel_rfl) (by kernel_rfl) (fun _ _ _ h => h) (Or.inl ⟨by rfl, by intro u hSw; go_simp⟩) hHeld ?_
          try simp only [List.setIfInBounds_toArray, List.set_cons_zero, List.set_cons_succ]
          refine wpAnyH_done (by kernel_rfl) ?_ _
          refine NoPanic.normal ?_
          apply hK1
          clear hK1 K1
          go_wp2_with fail
          go_ret
          have hf : flat [(some ⟨w1.heap.size, 0, none⟩, 4, voteSignL), (some ⟨w2.heap.size, 0, none⟩, 1, putL n 1), (A1, c1, ptL e1 l1), (A2, c2, ptL e2 l2)] = txL n e1 l1 e2 l2 := by simp [flat, txL, lkL]
          rw [hf] at hc4 o4 ⊢
          exact ⟨A4, c4, rfl, hc4, o4.wide (Nat.le_trans HB.out.size HX3.out) (Nat.le_refl _), hdBelow HB.out BX.out⟩
      · go_simp
        obtain ⟨wb, hwb⟩ : ∃ wb, wb = wv.alloc (.cells #[.int .u8 (n : Int)] 5) := ⟨_, rfl⟩
        have bb : Below wv.heap.size wv wb := by
          rw [hwb]
          skip
          exact (Below.refl _ _).alloc (Nat.le_refl _) _
        have hh : wb.heap[wv.heap.size]? = some (.cells #[.int .u8 (n : Int)] 5 (0, 0)) := by rw [hwb]; exact heap_alloc_new wv _
        have BX := Lib.hid (BX.out.trans (bb.mono BX.out.size))
        (try have R1 := Lib.hid ((R1.out.below bb (Nat.le_refl _)).wide (Nat.le_refl _) bb.size))
        (try have R2 := Lib.hid ((R2.out.below bb (Nat.le_refl _)).wide (Nat.le_refl _) bb.size))
        (try have RB := Lib.hid ((RB.out.below bb (Nat.le_refl _)).wide (Nat.le_refl _) bb.size))
        (try have RV := Lib.hid ((RV.out.below bb (Nat.le_refl _)).wide (Nat.le_refl _) bb.size))
        (try have HV := Lib.hid ((bb.block _ (heap_in HV.out)).trans HV.out))
        have RB : Hid (Rd wb 0 wb.heap.size (some ⟨wv.heap.size, 0, none⟩) (putL n 1)) := oneByte n hh HN.out
        rw [← hwb]
        clear bb hh hwb
        refine hK.out _ _ (KP.out _ BX.out) (fun hHeld => ?_)
        clear hK K
        try simp only [Act.put, List.setIfInBounds_toArray, List.set_cons_zero, List.set_cons_succ]
        refine wpAnyH_ready (rs := [1, 11]) (by kernel_rfl) (by simp) ?_
        refine AllReadyH.cons (o := _) rfl (fun K hK => ?_) (AllReadyH.cons (o := _) rfl (fun K hK => ?_) (AllReadyH.nil))
        · obtain ⟨wz, hwz⟩ : ∃ wz, wz = wb.freeze ⟨w1.heap.size, 4, none⟩ 1 := ⟨_, rfl⟩
          have kcv : (convert 27 27 (.slice (some ⟨w1.heap.size, 0, none⟩) 4 4)).run Try.prog wb = .ok (.slice (some ⟨w1.heap.size, 0, none⟩) 4 4) wz := by rw [hwz]; exact convert_const wb _ _ #[.int .u8 118, .int .u8 111, .int .u8 116, .int .u8 101] _ 4 4 HV.out Try.underlying27 Try.underlying5
          have hfz := freeze_cells wb ⟨w1.heap.size, 4, none⟩ 1
          rw [← hwz] at hfz
          have BX := Lib.hid (freeze_below BX.out HG.out hfz)
          (try have R1 := Lib.hid (rd_same R1.out hfz.1 hfz.2.1))
          (try have R2 := Lib.hid (rd_same R2.out hfz.1 hfz.2.1))
          (try have RB := Lib.hid (rd_same RB.out hfz.1 hfz.2.1))
          have RV := Lib.hid (rd_same RV.out hfz.1 hfz.2.1)
          clear hwz hfz HV HG
          go_simp
          refine hK.out _ _ (KP.out _ BX.out) (fun hHeld => ?_)
          clear hK K kcv
          try simp only [Act.put, List.setIfInBounds_toArray, List.set_cons_zero, List.set_cons_succ]
          refine wpAnyH_ready (rs := [11]) (by kernel_rfl) (by simp) ?_
          refine AllReadyH.cons (o := _) rfl (fun K hK => ?_) (AllReadyH.nil)
          go_simp
          go_at_call 30
          refine (CP2.out _).mono ?_
          rintro y w2 ⟨A2, c2, rfl, hc2, o2, b2⟩
          have BX := Lib.hid (BX.out.trans (b2.mono BX.out.size))
          (try have R1 := Lib.hid ((R1.out.below b2 (Nat.le_refl _)).wide (Nat.le_refl _) b2.size))
          (try have R2 := Lib.hid ((R2.out.below b2 (Nat.le_refl _)).wide (Nat.le_refl _) b2.size))
          (try have RB := Lib.hid ((RB.out.below b2 (Nat.le_refl _)).wide (Nat.le_refl _) b2.size))
          (try have RV := Lib.hid ((RV.out.below b2 (Nat.le_refl _)).wide (Nat.le_refl _) b2.size))
          (try have HV := Lib.hid ((b2.block _ (heap_in HV.out)).trans HV.out))
          have R2 := Lib.hid (o2.rd.wide (Nat.zero_le _) (Nat.le_refl _))
          clear o2
          clear b2
          go_simp
          refine hK.out _ _ (KP.out _ BX.out) (fun hHeld => ?_)
          clear hK K
          try simp only [Act.put, List.setIfInBounds_toArray, List.set_cons_zero, List.set_cons_succ]
          refine wpAnyH_ready (rs := [12]) (by kernel_rfl) (by simp) ?_
          refine AllReadyH.cons (o := _) rfl (fun K hK => ?_) AllReadyH.nil
          go_simp
          refine hK.out _ _ (KP.out _ (BX.out.alloc BX.out.size _)) (fun hHeld => ?_)
          clear hK K
          try simp only [Act.put, List.setIfInBounds_toArray, List.set_cons_zero, List.set_cons_succ]
          refine wpAnyH_ready (rs := [13]) (by kernel_rfl) (by simp) ?_
          refine AllReadyH.cons (o := _) rfl (fun K hK => ?_) AllReadyH.nil
          go_simp
          go_at_call 29
          refine (joinRL [(some ⟨w1.heap.size, 0, none⟩, 4, voteSignL), (some ⟨wv.heap.size, 0, none⟩, 1, putL n 1), (A1, c1, ptL e1 l1), (A2, c2, ptL e2 l2)] w2 _ (by simp [putL_length, voteSignL]) (fun x hx => by
              simp only [List.mem_cons, List.not_mem_nil, or_false] at hx
              rcases hx with rfl | rfl | rfl | rfl
              · exact RV.out
              · exact RB.out
              · exact R1.out
              · exact R2.out) 4 rfl (by simp) (by have h1 := HP1.out; have h2 := HP2.out; simp [flat, putL_length, h1, h2, voteSignL])).mono ?_
          rintro y w4 ⟨A4, c4, rfl, hc4, ha4, o4, b4⟩
          have HX3 := Lib.hid BX.out.size
          have BX := Lib.hid (BX.out.trans (b4.mono BX.out.size))
          clear b4
          go_simp
          refine hK.out _ _ (KP.out _ BX.out) (fun hHeld => ?_)
          clear hK K
          try simp only [Act.put, List.setIfInBounds_toArray, List.set_cons_zero, List.set_cons_succ]
          refine takeH (i := 14) (d := 2) (oi := _) (v := .slice A4 (flat [(some ⟨w1.heap.size, 0, none⟩, 4, voteSignL), (some ⟨wv.heap.size, 0, none⟩, 1, putL n 1), (A1, c1, ptL e1 l1), (A2, c2, ptL e2 l2)]).length c4) rfl (by kernel_rfl) (by kernel_rfl) (by kernel_rfl) (by kernel_rfl) (fun _ _ _ h => h) (Or.inl ⟨by rfl, by intro u hSw; go_simp⟩) hHeld ?_
          try simp only [List.setIfInBounds_toArray, List.set_cons_zero, List.set_cons_succ]
          refine wpAnyH_done (by kernel_rfl) ?_ _
          refine NoPanic.normal ?_
          apply hK1
          clear hK1 K1
          go_wp2_with fail
          go_ret
          have hf : flat [(some ⟨w1.heap.size, 0, none⟩, 4, voteSignL), (some ⟨wv.heap.size, 0, none⟩, 1, putL n 1), (A1, c1, ptL e1 l1), (A2, c2, ptL e2 l2)] = txL n e1 l1 e2 l2 := by simp [flat, txL, lkL]
          rw [hf] at hc4 o4 ⊢
          exact ⟨A4, c4, rfl, hc4, o4.wide (Nat.le_trans HB.out.size HX3.out) (Nat.le_refl _), hdBelow HB.out BX.out⟩
        · go_simp
          go_at_call 30
          refine (CP2.out _).mono ?_
          rintro y w2 ⟨A2, c2, rfl, hc2, o2, b2⟩
          have BX := Lib.hid (BX.out.trans (b2.mono BX.out.size))
          (try have R1 := Lib.hid ((R1.out.below b2 (Nat.le_refl _)).wide (Nat.le_refl _) b2.size))
          (try have R2 := Lib.hid ((R2.out.below b2 (Nat.le_refl _)).wide (Nat.le_refl _) b2.size))
          (try have RB := Lib.hid ((RB.out.below b2 (Nat.le_refl _)).wide (Nat.le_refl _) b2.size))
          (try have RV := Lib.hid ((RV.out.below b2 (Nat.le_refl _)).wide (Nat.le_refl _) b2.size))
          (try have HV := Lib.hid ((b2.block _ (heap_in HV.out)).trans HV.out))
          have R2 := Lib.hid (o2.rd.wide (Nat.zero_le _) (Nat.le_refl _))
          clear o2
          clear b2
          go_simp
          refine hK.out _ _ (KP.out _ BX.out) (fun hHeld => ?_)
          clear hK K
          try simp only [Act.put, List.setIfInBounds_toArray, List.set_cons_zero, List.set_cons_succ]
          refine wpAnyH_ready (rs := [1]) (by kernel_rfl) (by simp) ?_
          refine AllReadyH.cons (o := _) rfl (fun K hK => ?_) (AllReadyH.nil)
          obtain ⟨wz, hwz⟩ : ∃ wz, wz = w2.freeze ⟨w1.heap.size, 4, none⟩ 1 := ⟨_, rfl⟩
          have kcv : (convert 27 27 (.slice (some ⟨w1.heap.size, 0, none⟩) 4 4)).run Try.prog w2 = .ok (.slice (some ⟨w1.heap.size, 0, none⟩) 4 4) wz := by rw [hwz]; exact convert_const w2 _ _ #[.int .u8 118, .int .u8 111, .int .u8 116, .int .u8 101] _ 4 4 HV.out Try.underlying27 Try.underlying5
          have hfz := freeze_cells w2 ⟨w1.heap.size, 4, none⟩ 1
          rw [← hwz] at hfz
          have BX := Lib.hid (freeze_below BX.out HG.out hfz)
          (try have R1 := Lib.hid (rd_same R1.out hfz.1 hfz.2.1))
          (try have R2 := Lib.hid (rd_same R2.out hfz.1 hfz.2.1))
          (try have RB := Lib.hid (rd_same RB.out hfz.1 hfz.2.1))
          have RV := Lib.hid (rd_same RV.out hfz.1 hfz.2.1)
          clear hwz hfz HV HG
          go_simp
          refine hK.out _ _ (KP.out _ BX.out) (fun hHeld => ?_)
          clear hK K kcv
          try simp only [Act.put, List.setIfInBounds_toArray, List.set_cons_zero, List.set_cons_succ]
          refine wpAnyH_ready (rs := [12]) (by kernel_rfl) (by simp) ?_
          refine AllReadyH.cons (o := _) rfl (fun K hK => ?_) AllReadyH.nil
          go_simp
          refine hK.out _ _ (KP.out _ (BX.out.alloc BX.out.size _)) (fun hHeld => ?_)
          clear hK K
          try simp only [Act.put, List.setIfInBounds_toArray, List.set_cons_zero, List.set_cons_succ]
          refine wpAnyH_ready (rs := [13]) (by kernel_rfl) (by simp) ?_
          refine AllReadyH.cons (o := _) rfl (fun K hK => ?_) AllReadyH.nil
          go_simp
          go_at_call 29
          refine (joinRL [(some ⟨w1.heap.size, 0, none⟩, 4, voteSignL), (some ⟨wv.heap.size, 0, none⟩, 1, putL n 1), (A1, c1, ptL e1 l1), (A2, c2, ptL e2 l2)] wz _ (by simp [putL_length, voteSignL]) (fun x hx => by
              simp only [List.mem_cons, List.not_mem_nil, or_false] at hx
              rcases hx with rfl | rfl | rfl | rfl
              · exact RV.out
              · exact RB.out
              · exact R1.out
              · exact R2.out) 4 rfl (by simp) (by have h1 := HP1.out; have h2 := HP2.out; simp [flat, putL_length, h1, h2, voteSignL])).mono ?_
          rintro y w4 ⟨A4, c4, rfl, hc4, ha4, o4, b4⟩
          have HX3 := Lib.hid BX.out.size
          have BX := Lib.hid (BX.out.trans (b4.mono BX.out.size))
          clear b4
          go_simp
          refine hK.out _ _ (KP.out _ BX.out) (fun hHeld => ?_)
          clear hK K
          try simp only [Act.put, List.setIfInBounds_toArray, List.set_cons_zero, List.set_cons_succ]
          refine takeH (i := 14) (d := 2) (oi := _) (v := .slice A4 (flat [(some ⟨w1.heap.size, 0, none⟩, 4, voteSignL), (some ⟨wv.heap.size, 0, none⟩, 1, putL n 1), (A1, c1, ptL e1 l1), (A2, c2, ptL e2 l2)]).length c4) rfl (by kernel_rfl) (by kernel_rfl) (by kernel_rfl) (by kernel_rfl) (fun _ _ _ h => h) (Or.inl ⟨by rfl, by intro u hSw; go_simp⟩) hHeld ?_
          try simp only [List.setIfInBounds_toArray, List.set_cons_zero, List.set_cons_succ]
          refine wpAnyH_done (by kernel_rfl) ?_ _
          refine NoPanic.normal ?_
          apply hK1
          clear hK1 K1
          go_wp2_with fail
          go_ret
          have hf : flat [(some ⟨w1.heap.size, 0, none⟩, 4, voteSignL), (some ⟨wv.heap.size, 0, none⟩, 1, putL n 1), (A1, c1, ptL e1 l1), (A2, c2, ptL e2 l2)] = txL n e1 l1 e2 l2 := by simp [flat, txL, lkL]
          rw [hf] at hc4 o4 ⊢
          exact ⟨A4, c4, rfl, hc4, o4.wide (Nat.le_trans HB.out.size HX3.out) (Nat.le_refl _), hdBelow HB.out BX.out⟩
      · go_simp
        go_at_call 30
        refine (CP2.out _).mono ?_
        rintro y w2 ⟨A2, c2, rfl, hc2, o2, b2⟩
        have BX := Lib.hid (BX.out.trans (b2.mono BX.out.size))
        (try have R1 := Lib.hid ((R1.out.below b2 (Nat.le_refl _)).wide (Nat.le_refl _) b2.size))
        (try have R2 := Lib.hid ((R2.out.below b2 (Nat.le_refl _)).wide (Nat.le_refl _) b2.size))
        (try have RB := Lib.hid ((RB.out.below b2 (Nat.le_refl _)).wide (Nat.le_refl _) b2.size))
        (try have RV := Lib.hid ((RV.out.below b2 (Nat.le_refl _)).wide (Nat.le_refl _) b2.size))
        (try have HV := Lib.hid ((b2.block _ (heap_in HV.out)).trans HV.out))
        have R2 := Lib.hid (o2.rd.wide (Nat.zero_le _) (Nat.le_refl _))
        clear o2
        clear b2
        go_simp
        refine hK.out _ _ (KP.out _ BX.out) (fun hHeld => ?_)
        clear hK K
        try simp only [Act.put, List.setIfInBounds_toArray, List.set_cons_zero, List.set_cons_succ]
        refine wpAnyH_ready (rs := [1, 5]) (by kernel_rfl) (by simp) ?_
        refine AllReadyH.cons (o := _) rfl (fun K hK => ?_) (AllReadyH.cons (o := _) rfl (fun K hK => ?_) (AllReadyH.nil))
        · obtain ⟨wz, hwz⟩ : ∃ wz, wz = w2.freeze ⟨w1.heap.size, 4, none⟩ 1 := ⟨_, rfl⟩
          have kcv : (convert 27 27 (.slice (some ⟨w1.heap.size, 0, none⟩) 4 4)).run Try.prog w2 = .ok (.slice (some ⟨w1.heap.size, 0, none⟩) 4 4) wz := by rw [hwz]; exact convert_const w2 _ _ #[.int .u8 118, .int .u8 111, .int .u8 116, .int .u8 101] _ 4 4 HV.out Try.underlying27 Try.underlying5
          have hfz := freeze_cells w2 ⟨w1.heap.size, 4, none⟩ 1
          rw [← hwz] at hfz
          have BX := Lib.hid (freeze_below BX.out HG.out hfz)
          (try have R1 := Lib.hid (rd_same R1.out hfz.1 hfz.2.1))
          (try have R2 := Lib.hid (rd_same R2.out hfz.1 hfz.2.1))
          (try have RB := Lib.hid (rd_same RB.out hfz.1 hfz.2.1))
          have RV := Lib.hid (rd_same RV.out hfz.1 hfz.2.1)
          clear hwz hfz HV HG
          go_simp
          refine hK.out _ _ (KP.out _ BX.out) (fun hHeld => ?_)
          clear hK K kcv
          try simp only [Act.put, List.setIfInBounds_toArray, List.set_cons_zero, List.set_cons_succ]
          refine wpAnyH_ready (rs := [5]) (by kernel_rfl) (by simp) ?_
          refine AllReadyH.cons (o := _) rfl (fun K hK => ?_) (AllReadyH.nil)
          go_simp
          obtain ⟨wb, hwb⟩ : ∃ wb, wb = wz.alloc (.cells #[.int .u8 (n : Int)] 5) := ⟨_, rfl⟩
          have bb : Below wz.heap.size wz wb := by
            rw [hwb]
            skip
            exact (Below.refl _ _).alloc (Nat.le_refl _) _
          have hh : wb.heap[wz.heap.size]? = some (.cells #[.int .u8 (n : Int)] 5 (0, 0)) := by rw [hwb]; exact heap_alloc_new wz _
          have BX := Lib.hid (BX.out.trans (bb.mono BX.out.size))
          (try have R1 := Lib.hid ((R1.out.below bb (Nat.le_refl _)).wide (Nat.le_refl _) bb.size))
          (try have R2 := Lib.hid ((R2.out.below bb (Nat.le_refl _)).wide (Nat.le_refl _) bb.size))
          (try have RB := Lib.hid ((RB.out.below bb (Nat.le_refl _)).wide (Nat.le_refl _) bb.size))
          (try have RV := Lib.hid ((RV.out.below bb (Nat.le_refl _)).wide (Nat.le_refl _) bb.size))
          (try have HV := Lib.hid ((bb.block _ (heap_in HV.out)).trans HV.out))
          have RB : Hid (Rd wb 0 wb.heap.size (some ⟨wz.heap.size, 0, none⟩) (putL n 1)) := oneByte n hh HN.out
          rw [← hwb]
          clear bb hh hwb
          refine hK.out _ _ (KP.out _ BX.out) (fun hHeld => ?_)
          clear hK K
          try simp only [Act.put, List.setIfInBounds_toArray, List.set_cons_zero, List.set_cons_succ]
          refine wpAnyH_ready (rs := [12]) (by kernel_rfl) (by simp) ?_
          refine AllReadyH.cons (o := _) rfl (fun K hK => ?_) AllReadyH.nil
          go_simp
          refine hK.out _ _ (KP.out _ (BX.out.alloc BX.out.size _)) (fun hHeld => ?_)
          clear hK K
          try simp only [Act.put, List.setIfInBounds_toArray, List.set_cons_zero, List.set_cons_succ]
          refine wpAnyH_ready (rs := [13]) (by kernel_rfl) (by simp) ?_
          refine AllReadyH.cons (o := _) rfl (fun K hK => ?_) AllReadyH.nil
          go_simp
          go_at_call 29
          refine (joinRL [(some ⟨w1.heap.size, 0, none⟩, 4, voteSignL), (some ⟨wz.heap.size, 0, none⟩, 1, putL n 1), (A1, c1, ptL e1 l1), (A2, c2, ptL e2 l2)] wb _ (by simp [putL_length, voteSignL]) (fun x hx => by
              simp only [List.mem_cons, List.not_mem_nil, or_false] at hx
              rcases hx with rfl | rfl | rfl | rfl
              · exact RV.out
              · exact RB.out
              · exact R1.out
              · exact R2.out) 4 rfl (by simp) (by have h1 := HP1.out; have h2 := HP2.out; simp [flat, putL_length, h1, h2, voteSignL])).mono ?_
          rintro y w4 ⟨A4, c4, rfl, hc4, ha4, o4, b4⟩
          have HX3 := Lib.hid BX.out.size
          have BX := Lib.hid (BX.out.trans (b4.mono BX.out.size))
          clear b4
          go_simp
          refine hK.out _ _ (KP.out _ BX.out) (fun hHeld => ?_)
          clear hK K
          try simp only [Act.put, List.setIfInBounds_toArray, List.set_cons_zero, List.set_cons_succ]
          refine takeH (i := 14) (d := 2) (oi := _) (v := .slice A4 (flat [(some ⟨w1.heap.size, 0, none⟩, 4, voteSignL), (some ⟨wz.heap.size, 0, none⟩, 1, putL n 1), (A1, c1, ptL e1 l1), (A2, c2, ptL e2 l2)]).length c4) rfl (by kernel_rfl) (by kernel_rfl) (by kernel_rfl) (by kernel_rfl) (fun _ _ _ h => h) (Or.inl ⟨by rfl, by intro u hSw; go_simp⟩) hHeld ?_
          try simp only [List.setIfInBounds_toArray, List.set_cons_zero, List.set_cons_succ]
          refine wpAnyH_done (by kernel_rfl) ?_ _
          refine NoPanic.normal ?_
          apply hK1
          clear hK1 K1
          go_wp2_with fail
          go_ret
          have hf : flat [(some ⟨w1.heap.size, 0, none⟩, 4, voteSignL), (some ⟨wz.heap.size, 0, none⟩, 1, putL n 1), (A1, c1, ptL e1 l1), (A2, c2, ptL e2 l2)] = txL n e1 l1 e2 l2 := by simp [flat, txL, lkL]
          rw [hf] at hc4 o4 ⊢
          exact ⟨A4, c4, rfl, hc4, o4.wide (Nat.le_trans HB.out.size HX3.out) (Nat.le_refl _), hdBelow HB.out BX.out⟩
        · go_simp
          obtain ⟨wb, hwb⟩ : ∃ wb, wb = w2.alloc (.cells #[.int .u8 (n : Int)] 5) := ⟨_, rfl⟩
          have bb : Below w2.heap.size w2 wb := by
            rw [hwb]
            skip
            exact (Below.refl _ _).alloc (Nat.le_refl _) _
          have hh : wb.heap[w2.heap.size]? = some (.cells #[.int .u8 (n : Int)] 5 (0, 0)) := by rw [hwb]; exact heap_alloc_new w2 _
          have BX := Lib.hid (BX.out.trans (bb.mono BX.out.size))
          (try have R1 := Lib.hid ((R1.out.below bb (Nat.le_refl _)).wide (Nat.le_refl _) bb.size))
          (try have R2 := Lib.hid ((R2.out.below bb (Nat.le_refl _)).wide (Nat.le_refl _) bb.size))
          (try have RB := Lib.hid ((RB.out.below bb (Nat.le_refl _)).wide (Nat.le_refl _) bb.size))
          (try have RV := Lib.hid ((RV.out.below bb (Nat.le_refl _)).wide (Nat.le_refl _) bb.size))
          (try have HV := Lib.hid ((bb.block _ (heap_in HV.out)).trans HV.out))
          have RB : Hid (Rd wb 0 wb.heap.size (some ⟨w2.heap.size, 0, none⟩) (putL n 1)) := oneByte n hh HN.out
          rw [← hwb]
          clear bb hh hwb
          refine hK.out _ _ (KP.out _ BX.out) (fun hHeld => ?_)
          clear hK K
          try simp only [Act.put, List.setIfInBounds_toArray, List.set_cons_zero, List.set_cons_succ]
          refine wpAnyH_ready (rs := [1]) (by kernel_rfl) (by simp) ?_
          refine AllReadyH.cons (o := _) rfl (fun K hK => ?_) (AllReadyH.nil)
          obtain ⟨wz, hwz⟩ : ∃ wz, wz = wb.freeze ⟨w1.heap.size, 4, none⟩ 1 := ⟨_, rfl⟩
          have kcv : (convert 27 27 (.slice (some ⟨w1.heap.size, 0, none⟩) 4 4)).run Try.prog wb = .ok (.slice (some ⟨w1.heap.size, 0, none⟩) 4 4) wz := by rw [hwz]; exact convert_const wb _ _ #[.int .u8 118, .int .u8 111, .int .u8 116, .int .u8 101] _ 4 4 HV.out Try.underlying27 Try.underlying5
          have hfz := freeze_cells wb ⟨w1.heap.size, 4, none⟩ 1
          rw [← hwz] at hfz
          have BX := Lib.hid (freeze_below BX.out HG.out hfz)
          (try have R1 := Lib.hid (rd_same R1.out hfz.1 hfz.2.1))
          (try have R2 := Lib.hid (rd_same R2.out hfz.1 hfz.2.1))
          (try have RB := Lib.hid (rd_same RB.out hfz.1 hfz.2.1))
          have RV := Lib.hid (rd_same RV.out hfz.1 hfz.2.1)
          clear hwz hfz HV HG
          go_simp
          refine hK.out _ _ (KP.out _ BX.out) (fun hHeld => ?_)
          clear hK K kcv
          try simp only [Act.put, List.setIfInBounds_toArray, List.set_cons_zero, List.set_cons_succ]
          refine wpAnyH_ready (rs := [12]) (by kernel_rfl) (by simp) ?_
          refine AllReadyH.cons (o := _) rfl (fun K hK => ?_) AllReadyH.nil
          go_simp
          refine hK.out _ _ (KP.out _ (BX.out.alloc BX.out.size _)) (fun hHeld => ?_)
          clear hK K
          try simp only [Act.put, List.setIfInBounds_toArray, List.set_cons_zero, List.set_cons_succ]
          refine wpAnyH_ready (rs := [13]) (by kernel_rfl) (by simp) ?_
          refine AllReadyH.cons (o := _) rfl (fun K hK => ?_) AllReadyH.nil
          go_simp
          go_at_call 29
          refine (joinRL [(some ⟨w1.heap.size, 0, none⟩, 4, voteSignL), (some ⟨w2.heap.size, 0, none⟩, 1, putL n 1), (A1, c1, ptL e1 l1), (A2, c2, ptL e2 l2)] wz _ (by simp [putL_length, voteSignL]) (fun x hx => by
              simp only [List.mem_cons, List.not_mem_nil, or_false] at hx
              rcases hx with rfl | rfl | rfl | rfl
              · exact RV.out
              · exact RB.out
              · exact R1.out
              · exact R2.out) 4 rfl (by simp) (by have h1 := HP1.out; have h2 := HP2.out; simp [flat, putL_length, h1, h2, voteSignL])).mono ?_
          rintro y w4 ⟨A4, c4, rfl, hc4, ha4, o4, b4⟩
          have HX3 := Lib.hid BX.out.size
          have BX := Lib.hid (BX.out.trans (b4.mono BX.out.size))
          clear b4
          go_simp
          refine hK.out _ _ (KP.out _ BX.out) (fun hHeld => ?_)
          clear hK K
          try simp only [Act.put, List.setIfInBounds_toArray, List.set_cons_zero, List.set_cons_succ]
          refine takeH (i := 14) (d := 2) (oi := _) (v := .slice A4 (flat [(some ⟨w1.heap.size, 0, none⟩, 4, voteSignL), (some ⟨w2.heap.size, 0, none⟩, 1, putL n 1), (A1, c1, ptL e1 l1), (A2, c2, ptL e2 l2)]).length c4) rfl (by kernel_rfl) (by kernel_rfl) (by kernel_rfl) (by kernel_rfl) (fun _ _ _ h => h) (Or.inl ⟨by rfl, by intro u hSw; go_simp⟩) hHeld ?_
          try simp only [List.setIfInBounds_toArray, List.set_cons_zero, List.set_cons_succ]
          refine wpAnyH_done (by kernel_rfl) ?_ _
          refine NoPanic.normal ?_
          apply hK1
          clear hK1 K1
          go_wp2_with fail
          go_ret
          have hf : flat [(some ⟨w1.heap.size, 0, none⟩, 4, voteSignL), (some ⟨w2.heap.size, 0, none⟩, 1, putL n 1), (A1, c1, ptL e1 l1), (A2, c2, ptL e2 l2)] = txL n e1 l1 e2 l2 := by simp [flat, txL, lkL]
          rw [hf] at hc4 o4 ⊢
          exact ⟨A4, c4, rfl, hc4, o4.wide (Nat.le_trans HB.out.size HX3.out) (Nat.le_refl _), hdBelow HB.out BX.out⟩
    · go_simp
      obtain ⟨wb, hwb⟩ : ∃ wb, wb = w1.alloc (.cells #[.int .u8 (n : Int)] 5) := ⟨_, rfl⟩
      have bb : Below w1.heap.size w1 wb := by
        rw [hwb]
        skip
        exact (Below.refl _ _).alloc (Nat.le_refl _) _
      have hh : wb.heap[w1.heap.size]? = some (.cells #[.int .u8 (n : Int)] 5 (0, 0)) := by rw [hwb]; exact heap_alloc_new w1 _
      have BX := Lib.hid (BX.out.trans (bb.mono BX.out.size))
      (try have R1 := Lib.hid ((R1.out.below bb (Nat.le_refl _)).wide (Nat.le_refl _) bb.size))
      (try have R2 := Lib.hid ((R2.out.below bb (Nat.le_refl _)).wide (Nat.le_refl _) bb.size))
      (try have RB := Lib.hid ((RB.out.below bb (Nat.le_refl _)).wide (Nat.le_refl _) bb.size))
      (try have RV := Lib.hid ((RV.out.below bb (Nat.le_refl _)).wide (Nat.le_refl _) bb.size))
      (try have HV := Lib.hid ((bb.block _ (heap_in HV.out)).trans HV.out))
      have RB : Hid (Rd wb 0 wb.heap.size (some ⟨w1.heap.size, 0, none⟩) (putL n 1)) := oneByte n hh HN.out
      rw [← hwb]
      clear bb hh hwb
      refine hK.out _ _ (KP.out _ BX.out) (fun hHeld => ?_)
      clear hK K
      try simp only [Act.put, List.setIfInBounds_toArray, List.set_cons_zero, List.set_cons_succ]
      refine wpAnyH_ready (rs := [0, 11]) (by kernel_rfl) (by simp) ?_
      refine AllReadyH.cons (o := _) rfl (fun K hK => ?_) (AllReadyH.cons (o := _) rfl (fun K hK => ?_) (AllReadyH.nil))
      · go_simp
        obtain ⟨wv, hwv⟩ : ∃ wv, wv = wb.alloc (.cells #[.int .u8 118, .int .u8 111, .int .u8 116, .int .u8 101] 5) := ⟨_, rfl⟩
        have bb : Below wb.heap.size wb wv := by
          rw [hwv]
          skip
          exact (Below.refl _ _).alloc (Nat.le_refl _) _
        have hh : wv.heap[wb.heap.size]? = some (.cells #[.int .u8 118, .int .u8 111, .int .u8 116, .int .u8 101] 5 (0, 0)) := by rw [hwv]; exact heap_alloc_new wb _
        have HG := Lib.hid (show W.heap.size ≤ wb.heap.size from BX.out.size)
        have BX := Lib.hid (BX.out.trans (bb.mono BX.out.size))
        (try have R1 := Lib.hid ((R1.out.below bb (Nat.le_refl _)).wide (Nat.le_refl _) bb.size))
        (try have R2 := Lib.hid ((R2.out.below bb (Nat.le_refl _)).wide (Nat.le_refl _) bb.size))
        (try have RB := Lib.hid ((RB.out.below bb (Nat.le_refl _)).wide (Nat.le_refl _) bb.size))
        (try have RV := Lib.hid ((RV.out.below bb (Nat.le_refl _)).wide (Nat.le_refl _) bb.size))
        (try have HV := Lib.hid ((bb.block _ (heap_in HV.out)).trans HV.out))
        have RV : Hid (Rd wv 0 wv.heap.size (some ⟨wb.heap.size, 0, none⟩) voteSignL) := signBytes hh
        have HV := Lib.hid hh
        rw [← hwv]
        clear bb hh hwv
        refine hK.out _ _ (KP.out _ BX.out) (fun hHeld => ?_)
        clear hK K
        try simp only [Act.put, List.setIfInBounds_toArray, List.set_cons_zero, List.set_cons_succ]
        refine wpAnyH_ready (rs := [1, 11]) (by kernel_rfl) (by simp) ?_
        refine AllReadyH.cons (o := _) rfl (fun K hK => ?_) (AllReadyH.cons (o := _) rfl (fun K hK => ?_) (AllReadyH.nil))
        · obtain ⟨wz, hwz⟩ : ∃ wz, wz = wv.freeze ⟨wb.heap.size, 4, none⟩ 1 := ⟨_, rfl⟩
          have kcv : (convert 27 27 (.slice (some ⟨wb.heap.size, 0, none⟩) 4 4)).run Try.prog wv = .ok (.slice (some ⟨wb.heap.size, 0, none⟩) 4 4) wz := by rw [hwz]; exact convert_const wv _ _ #[.int .u8 118, .int .u8 111, .int .u8 116, .int .u8 101] _ 4 4 HV.out Try.underlying27 Try.underlying5
          have hfz := freeze_cells wv ⟨wb.heap.size, 4, none⟩ 1
          rw [← hwz] at hfz
          have BX := Lib.hid (freeze_below BX.out HG.out hfz)
          (try have R1 := Lib.hid (rd_same R1.out hfz.1 hfz.2.1))
          (try have R2 := Lib.hid (rd_same R2.out hfz.1 hfz.2.1))
          (try have RB := Lib.hid (rd_same RB.out hfz.1 hfz.2.1))
          have RV := Lib.hid (rd_same RV.out hfz.1 hfz.2.1)
          clear hwz hfz HV HG
          go_simp
          refine hK.out _ _ (KP.out _ BX.out) (fun hHeld => ?_)
          clear hK K kcv
          try simp only [Act.put, List.setIfInBounds_toArray, List.set_cons_zero, List.set_cons_succ]
          refine wpAnyH_ready (rs := [11]) (by kernel_rfl) (by simp) ?_
          refine AllReadyH.cons (o := _) rfl (fun K hK => ?_) (AllReadyH.nil)
          go_simp
          go_at_call 30
          refine (CP2.out _).mono ?_
          rintro y w2 ⟨A2, c2, rfl, hc2, o2, b2⟩
          have BX := Lib.hid (BX.out.trans (b2.mono BX.out.size))
          (try have R1 := Lib.hid ((R1.out.below b2 (Nat.le_refl _)).wide (Nat.le_refl _) b2.size))
          (try have R2 := Lib.hid ((R2.out.below b2 (Nat.le_refl _)).wide (Nat.le_refl _) b2.size))
          (try have RB := Lib.hid ((RB.out.below b2 (Nat.le_refl _)).wide (Nat.le_refl _) b2.size))
          (try have RV := Lib.hid ((RV.out.below b2 (Nat.le_refl _)).wide (Nat.le_refl _) b2.size))
          (try have HV := Lib.hid ((b2.block _ (heap_in HV.out)).trans HV.out))
          have R2 := Lib.hid (o2.rd.wide (Nat.zero_le _) (Nat.le_refl _))
          clear o2
          clear b2
          go_simp
          refine hK.out _ _ (KP.out _ BX.out) (fun hHeld => ?_)
          clear hK K
          try simp only [Act.put, List.setIfInBounds_toArray, List.set_cons_zero, List.set_cons_succ]
          refine wpAnyH_ready (rs := [12]) (by kernel_rfl) (by simp) ?_
          refine AllReadyH.cons (o := _) rfl (fun K hK => ?_) AllReadyH.nil
          go_simp
          refine hK.out _ _ (KP.out _ (BX.out.alloc BX.out.size _)) (fun hHeld => ?_)
          clear hK K
          try simp only [Act.put, List.setIfInBounds_toArray, List.set_cons_zero, List.set_cons_succ]
          refine wpAnyH_ready (rs := [13]) (by kernel_rfl) (by simp) ?_
          refine AllReadyH.cons (o := _) rfl (fun K hK => ?_) AllReadyH.nil
          go_simp
          go_at_call 29
          refine (joinRL [(some ⟨wb.heap.size, 0, none⟩, 4, voteSignL), (some ⟨w1.heap.size, 0, none⟩, 1, putL n 1), (A1, c1, ptL e1 l1), (A2, c2, ptL e2 l2)] w2 _ (by simp [putL_length, voteSignL]) (fun x hx => by
              simp only [List.mem_cons, List.not_mem_nil, or_false] at hx
              rcases hx with rfl | rfl | rfl | rfl
              · exact RV.out
              · exact RB.out
              · exact R1.out
              · exact R2.out) 4 rfl (by simp) (by have h1 := HP1.out; have h2 := HP2.out; simp [flat, putL_length, h1, h2, voteSignL])).mono ?_
          rintro y w4 ⟨A4, c4, rfl, hc4, ha4, o4, b4⟩
          have HX3 := Lib.hid BX.out.size
          have BX := Lib.hid (BX.out.trans (b4.mono BX.out.size))
          clear b4
          go_simp
          refine hK.out _ _ (KP.out _ BX.out) (fun hHeld => ?_)
          clear hK K
          try simp only [Act.put, List.setIfInBounds_toArray, List.set_cons_zero, List.set_cons_succ]
          refine takeH (i := 14) (d := 2) (oi := _) (v := .slice A4 (flat [(some ⟨wb.heap.size, 0, none⟩, 4, voteSignL), (some ⟨w1.heap.size, 0, none⟩, 1, putL n 1), (A1, c1, ptL e1 l1), (A2, c2, ptL e2 l2)]).length c4) rfl (by kernel_rfl) (by kernel_rfl) (by kernel_rfl) (by kernel_rfl) (fun _ _ _ h => h) (Or.inl ⟨by rfl, by intro u hSw; go_simp⟩) hHeld ?_
          try simp only [List.setIfInBounds_toArray, List.set_cons_zero, List.set_cons_succ]
          refine wpAnyH_done (by kernel_rfl) ?_ _
          refine NoPanic.normal ?_
          apply hK1
          clear hK1 K1
          go_wp2_with fail
          go_ret
          have hf : flat [(some ⟨wb.heap.size, 0, none⟩, 4, voteSignL), (some ⟨w1.heap.size, 0, none⟩, 1, putL n 1), (A1, c1, ptL e1 l1), (A2, c2, ptL e2 l2)] = txL n e1 l1 e2 l2 := by simp [flat, txL, lkL]
          rw [hf] at hc4 o4 ⊢
          exact ⟨A4, c4, rfl, hc4, o4.wide (Nat.le_trans HB.out.size HX3.out) (Nat.le_refl _), hdBelow HB.out BX.out⟩
        · go_simp
          go_at_call 30
          refine (CP2.out _).mono ?_
          rintro y w2 ⟨A2, c2, rfl, hc2, o2, b2⟩
          have BX := Lib.hid (BX.out.trans (b2.mono BX.out.size))
          (try have R1 := Lib.hid ((R1.out.below b2 (Nat.le_refl _)).wide (Nat.le_refl _) b2.size))
          (try have R2 := Lib.hid ((R2.out.below b2 (Nat.le_refl _)).wide (Nat.le_refl _) b2.size))
          (try have RB := Lib.hid ((RB.out.below b2 (Nat.le_refl _)).wide (Nat.le_refl _) b2.size))
          (try have RV := Lib.hid ((RV.out.below b2 (Nat.le_refl _)).wide (Nat.le_refl _) b2.size))
          (try have HV := Lib.hid ((b2.block _ (heap_in HV.out)).trans HV.out))
          have R2 := Lib.hid (o2.rd.wide (Nat.zero_le _) (Nat.le_refl _))
          clear o2
          clear b2
          go_simp
          refine hK.out _ _ (KP.out _ BX.out) (fun hHeld => ?_)
          clear hK K
          try simp only [Act.put, List.setIfInBounds_toArray, List.set_cons_zero, List.set_cons_succ]
          refine wpAnyH_ready (rs := [1]) (by kernel_rfl) (by simp) ?_
          refine AllReadyH.cons (o := _) rfl (fun K hK => ?_) (AllReadyH.nil)
          obtain ⟨wz, hwz⟩ : ∃ wz, wz = w2.freeze ⟨wb.heap.size, 4, none⟩ 1 := ⟨_, rfl⟩
          have kcv : (convert 27 27 (.slice (some ⟨wb.heap.size, 0, none⟩) 4 4)).run Try.prog w2 = .ok (.slice (some ⟨wb.heap.size, 0, none⟩) 4 4) wz := by rw [hwz]; exact convert_const w2 _ _ #[.int .u8 118, .int .u8 111, .int .u8 116, .int .u8 101] _ 4 4 HV.out Try.underlying27 Try.underlying5
          have hfz := freeze_cells w2 ⟨wb.heap.size, 4, none⟩ 1
          rw [← hwz] at hfz
          have BX := Lib.hid (freeze_below BX.out HG.out hfz)
          (try have R1 := Lib.hid (rd_same R1.out hfz.1 hfz.2.1))
          (try have R2 := Lib.hid (rd_same R2.out hfz.1 hfz.2.1))
          (try have RB := Lib.hid (rd_same RB.out hfz.1 hfz.2.1))
          have RV := Lib.hid (rd_same RV.out hfz.1 hfz.2.1)
          clear hwz hfz HV HG
          go_simp
          refine hK.out _ _ (KP.out _ BX.out) (fun hHeld => ?_)
          clear hK K kcv
          try simp only [Act.put, List.setIfInBounds_toArray, List.set_cons_zero, List.set_cons_succ]
          refine wpAnyH_ready (rs := [12]) (by kernel_rfl) (by simp) ?_
          refine AllReadyH.cons (o := _) rfl (fun K hK => ?_) AllReadyH.nil
          go_simp
          refine hK.out _ _ (KP.out _ (BX.out.alloc BX.out.size _)) (fun hHeld => ?_)
          clear hK K
          try simp only [Act.put, List.setIfInBounds_toArray, List.set_cons_zero, List.set_cons_succ]
          refine wpAnyH_ready (rs := [13]) (by kernel_rfl) (by simp) ?_
          refine AllReadyH.cons (o := _) rfl (fun K hK => ?_) AllReadyH.nil
          go_simp
          go_at_call 29
          refine (joinRL [(some ⟨wb.heap.size, 0, none⟩, 4, voteSignL), (some ⟨w1.heap.size, 0, none⟩, 1, putL n 1), (A1, c1, ptL e1 l1), (A2, c2, ptL e2 l2)] wz _ (by simp [putL_length, voteSignL]) (fun x hx => by
              simp only [List.mem_cons, List.not_mem_nil, or_false] at hx
              rcases hx with rfl | rfl | rfl | rfl
              · exact RV.out
              · exact RB.out
              · exact R1.out
              · exact R2.out) 4 rfl (by simp) (by have h1 := HP1.out; have h2 := HP2.out; simp [flat, putL_length, h1, h2, voteSignL])).mono ?_
          rintro y w4 ⟨A4, c4, rfl, hc4, ha4, o4, b4⟩
          have HX3 := Lib.hid BX.out.size
          have BX := Lib.hid (BX.out.trans (b4.mono BX.out.size))
          clear b4
          go_simp
          refine hK.out _ _ (KP.out _ BX.out) (fun hHeld => ?_)
          clear hK K
          try simp only [Act.put, List.setIfInBounds_toArray, List.set_cons_zero, List.set_cons_succ]
          refine takeH (i := 14) (d := 2) (oi := _) (v := .slice A4 (flat [(some ⟨wb.heap.size, 0, none⟩, 4, voteSignL), (some ⟨w1.heap.size, 0, none⟩, 1, putL n 1), (A1, c1, ptL e1 l1), (A2, c2, ptL e2 l2)]).length c4) rfl (by kernel_rfl) (by kernel_rfl) (by kernel_rfl) (by kernel_rfl) (fun _ _ _ h => h) (Or.inl ⟨by rfl, by intro u hSw; go_simp⟩) hHeld ?_
          try simp only [List.setIfInBounds_toArray, List.set_cons_zero, List.set_cons_succ]
          refine wpAnyH_done (by kernel_rfl) ?_ _
          refine NoPanic.normal ?_
          apply hK1
          clear hK1 K1
          go_wp2_with fail
          go_ret
          have hf : flat [(some ⟨wb.heap.size, 0, none⟩, 4, voteSignL), (some ⟨w1.heap.size, 0, none⟩, 1, putL n 1), (A1, c1, ptL e1 l1), (A2, c2, ptL e2 l2)] = txL n e1 l1 e2 l2 := by simp [flat, txL, lkL]
          rw [hf] at hc4 o4 ⊢
          exact ⟨A4, c4, rfl, hc4, o4.wide (Nat.le_trans HB.out.size HX3.out) (Nat.le_refl _), hdBelow HB.out BX.out⟩
      · go_simp
        go_at_call 30
        refine (CP2.out _).mono ?_
        rintro y w2 ⟨A2, c2, rfl, hc2, o2, b2⟩
        have BX := Lib.hid (BX.out.trans (b2.mono BX.out.size))
        (try have R1 := Lib.hid ((R1.out.below b2 (Nat.le_refl _)).wide (Nat.le_refl _) b2.size))
        (try have R2 := Lib.hid ((R2.out.below b2 (Nat.le_refl _)).wide (Nat.le_refl _) b2.size))
        (try have RB := Lib.hid ((RB.out.below b2 (Nat.le_refl _)).wide (Nat.le_refl _) b2.size))
        (try have RV := Lib.hid ((RV.out.below b2 (Nat.le_refl _)).wide (Nat.le_refl _) b2.size))
        (try have HV := Lib.hid ((b2.block _ (heap_in HV.out)).trans HV.out))
        have R2 := Lib.hid (o2.rd.wide (Nat.zero_le _) (Nat.le_refl _))
        clear o2
        clear b2
        go_simp
        refine hK.out _ _ (KP.out _ BX.out) (fun hHeld => ?_)
        clear hK K
        try simp only [Act.put, List.setIfInBounds_toArray, List.set_cons_zero, List.set_cons_succ]
        refine wpAnyH_ready (rs := [0]) (by kernel_rfl) (by simp) ?_
        refine AllReadyH.cons (o := _) rfl (fun K hK => ?_) (AllReadyH.nil)
        go_simp
        obtain ⟨wv, hwv⟩ : ∃ wv, wv = w2.alloc (.cells #[.int .u8 118, .int .u8 111, .int .u8 116, .int .u8 101] 5) := ⟨_, rfl⟩
        have bb : Below w2.heap.size w2 wv := by
          rw [hwv]
          skip
          exact (Below.refl _ _).alloc (Nat.le_refl _) _
        have hh : wv.heap[w2.heap.size]? = some (.cells #[.int .u8 118, .int .u8 111, .int .u8 116, .int .u8 101] 5 (0, 0)) := by rw [hwv]; exact heap_alloc_new w2 _
        have HG := Lib.hid (show W.heap.size ≤ w2.heap.size from BX.out.size)
        have BX := Lib.hid (BX.out.trans (bb.mono BX.out.size))
        (try have R1 := Lib.hid ((R1.out.below bb (Nat.le_refl _)).wide (Nat.le_refl _) bb.size))
        (try have R2 := Lib.hid ((R2.out.below bb (Nat.le_refl _)).wide (Nat.le_refl _) bb.size))
        (try have RB := Lib.hid ((RB.out.below bb (Nat.le_refl _)).wide (Nat.le_refl _) bb.size))
        (try have RV := Lib.hid ((RV.out.below bb (Nat.le_refl _)).wide (Nat.le_refl _) bb.size))
        (try have HV := Lib.hid ((bb.block _ (heap_in HV.out)).trans HV.out))
        have RV : Hid (Rd wv 0 wv.heap.size (some ⟨w2.heap.size, 0, none⟩) voteSignL) := signBytes hh
        have HV := Lib.hid hh
        rw [← hwv]
        clear bb hh hwv
        refine hK.out _ _ (KP.out _ BX.out) (fun hHeld => ?_)
        clear hK K
        try simp only [Act.put, List.setIfInBounds_toArray, List.set_cons_zero, List.set_cons_succ]
        refine wpAnyH_ready (rs := [1]) (by kernel_rfl) (by simp) ?_
        refine AllReadyH.cons (o := _) rfl (fun K hK => ?_) (AllReadyH.nil)
        obtain ⟨wz, hwz⟩ : ∃ wz, wz = wv.freeze ⟨w2.heap.size, 4, none⟩ 1 := ⟨_, rfl⟩
        have kcv : (convert 27 27 (.slice (some ⟨w2.heap.size, 0, none⟩) 4 4)).run Try.prog wv = .ok (.slice (some ⟨w2.heap.size, 0, none⟩) 4 4) wz := by rw [hwz]; exact convert_const wv _ _ #[.int .u8 118, .int .u8 111, .int .u8 116, .int .u8 101] _ 4 4 HV.out Try.underlying27 Try.underlying5
        have hfz := freeze_cells wv ⟨w2.heap.size, 4, none⟩ 1
        rw [← hwz] at hfz
        have BX := Lib.hid (freeze_below BX.out HG.out hfz)
        (try have R1 := Lib.hid (rd_same R1.out hfz.1 hfz.2.1))
        (try have R2 := Lib.hid (rd_same R2.out hfz.1 hfz.2.1))
        (try have RB := Lib.hid (rd_same RB.out hfz.1 hfz.2.1))
        have RV := Lib.hid (rd_same RV.out hfz.1 hfz.2.1)
        clear hwz hfz HV HG
        go_simp
        refine hK.out _ _ (KP.out _ BX.out) (fun hHeld => ?_)
        clear hK K kcv
        try simp only [Act.put, List.setIfInBounds_toArray, List.set_cons_zero, List.set_cons_succ]
        refine wpAnyH_ready (rs := [12]) (by kernel_rfl) (by simp) ?_
        refine AllReadyH.cons (o := _) rfl (fun K hK => ?_) AllReadyH.nil
        go_simp
        refine hK.out _ _ (KP.out _ (BX.out.alloc BX.out.size _)) (fun hHeld => ?_)
        clear hK K
        try simp only [Act.put, List.setIfInBounds_toArray, List.set_cons_zero, List.set_cons_succ]
        refine wpAnyH_ready (rs := [13]) (by kernel_rfl) (by simp) ?_
        refine AllReadyH.cons (o := _) rfl (fun K hK => ?_) AllReadyH.nil
        go_simp
        go_at_call 29
        refine (joinRL [(some ⟨w2.heap.size, 0, none⟩, 4, voteSignL), (some ⟨w1.heap.size, 0, none⟩, 1, putL n 1), (A1, c1, ptL e1 l1), (A2, c2, ptL e2 l2)] wz _ (by simp [putL_length, voteSignL]) (fun x hx => by
            simp only [List.mem_cons, List.not_mem_nil, or_false] at hx
            rcases hx with rfl | rfl | rfl | rfl
            · exact RV.out
            · exact RB.out
            · exact R1.out
            · exact R2.out) 4 rfl (by simp) (by have h1 := HP1.out; have h2 := HP2.out; simp [flat, putL_length, h1, h2, voteSignL])).mono ?_
        rintro y w4 ⟨A4, c4, rfl, hc4, ha4, o4, b4⟩
        have HX3 := Lib.hid BX.out.size
        have BX := Lib.hid (BX.out.trans (b4.mono BX.out.size))
        clear b4
        go_simp
        refine hK.out _ _ (KP.out _ BX.out) (fun hHeld => ?_)
        clear hK K
        try simp only [Act.put, List.setIfInBounds_toArray, List.set_cons_zero, List.set_cons_succ]
        refine takeH (i := 14) (d := 2) (oi := _) (v := .slice A4 (flat [(some ⟨w2.heap.size, 0, none⟩, 4, voteSignL), (some ⟨w1.heap.size, 0, none⟩, 1, putL n 1), (A1, c1, ptL e1 l1), (A2, c2, ptL e2 l2)]).length c4) rfl (by kernel_rfl) (by kernel_rfl) (by kernel_rfl) (by kernel_rfl) (fun _ _ _ h => h) (Or.inl ⟨by rfl, by intro u hSw; go_simp⟩) hHeld ?_
        try simp only [List.setIfInBounds_toArray, List.set_cons_zero, List.set_cons_succ]
        refine wpAnyH_done (by kernel_rfl) ?_ _
        refine NoPanic.normal ?_
        apply hK1
        clear hK1 K1
        go_wp2_with fail
        go_ret
        have hf : flat [(some ⟨w2.heap.size, 0, none⟩, 4, voteSignL), (some ⟨w1.heap.size, 0, none⟩, 1, putL n 1), (A1, c1, ptL e1 l1), (A2, c2, ptL e2 l2)] = txL n e1 l1 e2 l2 := by simp [flat, txL, lkL]
        rw [hf] at hc4 o4 ⊢
        exact ⟨A4, c4, rfl, hc4, o4.wide (Nat.le_trans HB.out.size HX3.out) (Nat.le_refl _), hdBelow HB.out BX.out⟩
    · go_simp
      go_at_call 30
      refine (CP2.out _).mono ?_
      rintro y w2 ⟨A2, c2, rfl, hc2, o2, b2⟩
      have BX := Lib.hid (BX.out.trans (b2.mono BX.out.size))
      (try have R1 := Lib.hid ((R1.out.below b2 (Nat.le_refl _)).wide (Nat.le_refl _) b2.size))
      (try have R2 := Lib.hid ((R2.out.below b2 (Nat.le_refl _)).wide (Nat.le_refl _) b2.size))
      (try have RB := Lib.hid ((RB.out.below b2 (Nat.le_refl _)).wide (Nat.le_refl _) b2.size))
      (try have RV := Lib.hid ((RV.out.below b2 (Nat.le_refl _)).wide (Nat.le_refl _) b2.size))
      (try have HV := Lib.hid ((b2.block _ (heap_in HV.out)).trans HV.out))
      have R2 := Lib.hid (o2.rd.wide (Nat.zero_le _) (Nat.le_refl _))
      clear o2
      clear b2
      go_simp
      refine hK.out _ _ (KP.out _ BX.out) (fun hHeld => ?_)
      clear hK K
      try simp only [Act.put, List.setIfInBounds_toArray, List.set_cons_zero, List.set_cons_succ]
      refine wpAnyH_ready (rs := [0, 5]) (by kernel_rfl) (by simp) ?_
      refine AllReadyH.cons (o := _) rfl (fun K hK => ?_) (AllReadyH.cons (o := _) rfl (fun K hK => ?_) (AllReadyH.nil))
      · go_simp
        obtain ⟨wv, hwv⟩ : ∃ wv, wv = w2.alloc (.cells #[.int .u8 118, .int .u8 111, .int .u8 116, .int .u8 101] 5) := ⟨_, rfl⟩
        have bb : Below w2.heap.size w2 wv := by
          rw [hwv]
          skip
          exact (Below.refl _ _).alloc (Nat.le_refl _) _
        have hh : wv.heap[w2.heap.size]? = some (.cells #[.int .u8 118, .int .u8 111, .int .u8 116, .int .u8 101] 5 (0, 0)) := by rw [hwv]; exact heap_alloc_new w2 _
        have HG := Lib.hid (show W.heap.size ≤ w2.heap.size from BX.out.size)
        have BX := Lib.hid (BX.out.trans (bb.mono BX.out.size))
        (try have R1 := Lib.hid ((R1.out.below bb (Nat.le_refl _)).wide (Nat.le_refl _) bb.size))
        (try have R2 := Lib.hid ((R2.out.below bb (Nat.le_refl _)).wide (Nat.le_refl _) bb.size))
        (try have RB := Lib.hid ((RB.out.below bb (Nat.le_refl _)).wide (Nat.le_refl _) bb.size))
        (try have RV := Lib.hid ((RV.out.below bb (Nat.le_refl _)).wide (Nat.le_refl _) bb.size))
        (try have HV := Lib.hid ((bb.block _ (heap_in HV.out)).trans HV.out))
        have RV : Hid (Rd wv 0 wv.heap.size (some ⟨w2.heap.size, 0, none⟩) voteSignL) := signBytes hh
        have HV := Lib.hid hh
        rw [← hwv]
        clear bb hh hwv
        refine hK.out _ _ (KP.out _ BX.out) (fun hHeld => ?_)
        clear hK K
        try simp only [Act.put, List.setIfInBounds_toArray, List.set_cons_zero, List.set_cons_succ]
        refine wpAnyH_ready (rs := [1, 5]) (by kernel_rfl) (by simp) ?_
        refine AllReadyH.cons (o := _) rfl (fun K hK => ?_) (AllReadyH.cons (o := _) rfl (fun K hK => ?_) (AllReadyH.nil))
        · obtain ⟨wz, hwz⟩ : ∃ wz, wz = wv.freeze ⟨w2.heap.size, 4, none⟩ 1 := ⟨_, rfl⟩
          have kcv : (convert 27 27 (.slice (some ⟨w2.heap.size, 0, none⟩) 4 4)).run Try.prog wv = .ok (.slice (some ⟨w2.heap.size, 0, none⟩) 4 4) wz := by rw [hwz]; exact convert_const wv _ _ #[.int .u8 118, .int .u8 111, .int .u8 116, .int .u8 101] _ 4 4 HV.out Try.underlying27 Try.underlying5
          have hfz := freeze_cells wv ⟨w2.heap.size, 4, none⟩ 1
          rw [← hwz] at hfz
          have BX := Lib.hid (freeze_below BX.out HG.out hfz)
          (try have R1 := Lib.hid (rd_same R1.out hfz.1 hfz.2.1))
          (try have R2 := Lib.hid (rd_same R2.out hfz.1 hfz.2.1))
          (try have RB := Lib.hid (rd_same RB.out hfz.1 hfz.2.1))
          have RV := Lib.hid (rd_same RV.out hfz.1 hfz.2.1)
          clear hwz hfz HV HG
          go_simp
          refine hK.out _ _ (KP.out _ BX.out) (fun hHeld => ?_)
          clear hK K kcv
          try simp only [Act.put, List.setIfInBounds_toArray, List.set_cons_zero, List.set_cons_succ]
          refine wpAnyH_ready (rs := [5]) (by kernel_rfl) (by simp) ?_
          refine AllReadyH.cons (o := _) rfl (fun K hK => ?_) (AllReadyH.nil)
          go_simp
          obtain ⟨wb, hwb⟩ : ∃ wb, wb = wz.alloc (.cells #[.int .u8 (n : Int)] 5) := ⟨_, rfl⟩
          have bb : Below wz.heap.size wz wb := by
            rw [hwb]
            skip
            exact (Below.refl _ _).alloc (Nat.le_refl _) _
          have hh : wb.heap[wz.heap.size]? = some (.cells #[.int .u8 (n : Int)] 5 (0, 0)) := by rw [hwb]; exact heap_alloc_new wz _
          have BX := Lib.hid (BX.out.trans (bb.mono BX.out.size))
          (try have R1 := Lib.hid ((R1.out.below bb (Nat.le_refl _)).wide (Nat.le_refl _) bb.size))
          (try have R2 := Lib.hid ((R2.out.below bb (Nat.le_refl _)).wide (Nat.le_refl _) bb.size))
          (try have RB := Lib.hid ((RB.out.below bb (Nat.le_refl _)).wide (Nat.le_refl _) bb.size))
          (try have RV := Lib.hid ((RV.out.below bb (Nat.le_refl _)).wide (Nat.le_refl _) bb.size))
          (try have HV := Lib.hid ((bb.block _ (heap_in HV.out)).trans HV.out))
          have RB : Hid (Rd wb 0 wb.heap.size (some ⟨wz.heap.size, 0, none⟩) (putL n 1)) := oneByte n hh HN.out
          rw [← hwb]
          clear bb hh hwb
          refine hK.out _ _ (KP.out _ BX.out) (fun hHeld => ?_)
          clear hK K
          try simp only [Act.put, List.setIfInBounds_toArray, List.set_cons_zero, List.set_cons_succ]
          refine wpAnyH_ready (rs := [12]) (by kernel_rfl) (by simp) ?_
          refine AllReadyH.cons (o := _) rfl (fun K hK => ?_) AllReadyH.nil
          go_simp
          refine hK.out _ _ (KP.out _ (BX.out.alloc BX.out.size _)) (fun hHeld => ?_)
          clear hK K
          try simp only [Act.put, List.setIfInBounds_toArray, List.set_cons_zero, List.set_cons_succ]
          refine wpAnyH_ready (rs := [13]) (by kernel_rfl) (by simp) ?_
          refine AllReadyH.cons (o := _) rfl (fun K hK => ?_) AllReadyH.nil
          go_simp
          go_at_call 29
          refine (joinRL [(some ⟨w2.heap.size, 0, none⟩, 4, voteSignL), (some ⟨wz.heap.size, 0, none⟩, 1, putL n 1), (A1, c1, ptL e1 l1), (A2, c2, ptL e2 l2)] wb _ (by simp [putL_length, voteSignL]) (fun x hx => by
              simp only [List.mem_cons, List.not_mem_nil, or_false] at hx
              rcases hx with rfl | rfl | rfl | rfl
              · exact RV.out
              · exact RB.out
              · exact R1.out
              · exact R2.out) 4 rfl (by simp) (by have h1 := HP1.out; have h2 := HP2.out; simp [flat, putL_length, h1, h2, voteSignL])).mono ?_
          rintro y w4 ⟨A4, c4, rfl, hc4, ha4, o4, b4⟩
          have HX3 := Lib.hid BX.out.size
          have BX := Lib.hid (BX.out.trans (b4.mono BX.out.size))
          clear b4
          go_simp
          refine hK.out _ _ (KP.out _ BX.out) (fun hHeld => ?_)
          clear hK K
          try simp only [Act.put, List.setIfInBounds_toArray, List.set_cons_zero, List.set_cons_succ]
          refine takeH (i := 14) (d := 2) (oi := _) (v := .slice A4 (flat [(some ⟨w2.heap.size, 0, none⟩, 4, voteSignL), (some ⟨wz.heap.size, 0, none⟩, 1, putL n 1), (A1, c1, ptL e1 l1), (A2, c2, ptL e2 l2)]).length c4) rfl (by kernel_rfl) (by kernel_rfl) (by kernel_rfl) (by kernel_rfl) (fun _ _ _ h => h) (Or.inl ⟨by rfl, by intro u hSw; go_simp⟩) hHeld ?_
          try simp only [List.setIfInBounds_toArray, List.set_cons_zero, List.set_cons_succ]
          refine wpAnyH_done (by kernel_rfl) ?_ _
          refine NoPanic.normal ?_
          apply hK1
          clear hK1 K1
          go_wp2_with fail
          go_ret
          have hf : flat [(some ⟨w2.heap.size, 0, none⟩, 4, voteSignL), (some ⟨wz.heap.size, 0, none⟩, 1, putL n 1), (A1, c1, ptL e1 l1), (A2, c2, ptL e2 l2)] = txL n e1 l1 e2 l2 := by simp [flat, txL, lkL]
          rw [hf] at hc4 o4 ⊢
          exact ⟨A4, c4, rfl, hc4, o4.wide (Nat.le_trans HB.out.size HX3.out) (Nat.le_refl _), hdBelow HB.out BX.out⟩
        · go_simp
          obtain ⟨wb, hwb⟩ : ∃ wb, wb = wv.alloc (.cells #[.int .u8 (n : Int)] 5) := ⟨_, rfl⟩
          have bb : Below wv.heap.size wv wb := by
            rw [hwb]
            skip
            exact (Below.refl _ _).alloc (Nat.le_refl _) _
          have hh : wb.heap[wv.heap.size]? = some (.cells #[.int .u8 (n : Int)] 5 (0, 0)) := by rw [hwb]; exact heap_alloc_new wv _
          have BX := Lib.hid (BX.out.trans (bb.mono BX.out.size))
          (try have R1 := Lib.hid ((R1.out.below bb (Nat.le_refl _)).wide (Nat.le_refl _) bb.size))
          (try have R2 := Lib.hid ((R2.out.below bb (Nat.le_refl _)).wide (Nat.le_refl _) bb.size))
          (try have RB := Lib.hid ((RB.out.below bb (Nat.le_refl _)).wide (Nat.le_refl _) bb.size))
          (try have RV := Lib.hid ((RV.out.below bb (Nat.le_refl _)).wide (Nat.le_refl _) bb.size))
          (try have HV := Lib.hid ((bb.block _ (heap_in HV.out)).trans HV.out))
          have RB : Hid (Rd wb 0 wb.heap.size (some ⟨wv.heap.size, 0, none⟩) (putL n 1)) := oneByte n hh HN.out
          rw [← hwb]
          clear bb hh hwb
          refine hK.out _ _ (KP.out _ BX.out) (fun hHeld => ?_)
          clear hK K
          try simp only [Act.put, List.setIfInBounds_toArray, List.set_cons_zero, List.set_cons_succ]
          refine wpAnyH_ready (rs := [1]) (by kernel_rfl) (by simp) ?_
          refine AllReadyH.cons (o := _) rfl (fun K hK => ?_) (AllReadyH.nil)
          obtain ⟨wz, hwz⟩ : ∃ wz, wz = wb.freeze ⟨w2.heap.size, 4, none⟩ 1 := ⟨_, rfl⟩
          have kcv : (convert 27 27 (.slice (some ⟨w2.heap.size, 0, none⟩) 4 4)).run Try.prog wb = .ok (.slice (some ⟨w2.heap.size, 0, none⟩) 4 4) wz := by rw [hwz]; exact convert_const wb _ _ #[.int .u8 118, .int .u8 111, .int .u8 116, .int .u8 101] _ 4 4 HV.out Try.underlying27 Try.underlying5
          have hfz := freeze_cells wb ⟨w2.heap.size, 4, none⟩ 1
          rw [← hwz] at hfz
          have BX := Lib.hid (freeze_below BX.out HG.out hfz)
          (try have R1 := Lib.hid (rd_same R1.out hfz.1 hfz.2.1))
          (try have R2 := Lib.hid (rd_same R2.out hfz.1 hfz.2.1))
          (try have RB := Lib.hid (rd_same RB.out hfz.1 hfz.2.1))
          have RV := Lib.hid (rd_same RV.out hfz.1 hfz.2.1)
          clear hwz hfz HV HG
          go_simp
          refine hK.out _ _ (KP.out _ BX.out) (fun hHeld => ?_)
          clear hK K kcv
          try simp only [Act.put, List.setIfInBounds_toArray, List.set_cons_zero, List.set_cons_succ]
          refine wpAnyH_ready (rs := [12]) (by kernel_rfl) (by simp) ?_
          refine AllReadyH.cons (o := _) rfl (fun K hK => ?_) AllReadyH.nil
          go_simp
          refine hK.out _ _ (KP.out _ (BX.out.alloc BX.out.size _)) (fun hHeld => ?_)
          clear hK K
          try simp only [Act.put, List.setIfInBounds_toArray, List.set_cons_zero, List.set_cons_succ]
          refine wpAnyH_ready (rs := [13]) (by kernel_rfl) (by simp) ?_
          refine AllReadyH.cons (o := _) rfl (fun K hK => ?_) AllReadyH.nil
          go_simp
          go_at_call 29
          refine (joinRL [(some ⟨w2.heap.size, 0, none⟩, 4, voteSignL), (some ⟨wv.heap.size, 0, none⟩, 1, putL n 1), (A1, c1, ptL e1 l1), (A2, c2, ptL e2 l2)] wz _ (by simp [putL_length, voteSignL]) (fun x hx => by
              simp only [List.mem_cons, List.not_mem_nil, or_false] at hx
              rcases hx with rfl | rfl | rfl | rfl
              · exact RV.out
              · exact RB.out
              · exact R1.out
              · exact R2.out) 4 rfl (by simp) (by have h1 := HP1.out; have h2 := HP2.out; simp [flat, putL_length, h1, h2, voteSignL])).mono ?_
          rintro y w4 ⟨A4, c4, rfl, hc4, ha4, o4, b4⟩
          have HX3 := Lib.hid BX.out.size
          have BX := Lib.hid (BX.out.trans (b4.mono BX.out.size))
          clear b4
          go_simp
          refine hK.out _ _ (KP.out _ BX.out) (fun hHeld => ?_)
          clear hK K
          try simp only [Act.put, List.setIfInBounds_toArray, List.set_cons_zero, List.set_cons_succ]
          refine takeH (i := 14) (d := 2) (oi := _) (v := .slice A4 (flat [(some ⟨w2.heap.size, 0, none⟩, 4, voteSignL), (some ⟨wv.heap.size, 0, none⟩, 1, putL n 1), (A1, c1, ptL e1 l1), (A2, c2, ptL e2 l2)]).length c4) rfl (by kernel_rfl) (by kernel_rfl) (by kernel_rfl) (by kernel_rfl) (fun _ _ _ h => h) (Or.inl ⟨by rfl, by intro u hSw; go_simp⟩) hHeld ?_
          try simp only [List.setIfInBounds_toArray, List.set_cons_zero, List.set_cons_succ]
          refine wpAnyH_done (by kernel_rfl) ?_ _
          refine NoPanic.normal ?_
          apply hK1
          clear hK1 K1
          go_wp2_with fail
          go_ret
          have hf : flat [(some ⟨w2.heap.size, 0, none⟩, 4, voteSignL), (some ⟨wv.heap.size, 0, none⟩, 1, putL n 1), (A1, c1, ptL e1 l1), (A2, c2, ptL e2 l2)] = txL n e1 l1 e2 l2 := by simp [flat, txL, lkL]
          rw [hf] at hc4 o4 ⊢
          exact ⟨A4, c4, rfl, hc4, o4.wide (Nat.le_trans HB.out.size HX3.out) (Nat.le_refl _), hdBelow HB.out BX.out⟩
      · go_simp
        obtain ⟨wb, hwb⟩ : ∃ wb, wb = w2.alloc (.cells #[.int .u8 (n : Int)] 5) := ⟨_, rfl⟩
        have bb : Below w2.heap.size w2 wb := by
          rw [hwb]
          skip
          exact (Below.refl _ _).alloc (Nat.le_refl _) _
        have hh : wb.heap[w2.heap.size]? = some (.cells #[.int .u8 (n : Int)] 5 (0, 0)) := by rw [hwb]; exact heap_alloc_new w2 _
        have BX := Lib.hid (BX.out.trans (bb.mono BX.out.size))
        (try have R1 := Lib.hid ((R1.out.below bb (Nat.le_refl _)).wide (Nat.le_refl _) bb.size))
        (try have R2 := Lib.hid ((R2.out.below bb (Nat.le_refl _)).wide (Nat.le_refl _) bb.size))
        (try have RB := Lib.hid ((RB.out.below bb (Nat.le_refl _)).wide (Nat.le_refl _) bb.size))
        (try have RV := Lib.hid ((RV.out.below bb (Nat.le_refl _)).wide (Nat.le_refl _) bb.size))
        (try have HV := Lib.hid ((bb.block _ (heap_in HV.out)).trans HV.out))
        have RB : Hid (Rd wb 0 wb.heap.size (some ⟨w2.heap.size, 0, none⟩) (putL n 1)) := oneByte n hh HN.out
        rw [← hwb]
        clear bb hh hwb
        refine hK.out _ _ (KP.out _ BX.out) (fun hHeld => ?_)
        clear hK K
        try simp only [Act.put, List.setIfInBounds_toArray, List.set_cons_zero, List.set_cons_succ]
        refine wpAnyH_ready (rs := [0]) (by kernel_rfl) (by simp) ?_
        refine AllReadyH.cons (o := _) rfl (fun K hK => ?_) (AllReadyH.nil)
        go_simp
        obtain ⟨wv, hwv⟩ : ∃ wv, wv = wb.alloc (.cells #[.int .u8 118, .int .u8 111, .int .u8 116, .int .u8 101] 5) := ⟨_, rfl⟩
        have bb : Below wb.heap.size wb wv := by
          rw [hwv]
          skip
          exact (Below.refl _ _).alloc (Nat.le_refl _) _
        have hh : wv.heap[wb.heap.size]? = some (.cells #[.int .u8 118, .int .u8 111, .int .u8 116, .int .u8 101] 5 (0, 0)) := by rw [hwv]; exact heap_alloc_new wb _
        have HG := Lib.hid (show W.heap.size ≤ wb.heap.size from BX.out.size)
        have BX := Lib.hid (BX.out.trans (bb.mono BX.out.size))
        (try have R1 := Lib.hid ((R1.out.below bb (Nat.le_refl _)).wide (Nat.le_refl _) bb.size))
        (try have R2 := Lib.hid ((R2.out.below bb (Nat.le_refl _)).wide (Nat.le_refl _) bb.size))
        (try have RB := Lib.hid ((RB.out.below bb (Nat.le_refl _)).wide (Nat.le_refl _) bb.size))
        (try have RV := Lib.hid ((RV.out.below bb (Nat.le_refl _)).wide (Nat.le_refl _) bb.size))
        (try have HV := Lib.hid ((bb.block _ (heap_in HV.out)).trans HV.out))
        have RV : Hid (Rd wv 0 wv.heap.size (some ⟨wb.heap.size, 0, none⟩) voteSignL) := signBytes hh
        have HV := Lib.hid hh
        rw [← hwv]
        clear bb hh hwv
        refine hK.out _ _ (KP.out _ BX.out) (fun hHeld => ?_)
        clear hK K
        try simp only [Act.put, List.setIfInBounds_toArray, List.set_cons_zero, List.set_cons_succ]
        refine wpAnyH_ready (rs := [1]) (by kernel_rfl) (by simp) ?_
        refine AllReadyH.cons (o := _) rfl (fun K hK => ?_) (AllReadyH.nil)
        obtain ⟨wz, hwz⟩ : ∃ wz, wz = wv.freeze ⟨wb.heap.size, 4, none⟩ 1 := ⟨_, rfl⟩
        have kcv : (convert 27 27 (.slice (some ⟨wb.heap.size, 0, none⟩) 4 4)).run Try.prog wv = .ok (.slice (some ⟨wb.heap.size, 0, none⟩) 4 4) wz := by rw [hwz]; exact convert_const wv _ _ #[.int .u8 118, .int .u8 111, .int .u8 116, .int .u8 101] _ 4 4 HV.out Try.underlying27 Try.underlying5
        have hfz := freeze_cells wv ⟨wb.heap.size, 4, none⟩ 1
        rw [← hwz] at hfz
        have BX := Lib.hid (freeze_below BX.out HG.out hfz)
        (try have R1 := Lib.hid (rd_same R1.out hfz.1 hfz.2.1))
        (try have R2 := Lib.hid (rd_same R2.out hfz.1 hfz.2.1))
        (try have RB := Lib.hid (rd_same RB.out hfz.1 hfz.2.1))
        have RV := Lib.hid (rd_same RV.out hfz.1 hfz.2.1)
        clear hwz hfz HV HG
        go_simp
        refine hK.out _ _ (KP.out _ BX.out) (fun hHeld => ?_)
        clear hK K kcv
        try simp only [Act.put, List.setIfInBounds_toArray, List.set_cons_zero, List.set_cons_succ]
        refine wpAnyH_ready (rs := [12]) (by kernel_rfl) (by simp) ?_
        refine AllReadyH.cons (o := _) rfl (fun K hK => ?_) AllReadyH.nil
        go_simp
        refine hK.out _ _ (KP.out _ (BX.out.alloc BX.out.size _)) (fun hHeld => ?_)
        clear hK K
        try simp only [Act.put, List.setIfInBounds_toArray, List.set_cons_zero, List.set_cons_succ]
        refine wpAnyH_ready (rs := [13]) (by kernel_rfl) (by simp) ?_
        refine AllReadyH.cons (o := _) rfl (fun K hK => ?_) AllReadyH.nil
        go_simp
        go_at_call 29
        refine (joinRL [(some ⟨wb.heap.size, 0, none⟩, 4, voteSignL), (some ⟨w2.heap.size, 0, none⟩, 1, putL n 1), (A1, c1, ptL e1 l1), (A2, c2, ptL e2 l2)] wz _ (by simp [putL_length, voteSignL]) (fun x hx => by
            simp only [List.mem_cons, List.not_mem_nil, or_false] at hx
            rcases hx with rfl | rfl | rfl | rfl
            · exact RV.out
            · exact RB.out
            · exact R1.out
            · exact R2.out) 4 rfl (by simp) (by have h1 := HP1.out; have h2 := HP2.out; simp [flat, putL_length, h1, h2, voteSignL])).mono ?_
        rintro y w4 ⟨A4, c4, rfl, hc4, ha4, o4, b4⟩
        have HX3 := Lib.hid BX.out.size
        have BX := Lib.hid (BX.out.trans (b4.mono BX.out.size))
        clear b4
        go_simp
        refine hK.out _ _ (KP.out _ BX.out) (fun hHeld => ?_)
        clear hK K
        try simp only [Act.put, List.setIfInBounds_toArray, List.set_cons_zero, List.set_cons_succ]
        refine takeH (i := 14) (d := 2) (oi := _) (v := .slice A4 (flat [(some ⟨wb.heap.size, 0, none⟩, 4, voteSignL), (some ⟨w2.heap.size, 0, none⟩, 1, putL n 1), (A1, c1, ptL e1 l1), (A2, c2, ptL e2 l2)]).length c4) rfl (by kernel_rfl) (by kernel_rfl) (by kernel_rfl) (by kernel_rfl) (fun _ _ _ h => h) (Or.inl ⟨by rfl, by intro u hSw; go_simp⟩) hHeld ?_
        try simp only [List.setIfInBounds_toArray, List.set_cons_zero, List.set_cons_succ]
        refine wpAnyH_done (by kernel_rfl) ?_ _
        refine NoPanic.normal ?_
        apply hK1
        clear hK1 K1
        go_wp2_with fail
        go_ret
        have hf : flat [(some ⟨wb.heap.size, 0, none⟩, 4, voteSignL), (some ⟨w2.heap.size, 0, none⟩, 1, putL n 1), (A1, c1, ptL e1 l1), (A2, c2, ptL e2 l2)] = txL n e1 l1 e2 l2 := by simp [flat, txL, lkL]
        rw [hf] at hc4 o4 ⊢
        exact ⟨A4, c4, rfl, hc4, o4.wide (Nat.le_trans HB.out.size HX3.out) (Nat.le_refl _), hdBelow HB.out BX.out⟩
end Go.Proofs.Ytmebppfbdeokeaa
