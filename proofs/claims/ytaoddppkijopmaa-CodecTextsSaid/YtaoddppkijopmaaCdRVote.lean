/- Contract: the reference's bytes of a vote. -/
import Derived.Test.YtaoddppkijopmaaCdVrow
import Derived.Test.YtaoddppkijopmaaCdRJoin
import Derived.Test.YtaoddppkijopmaaCdRefP
namespace Go.Proofs.Ytaoddppkijopmaa
open Go.ChangeShapes Go.WideShapes Go.ChangeAt Go.RowKit
set_option linter.unusedVariables false
set_option maxRecDepth 100000

/-- A slice of one byte. -/
theorem oneByte (n : Nat) {w : World} {g : Nat} (h : w.heap[g]? = some (.cells #[.int .u8 (n : Int)] 5 (0, 0))) (hn : n < 256) : Rd w 0 w.heap.size (some ⟨g, 0, none⟩) (putL n 1) := fun _ => by
  refine ⟨g, 0, rfl, Nat.zero_le _, ?_, fun j x hx => ?_⟩
  · rcases Nat.lt_or_ge g w.heap.size with hlt | hge
    · exact hlt
    · rw [Array.getElem?_eq_none hge] at h; cases h
  · rw [Nat.zero_add, cell_of_row w g j _ _ (0, 0) h]
    have e : putL n 1 = [UInt8.ofNat n] := by simp [putL]
    rw [e] at hx
    match j, hx with
    | 0, hx =>
      injection hx with hx
      subst hx
      unfold bv
      rw [UInt8.toNat_ofNat', Nat.mod_eq_of_lt (show n < 2 ^ 8 by omega)]
      rfl
/-- The reference's Join of as many pieces as a call lays. -/
theorem joinRL (L : List Pc) (w : World) (C : Array Value) (hC : C = (L.map fun x => Value.slice x.1 x.2.2.length x.2.1).toArray) (hr : ∀ x ∈ L, Rd w 0 w.heap.size x.1 x.2.2) (n : Nat) (hn : n = L.length) (hL : L.length ≤ 9223372036854775807) (hl : (flat L).length ≤ 8388608) :
    Calls Try.prog 37 #[.slice (some ⟨w.heap.size, 0, none⟩) n n] (w.alloc (.cells C 30)) (JoinP (flat L) w) := by
  subst hn
  have hb : Below w.heap.size w (w.alloc (.cells C 30)) := (Below.refl _ _).alloc (Nat.le_refl _) _
  have hh : (w.alloc (.cells C 30)).heap[w.heap.size]? = some (.cells C 30 (0, 0)) := heap_alloc_new w _
  have hsz : (w.alloc (.cells C 30)).heap.size = w.heap.size + 1 := by simp
  have hR : RdL (w.alloc (.cells C 30)) (w.alloc (.cells C 30)).heap.size (some ⟨w.heap.size, 0, none⟩) L := by
    refine ⟨fun _ => ⟨w.heap.size, 0, rfl, by omega, fun j x hx => ?_⟩, fun x hx => ((hr x hx).below hb (Nat.le_refl _)).wide (Nat.le_refl _) (by omega)⟩
    rw [Nat.zero_add, cell_of_row _ w.heap.size j _ _ (0, 0) hh, hC]
    simp [hx]
  refine (refJoin_any (some ⟨w.heap.size, 0, none⟩) L.length L _ hR hL hl).mono ?_
  rintro e w' ⟨A, c, he, hc, hg, ho, hbw⟩
  exact ⟨A, c, he, hc, hg, ho.wide (by omega) (Nat.le_refl _), hb.trans (hbw.mono (by omega))⟩
/-- A new slice that reads as l. -/
def RNewP (w : World) (l : List UInt8) (e : Ending) (w' : World) : Prop := ∃ A c, e = .returned (.slice A l.length c) ∧ l.length ≤ c ∧ Rd w' w.heap.size w'.heap.size A l ∧ Below w.heap.size w w'

set_option maxHeartbeats 16000000 in
theorem refVoteB_c (n e1 : Nat) (l1 : List UInt8) (e2 : Nat) (l2 s : List UInt8) (A : Option Addr) (c : Nat) (w : World) (hn : n < 256) (he1 : e1 < 18446744073709551616) (he2 : e2 < 18446744073709551616) (hl1 : l1.length = 32) (hl2 : l2.length = 32) (h : Rd w 0 w.heap.size A s) (hs : s.length ≤ 65535) :
    Calls Try.prog 39 #[.agg (vtV (n : Int) e1 l1 e2 l2 (.slice A s.length c))] w (RNewP w (vtL n e1 l1 e2 l2 s)) := by
  obtain ⟨W, hW⟩ : ∃ W, W = w.alloc (.cells (vtV (n : Int) e1 l1 e2 l2 (.slice A s.length c)) 32) := ⟨_, rfl⟩
  have hb : Below w.heap.size w W := by rw [hW]; exact (Below.refl _ _).alloc (Nat.le_refl _) _
  have v0 : VtB w.heap.size (n : Int) e1 l1 e2 l2 (.slice A s.length c) W := by rw [hW]; exact VtB.new
  have hlt : w.heap.size < W.heap.size := v0.lt
  have KP : Hid (∀ u : World, Below W.heap.size W.drew u → VtB w.heap.size (n : Int) e1 l1 e2 l2 (.slice A s.length c) u) := fun u hu => (show VtB _ _ _ _ _ _ _ W.drew from v0).below hu hlt
  have BX : Hid (Below W.heap.size W.drew W.drew) := Below.refl _ _
  have hrw : Rd W.drew 0 w.heap.size A s := h.below hb.drew (Nat.le_refl _)
  have CB : Hid (∀ u, Below W.heap.size W.drew u → Calls Try.prog 70 #[.slice A s.length c] u (NewP u (blobL s))) := fun u hu => refBlob_c A c 0 s u ((hrw.below hu (Nat.le_of_lt hlt)).wide (Nat.le_refl _) (Nat.le_trans (Nat.le_of_lt hlt) hu.size)) hs
  have HW := Lib.hid hW
  have HB := Lib.hid hb
  have HN := Lib.hid hn
  have hw8 : (n : Int) % 256 = (n : Int) := by omega
  have hw9 : IntKind.u8.wrap (n : Int) = (n : Int) := by rw [IntKind.wrap_u8']; omega
  have CP1 := Lib.hid (fun u => refPointB_c e1 l1 u he1 hl1)
  have CP2 := Lib.hid (fun u => refPointB_c e2 l2 u he2 hl2)
  have HP1 := Lib.hid (ptL_length e1 l1 hl1)
  have HP2 := Lib.hid (ptL_length e2 l2 hl2)
  have HSL := Lib.hid (show (blobL s).length ≤ 65537 by rw [blobL_length]; omega)
  clear hW hb v0 hlt hn he1 he2 hl1 hl2 h hrw hs
  go_enter Try.func39, Try.ntmps39
  go_wp2_with fail
  rw [← HW.out]
  rename_i K1 hK1
  refine wp_region_noPanic ?_
  refine wp_region_held_drew (S := (fun u => VtB w.heap.size (n : Int) e1 l1 e2 l2 (.slice A s.length c) u)) (by kernel_rfl) (KP.out _ BX.out) (fun hHeld => ?_)
  refine takeH (i := 0) (d := 3) (oi := _) (v := .pointer (some ⟨w.heap.size, 0, none⟩)) rfl (by kernel_rfl) (by kernel_rfl) (by kernel_rfl) (by kernel_rfl) (fun _ _ _ h => h) (Or.inl ⟨by rfl, by intro u hSw; go_simp⟩) hHeld ?_
  try simp only [List.setIfInBounds_toArray, List.set_cons_zero, List.set_cons_succ]
  refine takeH (i := 1) (d := 4) (oi := _) (v := .int .i64 (n : Int)) rfl (by kernel_rfl) (by kernel_rfl) (by kernel_rfl) (by kernel_rfl) (fun _ _ _ h => h) (Or.inl ⟨by rfl, by intro u hSw; (have hn := hSw.num; clear hSw; go_simp)⟩) hHeld ?_
  try simp only [List.setIfInBounds_toArray, List.set_cons_zero, List.set_cons_succ]
  refine takeH (i := 2) (d := 5) (oi := _) (v := .int .u8 (n : Int)) rfl (by kernel_rfl) (by kernel_rfl) (by kernel_rfl) (by kernel_rfl) (fun _ _ _ h => h) (Or.inl ⟨by rfl, by intro u hSw; go_simp⟩) hHeld ?_
  try simp only [List.setIfInBounds_toArray, List.set_cons_zero, List.set_cons_succ]
  refine takeH (i := 4) (d := 7) (oi := _) (v := .pointer (some ⟨w.heap.size, 1, none⟩)) rfl (by kernel_rfl) (by kernel_rfl) (by kernel_rfl) (by kernel_rfl) (fun _ _ _ h => h) (Or.inl ⟨by rfl, by intro u hSw; go_simp⟩) hHeld ?_
  try simp only [List.setIfInBounds_toArray, List.set_cons_zero, List.set_cons_succ]
  refine takeH (i := 5) (d := 8) (oi := _) (v := .agg (ptV e1 l1)) rfl (by kernel_rfl) (by kernel_rfl) (by kernel_rfl) (by kernel_rfl) (fun _ _ _ h => h) (yieldsIf_load_midC (by rfl) _ _ rfl w.heap.size 1 rfl (ptC e1 l1) (ptV e1 l1) rfl _ (fun w h => h.src) Try.underlying29 rfl (size_ptV _ _)) hHeld ?_
  try simp only [List.setIfInBounds_toArray, List.set_cons_zero, List.set_cons_succ]
  refine takeH (i := 7) (d := 10) (oi := _) (v := .pointer (some ⟨w.heap.size, 34, none⟩)) rfl (by kernel_rfl) (by kernel_rfl) (by kernel_rfl) (by kernel_rfl) (fun _ _ _ h => h) (Or.inl ⟨by rfl, by intro u hSw; go_simp⟩) hHeld ?_
  try simp only [List.setIfInBounds_toArray, List.set_cons_zero, List.set_cons_succ]
  refine takeH (i := 8) (d := 11) (oi := _) (v := .agg (ptV e2 l2)) rfl (by kernel_rfl) (by kernel_rfl) (by kernel_rfl) (by kernel_rfl) (fun _ _ _ h => h) (yieldsIf_load_midC (by rfl) _ _ rfl w.heap.size 34 rfl (ptC e2 l2) (ptV e2 l2) rfl _ (fun w h => h.tgt) Try.underlying29 rfl (size_ptV _ _)) hHeld ?_
  try simp only [List.setIfInBounds_toArray, List.set_cons_zero, List.set_cons_succ]
  refine takeH (i := 10) (d := 13) (oi := _) (v := .pointer (some ⟨w.heap.size, 67, none⟩)) rfl (by kernel_rfl) (by kernel_rfl) (by kernel_rfl) (by kernel_rfl) (fun _ _ _ h => h) (Or.inl ⟨by rfl, by intro u hSw; go_simp⟩) hHeld ?_
  try simp only [List.setIfInBounds_toArray, List.set_cons_zero, List.set_cons_succ]
  refine takeH (i := 11) (d := 14) (oi := _) (v := .slice A s.length c) rfl (by kernel_rfl) (by kernel_rfl) (by kernel_rfl) (by kernel_rfl) (fun _ _ _ h => h) (Or.inl ⟨by rfl, by intro u hSw; (have hn := hSw.sig; clear hSw; go_simp)⟩) hHeld ?_
  try simp only [List.setIfInBounds_toArray, List.set_cons_zero, List.set_cons_succ]
  refine wpAnyH_ready (rs := [3, 6]) (by kernel_rfl) (by simp) ?_
  refine AllReadyH.cons (o := _) rfl (fun K hK => ?_) (AllReadyH.cons (o := _) rfl (fun K hK => ?_) (AllReadyH.nil))
  · go_simp
    obtain ⟨wb, hwb⟩ : ∃ wb, wb = (W.alloc (.cells #[.int .u8 (n : Int)] 5)).drew := ⟨_, rfl⟩
    have bb : Below W.drew.heap.size W.drew wb := by
      rw [hwb]
      have h0 := ((Below.refl W.heap.size W).alloc (Nat.le_refl _) (.cells #[.int .u8 (n : Int)] 5)).drew
      exact ⟨h0.os, h0.tape, h0.output, h0.size, h0.block⟩
    have hh : wb.heap[W.heap.size]? = some (.cells #[.int .u8 (n : Int)] 5 (0, 0)) := by rw [hwb]; exact heap_alloc_new W _
    have OB : Hid (Rd wb 0 wb.heap.size (some ⟨W.heap.size, 0, none⟩) (putL n 1)) := oneByte n hh HN.out
    have BX := Lib.hid (BX.out.trans (bb.mono BX.out.size))
    (try have Z1 := Lib.hid (Z1.out.trans (bb.mono Z1.out.size)))
    (try have Z2 := Lib.hid (Z2.out.trans (bb.mono Z2.out.size)))
    (try have Z3 := Lib.hid (Z3.out.trans (bb.mono Z3.out.size)))
    (try have ZB := Lib.hid (ZB.out.trans (bb.mono ZB.out.size)))
    have ZB : Hid (Below wb.heap.size wb wb) := Below.refl _ _
    rw [← hwb]
    clear bb hh hwb
    refine hK.out _ _ (KP.out _ BX.out) (fun hHeld => ?_)
    clear hK K
    try simp only [Act.put, List.setIfInBounds_toArray, List.set_cons_zero, List.set_cons_succ]
    refine wpAnyH_ready (rs := [6]) (by kernel_rfl) (by simp) ?_
    refine AllReadyH.cons (o := _) rfl (fun K hK => ?_) (AllReadyH.nil)
    go_simp
    go_at_call 69
    refine (CP1.out _).mono ?_
    rintro y w1 ⟨A1, c1, rfl, hc1, o1, b1⟩
    have BX := Lib.hid (BX.out.trans (b1.mono BX.out.size))
    (try have Z1 := Lib.hid (Z1.out.trans (b1.mono Z1.out.size)))
    (try have Z2 := Lib.hid (Z2.out.trans (b1.mono Z2.out.size)))
    (try have Z3 := Lib.hid (Z3.out.trans (b1.mono Z3.out.size)))
    (try have ZB := Lib.hid (ZB.out.trans (b1.mono ZB.out.size)))
    have O1 := Lib.hid o1
    have Z1 : Hid (Below w1.heap.size w1 w1) := Below.refl _ _
    clear o1
    clear b1
    go_simp
    refine hK.out _ _ (KP.out _ BX.out) (fun hHeld => ?_)
    clear hK K
    try simp only [Act.put, List.setIfInBounds_toArray, List.set_cons_zero, List.set_cons_succ]
    refine wpAnyH_ready (rs := [9]) (by kernel_rfl) (by simp) ?_
    refine AllReadyH.cons (o := _) rfl (fun K hK => ?_) (AllReadyH.nil)
    go_simp
    go_at_call 69
    refine (CP2.out _).mono ?_
    rintro y w2 ⟨A2, c2, rfl, hc2, o2, b2⟩
    have BX := Lib.hid (BX.out.trans (b2.mono BX.out.size))
    (try have Z1 := Lib.hid (Z1.out.trans (b2.mono Z1.out.size)))
    (try have Z2 := Lib.hid (Z2.out.trans (b2.mono Z2.out.size)))
    (try have Z3 := Lib.hid (Z3.out.trans (b2.mono Z3.out.size)))
    (try have ZB := Lib.hid (ZB.out.trans (b2.mono ZB.out.size)))
    have O2 := Lib.hid o2
    have Z2 : Hid (Below w2.heap.size w2 w2) := Below.refl _ _
    clear o2
    clear b2
    go_simp
    refine hK.out _ _ (KP.out _ BX.out) (fun hHeld => ?_)
    clear hK K
    try simp only [Act.put, List.setIfInBounds_toArray, List.set_cons_zero, List.set_cons_succ]
    refine wpAnyH_ready (rs := [12]) (by kernel_rfl) (by simp) ?_
    refine AllReadyH.cons (o := _) rfl (fun K hK => ?_) (AllReadyH.nil)
    go_simp
    go_at_call 70
    refine (CB.out _ BX.out).mono ?_
    rintro y w3 ⟨A3, c3, rfl, hc3, o3, b3⟩
    have BX := Lib.hid (BX.out.trans (b3.mono BX.out.size))
    (try have Z1 := Lib.hid (Z1.out.trans (b3.mono Z1.out.size)))
    (try have Z2 := Lib.hid (Z2.out.trans (b3.mono Z2.out.size)))
    (try have Z3 := Lib.hid (Z3.out.trans (b3.mono Z3.out.size)))
    (try have ZB := Lib.hid (ZB.out.trans (b3.mono ZB.out.size)))
    have O3 := Lib.hid o3
    have Z3 : Hid (Below w3.heap.size w3 w3) := Below.refl _ _
    clear o3
    clear b3
    go_simp
    refine hK.out _ _ (KP.out _ BX.out) (fun hHeld => ?_)
    clear hK K
    try simp only [Act.put, List.setIfInBounds_toArray, List.set_cons_zero, List.set_cons_succ]
    refine wpAnyH_ready (rs := [13]) (by kernel_rfl) (by simp) ?_
    refine AllReadyH.cons (o := _) rfl (fun K hK => ?_) AllReadyH.nil
    go_simp
    refine hK.out _ _ (KP.out _ (BX.out.alloc BX.out.size _)) (fun hHeld => ?_)
    clear hK K
    try simp only [Act.put, List.setIfInBounds_toArray, List.set_cons_zero, List.set_cons_succ]
    refine wpAnyH_ready (rs := [14]) (by kernel_rfl) (by simp) ?_
    refine AllReadyH.cons (o := _) rfl (fun K hK => ?_) AllReadyH.nil
    go_simp
    go_at_call 37
    refine (joinRL [(some ⟨W.heap.size, 0, none⟩, 1, putL n 1), (A1, c1, ptL e1 l1), (A2, c2, ptL e2 l2), (A3, c3, blobL s)] w3 _ (by simp [putL_length]) (fun x hx => by
        simp only [List.mem_cons, List.not_mem_nil, or_false] at hx
        rcases hx with rfl | rfl | rfl | rfl
        · exact (OB.out.below ZB.out (Nat.le_refl _)).wide (Nat.le_refl _) ZB.out.size
        · exact (O1.out.below Z1.out (Nat.le_refl _)).rd.wide (Nat.zero_le _) (Nat.le_refl _)
        · exact (O2.out.below Z2.out (Nat.le_refl _)).rd.wide (Nat.zero_le _) (Nat.le_refl _)
        · exact (O3.out.below Z3.out (Nat.le_refl _)).rd.wide (Nat.zero_le _) (Nat.le_refl _)) 4 rfl (by simp) (by have h1 := HP1.out; have h2 := HP2.out; have h3 := HSL.out; simp [flat, putL_length, h1, h2]; omega)).mono ?_
    rintro y w4 ⟨A4, c4, rfl, hc4, ha4, o4, b4⟩
    have HX3 := Lib.hid BX.out.size
    have BX := Lib.hid (BX.out.trans (b4.mono BX.out.size))
    clear b4
    go_simp
    refine hK.out _ _ (KP.out _ BX.out) (fun hHeld => ?_)
    clear hK K
    try simp only [Act.put, List.setIfInBounds_toArray, List.set_cons_zero, List.set_cons_succ]
    refine takeH (i := 15) (d := 2) (oi := _) (v := .slice A4 (flat [(some ⟨W.heap.size, 0, none⟩, 1, putL n 1), (A1, c1, ptL e1 l1), (A2, c2, ptL e2 l2), (A3, c3, blobL s)]).length c4) rfl (by kernel_rfl) (by kernel_rfl) (by kernel_rfl) (by kernel_rfl) (fun _ _ _ h => h) (Or.inl ⟨by rfl, by intro u hSw; go_simp⟩) hHeld ?_
    try simp only [List.setIfInBounds_toArray, List.set_cons_zero, List.set_cons_succ]
    refine wpAnyH_done (by kernel_rfl) ?_ _
    refine NoPanic.normal ?_
    apply hK1
    clear hK1 K1
    go_wp2_with fail
    go_ret
    have hf : flat [(some ⟨W.heap.size, 0, none⟩, 1, putL n 1), (A1, c1, ptL e1 l1), (A2, c2, ptL e2 l2), (A3, c3, blobL s)] = vtL n e1 l1 e2 l2 s := by simp [flat, vtL, lkL]
    rw [hf] at hc4 o4 ⊢
    exact ⟨A4, c4, rfl, hc4, o4.wide (Nat.le_trans HB.out.size HX3.out) (Nat.le_refl _), hdBelow HB.out BX.out⟩
  · go_simp
    go_at_call 69
    refine (CP1.out _).mono ?_
    rintro y w1 ⟨A1, c1, rfl, hc1, o1, b1⟩
    have BX := Lib.hid (BX.out.trans (b1.mono BX.out.size))
    (try have Z1 := Lib.hid (Z1.out.trans (b1.mono Z1.out.size)))
    (try have Z2 := Lib.hid (Z2.out.trans (b1.mono Z2.out.size)))
    (try have Z3 := Lib.hid (Z3.out.trans (b1.mono Z3.out.size)))
    (try have ZB := Lib.hid (ZB.out.trans (b1.mono ZB.out.size)))
    have O1 := Lib.hid o1
    have Z1 : Hid (Below w1.heap.size w1 w1) := Below.refl _ _
    clear o1
    clear b1
    go_simp
    refine hK.out _ _ (KP.out _ BX.out) (fun hHeld => ?_)
    clear hK K
    try simp only [Act.put, List.setIfInBounds_toArray, List.set_cons_zero, List.set_cons_succ]
    refine wpAnyH_ready (rs := [3, 9]) (by kernel_rfl) (by simp) ?_
    refine AllReadyH.cons (o := _) rfl (fun K hK => ?_) (AllReadyH.cons (o := _) rfl (fun K hK => ?_) (AllReadyH.nil))
    · go_simp
      obtain ⟨wb, hwb⟩ : ∃ wb, wb = w1.alloc (.cells #[.int .u8 (n : Int)] 5) := ⟨_, rfl⟩
      have bb : Below w1.heap.size w1 wb := by
        rw [hwb]
        skip
        exact (Below.refl _ _).alloc (Nat.le_refl _) _
      have hh : wb.heap[w1.heap.size]? = some (.cells #[.int .u8 (n : Int)] 5 (0, 0)) := by rw [hwb]; exact heap_alloc_new w1 _
      have OB : Hid (Rd wb 0 wb.heap.size (some ⟨w1.heap.size, 0, none⟩) (putL n 1)) := oneByte n hh HN.out
      have BX := Lib.hid (BX.out.trans (bb.mono BX.out.size))
      (try have Z1 := Lib.hid (Z1.out.trans (bb.mono Z1.out.size)))
      (try have Z2 := Lib.hid (Z2.out.trans (bb.mono Z2.out.size)))
      (try have Z3 := Lib.hid (Z3.out.trans (bb.mono Z3.out.size)))
      (try have ZB := Lib.hid (ZB.out.trans (bb.mono ZB.out.size)))
      have ZB : Hid (Below wb.heap.size wb wb) := Below.refl _ _
      rw [← hwb]
      clear bb hh hwb
      refine hK.out _ _ (KP.out _ BX.out) (fun hHeld => ?_)
      clear hK K
      try simp only [Act.put, List.setIfInBounds_toArray, List.set_cons_zero, List.set_cons_succ]
      refine wpAnyH_ready (rs := [9]) (by kernel_rfl) (by simp) ?_
      refine AllReadyH.cons (o := _) rfl (fun K hK => ?_) (AllReadyH.nil)
      go_simp
      go_at_call 69
      refine (CP2.out _).mono ?_
      rintro y w2 ⟨A2, c2, rfl, hc2, o2, b2⟩
      have BX := Lib.hid (BX.out.trans (b2.mono BX.out.size))
      (try have Z1 := Lib.hid (Z1.out.trans (b2.mono Z1.out.size)))
      (try have Z2 := Lib.hid (Z2.out.trans (b2.mono Z2.out.size)))
      (try have Z3 := Lib.hid (Z3.out.trans (b2.mono Z3.out.size)))
      (try have ZB := Lib.hid (ZB.out.trans (b2.mono ZB.out.size)))
      have O2 := Lib.hid o2
      have Z2 : Hid (Below w2.heap.size w2 w2) := Below.refl _ _
      clear o2
      clear b2
      go_simp
      refine hK.out _ _ (KP.out _ BX.out) (fun hHeld => ?_)
      clear hK K
      try simp only [Act.put, List.setIfInBounds_toArray, List.set_cons_zero, List.set_cons_succ]
      refine wpAnyH_ready (rs := [12]) (by kernel_rfl) (by simp) ?_
      refine AllReadyH.cons (o := _) rfl (fun K hK => ?_) (AllReadyH.nil)
      go_simp
      go_at_call 70
      refine (CB.out _ BX.out).mono ?_
      rintro y w3 ⟨A3, c3, rfl, hc3, o3, b3⟩
      have BX := Lib.hid (BX.out.trans (b3.mono BX.out.size))
      (try have Z1 := Lib.hid (Z1.out.trans (b3.mono Z1.out.size)))
      (try have Z2 := Lib.hid (Z2.out.trans (b3.mono Z2.out.size)))
      (try have Z3 := Lib.hid (Z3.out.trans (b3.mono Z3.out.size)))
      (try have ZB := Lib.hid (ZB.out.trans (b3.mono ZB.out.size)))
      have O3 := Lib.hid o3
      have Z3 : Hid (Below w3.heap.size w3 w3) := Below.refl _ _
      clear o3
      clear b3
      go_simp
      refine hK.out _ _ (KP.out _ BX.out) (fun hHeld => ?_)
      clear hK K
      try simp only [Act.put, List.setIfInBounds_toArray, List.set_cons_zero, List.set_cons_succ]
      refine wpAnyH_ready (rs := [13]) (by kernel_rfl) (by simp) ?_
      refine AllReadyH.cons (o := _) rfl (fun K hK => ?_) AllReadyH.nil
      go_simp
      refine hK.out _ _ (KP.out _ (BX.out.alloc BX.out.size _)) (fun hHeld => ?_)
      clear hK K
      try simp only [Act.put, List.setIfInBounds_toArray, List.set_cons_zero, List.set_cons_succ]
      refine wpAnyH_ready (rs := [14]) (by kernel_rfl) (by simp) ?_
      refine AllReadyH.cons (o := _) rfl (fun K hK => ?_) AllReadyH.nil
      go_simp
      go_at_call 37
      refine (joinRL [(some ⟨w1.heap.size, 0, none⟩, 1, putL n 1), (A1, c1, ptL e1 l1), (A2, c2, ptL e2 l2), (A3, c3, blobL s)] w3 _ (by simp [putL_length]) (fun x hx => by
          simp only [List.mem_cons, List.not_mem_nil, or_false] at hx
          rcases hx with rfl | rfl | rfl | rfl
          · exact (OB.out.below ZB.out (Nat.le_refl _)).wide (Nat.le_refl _) ZB.out.size
          · exact (O1.out.below Z1.out (Nat.le_refl _)).rd.wide (Nat.zero_le _) (Nat.le_refl _)
          · exact (O2.out.below Z2.out (Nat.le_refl _)).rd.wide (Nat.zero_le _) (Nat.le_refl _)
          · exact (O3.out.below Z3.out (Nat.le_refl _)).rd.wide (Nat.zero_le _) (Nat.le_refl _)) 4 rfl (by simp) (by have h1 := HP1.out; have h2 := HP2.out; have h3 := HSL.out; simp [flat, putL_length, h1, h2]; omega)).mono ?_
      rintro y w4 ⟨A4, c4, rfl, hc4, ha4, o4, b4⟩
      have HX3 := Lib.hid BX.out.size
      have BX := Lib.hid (BX.out.trans (b4.mono BX.out.size))
      clear b4
      go_simp
      refine hK.out _ _ (KP.out _ BX.out) (fun hHeld => ?_)
      clear hK K
      try simp only [Act.put, List.setIfInBounds_toArray, List.set_cons_zero, List.set_cons_succ]
      refine takeH (i := 15) (d := 2) (oi := _) (v := .slice A4 (flat [(some ⟨w1.heap.size, 0, none⟩, 1, putL n 1), (A1, c1, ptL e1 l1), (A2, c2, ptL e2 l2), (A3, c3, blobL s)]).length c4) rfl (by kernel_rfl) (by kernel_rfl) (by kernel_rfl) (by kernel_rfl) (fun _ _ _ h => h) (Or.inl ⟨by rfl, by intro u hSw; go_simp⟩) hHeld ?_
      try simp only [List.setIfInBounds_toArray, List.set_cons_zero, List.set_cons_succ]
      refine wpAnyH_done (by kernel_rfl) ?_ _
      refine NoPanic.normal ?_
      apply hK1
      clear hK1 K1
      go_wp2_with fail
      go_ret
      have hf : flat [(some ⟨w1.heap.size, 0, none⟩, 1, putL n 1), (A1, c1, ptL e1 l1), (A2, c2, ptL e2 l2), (A3, c3, blobL s)] = vtL n e1 l1 e2 l2 s := by simp [flat, vtL, lkL]
      rw [hf] at hc4 o4 ⊢
      exact ⟨A4, c4, rfl, hc4, o4.wide (Nat.le_trans HB.out.size HX3.out) (Nat.le_refl _), hdBelow HB.out BX.out⟩
    · go_simp
      go_at_call 69
      refine (CP2.out _).mono ?_
      rintro y w2 ⟨A2, c2, rfl, hc2, o2, b2⟩
      have BX := Lib.hid (BX.out.trans (b2.mono BX.out.size))
      (try have Z1 := Lib.hid (Z1.out.trans (b2.mono Z1.out.size)))
      (try have Z2 := Lib.hid (Z2.out.trans (b2.mono Z2.out.size)))
      (try have Z3 := Lib.hid (Z3.out.trans (b2.mono Z3.out.size)))
      (try have ZB := Lib.hid (ZB.out.trans (b2.mono ZB.out.size)))
      have O2 := Lib.hid o2
      have Z2 : Hid (Below w2.heap.size w2 w2) := Below.refl _ _
      clear o2
      clear b2
      go_simp
      refine hK.out _ _ (KP.out _ BX.out) (fun hHeld => ?_)
      clear hK K
      try simp only [Act.put, List.setIfInBounds_toArray, List.set_cons_zero, List.set_cons_succ]
      refine wpAnyH_ready (rs := [3, 12]) (by kernel_rfl) (by simp) ?_
      refine AllReadyH.cons (o := _) rfl (fun K hK => ?_) (AllReadyH.cons (o := _) rfl (fun K hK => ?_) (AllReadyH.nil))
      · go_simp
        obtain ⟨wb, hwb⟩ : ∃ wb, wb = w2.alloc (.cells #[.int .u8 (n : Int)] 5) := ⟨_, rfl⟩
        have bb : Below w2.heap.size w2 wb := by
          rw [hwb]
          skip
          exact (Below.refl _ _).alloc (Nat.le_refl _) _
        have hh : wb.heap[w2.heap.size]? = some (.cells #[.int .u8 (n : Int)] 5 (0, 0)) := by rw [hwb]; exact heap_alloc_new w2 _
        have OB : Hid (Rd wb 0 wb.heap.size (some ⟨w2.heap.size, 0, none⟩) (putL n 1)) := oneByte n hh HN.out
        have BX := Lib.hid (BX.out.trans (bb.mono BX.out.size))
        (try have Z1 := Lib.hid (Z1.out.trans (bb.mono Z1.out.size)))
        (try have Z2 := Lib.hid (Z2.out.trans (bb.mono Z2.out.size)))
        (try have Z3 := Lib.hid (Z3.out.trans (bb.mono Z3.out.size)))
        (try have ZB := Lib.hid (ZB.out.trans (bb.mono ZB.out.size)))
        have ZB : Hid (Below wb.heap.size wb wb) := Below.refl _ _
        rw [← hwb]
        clear bb hh hwb
        refine hK.out _ _ (KP.out _ BX.out) (fun hHeld => ?_)
        clear hK K
        try simp only [Act.put, List.setIfInBounds_toArray, List.set_cons_zero, List.set_cons_succ]
        refine wpAnyH_ready (rs := [12]) (by kernel_rfl) (by simp) ?_
        refine AllReadyH.cons (o := _) rfl (fun K hK => ?_) (AllReadyH.nil)
        go_simp
        go_at_call 70
        refine (CB.out _ BX.out).mono ?_
        rintro y w3 ⟨A3, c3, rfl, hc3, o3, b3⟩
        have BX := Lib.hid (BX.out.trans (b3.mono BX.out.size))
        (try have Z1 := Lib.hid (Z1.out.trans (b3.mono Z1.out.size)))
        (try have Z2 := Lib.hid (Z2.out.trans (b3.mono Z2.out.size)))
        (try have Z3 := Lib.hid (Z3.out.trans (b3.mono Z3.out.size)))
        (try have ZB := Lib.hid (ZB.out.trans (b3.mono ZB.out.size)))
        have O3 := Lib.hid o3
        have Z3 : Hid (Below w3.heap.size w3 w3) := Below.refl _ _
        clear o3
        clear b3
        go_simp
        refine hK.out _ _ (KP.out _ BX.out) (fun hHeld => ?_)
        clear hK K
        try simp only [Act.put, List.setIfInBounds_toArray, List.set_cons_zero, List.set_cons_succ]
        refine wpAnyH_ready (rs := [13]) (by kernel_rfl) (by simp) ?_
        refine AllReadyH.cons (o := _) rfl (fun K hK => ?_) AllReadyH.nil
        go_simp
        refine hK.out _ _ (KP.out _ (BX.out.alloc BX.out.size _)) (fun hHeld => ?_)
        clear hK K
        try simp only [Act.put, List.setIfInBounds_toArray, List.set_cons_zero, List.set_cons_succ]
        refine wpAnyH_ready (rs := [14]) (by kernel_rfl) (by simp) ?_
        refine AllReadyH.cons (o := _) rfl (fun K hK => ?_) AllReadyH.nil
        go_simp
        go_at_call 37
        refine (joinRL [(some ⟨w2.heap.size, 0, none⟩, 1, putL n 1), (A1, c1, ptL e1 l1), (A2, c2, ptL e2 l2), (A3, c3, blobL s)] w3 _ (by simp [putL_length]) (fun x hx => by
            simp only [List.mem_cons, List.not_mem_nil, or_false] at hx
            rcases hx with rfl | rfl | rfl | rfl
            · exact (OB.out.below ZB.out (Nat.le_refl _)).wide (Nat.le_refl _) ZB.out.size
            · exact (O1.out.below Z1.out (Nat.le_refl _)).rd.wide (Nat.zero_le _) (Nat.le_refl _)
            · exact (O2.out.below Z2.out (Nat.le_refl _)).rd.wide (Nat.zero_le _) (Nat.le_refl _)
            · exact (O3.out.below Z3.out (Nat.le_refl _)).rd.wide (Nat.zero_le _) (Nat.le_refl _)) 4 rfl (by simp) (by have h1 := HP1.out; have h2 := HP2.out; have h3 := HSL.out; simp [flat, putL_length, h1, h2]; omega)).mono ?_
        rintro y w4 ⟨A4, c4, rfl, hc4, ha4, o4, b4⟩
        have HX3 := Lib.hid BX.out.size
        have BX := Lib.hid (BX.out.trans (b4.mono BX.out.size))
        clear b4
        go_simp
        refine hK.out _ _ (KP.out _ BX.out) (fun hHeld => ?_)
        clear hK K
        try simp only [Act.put, List.setIfInBounds_toArray, List.set_cons_zero, List.set_cons_succ]
        refine takeH (i := 15) (d := 2) (oi := _) (v := .slice A4 (flat [(some ⟨w2.heap.size, 0, none⟩, 1, putL n 1), (A1, c1, ptL e1 l1), (A2, c2, ptL e2 l2), (A3, c3, blobL s)]).length c4) rfl (by kernel_rfl) (by kernel_rfl) (by kernel_rfl) (by kernel_rfl) (fun _ _ _ h => h) (Or.inl ⟨by rfl, by intro u hSw; go_simp⟩) hHeld ?_
        try simp only [List.setIfInBounds_toArray, List.set_cons_zero, List.set_cons_succ]
        refine wpAnyH_done (by kernel_rfl) ?_ _
        refine NoPanic.normal ?_
        apply hK1
        clear hK1 K1
        go_wp2_with fail
        go_ret
        have hf : flat [(some ⟨w2.heap.size, 0, none⟩, 1, putL n 1), (A1, c1, ptL e1 l1), (A2, c2, ptL e2 l2), (A3, c3, blobL s)] = vtL n e1 l1 e2 l2 s := by simp [flat, vtL, lkL]
        rw [hf] at hc4 o4 ⊢
        exact ⟨A4, c4, rfl, hc4, o4.wide (Nat.le_trans HB.out.size HX3.out) (Nat.le_refl _), hdBelow HB.out BX.out⟩
      · go_simp
        go_at_call 70
        refine (CB.out _ BX.out).mono ?_
        rintro y w3 ⟨A3, c3, rfl, hc3, o3, b3⟩
        have BX := Lib.hid (BX.out.trans (b3.mono BX.out.size))
        (try have Z1 := Lib.hid (Z1.out.trans (b3.mono Z1.out.size)))
        (try have Z2 := Lib.hid (Z2.out.trans (b3.mono Z2.out.size)))
        (try have Z3 := Lib.hid (Z3.out.trans (b3.mono Z3.out.size)))
        (try have ZB := Lib.hid (ZB.out.trans (b3.mono ZB.out.size)))
        have O3 := Lib.hid o3
        have Z3 : Hid (Below w3.heap.size w3 w3) := Below.refl _ _
        clear o3
        clear b3
        go_simp
        refine hK.out _ _ (KP.out _ BX.out) (fun hHeld => ?_)
        clear hK K
        try simp only [Act.put, List.setIfInBounds_toArray, List.set_cons_zero, List.set_cons_succ]
        refine wpAnyH_ready (rs := [3]) (by kernel_rfl) (by simp) ?_
        refine AllReadyH.cons (o := _) rfl (fun K hK => ?_) (AllReadyH.nil)
        go_simp
        obtain ⟨wb, hwb⟩ : ∃ wb, wb = w3.alloc (.cells #[.int .u8 (n : Int)] 5) := ⟨_, rfl⟩
        have bb : Below w3.heap.size w3 wb := by
          rw [hwb]
          skip
          exact (Below.refl _ _).alloc (Nat.le_refl _) _
        have hh : wb.heap[w3.heap.size]? = some (.cells #[.int .u8 (n : Int)] 5 (0, 0)) := by rw [hwb]; exact heap_alloc_new w3 _
        have OB : Hid (Rd wb 0 wb.heap.size (some ⟨w3.heap.size, 0, none⟩) (putL n 1)) := oneByte n hh HN.out
        have BX := Lib.hid (BX.out.trans (bb.mono BX.out.size))
        (try have Z1 := Lib.hid (Z1.out.trans (bb.mono Z1.out.size)))
        (try have Z2 := Lib.hid (Z2.out.trans (bb.mono Z2.out.size)))
        (try have Z3 := Lib.hid (Z3.out.trans (bb.mono Z3.out.size)))
        (try have ZB := Lib.hid (ZB.out.trans (bb.mono ZB.out.size)))
        have ZB : Hid (Below wb.heap.size wb wb) := Below.refl _ _
        rw [← hwb]
        clear bb hh hwb
        refine hK.out _ _ (KP.out _ BX.out) (fun hHeld => ?_)
        clear hK K
        try simp only [Act.put, List.setIfInBounds_toArray, List.set_cons_zero, List.set_cons_succ]
        refine wpAnyH_ready (rs := [13]) (by kernel_rfl) (by simp) ?_
        refine AllReadyH.cons (o := _) rfl (fun K hK => ?_) AllReadyH.nil
        go_simp
        refine hK.out _ _ (KP.out _ (BX.out.alloc BX.out.size _)) (fun hHeld => ?_)
        clear hK K
        try simp only [Act.put, List.setIfInBounds_toArray, List.set_cons_zero, List.set_cons_succ]
        refine wpAnyH_ready (rs := [14]) (by kernel_rfl) (by simp) ?_
        refine AllReadyH.cons (o := _) rfl (fun K hK => ?_) AllReadyH.nil
        go_simp
        go_at_call 37
        refine (joinRL [(some ⟨w3.heap.size, 0, none⟩, 1, putL n 1), (A1, c1, ptL e1 l1), (A2, c2, ptL e2 l2), (A3, c3, blobL s)] wb _ (by simp [putL_length]) (fun x hx => by
            simp only [List.mem_cons, List.not_mem_nil, or_false] at hx
            rcases hx with rfl | rfl | rfl | rfl
            · exact (OB.out.below ZB.out (Nat.le_refl _)).wide (Nat.le_refl _) ZB.out.size
            · exact (O1.out.below Z1.out (Nat.le_refl _)).rd.wide (Nat.zero_le _) (Nat.le_refl _)
            · exact (O2.out.below Z2.out (Nat.le_refl _)).rd.wide (Nat.zero_le _) (Nat.le_refl _)
            · exact (O3.out.below Z3.out (Nat.le_refl _)).rd.wide (Nat.zero_le _) (Nat.le_refl _)) 4 rfl (by simp) (by have h1 := HP1.out; have h2 := HP2.out; have h3 := HSL.out; simp [flat, putL_length, h1, h2]; omega)).mono ?_
        rintro y w4 ⟨A4, c4, rfl, hc4, ha4, o4, b4⟩
        have HX3 := Lib.hid BX.out.size
        have BX := Lib.hid (BX.out.trans (b4.mono BX.out.size))
        clear b4
        go_simp
        refine hK.out _ _ (KP.out _ BX.out) (fun hHeld => ?_)
        clear hK K
        try simp only [Act.put, List.setIfInBounds_toArray, List.set_cons_zero, List.set_cons_succ]
        refine takeH (i := 15) (d := 2) (oi := _) (v := .slice A4 (flat [(some ⟨w3.heap.size, 0, none⟩, 1, putL n 1), (A1, c1, ptL e1 l1), (A2, c2, ptL e2 l2), (A3, c3, blobL s)]).length c4) rfl (by kernel_rfl) (by kernel_rfl) (by kernel_rfl) (by kernel_rfl) (fun _ _ _ h => h) (Or.inl ⟨by rfl, by intro u hSw; go_simp⟩) hHeld ?_
        try simp only [List.setIfInBounds_toArray, List.set_cons_zero, List.set_cons_succ]
        refine wpAnyH_done (by kernel_rfl) ?_ _
        refine NoPanic.normal ?_
        apply hK1
        clear hK1 K1
        go_wp2_with fail
        go_ret
        have hf : flat [(some ⟨w3.heap.size, 0, none⟩, 1, putL n 1), (A1, c1, ptL e1 l1), (A2, c2, ptL e2 l2), (A3, c3, blobL s)] = vtL n e1 l1 e2 l2 s := by simp [flat, vtL, lkL]
        rw [hf] at hc4 o4 ⊢
        exact ⟨A4, c4, rfl, hc4, o4.wide (Nat.le_trans HB.out.size HX3.out) (Nat.le_refl _), hdBelow HB.out BX.out⟩
end Go.Proofs.Ytaoddppkijopmaa
