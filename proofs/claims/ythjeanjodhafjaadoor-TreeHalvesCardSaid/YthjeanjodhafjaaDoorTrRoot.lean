/- Contracts: the root of leaves. -/
import Derived.Test.YthjeanjodhafjaaDoorTrClimb
import Derived.Laws.EntriesVeiled
namespace Go.Proofs.YthjeanjodhafjaaDoor
open Go.ChangeShapes Go.WideShapes Go.ChangeAt Go.RowKit
set_option linter.unusedVariables false

/-- The closure that goes down. -/
def downV (g : Nat) : Value := .func (.func 29) #[] #[.pointer (some ⟨g, 0, none⟩)]
theorem RdH.take {w : World} {hi : Nat} {A : Option Addr} {L : List (List UInt8)} (h : RdH w hi A L) (n : Nat) : RdH w hi A (L.take n) := fun hn => by
  rw [List.length_take] at hn
  obtain ⟨bl, off, e, h1, h2⟩ := h (by omega)
  refine ⟨bl, off, e, h1, fun k hk => ?_⟩
  rw [List.length_take] at hk
  have := h2 k (by omega)
  rw [List.getD_eq_getElem?_getD, List.getElem?_take, if_pos (by omega), ← List.getD_eq_getElem?_getD]
  exact this
theorem RdH.drop {w : World} {hi : Nat} {bl off : Nat} {L : List (List UInt8)} (h : RdH w hi (some ⟨bl, off, none⟩) L) (n : Nat) (hn : n < L.length) : RdH w hi (some ⟨bl, off + n * 32, none⟩) (L.drop n) := fun _ => by
  obtain ⟨bl', off', e, h1, h2⟩ := h (by omega)
  injection e with e
  injection e with e1 e2
  subst e1 e2
  refine ⟨bl, off + n * 32, rfl, h1, fun k hk => ?_⟩
  rw [List.length_drop] at hk
  have := h2 (n + k) (by omega)
  rw [List.getD_eq_getElem?_getD, List.getElem?_drop, ← List.getD_eq_getElem?_getD, show off + n * 32 + k * 32 = off + (n + k) * 32 by omega]
  exact this

set_option maxRecDepth 100000 in
set_option maxHeartbeats 8000000 in
theorem down_c (g : Nat) : ∀ (h : Nat) (L : List (List UInt8)) (A : Option Addr) (c : Nat) (u : World), h ≤ 8 → L.length = 2 ^ h → L.length ≤ c → c ≤ 9223372036854775807 → (∀ x ∈ L, x.length = 32) → RdH u u.heap.size A L → Tabs u →
    u.cell? ⟨g, 0, none⟩ = some (downV g) → Calls Tryd.prog 29 #[.slice A L.length c, .pointer (some ⟨g, 0, none⟩)] u fun e u' => e = .returned (.agg (hashV (rootH h L))) ∧ Below u.heap.size u u'
  | 0, L, A, c, u, h8, hl, hc, hcm, hx, hR, ht, hg => by
    have hz := zero_hash
    have hl1 : L.length = 1 := hl
    obtain ⟨bl, off, rfl, hbl, hcell⟩ := hR (by omega)
    have hc0 := hcell 0 (by omega)
    obtain ⟨y, hy⟩ : ∃ y, y = rootH 0 L := ⟨_, rfl⟩
    rw [show L.getD 0 [] = y from hy.symm] at hc0
    rw [← hy]
    rw [Nat.zero_mul, Nat.add_zero] at hc0
    have hc1 := rangeAt_below ((Below.refl u.heap.size u).alloc (Nat.le_refl _) (.cells (rowV 32 z8) 25)) hbl hc0
    clear hcell hR hy
    have HA := heap_alloc_new u (.cells (rowV 32 z8) 25)
    go_enter Tryd.func29, Tryd.ntmps29
    rw [hl1]
    go_wp2_with (first
      | (refine wpList_load_mid rfl 25 (.tmp 11) rfl bl off rfl (hC y) _ hc1 hash_under rfl (hash_info (hC_len y)) ?_; rw [hC_arr])
      | (refine wpList_store_row rfl 25 (.tmp 3) (.tmp 12) rfl u.heap.size (hashV y) rfl rfl 25 (rowV 32 z8) HA (size_hashVW _) (by unfold hashV; rw [rowV_size, rowV_size]) (rowV_one 32 _ (fun i => rfl)) ?_)
      | fail)
    exact bodyPost_ret (v := .agg (hashV y)) (results_cell_row (p := 3) rfl _ _ u.heap.size 25 (hashV y) (0, 0) _ rfl (setRow_heap _ _ _ _ _ _ HA) Tryd.underlying25 rfl (size_hashVW _)) rfl ⟨rfl, below_setRow ((Below.refl _ _).alloc (Nat.le_refl _) _) (Nat.le_refl _) _⟩
  | h + 1, L, A, c, u, h8, hl, hc, hcm, hx, hR, ht, hg => by
    have hz := zero_hash
    obtain ⟨m, hm⟩ : ∃ m, m = 2 ^ h := ⟨_, rfl⟩
    have hm1 : 1 ≤ m := by rw [hm]; exact Nat.two_pow_pos h
    have hm2 : m ≤ 256 := by rw [hm]; exact (two_le h (by omega)).1
    have hlm : L.length = 2 * m := by rw [hl, hm, Nat.pow_succ, Nat.mul_comm]
    obtain ⟨bl, off, rfl, hbl, hcell⟩ := hR (by omega)
    have HA := heap_alloc_new u (.cells (rowV 32 z8) 25)
    rw [hlm] at hc ⊢
    have HM := Lib.hid hm
    have hq : ((m : Int) == 0) = false := by rw [beq_eq_false_iff_ne]; omega
    have l1 : (L.take m).length = m := by rw [List.length_take, hlm]; omega
    have l2 : (L.drop m).length = m := by rw [List.length_drop, hlm]; omega
    have x1 : ∀ x ∈ L.take m, x.length = 32 := fun x h => hx x (List.mem_of_mem_take h)
    have x2 : ∀ x ∈ L.drop m, x.length = 32 := fun x h => hx x (List.mem_of_mem_drop h)
    obtain ⟨y1, hy1⟩ : ∃ y, y = rootH h (L.take m) := ⟨_, rfl⟩
    obtain ⟨y2, hy2⟩ : ∃ y, y = rootH h (L.drop m) := ⟨_, rfl⟩
    have n1 : y1.length = 32 := by rw [hy1]; exact rootH_len h _ (l1.trans hm) x1
    have n2 : y2.length = 32 := by rw [hy2]; exact rootH_len h _ (l2.trans hm) x2
    obtain ⟨z, hz'⟩ : ∃ z, z = rootH (h + 1) L := ⟨_, rfl⟩
    have e0 : z = nd y1 y2 := by rw [hz', hy1, hy2, hm]; rfl
    have HD1 : Hid (∀ v : World, Below u.heap.size u v → Calls Tryd.prog 29 #[.slice (some ⟨bl, off, none⟩) m c, .pointer (some ⟨g, 0, none⟩)] v fun e v' => e = .returned (.agg (hashV y1)) ∧ Below v.heap.size v v') := fun v hv => by
      have := down_c g h (L.take m) (some ⟨bl, off, none⟩) c v (by omega) (l1.trans hm) (by omega) hcm x1 (((hR.take m).below hv (Nat.le_refl _)).wide hv.size) (ht.below hv ht.2.2.1 ht.2.2.2) ((hv.cell (p := ⟨g, 0, none⟩) (World.block_lt_of_cell? _ _ hg)).trans hg)
      rw [l1] at this
      rw [hy1]
      exact this
    have HD2 : Hid (∀ v : World, Below u.heap.size u v → Calls Tryd.prog 29 #[.slice (some ⟨bl, off + m * 32, none⟩) m (c - m), .pointer (some ⟨g, 0, none⟩)] v fun e v' => e = .returned (.agg (hashV y2)) ∧ Below v.heap.size v v') := fun v hv => by
      have := down_c g h (L.drop m) (some ⟨bl, off + m * 32, none⟩) (c - m) v (by omega) (l2.trans hm) (by omega) (by omega) x2 (((hR.drop m (by omega)).below hv (Nat.le_refl _)).wide hv.size) (ht.below hv ht.2.2.1 ht.2.2.2) ((hv.cell (p := ⟨g, 0, none⟩) (World.block_lt_of_cell? _ _ hg)).trans hg)
      rw [l2] at this
      rw [hy2]
      exact this
    have HN : Hid (∀ v : World, Below u.heap.size u v → Calls Tryd.prog 17 #[.agg (hashV y1), .agg (hashV y2)] v fun e v' => e = .returned (.agg (hashV z)) ∧ Below v.heap.size v v') := fun v hv => by
      rw [e0]
      exact node_c y1 y2 n1 n2 v (ht.below hv ht.2.2.1 ht.2.2.2)
    rw [← hz']
    have HG : Hid (∀ v : World, Below u.heap.size u v → v.cell? ⟨g, 0, none⟩ = some (downV g)) := fun v hv => (hv.cell (p := ⟨g, 0, none⟩) (World.block_lt_of_cell? _ _ hg)).trans hg
    have ba := (Below.refl u.heap.size u).alloc (Nat.le_refl _) (.cells (rowV 32 z8) 25)
    have HB1 := Lib.hid ba
    have k0 := HG.out _ ba.drew
    have HF : Fill u.heap.size 25 32 32 z8 (u.alloc (.cells (rowV 32 z8) 25)) := Fill.of_row HA
    have HF0 := Lib.hid HF
    clear hm hcell hR ht hg hx x1 x2 l1 l2 hy1 hy2 n1 n2 e0 hz' hl HA ba HF
    unfold downV at HG k0
    go_enter Tryd.func29, Tryd.ntmps29
    go_wp2_with fail
    rename_i K1 hK1
    refine wp_region_noPanic ?_
    refine wp_region_held_drew (S := fun v => v.cell? ⟨g, 0, none⟩ = some (.func (.func 29) #[] #[.pointer (some ⟨g, 0, none⟩)])) (by kernel_rfl) k0 (fun hHeld => ?_)
    refine wpAnyH_take (i := 0) (oi := _) (v := .func (.func 29) #[] #[.pointer (some ⟨g, 0, none⟩)]) rfl (by kernel_rfl) (by kernel_rfl) (by kernel_rfl) (fun _ _ _ h => h) (Or.inl ⟨by rfl, by intro w hSw; go_simp⟩) hHeld ?_
    refine wpAnyH_take (i := 5) (oi := _) (v := .func (.func 29) #[] #[.pointer (some ⟨g, 0, none⟩)]) rfl (by kernel_rfl) (by kernel_rfl) (by kernel_rfl) (fun _ _ _ h => h) (Or.inl ⟨by rfl, by intro w hSw; go_simp⟩) hHeld ?_
    refine wpAnyH_take (i := 1) (oi := _) (v := .slice (some ⟨bl, off, none⟩) (2 * m) c) rfl (by kernel_rfl) (by kernel_rfl) (by kernel_rfl) (fun _ _ _ h => h) (Or.inl ⟨by rfl, by intro w hSw; go_simp⟩) hHeld ?_
    refine wpAnyH_take (i := 2) (oi := _) (v := .int .i64 (m : Int)) rfl (by kernel_rfl) (by kernel_rfl) (by kernel_rfl) (fun _ _ _ h => h) (Or.inl ⟨by rfl, by intro w hSw; go_simp⟩) hHeld ?_
    refine wpAnyH_take (i := 3) (oi := _) (v := .slice (some ⟨bl, off, none⟩) m c) rfl (by kernel_rfl) (by kernel_rfl) (by kernel_rfl) (fun _ _ _ h => h) (Or.inl ⟨by rfl, by intro w hSw; go_simp; intro h; omega⟩) hHeld ?_
    refine wpAnyH_take (i := 6) (oi := _) (v := .slice (some ⟨bl, off, none⟩) (2 * m) c) rfl (by kernel_rfl) (by kernel_rfl) (by kernel_rfl) (fun _ _ _ h => h) (Or.inl ⟨by rfl, by intro w hSw; go_simp⟩) hHeld ?_
    refine wpAnyH_take (i := 7) (oi := _) (v := .int .i64 (m : Int)) rfl (by kernel_rfl) (by kernel_rfl) (by kernel_rfl) (fun _ _ _ h => h) (Or.inl ⟨by rfl, by intro w hSw; go_simp⟩) hHeld ?_
    refine wpAnyH_take (i := 8) (oi := _) (v := .slice (some ⟨bl, off + m * 32, none⟩) m (c - m)) rfl (by kernel_rfl) (by kernel_rfl) (by kernel_rfl) (fun _ _ _ h => h) (Or.inl ⟨by rfl, by intro w hSw; go_simp; rw [if_pos (by omega), if_neg (by omega), show 2 * m - m = m by omega]⟩) hHeld ?_
    refine wpAnyH_ready (rs := [4]) (by kernel_rfl) (by simp) ?_
    refine AllReadyH.cons (o := _) rfl (fun K hK => ?_) AllReadyH.nil
    go_simp
    go_at_call 29
    refine (HD1.out _ HB1.out.drew).mono ?_
    rintro e w1 ⟨rfl, b1'⟩
    have b1 : Below u.heap.size u w1 := HB1.out.drew.trans (b1'.mono HB1.out.drew.size)
    have B1 := Lib.hid b1
    have F1 := Lib.hid ((HF0.out.below (Below.refl (u.alloc (.cells (rowV 32 z8) 25)).heap.size _).drew HF0.out.lt).below b1' HF0.out.lt)
    have g1 := HG.out _ b1
    clear b1 b1'
    go_simp
    refine hK.out _ _ g1 (fun hHeld => ?_)
    clear hK K g1
    refine wpAnyH_ready (rs := [9]) (by kernel_rfl) (by simp) ?_
    refine AllReadyH.cons (o := _) rfl (fun K hK => ?_) AllReadyH.nil
    go_simp
    go_at_call 29
    refine (HD2.out _ B1.out).mono ?_
    rintro e w2 ⟨rfl, b2'⟩
    have b2 : Below u.heap.size u w2 := B1.out.trans (b2'.mono B1.out.size)
    have B2 := Lib.hid b2
    have F2 := Lib.hid (F1.out.below b2' F1.out.lt)
    have g2 := HG.out _ b2
    clear b2 b2'
    go_simp
    refine hK.out _ _ g2 (fun hHeld => ?_)
    clear hK K g2
    refine wpAnyH_ready (rs := [10]) (by kernel_rfl) (by simp) ?_
    refine AllReadyH.cons (o := _) rfl (fun K hK => ?_) AllReadyH.nil
    go_simp
    go_at_call 17
    refine (HN.out _ B2.out).mono ?_
    rintro e w3 ⟨rfl, b3'⟩
    have b3 : Below u.heap.size u w3 := B2.out.trans (b3'.mono B2.out.size)
    have B3 := Lib.hid b3
    have f3 := (F2.out.below b3' F2.out.lt).done
    have F3 := Lib.hid f3
    have g3 := HG.out _ b3
    have g4 := HG.out _ (below_setRow b3 (Nat.le_refl _) (hashV z))
    clear b3 b3'
    go_simp
    refine hK.out _ _ g3 (fun hHeld => ?_)
    clear hK K g3
    refine wpAnyH_ready (rs := [11]) (by kernel_rfl) (by simp) ?_
    refine AllReadyH.cons (o := _) rfl (fun K hK => ?_) AllReadyH.nil
    refine step_store_rowT rfl 25 (.tmp 3) (.tmp 23) rfl u.heap.size (hashV z) rfl rfl 25 (rowV 32 z8) f3 (size_hashVW _) (by unfold hashV; rw [rowV_size, rowV_size]) (rowV_one 32 _ (fun i => rfl)) none rfl ?_
    go_simp
    refine hK.out _ _ g4 (fun hHeld => ?_)
    clear hK K
    refine wpAnyH_done (by kernel_rfl) ?_ _
    refine NoPanic.normal ?_
    apply hK1
    clear hK1 K1
    go_wp2_with fail
    exact bodyPost_ret (v := .agg (hashV z)) (results_cell_row (p := 3) rfl _ _ u.heap.size 25 (hashV z) (0, 0) _ rfl (setRow_heap _ _ _ _ _ _ F3.out) Tryd.underlying25 rfl (size_hashVW _)) rfl ⟨rfl, below_setRow B3.out (Nat.le_refl _) _⟩
set_option maxRecDepth 100000 in
set_option maxHeartbeats 8000000 in
theorem treeRoot_c (h : Nat) (L : List (List UInt8)) (A : Option Addr) (c : Nat) (w : World) (h8 : h ≤ 8) (hl : L.length = 2 ^ h) (hc : L.length ≤ c) (hcm : c ≤ 9223372036854775807) (hx : ∀ x ∈ L, x.length = 32) (hR : RdH w w.heap.size A L) (ht : Tabs w) :
    Calls Tryd.prog 18 #[.slice A L.length c] w fun e w' => e = .returned (.agg (hashV (rootH h L))) ∧ Below w.heap.size w w' := by
  have hz := zero_hash
  obtain ⟨y, hy⟩ : ∃ y, y = rootH h L := ⟨_, rfl⟩
  rw [← hy]
  have HD : Hid (∀ u : World, Below w.heap.size w u → u.cell? ⟨w.heap.size + 1, 0, none⟩ = some (downV (w.heap.size + 1)) → Calls Tryd.prog 29 #[.slice A L.length c, .pointer (some ⟨w.heap.size + 1, 0, none⟩)] u fun e u' => e = .returned (.agg (hashV y)) ∧ Below u.heap.size u u') := fun u hu hg => by
    rw [hy]
    exact down_c (w.heap.size + 1) h L A c u h8 hl hc hcm hx ((hR.below hu (Nat.le_refl _)).wide hu.size) (ht.below hu ht.2.2.1 ht.2.2.2) hg
  obtain ⟨W, hW⟩ : ∃ W, W = (w.alloc (.cells (rowV 32 z8) 25)).alloc (.cells #[downV (w.heap.size + 1)] 44) := ⟨_, rfl⟩
  have hb : Below w.heap.size w W := by rw [hW]; exact ((Below.refl _ _).alloc (Nat.le_refl _) _).alloc (by simp) _
  have f0 : Fill w.heap.size 25 32 32 z8 W := by rw [hW]; exact Fill.of_row (heap_alloc2_old w _ _)
  have hcl : W.cell? ⟨w.heap.size + 1, 0, none⟩ = some (downV (w.heap.size + 1)) := by
    rw [cell_of_row _ (w.heap.size + 1) _ _ _ (0, 0) (by rw [hW]; exact heap_alloc2_new w _ _)]
    rfl
  have HC := Lib.hid (HD.out W hb hcl)
  have HW := Lib.hid hW
  have HB := Lib.hid hb
  have H0 := Lib.hid f0
  clear hb f0 hcl HD hy hR ht hx hl hc hW
  unfold downV at HW
  go_enter Tryd.func18, Tryd.ntmps18
  go_wp2_with fail
  rw [← HW.out]
  refine HC.out.mono ?_
  rintro e w1 ⟨rfl, b1⟩
  have B1 := Lib.hid (HB.out.trans (b1.mono HB.out.size))
  have f1 := (H0.out.below b1 H0.out.lt).done
  clear b1
  go_wp2_with (first
    | (refine wpList_store_row rfl 25 (.tmp 2) (.tmp 7) rfl w.heap.size (hashV y) rfl rfl 25 (rowV 32 z8) f1 (size_hashVW _) (by unfold hashV; rw [rowV_size, rowV_size]) (rowV_one 32 _ (fun i => rfl)) ?_)
    | fail)
  exact bodyPost_ret (v := .agg (hashV y)) (results_cell_row rfl _ _ w.heap.size 25 (hashV y) (0, 0) _ rfl (setRow_heap _ _ _ _ _ _ f1) Tryd.underlying25 rfl (size_hashVW _)) rfl ⟨rfl, below_setRow B1.out (Nat.le_refl _) _⟩
set_option maxRecDepth 100000 in
set_option maxHeartbeats 8000000 in
/-- The root of so many leaves as may be. -/
theorem rootOk_c (h : Nat) (L : List (List UInt8)) (A : Option Addr) (c : Nat) (w : World) (h8 : h ≤ 8) (hl : L.length = 2 ^ h) (hc : L.length ≤ c) (hcm : c ≤ 9223372036854775807) (hx : ∀ x ∈ L, x.length = 32) (hR : RdH w w.heap.size A L) (ht : Tabs w) :
    Calls Tryd.prog 7 #[.slice A L.length c] w fun e w' => e = .returned (.tuple #[.agg (hashV (rootH h L)), .int .i64 0]) ∧ Below w.heap.size w w' := by
  have hz := zero_hash
  obtain ⟨y, hy⟩ : ∃ y, y = rootH h L := ⟨_, rfl⟩
  rw [← hy]
  have ba := (Below.refl w.heap.size w).alloc (Nat.le_refl _) (.cells (rowV 32 z8) 25)
  have hf : Fill w.heap.size 25 32 32 z8 (w.alloc (.cells (rowV 32 z8) 25)) := Fill.of_row (heap_alloc_new w _)
  have HC := Lib.hid (treeRoot_c h L A c (w.alloc (.cells (rowV 32 z8) 25)) h8 hl hc hcm hx ((hR.below ba (Nat.le_refl _)).wide ba.size) (ht.below ba ht.2.2.1 ht.2.2.2))
  rw [← hy] at HC
  have HM := Lib.hid (may_c L.length (by omega) (w.alloc (.cells (rowV 32 z8) 25)))
  rw [(hgtI_some h8 hl).1] at HM
  have HB := Lib.hid ba
  have HF := Lib.hid hf
  clear ba hf hy hR ht hx hl
  go_enter Tryd.func7, Tryd.ntmps7
  go_wp2_with fail
  refine HM.out.mono ?_
  rintro e w1 ⟨rfl, rfl⟩
  go_wp2_with fail
  refine HC.out.mono ?_
  rintro e w1 ⟨rfl, b1⟩
  have B1 := Lib.hid (HB.out.trans (b1.mono HB.out.size))
  have f1 := (HF.out.below b1 HF.out.lt).done
  clear b1
  go_wp2_with (first
    | (refine wpList_store_row rfl 25 (.tmp 2) (.tmp 10) rfl w.heap.size (hashV y) rfl rfl 25 (rowV 32 z8) f1 (size_hashVW _) (by unfold hashV; rw [rowV_size, rowV_size]) (rowV_one 32 _ (fun i => rfl)) ?_)
    | fail)
  exact bodyPost_ret (v := .tuple #[.agg (hashV y), .int .i64 0]) (ret_hash2 rfl _ _ w.heap.size (hF y) 0 rfl rfl (setRow_heap _ _ _ _ _ _ f1)) rfl ⟨rfl, below_setRow B1.out (Nat.le_refl _) _⟩
set_option maxRecDepth 100000 in
set_option maxHeartbeats 8000000 in
/-- No root of other numbers of leaves. -/
theorem rootNo_c (A : Option Addr) (n c : Nat) (w : World) (hn : n < 9223372036854775808) (hm : hgt n = none) :
    Calls Tryd.prog 7 #[.slice A n c] w fun e w' => e = .returned (.tuple #[.agg (rowV 32 z8), .int .i64 2]) ∧ Below w.heap.size w w' := by
  have hz := zero_hash
  have ba := (Below.refl w.heap.size w).alloc (Nat.le_refl _) (.cells (rowV 32 z8) 25)
  have f1 := heap_alloc_new w (.cells (rowV 32 z8) 25)
  have HM := Lib.hid (may_c n hn (w.alloc (.cells (rowV 32 z8) 25)))
  rw [hm] at HM
  have HB := Lib.hid ba
  clear ba
  go_enter Tryd.func7, Tryd.ntmps7
  go_wp2_with fail
  refine HM.out.mono ?_
  rintro e w1 ⟨rfl, rfl⟩
  go_wp2_with (first
    | (refine wpList_store_row rfl 25 (.tmp 2) (.tmp 8) rfl w.heap.size (rowV 32 z8) rfl rfl 25 (rowV 32 z8) f1 (size_hashVW _) rfl (rowV_one 32 _ (fun i => rfl)) ?_)
    | fail)
  exact bodyPost_ret (v := .tuple #[.agg (rowV 32 z8), .int .i64 2]) (ret_hash2 rfl _ _ w.heap.size z8 2 rfl rfl (setRow_heap _ _ _ _ _ _ f1)) rfl ⟨rfl, below_setRow HB.out (Nat.le_refl _) _⟩
end Go.Proofs.YthjeanjodhafjaaDoor
