/- Contracts: climbs. -/
import Derived.Test.YthjeanjodhafjaaDoorTrNode
import Derived.Laws.ResultCell
namespace Go.Proofs.YthjeanjodhafjaaDoor
open Go.ChangeShapes Go.WideShapes Go.ChangeAt Go.RowKit
set_option linter.unusedVariables false

/-- A hash and an error told. -/
theorem ret_hash2 {fn : Func} {p u : Tmp} (h : fn.results = #[.cell p 25, .tmp u]) (tmps : Array Value) (w : World) (g : Nat) (f : Nat → Value) (n : Int) (hp : tmps.getD p undef = .pointer (some ⟨g, 0, none⟩)) (hu : tmps.getD u undef = .int .i64 n)
    (hg : w.heap[g]? = some (.cells (rowV 32 f) 25 (0, 0))) : (results fn tmps).run Tryd.prog w = .ok (.tuple #[.agg (rowV 32 f), .int .i64 n]) w := by
  have hlv := run_loadVar_row (P := Tryd.prog) w g 25 25 (rowV 32 f) (0, 0) _ hg Tryd.underlying25 rfl (size_hashVW f)
  rw [results_cell_tmp h tmps Tryd.prog w, hp, hu]
  simp [asAddr, hlv, Result.andThen]
/-- May the leaf be climbed from? -/
def mayC (i : Int) (n : Nat) : Prop := n ≤ 8 ∧ 0 ≤ i ∧ i < ((2 ^ n : Nat) : Int)
instance (i : Int) (n : Nat) : Decidable (mayC i n) := by unfold mayC; infer_instance
set_option maxRecDepth 100000 in
set_option maxHeartbeats 4000000 in
theorem climb_no (x : List UInt8) (i : Int) (A : Option Addr) (c n : Nat) (hn : n ≤ 9223372036854775807) (hm : ¬ mayC i n) (w : World) :
    Calls Tryd.prog 12 #[.agg (hashV x), .int .i64 i, .slice A n c] w fun e w' => e = .returned (.tuple #[.agg (rowV 32 z8), .int .i64 2]) ∧ Below w.heap.size w w' := by
  have hz := zero_hash
  obtain ⟨W, hW⟩ : ∃ W, W = (w.alloc (.cells (hashV x) 25)).alloc (.cells (rowV 32 z8) 25) := ⟨_, rfl⟩
  have hb : Below w.heap.size w W := by rw [hW]; exact ((Below.refl _ _).alloc (Nat.le_refl _) _).alloc (by simp) _
  have f1 : Fill (w.heap.size + 1) 25 32 32 z8 W := by rw [hW]; exact Fill.of_row (heap_alloc2_new w _ _)
  have HW := Lib.hid hW
  have HB := Lib.hid hb
  have h1 := f1.done
  have H1 := Lib.hid h1
  rw [HW.out] at h1
  clear hW hb f1
  by_cases h8 : 8 < n
  · have q1 : decide ((8 : Int) < (n : Int)) = true := by simp; omega
    go_enter Tryd.func12, Tryd.ntmps12
    go_wp2_with (first
      | (refine wpList_store_row rfl 25 (.tmp 6) (.tmp 21) rfl (w.heap.size + 1) (rowV 32 z8) rfl rfl 25 (rowV 32 z8) h1 (size_hashVW _) rfl (rowV_one 32 _ (fun i => rfl)) ?_; rw [← HW.out])
      | fail)
    exact bodyPost_ret (v := .tuple #[.agg (rowV 32 z8), .int .i64 2]) (ret_hash2 rfl _ _ (w.heap.size + 1) z8 2 rfl rfl (setRow_heap _ _ _ _ _ _ H1.out)) rfl ⟨rfl, below_setRow HB.out (by omega) _⟩
  · have q1 : decide ((8 : Int) < (n : Int)) = false := by simp; omega
    have hl : (i / 2 ^ n == 0) = false := by
      rw [Bool.eq_false_iff]
      intro h
      exact hm ⟨by omega, (leaf_iff i n).1 h⟩
    have hL := Lib.hid (isLeaf_c i n (by omega) W)
    rw [hl] at hL
    go_enter Tryd.func12, Tryd.ntmps12
    go_wp2_with fail
    rw [← HW.out]
    refine hL.out.mono ?_
    rintro e w1 ⟨rfl, rfl⟩
    go_wp2_with (first
      | (refine wpList_store_row rfl 25 (.tmp 6) (.tmp 21) rfl (w.heap.size + 1) (rowV 32 z8) rfl rfl 25 (rowV 32 z8) H1.out (size_hashVW _) rfl (rowV_one 32 _ (fun i => rfl)) ?_)
      | fail)
    exact bodyPost_ret (v := .tuple #[.agg (rowV 32 z8), .int .i64 2]) (ret_hash2 rfl _ _ (w.heap.size + 1) z8 2 rfl rfl (setRow_heap _ _ _ _ _ _ H1.out)) rfl ⟨rfl, below_setRow HB.out (by omega) _⟩
set_option maxRecDepth 100000 in
set_option maxHeartbeats 8000000 in
theorem climb_c (x : List UInt8) (hx : x.length = 32) (i : Nat) (A : Option Addr) (c : Nat) (P : List (List UInt8)) (hP : ∀ p ∈ P, p.length = 32) (w : World) (hR : RdH w w.heap.size A P) (hm : mayC (i : Int) P.length) (ht : Tabs w) :
    Calls Tryd.prog 12 #[.agg (hashV x), .int .i64 (i : Int), .slice A P.length c] w fun e w' => e = .returned (.tuple #[.agg (hashV (climbN i x P P.length)), .int .i64 0]) ∧ Below w.heap.size w w' := by
  have hz := zero_hash
  have h8 := hm.1
  have hi : i < 256 := by
    have h1 := hm.2.2
    have h2 := Nat.pow_le_pow_right (n := 2) (by decide) h8
    have h3 : i < 2 ^ P.length := by omega
    exact Nat.lt_of_lt_of_le h3 h2
  obtain ⟨W, hW⟩ : ∃ W, W = (w.alloc (.cells (hashV x) 25)).alloc (.cells (rowV 32 z8) 25) := ⟨_, rfl⟩
  have hb : Below w.heap.size w W := by rw [hW]; exact ((Below.refl _ _).alloc (Nat.le_refl _) _).alloc (by simp) _
  have hsz : W.heap.size = w.heap.size + 2 := by rw [hW]; simp
  have f0 : Fill w.heap.size 25 32 32 (hF x) W := by rw [hW]; exact Fill.of_row (heap_alloc2_old w _ _)
  have f1 : Fill (w.heap.size + 1) 25 32 32 z8 W := by rw [hW]; exact Fill.of_row (heap_alloc2_new w _ _)
  have HW := Lib.hid hW
  have HB := Lib.hid hb
  have H1 := Lib.hid f1
  have H0 := Lib.hid f0
  have h0 := f0.done
  have HT : Hid (∀ u : World, Below w.heap.size w u → Tabs u) := fun u hu => ht.below hu ht.2.2.1 ht.2.2.2
  have hL := Lib.hid (isLeaf_c i P.length (by omega) W)
  rw [(leaf_iff i P.length).2 hm.2] at hL
  have q1 : decide ((8 : Int) < (P.length : Int)) = false := by simp; omega
  have hA := heap_alloc_new W (.cells (rowV 32 z8) 25)
  rw [hsz] at hA
  have ba := (Below.refl W.heap.size W).alloc (Nat.le_refl _) (.cells (rowV 32 z8) 25)
  have HS := Lib.hid (setRow_heap _ _ _ (hashV x) _ _ hA)
  have HB3 := Lib.hid (below_setRow (hb.trans (ba.mono (by omega))) (show w.heap.size ≤ w.heap.size + 2 by omega) (hashV x))
  have HF1 := Lib.hid (f1.below (below_setRow ba (show W.heap.size ≤ w.heap.size + 2 by omega) (hashV x)) f1.lt)
  clear hW hb f0 f1 hm ht ba
  go_enter Tryd.func12, Tryd.ntmps12
  go_wp2_with fail
  rw [← HW.out]
  refine hL.out.mono ?_
  rintro e w1 ⟨rfl, rfl⟩
  go_wp2_with (first
    | (refine wpList_load_row rfl 25 (.tmp 3) rfl w.heap.size rfl 25 (hashV x) (0, 0) _ h0 Tryd.underlying25 rfl (size_hashVW _) ?_)
    | (refine wpList_store_row rfl 25 (.tmp 8) (.tmp 22) rfl (w.heap.size + 2) (hashV x) rfl rfl 25 (rowV 32 z8) hA (size_hashVW _) (by unfold hashV; rw [rowV_size, rowV_size]) (rowV_one 32 _ (fun i => rfl)) ?_; obtain ⟨w3, hw3⟩ : ∃ w3, w3 = (w1.alloc (.cells (rowV 32 z8) 25)).setRow (w.heap.size + 2) (hashV x) := ⟨_, rfl⟩; rw [← hw3]; rw [← hw3] at HS HB3 HF1; clear hw3)
    | fail)
  clear hA h0 hL
  have hs3 := HF1.out.lt
  go_loopw [25] (fun v wr => ∃ k : Nat, k ≤ P.length ∧ v = .int .i64 (k : Int) ∧ Fill (w.heap.size + 2) 25 32 32 (hF (climbN i x P k)) wr ∧ Fill (w.heap.size + 1) 25 32 32 z8 wr ∧ Below w.heap.size w wr) (fun v _ => P.length - (intOf v).toNat)
  case atStart => exact ⟨0, by omega, rfl, Fill.of_row HS.out, HF1.out, HB3.out⟩
  case round =>
    obtain ⟨k, hk, rfl, g2, g1, gb⟩ := hrel
    by_cases hlt : k < P.length
    · obtain ⟨bl, off, rfl, hbl, hcell⟩ := hR.below gb (Nat.le_refl _) (by omega)
      have hy : (P.getD k []).length = 32 := by rw [List.getD_eq_getElem?_getD, List.getElem?_eq_getElem hlt]; exact hP _ (List.getElem_mem hlt)
      have hc := hcell k hlt
      have hxk := climbN_len i x P hx k
      have HN := Lib.hid (show climbN i x P (k + 1) = up i k (climbN i x P k) (P.getD k []) from rfl)
      have q2 : (k : Int) < (P.length : Int) := by omega
      have hR2 := Lib.hid (isRight_c i k (by omega) hi)
      generalize climbN i x P k = y at *
      generalize P.getD k [] = p at *
      clear hcell
      have sz4 := g1.lt
      have HA := heap_alloc_new wr (.cells (rowV 32 z8) 25)
      have HRow := Lib.hid (setRow_heap _ _ _ (hashV p) _ _ HA)
      have bal := (Below.refl wr.heap.size wr).alloc (Nat.le_refl _) (.cells (rowV 32 z8) 25)
      have HB4 := Lib.hid (below_setRow bal (Nat.le_refl _) (hashV p))
      have G2 := Lib.hid g2
      have G1 := Lib.hid g1
      have GB := Lib.hid gb
      clear g2 g1 gb bal
      go_wp2_with (first
        | (refine wpList_load_mid rfl 25 (.tmp 28) rfl bl (off + k * 32) rfl (hC p) _ hc hash_under rfl (hash_info (hC_len p)) ?_; rw [hC_arr])
        | (refine wpList_store_row rfl 25 (.tmp 10) (.tmp 29) rfl wr.heap.size (hashV p) rfl rfl 25 (rowV 32 z8) HA (size_hashVW _) (by unfold hashV; rw [rowV_size, rowV_size]) (rowV_one 32 _ (fun i => rfl)) ?_; obtain ⟨w4, hw4⟩ : ∃ w4, w4 = (wr.alloc (.cells (rowV 32 z8) 25)).setRow wr.heap.size (hashV p) := ⟨_, rfl⟩; rw [← hw4]; rw [← hw4] at HRow HB4; clear hw4 HA)
        | fail)
      refine (hR2.out _).mono ?_
      rintro e w5 ⟨rfl, h5⟩
      subst h5
      have hp5 := HRow.out
      have Y5 := Lib.hid (G2.out.below HB4.out G2.out.lt)
      have G15 := Lib.hid (G1.out.below HB4.out G1.out.lt)
      have GB5 := Lib.hid (GB.out.trans (HB4.out.mono GB.out.size))
      have hy5 := Y5.out.done
      have hp := hy
      have hy := hxk
      by_cases hbit : i / 2 ^ k % 2 = 1
      · have hdd : decide (i / 2 ^ k % 2 = 1) = true := decide_eq_true hbit
        rw [hdd]
        have hN := Lib.hid (node_c p y hp hy w5 (HT.out _ GB5.out))
        obtain ⟨z, hz'⟩ : ∃ z, z = nd p y := ⟨_, rfl⟩
        rw [← hz'] at hN
        have HU := Lib.hid (show climbN i x P (k + 1) = z by rw [HN.out, hz']; unfold up; rw [if_pos hbit])
        clear hz' hdd hbit
        go_wp2_with (first
          | (refine wpList_load_row rfl 25 (.tmp 10) rfl wr.heap.size rfl 25 (hashV p) (0, 0) _ hp5 Tryd.underlying25 rfl (size_hashVW _) ?_)
          | (refine wpList_load_row rfl 25 (.tmp 8) rfl (w.heap.size + 2) rfl 25 (hashV y) (0, 0) _ hy5 Tryd.underlying25 rfl (size_hashVW _) ?_)
          | (go_at_call 17; refine hN.out.mono ?_; rintro e w6 ⟨rfl, hb6⟩; have B6 := Lib.hid hb6; have hy6 := (Y5.out.below hb6 Y5.out.lt).done; have G16 := Lib.hid (G15.out.below hb6 G15.out.lt); clear hb6)
          | (refine wpList_store_row rfl 25 (.tmp 8) (.tmp 35) rfl (w.heap.size + 2) (hashV z) rfl rfl 25 (hashV y) hy6 (size_hashVW _) (by unfold hashV; rw [rowV_size, rowV_size]) (rowV_one 32 _ (fun i => rfl)) ?_)
          | fail)
        exact ⟨⟨k + 1, by omega, by go_num, by rw [HU.out]; exact Fill.of_row (setRow_heap _ _ _ _ _ _ hy6), G16.out.keep (setRow_other _ _ _ _ (by omega)), below_setRow (GB5.out.trans (B6.out.mono GB5.out.size)) (by omega) _⟩, by simp [intOf]; omega⟩
      · have hdd : decide (i / 2 ^ k % 2 = 1) = false := decide_eq_false hbit
        rw [hdd]
        have hN := Lib.hid (node_c y p hy hp w5 (HT.out _ GB5.out))
        obtain ⟨z, hz'⟩ : ∃ z, z = nd y p := ⟨_, rfl⟩
        rw [← hz'] at hN
        have HU := Lib.hid (show climbN i x P (k + 1) = z by rw [HN.out, hz']; unfold up; rw [if_neg hbit])
        clear hz' hdd hbit
        go_wp2_with (first
          | (refine wpList_load_row rfl 25 (.tmp 10) rfl wr.heap.size rfl 25 (hashV p) (0, 0) _ hp5 Tryd.underlying25 rfl (size_hashVW _) ?_)
          | (refine wpList_load_row rfl 25 (.tmp 8) rfl (w.heap.size + 2) rfl 25 (hashV y) (0, 0) _ hy5 Tryd.underlying25 rfl (size_hashVW _) ?_)
          | (go_at_call 17; refine hN.out.mono ?_; rintro e w6 ⟨rfl, hb6⟩; have B6 := Lib.hid hb6; have hy6 := (Y5.out.below hb6 Y5.out.lt).done; have G16 := Lib.hid (G15.out.below hb6 G15.out.lt); clear hb6)
          | (refine wpList_store_row rfl 25 (.tmp 8) (.tmp 38) rfl (w.heap.size + 2) (hashV z) rfl rfl 25 (hashV y) hy6 (size_hashVW _) (by unfold hashV; rw [rowV_size, rowV_size]) (rowV_one 32 _ (fun i => rfl)) ?_)
          | fail)
        exact ⟨⟨k + 1, by omega, by go_num, by rw [HU.out]; exact Fill.of_row (setRow_heap _ _ _ _ _ _ hy6), G16.out.keep (setRow_other _ _ _ _ (by omega)), below_setRow (GB5.out.trans (B6.out.mono GB5.out.size)) (by omega) _⟩, by simp [intOf]; omega⟩
    · obtain rfl : k = P.length := by omega
      obtain ⟨y, hy⟩ : ∃ y, y = climbN i x P P.length := ⟨_, rfl⟩
      rw [← hy] at g2
      have h2 := g2.done
      have h1 := g1.done
      have HY := Lib.hid hy
      have GB := Lib.hid gb
      clear g2 g1 gb hy
      go_wp2_with (first
        | (refine wpList_load_row rfl 25 (.tmp 8) rfl (w.heap.size + 2) rfl 25 (hashV y) (0, 0) _ h2 Tryd.underlying25 rfl (size_hashVW _) ?_)
        | (refine wpList_store_row rfl 25 (.tmp 6) (.tmp 40) rfl (w.heap.size + 1) (hashV y) rfl rfl 25 (rowV 32 z8) h1 (size_hashVW _) (by unfold hashV; rw [rowV_size, rowV_size]) (rowV_one 32 _ (fun i => rfl)) ?_)
        | fail)
      rw [← HY.out]
      exact bodyPost_ret (v := .tuple #[.agg (hashV y), .int .i64 0]) (ret_hash2 rfl _ _ (w.heap.size + 1) (hF y) 0 rfl rfl (setRow_heap _ _ _ _ _ _ h1)) rfl ⟨rfl, below_setRow GB.out (by omega) _⟩
end Go.Proofs.YthjeanjodhafjaaDoor
