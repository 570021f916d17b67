/- The law's walk: two halves. -/
import Derived.Test.YthjeanjodhafjaaDoorTrHalvesR
namespace Go.Proofs.YthjeanjodhafjaaDoor
open Go.ChangeShapes Go.WideShapes Go.ChangeAt Go.RowKit
set_option linter.unusedVariables false

theorem RdH.cells {w : World} {hi bl off : Nat} {L : List (List UInt8)} (h : RdH w hi (some ⟨bl, off, none⟩) L) : ∀ j v, (hcs L)[j]? = some v → w.cell? ((⟨bl, off, none⟩ : Addr).add j) = some v := fun j v hv => by
  have hj : j < 32 * L.length := by rw [← hcs_len L]; exact (List.getElem?_eq_some_iff.1 hv).1
  obtain ⟨b2, o2, e, _, hc⟩ := h (by omega)
  injection e with e
  injection e with e1 e2 _
  subst e1
  subst e2
  have h1 : j / 32 < L.length := by omega
  have h2 := hc (j / 32) h1 (j % 32) v
  have h3 := hcs_at L (j / 32) (j % 32) h1 (Nat.mod_lt _ (by decide))
  rw [show j / 32 * 32 + j % 32 = j by omega] at h3
  have h4 := h2 (h3.symm.trans hv)
  rw [show off + j / 32 * 32 + j % 32 = off + j by omega] at h4
  have ea : (⟨bl, off, none⟩ : Addr).add j = ⟨bl, off + j, none⟩ := by
    unfold Addr.add
    split
    · next h0 => subst h0; rfl
    · rfl
  rw [ea]
  exact h4
set_option maxRecDepth 100000 in
set_option maxHeartbeats 4000000 in
theorem th_ne (A0 A1 : Option Addr) (n1 n2 c0 c1 : Nat) (i : Int) (w : World) (hne : n1 ≠ n2) (ht : Tabs w) :
    Calls Tryd.prog 5 #[.slice A0 n1 c0, .slice A1 n2 c1, .int .i64 i] w fun e w' => e = .returned (.bool true) ∧ Below w.heap.size w w' := by
  have HT : Hid (∀ u : World, Below w.heap.size w u → Tabs u) := fun u hu => ht.below hu ht.2.2.1 ht.2.2.2
  have HB := Lib.hid (Below.refl w.heap.size w)
  have q1 : ((n1 : Int) != (n2 : Int)) = true := by simp; omega
  have q2 : (n1 : Int) ≠ (n2 : Int) := by omega
  clear ht
  go_enter Tryd.func5, Tryd.ntmps5
  go_wp2_with fail
  refine (known7 w (HT.out _ HB.out)).mono ?_
  rintro e w9 ⟨rfl, b9⟩
  have B9 := Lib.hid (HB.out.trans (b9.mono HB.out.size))
  clear b9
  go_wp2_with fail
  go_ret
  exact ⟨rfl, B9.out⟩
set_option maxRecDepth 100000 in
set_option maxHeartbeats 4000000 in
theorem th_no (A0 A1 : Option Addr) (n c0 c1 : Nat) (i : Int) (w : World) (hn : n < 9223372036854775808) (hno : hgt n = none) (ht : Tabs w) :
    Calls Tryd.prog 5 #[.slice A0 n c0, .slice A1 n c1, .int .i64 i] w fun e w' => e = .returned (.bool true) ∧ Below w.heap.size w w' := by
  have HT : Hid (∀ u : World, Below w.heap.size w u → Tabs u) := fun u hu => ht.below hu ht.2.2.1 ht.2.2.2
  have HB := Lib.hid (Below.refl w.heap.size w)
  have CM : Hid (∀ u : World, Calls Tryd.prog 10 #[.int .i64 (n : Int)] u fun e w' => e = .returned (.bool false) ∧ w' = u) := fun u => by
    have := refMay_c n hn u
    rw [hno] at this
    exact this
  clear ht hno
  go_enter Tryd.func5, Tryd.ntmps5
  go_wp2_with fail
  refine (CM.out _).mono ?_
  rintro e wx ⟨rfl, hwx⟩
  rw [hwx]
  clear hwx wx
  go_wp2_with fail
  refine (known7 w (HT.out _ HB.out)).mono ?_
  rintro e w9 ⟨rfl, b9⟩
  have B9 := Lib.hid (HB.out.trans (b9.mono HB.out.size))
  clear b9
  go_wp2_with fail
  go_ret
  exact ⟨rfl, B9.out⟩
set_option maxRecDepth 100000 in
set_option maxHeartbeats 4000000 in
theorem th_out (A0 A1 : Option Addr) (n h c0 c1 : Nat) (i : Int) (w : World) (hn : hgt n = some h) (hout : 128 < n ∨ i < 0 ∨ (n : Int) ≤ i) (ht : Tabs w) :
    Calls Tryd.prog 5 #[.slice A0 n c0, .slice A1 n c1, .int .i64 i] w fun e w' => e = .returned (.bool true) ∧ Below w.heap.size w w' := by
  have HT : Hid (∀ u : World, Below w.heap.size w u → Tabs u) := fun u hu => ht.below hu ht.2.2.1 ht.2.2.2
  have HB := Lib.hid (Below.refl w.heap.size w)
  have hn256 : n ≤ 256 := by rw [(hgt_some hn).2]; exact (two_le h (by have := (hgt_some hn).1; omega)).1
  have CM : Hid (∀ u : World, Calls Tryd.prog 10 #[.int .i64 (n : Int)] u fun e w' => e = .returned (.bool true) ∧ w' = u) := fun u => by
    have := refMay_c n (by omega) u
    rw [hn] at this
    exact this
  clear ht hn
  by_cases h1 : 128 < n
  · have q1 : decide ((n : Int) > 128) = true := by simp; omega
    have q2 : (128 : Int) < (n : Int) := by omega
    go_enter Tryd.func5, Tryd.ntmps5
    go_wp2_with fail
    refine (CM.out _).mono ?_
    rintro e wx ⟨rfl, hwx⟩
    rw [hwx]
    clear hwx wx
    go_wp2_with fail
    refine (known7 w (HT.out _ HB.out)).mono ?_
    rintro e w9 ⟨rfl, b9⟩
    have B9 := Lib.hid (HB.out.trans (b9.mono HB.out.size))
    clear b9
    go_wp2_with fail
    go_ret
    exact ⟨rfl, B9.out⟩
  · have q1 : decide ((n : Int) > 128) = false := by simp; omega
    have q2 : ¬ (128 : Int) < (n : Int) := by omega
    by_cases h2 : i < 0
    · have q3 : decide (i < 0) = true := by simp; omega
      go_enter Tryd.func5, Tryd.ntmps5
      go_wp2_with fail
      refine (CM.out _).mono ?_
      rintro e wx ⟨rfl, hwx⟩
      rw [hwx]
      clear hwx wx
      go_wp2_with fail
      refine (known7 w (HT.out _ HB.out)).mono ?_
      rintro e w9 ⟨rfl, b9⟩
      have B9 := Lib.hid (HB.out.trans (b9.mono HB.out.size))
      clear b9
      go_wp2_with fail
      go_ret
      exact ⟨rfl, B9.out⟩
    · have q3 : decide (i < 0) = false := by simp; omega
      have h3 : (n : Int) ≤ i := by omega
      have q4 : decide (i ≥ (n : Int)) = true := by simp; omega
      go_enter Tryd.func5, Tryd.ntmps5
      go_wp2_with fail
      refine (CM.out _).mono ?_
      rintro e wx ⟨rfl, hwx⟩
      rw [hwx]
      clear hwx wx
      go_wp2_with fail
      refine (known7 w (HT.out _ HB.out)).mono ?_
      rintro e w9 ⟨rfl, b9⟩
      have B9 := Lib.hid (HB.out.trans (b9.mono HB.out.size))
      clear b9
      go_wp2_with fail
      go_ret
      exact ⟨rfl, B9.out⟩
set_option maxRecDepth 100000 in
set_option maxHeartbeats 8000000 in
theorem th_yes (h : Nat) (a b : List (List UInt8)) (A0 A1 : Option Addr) (c0 c1 m : Nat) (w : World) (h7 : h ≤ 7) (hla : a.length = 2 ^ h) (hlb : b.length = 2 ^ h) (hc0 : a.length ≤ c0) (hcm0 : c0 ≤ 9223372036854775807) (hc1 : b.length ≤ c1) (hcm1 : c1 ≤ 9223372036854775807) (hxa : ∀ x ∈ a, x.length = 32) (hxb : ∀ x ∈ b, x.length = 32) (hRa : RdH w w.heap.size A0 a) (hRb : RdH w w.heap.size A1 b) (hm : m < 2 ^ h) (ht : Tabs w) :
    Calls Tryd.prog 5 #[.slice A0 a.length c0, .slice A1 b.length c1, .int .i64 (m : Int)] w fun e w' => e = .returned (.bool true) ∧ Below w.heap.size w w' := by
  have hz := zero_hash
  obtain ⟨i0, hi0⟩ : ∃ i0, Tryd.prog.info? 25 = some i0 := ⟨_, (Option.some_get (by kernel_rfl)).symm⟩
  obtain ⟨hz0, hz1, hz2⟩ := hashes_row hi0
  obtain ⟨n, hn⟩ : ∃ n, n = 2 ^ h := ⟨_, rfl⟩
  have hn128 : n ≤ 128 := by rw [hn]; exact Nat.le_trans (Nat.pow_le_pow_right (by decide) h7) (by decide)
  have hn1 : 1 ≤ n := by rw [hn]; exact Nat.two_pow_pos h
  obtain ⟨x, hx⟩ : ∃ x, x = rootH h a := ⟨_, rfl⟩
  obtain ⟨y, hy⟩ : ∃ y, y = rootH h b := ⟨_, rfl⟩
  have lx : x.length = 32 := by rw [hx]; exact rootH_len h a hla hxa
  have ly : y.length = 32 := by rw [hy]; exact rootH_len h b hlb hxb
  have hxab : ∀ z ∈ a ++ b, z.length = 32 := fun z hz => (List.mem_append.1 hz).elim (hxa z) (hxb z)
  have hlab : (a ++ b).length = 2 ^ (h + 1) := by rw [List.length_append, hla, hlb, Nat.pow_succ]; omega
  have hlabn : (a ++ b).length = n + n := by rw [hlab, Nat.pow_succ, ← hn]; omega
  have HT : Hid (∀ u : World, Below w.heap.size w u → Tabs u) := fun u hu => ht.below hu ht.2.2.1 ht.2.2.2
  have CM : Hid (∀ u : World, Calls Tryd.prog 10 #[.int .i64 (n : Int)] u fun e w' => e = .returned (.bool true) ∧ w' = u) := fun u => by
    have := refMay_c n (by omega) u
    rw [(hgtI_some (by omega) hn).1] at this
    exact this
  have CA : Hid (∀ u : World, Below w.heap.size w u → Calls Tryd.prog 7 #[.slice A0 n c0] u fun e w' => e = .returned (.tuple #[.agg (hashV x), .int .i64 0]) ∧ Below u.heap.size u w') := fun u hu => by
    have := rootOk_c h a A0 c0 u (by omega) hla hc0 hcm0 hxa ((hRa.below hu (Nat.le_refl _)).wide hu.size) (HT.out u hu)
    rw [hla, ← hn, ← hx] at this
    exact this
  have CB : Hid (∀ u : World, Below w.heap.size w u → Calls Tryd.prog 7 #[.slice A1 n c1] u fun e w' => e = .returned (.tuple #[.agg (hashV y), .int .i64 0]) ∧ Below u.heap.size u w') := fun u hu => by
    have := rootOk_c h b A1 c1 u (by omega) hlb hc1 hcm1 hxb ((hRb.below hu (Nat.le_refl _)).wide hu.size) (HT.out u hu)
    rw [hlb, ← hn, ← hy] at this
    exact this
  have CL : Hid (∀ (u : World) (A : Option Addr) (c : Nat), Below w.heap.size w u → n + n ≤ c → c ≤ 9223372036854775807 → RdH u u.heap.size A (a ++ b) → Calls Tryd.prog 7 #[.slice A (n + n) c] u fun e w' => e = .returned (.tuple #[.agg (hashV (nd x y)), .int .i64 0]) ∧ Below u.heap.size u w') := fun u A c hu hc hcm hr => by
    have := rootOk_c (h + 1) (a ++ b) A c u (by omega) hlab (by omega) hcm hxab hr (HT.out u hu)
    rw [hlabn, rootH_halves h a b hla, ← hx, ← hy] at this
    exact this
  obtain ⟨P, hP⟩ : ∃ P, P = pathH h a m := ⟨_, rfl⟩
  obtain ⟨S', hS'⟩ : ∃ S', S' = pathH h b m := ⟨_, rfl⟩
  have mP : ∀ p ∈ P, p.length = 32 := by rw [hP]; exact pathH_mem h a m hla hxa
  have mS : ∀ p ∈ S', p.length = 32 := by rw [hS']; exact pathH_mem h b m hlb hxb
  have PA : Hid (∀ u : World, Below w.heap.size w u → Calls Tryd.prog 8 #[.slice A0 n c0, .int .i64 (m : Int)] u fun e w' => ∃ A' c', e = .returned (.tuple #[.slice A' h c', .int .i64 0]) ∧ Below u.heap.size u w' ∧ w'.ownsRow u.heap.size 25 32 (.slice A' h c') h (hcs P)) := fun u hu => by
    have := path_c m h a A0 c0 u (by omega) hla hc0 hcm0 hm hxa ((hRa.below hu (Nat.le_refl _)).wide hu.size) (HT.out u hu)
    rw [hla, ← hn, ← hP] at this
    exact this
  have PB : Hid (∀ u : World, Below w.heap.size w u → Calls Tryd.prog 8 #[.slice A1 n c1, .int .i64 (m : Int)] u fun e w' => ∃ A' c', e = .returned (.tuple #[.slice A' h c', .int .i64 0]) ∧ Below u.heap.size u w' ∧ w'.ownsRow u.heap.size 25 32 (.slice A' h c') h (hcs S')) := fun u hu => by
    have := path_c m h b A1 c1 u (by omega) hlb hc1 hcm1 hm hxb ((hRb.below hu (Nat.le_refl _)).wide hu.size) (HT.out u hu)
    rw [hlb, ← hn, ← hS'] at this
    exact this
  have PL : Hid (∀ (u : World) (A : Option Addr) (c : Nat), Below w.heap.size w u → n + n ≤ c → c ≤ 9223372036854775807 → RdH u u.heap.size A (a ++ b) → Calls Tryd.prog 8 #[.slice A (n + n) c, .int .i64 (m : Int)] u fun e w' => ∃ A' c', e = .returned (.tuple #[.slice A' (h + 1) c', .int .i64 0]) ∧ Below u.heap.size u w' ∧ w'.ownsRow u.heap.size 25 32 (.slice A' (h + 1) c') (h + 1) (hcs (P ++ [y]))) := fun u A c hu hc hcm hr => by
    have := path_c m (h + 1) (a ++ b) A c u (by omega) hlab (by omega) hcm (by rw [Nat.pow_succ]; omega) hxab hr (HT.out u hu)
    rw [hlabn, pathH_low h a b m hla hm, ← hP, ← hy] at this
    exact this
  have PH : Hid (∀ (u : World) (A : Option Addr) (c : Nat), Below w.heap.size w u → n + n ≤ c → c ≤ 9223372036854775807 → RdH u u.heap.size A (a ++ b) → Calls Tryd.prog 8 #[.slice A (n + n) c, .int .i64 ((n : Int) + (m : Int))] u fun e w' => ∃ A' c', e = .returned (.tuple #[.slice A' (h + 1) c', .int .i64 0]) ∧ Below u.heap.size u w' ∧ w'.ownsRow u.heap.size 25 32 (.slice A' (h + 1) c') (h + 1) (hcs (S' ++ [x]))) := fun u A c hu hc hcm hr => by
    have := path_c (2 ^ h + m) (h + 1) (a ++ b) A c u (by omega) hlab (by omega) hcm (by rw [Nat.pow_succ]; omega) hxab hr (HT.out u hu)
    rw [hlabn, pathH_high h a b m hla hm, ← hS', ← hx, ← hn] at this
    rw [show ((n : Int) + (m : Int)) = ((n + m : Nat) : Int) by omega]
    exact this
  obtain ⟨ba, oa, rfl, hba, _⟩ := hRa (by omega)
  obtain ⟨bb, ob, rfl, hbb, _⟩ := hRb (by omega)
  have la : (hcs a).length = n * 32 := by rw [hcs_len, hla, ← hn]; omega
  have lb : (hcs b).length = n * 32 := by rw [hcs_len, hlb, ← hn]; omega
  have RA : Hid (∀ u : World, Below w.heap.size w u → ∀ j v, (hcs a)[j]? = some v → u.cell? ((⟨ba, oa, none⟩ : Addr).add j) = some v) := fun u hu => RdH.cells (hRa.below hu (Nat.le_refl _))
  have RB : Hid (∀ u : World, Below w.heap.size w u → ∀ j v, (hcs b)[j]? = some v → u.cell? ((⟨bb, ob, none⟩ : Addr).add j) = some v) := fun u hu => RdH.cells (hRb.below hu (Nat.le_refl _))
  have HB := Lib.hid (Below.refl w.heap.size w)
  have Bw := HB
  have hmn : m < n := by omega
  rw [hla, hlb, ← hn]
  have q1 : decide ((n : Int) > 128) = false := by simp; omega
  have q2 : decide ((m : Int) < 0) = false := by simp
  have q3 : decide ((m : Int) ≥ (n : Int)) = false := by simp; omega
  have LX := Lib.hid lx
  have LY := Lib.hid ly
  have LA := Lib.hid la
  have LB := Lib.hid lb
  clear hx hy hP hS' hla hlb hlab hlabn hxa hxb hxab hc0 hc1 hcm0 hcm1 hRa hRb hba hbb ht hn hm lx ly la lb
  go_enter Tryd.func5, Tryd.ntmps5
  go_wp2_with fail
  refine (CM.out _).mono ?_
  rintro e wx ⟨rfl, hwx⟩
  rw [hwx]
  clear hwx wx
  go_wp2_with fail
  refine (CA.out w Bw.out).mono ?_
  rintro e w1 ⟨rfl, b⟩
  have Bw1 := Lib.hid (Bw.out.trans (b.mono Bw.out.size))
  clear b
  go_wp2_with (first
    | (refine wpList_store_row rfl 25 (.tmp 7) (.tmp 52) rfl w1.heap.size (hashV x) rfl rfl 25 (rowV 32 z8) (heap_alloc_new w1 _) (size_hashVW _) (by unfold hashV; rw [rowV_size, rowV_size]) (rowV_one 32 _ (fun i => rfl)) ?_; obtain ⟨w2, hw2⟩ : ∃ w2, w2 = (w1.alloc (.cells (rowV 32 z8) 25)).setRow w1.heap.size (hashV x) := ⟨_, rfl⟩; rw [← hw2]; have Bw2 := Lib.hid (show Below w.heap.size w w2 by rw [hw2]; exact below_setRow (Bw1.out.trans (((Below.refl _ _).alloc (Nat.le_refl _) _).mono Bw1.out.size)) Bw1.out.size _); have BSw2 := Lib.hid (show Below w1.heap.size w1 w2 by rw [hw2]; exact below_setRow ((Below.refl _ _).alloc (Nat.le_refl _) _) (Nat.le_refl _) _); have Fw2 : Hid (Fill w1.heap.size 25 32 32 (hF x) w2) := (by rw [hw2]; exact Fill.of_row (setRow_heap _ _ _ _ _ _ (heap_alloc_new w1 _))); clear hw2)
    | fail)
  refine (CB.out w2 Bw2.out).mono ?_
  rintro e w3 ⟨rfl, b⟩
  have Bw3 := Lib.hid (Bw2.out.trans (b.mono Bw2.out.size))
  have F3 := Lib.hid (Fw2.out.below b Fw2.out.lt)
  clear b
  go_wp2_with (first
    | (refine wpList_store_row rfl 25 (.tmp 9) (.tmp 57) rfl w3.heap.size (hashV y) rfl rfl 25 (rowV 32 z8) (heap_alloc_new w3 _) (size_hashVW _) (by unfold hashV; rw [rowV_size, rowV_size]) (rowV_one 32 _ (fun i => rfl)) ?_; obtain ⟨w4, hw2⟩ : ∃ w4, w4 = (w3.alloc (.cells (rowV 32 z8) 25)).setRow w3.heap.size (hashV y) := ⟨_, rfl⟩; rw [← hw2]; have Bw4 := Lib.hid (show Below w.heap.size w w4 by rw [hw2]; exact below_setRow (Bw3.out.trans (((Below.refl _ _).alloc (Nat.le_refl _) _).mono Bw3.out.size)) Bw3.out.size _); have BSw4 := Lib.hid (show Below w3.heap.size w3 w4 by rw [hw2]; exact below_setRow ((Below.refl _ _).alloc (Nat.le_refl _) _) (Nat.le_refl _) _); have Fw4 : Hid (Fill w3.heap.size 25 32 32 (hF y) w4) := (by rw [hw2]; exact Fill.of_row (setRow_heap _ _ _ _ _ _ (heap_alloc_new w3 _))); clear hw2)
    | (at_builtin; refine wpList_append_own_at _ rfl (.const (.slice none 0 0)) (.tmp 59) 22 rfl w4.heap.size 25 i0 _ 32 32 Tryd.underlying22 hi0 hz0 hz1 hz2 (by show (rowV 32 z8).size = 32; rw [rowV_size]) (by decide) (.slice none 0 0) 0 [] rfl ⟨rfl, .inl ⟨rfl, rfl⟩⟩ ⟨ba, oa, none⟩ n c0 (hcs a) rfl LA.out (RA.out w4 Bw4.out) (hcs_one _) (by unfold maxLen; omega) (by omega) (Nat.le_refl _) ?_; intro v5 w5 o5 g5 _ _; rw [Nat.zero_add, List.nil_append] at o5; obtain ⟨A5, c5, rfl, _, _⟩ := rowForm o5; have Bw5 := Lib.hid (Bw4.out.grown g5 Bw4.out.size (fun k e => by cases e)); have L5 := Lib.hid ((Below.refl w4.heap.size w4).grown g5 (Nat.le_refl _) (fun k e => by cases e)); have O5 := Lib.hid o5; clear o5 g5)
    | (at_builtin; refine wpList_append_own_at _ rfl (.tmp 60) (.tmp 61) 22 rfl w4.heap.size 25 i0 _ 32 32 Tryd.underlying22 hi0 hz0 hz1 hz2 (by show (rowV 32 z8).size = 32; rw [rowV_size]) (by decide) (.slice A5 n c5) n (hcs a) rfl O5.out ⟨bb, ob, none⟩ n c1 (hcs b) rfl LB.out (RB.out w5 Bw5.out) (hcs_one _) (by unfold maxLen; omega) (by omega) L5.out.size ?_; intro v6 w6 o6 g6 _ _; rw [← hcs_append] at o6; obtain ⟨A6, c6, rfl, hc6, _⟩ := rowForm o6; have Bw6 := Lib.hid (Bw5.out.grown g6 Bw5.out.size (fun k e => Nat.le_trans Bw4.out.size (O5.out.lt k e).1)); have L6 := Lib.hid (L5.out.grown g6 L5.out.size (fun k e => (O5.out.lt k e).1)); have O6 := Lib.hid o6; clear o6 g6)
    | fail)
  have hcm6 : c6 ≤ 9223372036854775807 := by
    rcases O6.out.2 with ⟨e, h0⟩ | ⟨g, cap, cur, e, h1, h2, h3, h4, h5, h6⟩
    · omega
    · injection e with e1 e2 e3
      unfold maxLen at h4
      omega
  have RL6 := Lib.hid (RdH.of_own O6.out)
  have F4 := Lib.hid (F3.out.below BSw4.out F3.out.lt)
  have F6 := Lib.hid (F4.out.below L6.out F4.out.lt)
  have G6 := Lib.hid (Fw4.out.below L6.out Fw4.out.lt)
  refine (CL.out w6 A6 c6 Bw6.out hc6 hcm6 RL6.out).mono ?_
  rintro e w7 ⟨rfl, b⟩
  have Bw7 := Lib.hid (Bw6.out.trans (b.mono Bw6.out.size))
  have F7 := Lib.hid (F6.out.below b F6.out.lt)
  have G7 := Lib.hid (G6.out.below b G6.out.lt)
  have RL7 := Lib.hid ((RL6.out.below b (Nat.le_refl _)).wide b.size)
  clear b
  go_wp2_with (first
    | (refine wpList_store_row rfl 25 (.tmp 12) (.tmp 66) rfl w7.heap.size (hashV (nd x y)) rfl rfl 25 (rowV 32 z8) (heap_alloc_new w7 _) (size_hashVW _) (by unfold hashV; rw [rowV_size, rowV_size]) (rowV_one 32 _ (fun i => rfl)) ?_; obtain ⟨w8, hw2⟩ : ∃ w8, w8 = (w7.alloc (.cells (rowV 32 z8) 25)).setRow w7.heap.size (hashV (nd x y)) := ⟨_, rfl⟩; rw [← hw2]; have Bw8 := Lib.hid (show Below w.heap.size w w8 by rw [hw2]; exact below_setRow (Bw7.out.trans (((Below.refl _ _).alloc (Nat.le_refl _) _).mono Bw7.out.size)) Bw7.out.size _); have BSw8 := Lib.hid (show Below w7.heap.size w7 w8 by rw [hw2]; exact below_setRow ((Below.refl _ _).alloc (Nat.le_refl _) _) (Nat.le_refl _) _); have Fw8 : Hid (Fill w7.heap.size 25 32 32 (hF (nd x y)) w8) := (by rw [hw2]; exact Fill.of_row (setRow_heap _ _ _ _ _ _ (heap_alloc_new w7 _))); clear hw2)
    | fail)
  have F8 := Lib.hid (F7.out.below BSw8.out F7.out.lt)
  have G8 := Lib.hid (G7.out.below BSw8.out G7.out.lt)
  have RL8 := Lib.hid ((RL7.out.below BSw8.out (Nat.le_refl _)).wide BSw8.out.size)
  refine (PA.out w8 Bw8.out).mono ?_
  rintro e w9 ⟨Ap, cp, rfl, b, op⟩
  have Bw9 := Lib.hid (Bw8.out.trans (b.mono Bw8.out.size))
  have F9 := Lib.hid (F8.out.below b F8.out.lt)
  have G9 := Lib.hid (G8.out.below b G8.out.lt)
  have H9 := Lib.hid ((Fw8).out.below b (Fw8).out.lt)
  have RL9 := Lib.hid ((RL8.out.below b (Nat.le_refl _)).wide b.size)
  have OP9 := Lib.hid op
  have Z9 := Lib.hid b.size
  clear op
  clear b
  go_wp2_with fail
  refine (PL.out w9 A6 c6 Bw9.out hc6 hcm6 RL9.out).mono ?_
  rintro e w10 ⟨Aq, cq, rfl, b, oq⟩
  have Bw10 := Lib.hid (Bw9.out.trans (b.mono Bw9.out.size))
  have F10 := Lib.hid (F9.out.below b F9.out.lt)
  have G10 := Lib.hid (G9.out.below b G9.out.lt)
  have H10 := Lib.hid ((H9).out.below b (H9).out.lt)
  have RL10 := Lib.hid ((RL9.out.below b (Nat.le_refl _)).wide b.size)
  have OP10 := Lib.hid (rowBelow OP9.out b (Nat.le_refl _))
  have Z10 := Lib.hid b.size
  have OQ10 := Lib.hid oq
  clear oq
  clear b
  go_wp2_with fail
  refine (PB.out w10 Bw10.out).mono ?_
  rintro e w11 ⟨As, cs, rfl, b, os⟩
  have Bw11 := Lib.hid (Bw10.out.trans (b.mono Bw10.out.size))
  have F11 := Lib.hid (F10.out.below b F10.out.lt)
  have G11 := Lib.hid (G10.out.below b G10.out.lt)
  have H11 := Lib.hid ((H10).out.below b (H10).out.lt)
  have RL11 := Lib.hid ((RL10.out.below b (Nat.le_refl _)).wide b.size)
  have OP11 := Lib.hid (rowBelow OP10.out b (Nat.le_refl _))
  have OQ11 := Lib.hid (rowBelow OQ10.out b (Nat.le_refl _))
  have Z11 := Lib.hid b.size
  have OS11 := Lib.hid os
  clear os
  clear b
  have e12 : wrap64 ((n : Int) + (m : Int)) = (n : Int) + (m : Int) := IntWalk.wrap64_in _ (by omega)
  go_wp2_with fail
  refine (PH.out w11 A6 c6 Bw11.out hc6 hcm6 RL11.out).mono ?_
  rintro e w12 ⟨Au, cu, rfl, b, ou⟩
  have Bw12 := Lib.hid (Bw11.out.trans (b.mono Bw11.out.size))
  have F12 := Lib.hid (F11.out.below b F11.out.lt)
  have G12 := Lib.hid (G11.out.below b G11.out.lt)
  have H12 := Lib.hid ((H11).out.below b (H11).out.lt)
  have RL12 := Lib.hid ((RL11.out.below b (Nat.le_refl _)).wide b.size)
  have OP12 := Lib.hid (rowBelow OP11.out b (Nat.le_refl _))
  have OQ12 := Lib.hid (rowBelow OQ11.out b (Nat.le_refl _))
  have OS12 := Lib.hid (rowBelow OS11.out b (Nat.le_refl _))
  have Z12 := Lib.hid b.size
  have OU12 := Lib.hid ou
  clear ou
  clear b
  go_wp2_with fail
  have Z8 := Lib.hid Bw8.out.size
  have s48 := BSw8.out.size
  refine halves_r11 _ _ _ _ _ _ _ _ _ _ _ _ _ _ _ _ _ _ _ _ _ _ _ _ _ _ _ _ _ _ _ _ _ _ _ _ _ _ _ _ _ _ _ _ _ _ _ _ _ _ _ _ _ _ _ _ _ _ _ _ _ _ _ _ _ _ _ _ _ _ _ _ _ _ _ _ _ _ _ _ _ _ _ _ _ _ _ _ _ _ _ _ _ _ _ _ _ _ _ _ _ _ _ _ _ _ _ _ _ _ _ _ _ _ _ _ _ _ _ _ _ _ _ _ _ _ _ _ _ _ _ _ _ w12 w _ _ _ w8.heap.size w9.heap.size w10.heap.size w11.heap.size h x y LX.out LY.out Ap Aq As Au cp cq cs cu P S' HT.out ⟨Bw12.out, F12.out, G12.out, H12.out, OQ12.out, OS12.out, OU12.out, Z12.out⟩ OP12.out (fun k e => (OP9.out.lt k e).2) (fun k e => (OS11.out.lt k e).2) Bw8.out.size F8.out.lt G8.out.lt Fw8.out.lt Z9.out Z10.out Z11.out (by omega) mP mS _ ?_
  intro u95 u96 u97 u98 u99 u100 u101 u102 u103 u104 u105 u106 u107 u108 u109 u110 u111 u112 u113 u114 u115 u116 u117 u118 u119 u120 u121 u122 u123 u124 u125 u126 u127 u128 u129 u130 u131 u132 u133 u134 u135 u136 u137 u138 u139 u140 u141 u142 u143 u144 u145 u146 w13 b13
  go_wp2_with fail
  go_ret
  exact ⟨rfl, b13⟩
theorem treeHalves_any (A0 : Option Addr) (c0 : Nat) (a : List (List UInt8)) (hxa : ∀ x ∈ a, x.length = 32) (A1 : Option Addr) (c1 : Nat) (b : List (List UInt8)) (hxb : ∀ x ∈ b, x.length = 32) (i : Int) (w : World) (hRa : RdH w w.heap.size A0 a) (hRb : RdH w w.heap.size A1 b) (hc0 : a.length ≤ c0) (hcm0 : c0 ≤ 9223372036854775807) (hc1 : b.length ≤ c1) (hcm1 : c1 ≤ 9223372036854775807) (ht : Tabs w) :
    Calls Tryd.prog 5 #[.slice A0 a.length c0, .slice A1 b.length c1, .int .i64 i] w fun e w' => e = .returned (.bool true) ∧ Below w.heap.size w w' := by
  by_cases hne : a.length = b.length
  · cases hh : hgt a.length with
    | none =>
      have := th_no A0 A1 a.length c0 c1 i w (by omega) hh ht
      rw [← hne]
      exact this
    | some h =>
      by_cases hout : 128 < a.length ∨ i < 0 ∨ (a.length : Int) ≤ i
      · have := th_out A0 A1 a.length h c0 c1 i w hh hout ht
        rw [← hne]
        exact this
      · obtain ⟨m, rfl⟩ : ∃ m : Nat, i = (m : Int) := ⟨i.toNat, by omega⟩
        have h8 := (hgt_some hh).1
        have hl := (hgt_some hh).2
        have h7 : h ≤ 7 := by
          rcases Nat.lt_or_ge 7 h with h7 | h7
          · have h88 : h = 8 := by omega
            rw [h88] at hl
            omega
          · exact h7
        exact th_yes h a b A0 A1 c0 c1 m w h7 hl (hne.symm.trans hl) hc0 hcm0 hc1 hcm1 hxa hxb hRa hRb (by omega) ht
  · exact th_ne A0 A1 a.length b.length c0 c1 i w hne ht
end Go.Proofs.YthjeanjodhafjaaDoor
