/- The law's walk: roots and paths. -/
import Derived.Test.YtoippbgnaadebaaDoorTrRefPath
import Derived.Test.YtoippbgnaadebaaDoorTrKnown
namespace Go.Proofs.YtoippbgnaadebaaDoor
open Go.ChangeShapes Go.WideShapes Go.ChangeAt Go.RowKit
set_option linter.unusedVariables false

set_option maxRecDepth 100000 in
set_option maxHeartbeats 4000000 in
theorem tr_big (A : Option Addr) (n c : Nat) (i : Int) (w : World) (h300 : 300 < n) (ht : Tabs w) :
    Calls Tryd.prog 3 #[.slice A n c, .int .i64 i] w fun e w' => e = .returned (.bool true) ∧ Below w.heap.size w w' := by
  have HT : Hid (∀ u : World, Below w.heap.size w u → Tabs u) := fun u hu => ht.below hu ht.2.2.1 ht.2.2.2
  have HB := Lib.hid (Below.refl w.heap.size w)
  have q1 : decide ((n : Int) > 300) = true := by simp; omega
  clear ht
  go_enter Tryd.func3, Tryd.ntmps3
  go_wp2_with fail
  refine (known7 w (HT.out _ HB.out)).mono ?_
  rintro e w9 ⟨rfl, b9⟩
  have B9 := Lib.hid (HB.out.trans (b9.mono HB.out.size))
  clear b9
  go_wp2_with fail
  go_ret
  exact ⟨rfl, B9.out⟩
set_option maxRecDepth 100000 in
set_option maxHeartbeats 8000000 in
theorem tr_no (A : Option Addr) (n c : Nat) (i : Int) (w : World) (h300 : n ≤ 300) (hno : hgt n = none) (ht : Tabs w) :
    Calls Tryd.prog 3 #[.slice A n c, .int .i64 i] w fun e w' => e = .returned (.bool true) ∧ Below w.heap.size w w' := by
  have hz := zero_hash
  have hez := eqz
  have HT : Hid (∀ u : World, Below w.heap.size w u → Tabs u) := fun u hu => ht.below hu ht.2.2.1 ht.2.2.2
  have q1 : decide ((n : Int) > 300) = false := by simp; omega
  have CR := Lib.hid (rootNo_c A n c w (by omega) hno)
  have CP : Hid (∀ u : World, Calls Tryd.prog 8 #[.slice A n c, .int .i64 i] u fun e w' => e = .returned (.tuple #[.slice none 0 0, .int .i64 2]) ∧ Below u.heap.size u w') := fun u => path_no A n c i u (by omega) (.inl hno)
  have CM : Hid (∀ u : World, Calls Tryd.prog 9 #[.int .i64 (n : Int)] u fun e w' => e = .returned (.bool false) ∧ w' = u) := fun u => by
    have := may_c n (by omega) u
    rw [hno] at this
    exact this
  have CRM : Hid (∀ u : World, Calls Tryd.prog 10 #[.int .i64 (n : Int)] u fun e w' => e = .returned (.bool false) ∧ w' = u) := fun u => by
    have := refMay_c n (by omega) u
    rw [hno] at this
    exact this
  clear ht hno
  go_enter Tryd.func3, Tryd.ntmps3
  go_wp2_with fail
  refine CR.out.mono ?_
  rintro e w1 ⟨rfl, b1⟩
  have Bw1 := Lib.hid b1
  clear b1
  go_wp2_with (first
    | (refine wpList_store_row rfl 25 (.tmp 5) (.tmp 19) rfl w1.heap.size (rowV 32 z8) rfl rfl 25 (rowV 32 z8) (heap_alloc_new w1 _) (size_hashVW _) rfl (rowV_one 32 _ (fun i => rfl)) ?_; obtain ⟨w2, hw2⟩ : ∃ w2, w2 = (w1.alloc (.cells (rowV 32 z8) 25)).setRow w1.heap.size (rowV 32 z8) := ⟨_, rfl⟩; rw [← hw2]; have Bw2 := Lib.hid (show Below w.heap.size w w2 by rw [hw2]; exact below_setRow (Bw1.out.trans (((Below.refl _ _).alloc (Nat.le_refl _) _).mono Bw1.out.size)) Bw1.out.size _); have BSw2 := Lib.hid (show Below w1.heap.size w1 w2 by rw [hw2]; exact below_setRow ((Below.refl _ _).alloc (Nat.le_refl _) _) (Nat.le_refl _) _); have Fw2 : Hid (Fill w1.heap.size 25 32 32 z8 w2) := (by rw [hw2]; exact Fill.of_row (setRow_heap _ _ _ _ _ _ (heap_alloc_new w1 _))); clear hw2)
    | fail)
  refine (CP.out w2).mono ?_
  rintro e w3 ⟨rfl, b3⟩
  have Bw3 := Lib.hid (Bw2.out.trans (b3.mono Bw2.out.size))
  have G5 := (Fw2.out.below b3 Fw2.out.lt).done
  clear b3
  go_wp2_with fail
  refine (CM.out _).mono ?_
  rintro e wx ⟨rfl, hwx⟩
  rw [hwx]
  clear hwx wx
  go_wp2_with fail
  refine (CRM.out _).mono ?_
  rintro e wx ⟨rfl, hwx⟩
  rw [hwx]
  clear hwx wx
  go_wp2_with fail
  refine (CRM.out _).mono ?_
  rintro e wx ⟨rfl, hwx⟩
  rw [hwx]
  clear hwx wx
  go_wp2_with (first
    | (refine BigFrame.wpList_want rfl (fun K hK => ?_); refine wp_load_row 25 (.tmp 5) rfl w1.heap.size rfl 25 (rowV 32 z8) (0, 0) _ G5 Tryd.underlying25 rfl (size_hashVW _) ?_; refine hK _ _ ?_; clear hK K)
    | fail)
  refine (known7 w3 (HT.out _ Bw3.out)).mono ?_
  rintro e w9 ⟨rfl, b9⟩
  have B9 := Lib.hid (Bw3.out.trans (b9.mono Bw3.out.size))
  clear b9
  go_wp2_with fail
  go_ret
  exact ⟨rfl, B9.out⟩
set_option maxRecDepth 100000 in
set_option maxHeartbeats 8000000 in
theorem tr_yes (h : Nat) (L : List (List UInt8)) (A : Option Addr) (c : Nat) (i : Int) (w : World) (h8 : h ≤ 8) (hl : L.length = 2 ^ h) (hc : L.length ≤ c) (hcm : c ≤ 9223372036854775807) (hx : ∀ x ∈ L, x.length = 32) (hR : RdH w w.heap.size A L) (ht : Tabs w) :
    Calls Tryd.prog 3 #[.slice A L.length c, .int .i64 i] w fun e w' => e = .returned (.bool true) ∧ Below w.heap.size w w' := by
  have hz := zero_hash
  have hn256 : L.length ≤ 256 := by rw [hl]; exact (two_le h (by omega)).1
  have hn1 : 1 ≤ L.length := by rw [hl]; exact Nat.two_pow_pos h
  obtain ⟨r, hr⟩ : ∃ r, r = rootH h L := ⟨_, rfl⟩
  have lr : r.length = 32 := by rw [hr]; exact rootH_len h L hl hx
  have he := eq_own r lr
  have he2 : ∀ u : World, (Op.equalIn 10000 25 (.agg (hashV r)) (.agg (hashV r))).run Tryd.prog u = .ok true u := he
  have he3 : ∀ u : World, (Op.equalIn 10000 25 (.agg (hashV r)) (.agg (hC r).toArray)).run Tryd.prog u = .ok true u := he
  have HT : Hid (∀ u : World, Below w.heap.size w u → Tabs u) := fun u hu => ht.below hu ht.2.2.1 ht.2.2.2
  have HRR := Lib.hid hR
  obtain ⟨n, hnn⟩ : ∃ n, n = L.length := ⟨_, rfl⟩
  have q1 : decide ((n : Int) > 300) = false := by simp; omega
  have CR := Lib.hid (rootOk_c h L A c w h8 hl hc hcm hx hR ht)
  rw [← hr] at CR
  have CM : Hid (∀ u : World, Calls Tryd.prog 9 #[.int .i64 (n : Int)] u fun e w' => e = .returned (.bool true) ∧ w' = u) := fun u => by
    have := may_c n (by omega) u
    rw [hnn, (hgtI_some h8 hl).1] at this
    rw [hnn]
    exact this
  have CRM : Hid (∀ u : World, Calls Tryd.prog 10 #[.int .i64 (n : Int)] u fun e w' => e = .returned (.bool true) ∧ w' = u) := fun u => by
    have := refMay_c n (by omega) u
    rw [hnn, (hgtI_some h8 hl).1] at this
    rw [hnn]
    exact this
  have CW : Hid (∀ u : World, Below w.heap.size w u → Calls Tryd.prog 11 #[.slice A n c] u fun e w' => ∃ v R, e = .returned v ∧ Below u.heap.size u w' ∧ OwR w' u.heap.size v R ∧ R.map (fun (q : Hr) => q.2.2) = (List.range (h + 1)).map (rowN L)) := fun u hu => by
    rw [hnn]
    exact rows_c h L A c u h8 hl hc hx ((hR.below hu (Nat.le_refl _)).wide hu.size)
  have HTOP := Lib.hid (show (rowN L h).length = 1 ∧ (rowN L h).getD 0 [] = r from ⟨by rw [rowN_length, hl]; exact Nat.div_self (Nat.two_pow_pos h), by rw [rowN_root L h hl, hr]⟩)
  by_cases hi : 0 ≤ i ∧ i < (n : Int)
  · obtain ⟨m, rfl⟩ : ∃ m : Nat, i = (m : Int) := ⟨i.toNat, by omega⟩
    have hm : m < 2 ^ h := by omega
    have hm8 : m < L.length := by omega
    have CP : Hid (∀ u : World, Below w.heap.size w u → Calls Tryd.prog 8 #[.slice A n c, .int .i64 (m : Int)] u fun e w' => ∃ A' c', e = .returned (.tuple #[.slice A' h c', .int .i64 0]) ∧ Below u.heap.size u w' ∧ w'.ownsRow u.heap.size 25 32 (.slice A' h c') h (hcs (pathH h L m))) := fun u hu => by
      rw [hnn]
      exact path_c m h L A c u h8 hl hc hcm hm hx ((hR.below hu (Nat.le_refl _)).wide hu.size) (HT.out u hu)
    have CRP : Hid (∀ u : World, Below w.heap.size w u → Calls Tryd.prog 14 #[.slice A n c, .int .i64 (m : Int)] u fun e w' => ∃ A' c', e = .returned (.slice A' h c') ∧ Below u.heap.size u w' ∧ w'.ownsRow u.heap.size 25 32 (.slice A' h c') h (hcs (pathH h L m))) := fun u hu => by
      rw [hnn]
      exact refPath_c m h L A c u h8 hl hc hm hx ((hR.below hu (Nat.le_refl _)).wide hu.size)
    obtain ⟨y, hy⟩ : ∃ y, y = L.getD m [] := ⟨_, rfl⟩
    have ly : y.length = 32 := by rw [hy, List.getD_eq_getElem?_getD, List.getElem?_eq_getElem hm8]; exact hx _ (List.getElem_mem hm8)
    have hpm : ∀ p ∈ pathH h L m, p.length = 32 := pathH_mem h L m hl hx
    have CC : Hid (∀ (u : World) (A' : Option Addr) (c' : Nat), Below w.heap.size w u → RdH u u.heap.size A' (pathH h L m) → Calls Tryd.prog 12 #[.agg (hashV y), .int .i64 (m : Int), .slice A' h c'] u fun e w' => e = .returned (.tuple #[.agg (hashV r), .int .i64 0]) ∧ Below u.heap.size u w') := fun u A' c' hu hp => by
      have := climb_c y ly m A' c' (pathH h L m) hpm u hp (by rw [pathH_length]; exact ⟨h8, by omega, by omega⟩) (HT.out u hu)
      rw [pathH_length, hy, climb_root L h m hl hm, ← hr, ← hy] at this
      exact this
    have CS : Hid (∀ (u : World) (A1 A2 : Option Addr) (c1 c2 : Nat), RdH u u.heap.size A1 (pathH h L m) → RdH u u.heap.size A2 (pathH h L m) → Calls Tryd.prog 13 #[.slice A1 h c1, .slice A2 h c2] u fun e w' => e = .returned (.bool true) ∧ Below u.heap.size u w') := fun u A1 A2 c1 c2 h1 h2 => by
      have := same_c (pathH h L m) A1 A2 c1 c2 u hpm h1 h2 (by rw [pathH_length]; omega)
      rw [pathH_length] at this
      exact this
    obtain ⟨bq, oq, rfl, hbq, hcq⟩ := hR (by omega)
    have HLF := Lib.hid (show w.rangeAt bq (oq + m * 32) (hC y) by rw [hy]; exact hcq m hm8)
    rw [← hnn] at CR ⊢
    have hmn : m < n := by omega
    generalize pathH h L m = Q at *
    clear hr lr ht hcq hl hc hcm hx hR hy ly hpm hm hm8 hi hnn
    go_enter Tryd.func3, Tryd.ntmps3
    go_wp2_with fail
    refine CR.out.mono ?_
    rintro e w1 ⟨rfl, b1⟩
    have Bw1 := Lib.hid b1
    clear b1
    go_wp2_with (first
      | (refine wpList_store_row rfl 25 (.tmp 5) (.tmp 19) rfl w1.heap.size (hashV r) rfl rfl 25 (rowV 32 z8) (heap_alloc_new w1 _) (size_hashVW _) (by unfold hashV; rw [rowV_size, rowV_size]) (rowV_one 32 _ (fun i => rfl)) ?_; obtain ⟨w2, hw2⟩ : ∃ w2, w2 = (w1.alloc (.cells (rowV 32 z8) 25)).setRow w1.heap.size (hashV r) := ⟨_, rfl⟩; rw [← hw2]; have Bw2 := Lib.hid (show Below w.heap.size w w2 by rw [hw2]; exact below_setRow (Bw1.out.trans (((Below.refl _ _).alloc (Nat.le_refl _) _).mono Bw1.out.size)) Bw1.out.size _); have BSw2 := Lib.hid (show Below w1.heap.size w1 w2 by rw [hw2]; exact below_setRow ((Below.refl _ _).alloc (Nat.le_refl _) _) (Nat.le_refl _) _); have Fw2 : Hid (Fill w1.heap.size 25 32 32 (hF r) w2) := (by rw [hw2]; exact Fill.of_row (setRow_heap _ _ _ _ _ _ (heap_alloc_new w1 _))); clear hw2)
      | fail)
    refine (CP.out w2 Bw2.out).mono ?_
    rintro e w3 ⟨Ap, cp, rfl, b3, op⟩
    have Bw3 := Lib.hid (Bw2.out.trans (b3.mono Bw2.out.size))
    have F23 := Lib.hid (Fw2.out.below b3 Fw2.out.lt)
    have RP3 := Lib.hid (RdH.of_own op)
    clear b3 op
    go_wp2_with fail
    refine (CM.out _).mono ?_
    rintro e wx ⟨rfl, hwx⟩
    rw [hwx]
    clear hwx wx
    go_wp2_with fail
    refine (CRM.out _).mono ?_
    rintro e wx ⟨rfl, hwx⟩
    rw [hwx]
    clear hwx wx
    go_wp2_with fail
    refine (CRM.out _).mono ?_
    rintro e wx ⟨rfl, hwx⟩
    rw [hwx]
    clear hwx wx
    go_wp2_with fail
    refine (CW.out w3 Bw3.out).mono ?_
    rintro e w4 ⟨v4, R, rfl, b4, o4, hm4⟩
    have hRl : R.length = h + 1 := by have := congrArg List.length hm4; simpa using this
    obtain ⟨g, cg, rfl, hcg, hg1, hg2, hcell⟩ := o4.form (by omega)
    rw [hRl]
    obtain ⟨x, hxk⟩ : ∃ x, R[h]? = some x := ⟨_, List.getElem?_eq_getElem (by omega)⟩
    have hcx := hcell h x hxk
    have hin := o4.2 x (List.mem_of_getElem? hxk)
    have hx3 : x.2.2 = rowN L h := by
      have := congrArg (fun l => l[h]?) hm4
      simp only [List.getElem?_map, hxk, List.getElem?_range (show h < h + 1 by omega)] at this
      simpa using this
    have hrd := hin.rd b4.size
    have ht1 := HTOP.out.1
    have ht2 := HTOP.out.2
    rw [← hx3] at ht1 ht2
    obtain ⟨x1, x2, x3⟩ := x
    dsimp only at ht1 ht2 hx3 hrd
    dsimp only [hrV] at hcx
    obtain ⟨bl, off, rfl, hbl, hcl⟩ := hrd (by omega)
    have kr := hcl 0 (by omega)
    rw [ht2, Nat.zero_mul, Nat.add_zero] at kr
    rw [ht1] at hcx
    have F5 := Lib.hid (F23.out.below b4 F23.out.lt)
    have k5 := F5.out.whole
    have Bw4 := Lib.hid (Bw3.out.trans (b4.mono Bw3.out.size))
    have RP4 := Lib.hid ((RP3.out.below b4 (Nat.le_refl _)).wide b4.size)
    clear b4 o4 hm4 hRl hcg hg1 hcell hxk hin hx3 hrd ht1 ht2 hcl
    go_wp2_with fail
    refine wp_region_quiet_lit (by kernel_rfl) (by kernel_rfl) ?_
    iterate 3 (go_big_quiet_step (fail))
    go_big_quiet_want
    refine quiet_load_midS _ _ rfl w1.heap.size 0 rfl (hC r) _ (fun w hw => by obtain ⟨n, rfl⟩ := hw; exact k5) hash_under rfl (hash_info (hC_len _)) ?_
    go_simp
    go_big_quiet_on
    iterate 7 (go_big_quiet_step (fail))
    go_big_quiet_want
    refine quiet_load_midS _ _ rfl bl off (by go_simp) (hC r) _ (fun w hw => by obtain ⟨n, rfl⟩ := hw; exact kr) hash_under rfl (hash_info (hC_len _)) ?_
    go_simp
    go_big_quiet_on
    repeat (go_big_quiet_step (fail))
    refine wpQuiet_nil ?_
    intro _ hw'
    obtain ⟨nq, hw''⟩ := hw'
    subst hw''
    have B5 := Lib.hid (drewN_below Bw4.out nq)
    have B45 := Lib.hid (drewN_below (Below.refl w4.heap.size w4) nq)
    obtain ⟨w5, hw5⟩ : ∃ w5, w5 = w4.drewN nq := ⟨_, rfl⟩
    rw [← hw5] at B5 B45 ⊢
    have F55 := Lib.hid (F5.out.below B45.out F5.out.lt)
    clear hw5 k5 kr hcx
    have RP5 := Lib.hid ((RP4.out.below B45.out (Nat.le_refl _)).wide B45.out.size)
    have kq := rangeAt_below B5.out hbq HLF.out
    have q5 : (m : Int) < (n : Int) := by omega
    obtain ⟨oy, hoy⟩ : ∃ o, oq + m * 32 = o := ⟨_, rfl⟩
    rw [hoy] at kq
    go_wp2_with (first
      | (refine wpList_load_mid rfl 25 (.tmp 94) rfl bq oy (by go_simp) (hC y) _ kq hash_under rfl (hash_info (hC_len y)) ?_; rw [hC_arr])
      | fail)
    refine (CC.out w5 Ap cp B5.out RP5.out).mono ?_
    rintro e w6 ⟨rfl, b6⟩
    have Bw6 := Lib.hid (B5.out.trans (b6.mono B5.out.size))
    have F56 := Lib.hid (F55.out.below b6 F55.out.lt)
    have RP6 := Lib.hid ((RP5.out.below b6 (Nat.le_refl _)).wide b6.size)
    clear b6 kq
    go_wp2_with (first
      | (refine wpList_store_row rfl 25 (.tmp 10) (.tmp 99) rfl w6.heap.size (hashV r) rfl rfl 25 (rowV 32 z8) (heap_alloc_new w6 _) (size_hashVW _) (by unfold hashV; rw [rowV_size, rowV_size]) (rowV_one 32 _ (fun i => rfl)) ?_; obtain ⟨w7, hw2⟩ : ∃ w7, w7 = (w6.alloc (.cells (rowV 32 z8) 25)).setRow w6.heap.size (hashV r) := ⟨_, rfl⟩; rw [← hw2]; have Bw7 := Lib.hid (show Below w.heap.size w w7 by rw [hw2]; exact below_setRow (Bw6.out.trans (((Below.refl _ _).alloc (Nat.le_refl _) _).mono Bw6.out.size)) Bw6.out.size _); have BSw7 := Lib.hid (show Below w6.heap.size w6 w7 by rw [hw2]; exact below_setRow ((Below.refl _ _).alloc (Nat.le_refl _) _) (Nat.le_refl _) _); have Fw7 : Hid (Fill w6.heap.size 25 32 32 (hF r) w7) := (by rw [hw2]; exact Fill.of_row (setRow_heap _ _ _ _ _ _ (heap_alloc_new w6 _))); clear hw2)
      | fail)
    have F57 := Lib.hid (F56.out.below BSw7.out F56.out.lt)
    have RP7 := Lib.hid ((RP6.out.below BSw7.out (Nat.le_refl _)).wide BSw7.out.size)
    refine (CRP.out w7 Bw7.out).mono ?_
    rintro e w8 ⟨A8, c8, rfl, b8, o8⟩
    have Bw8 := Lib.hid (Bw7.out.trans (b8.mono Bw7.out.size))
    have F58 := Lib.hid (F57.out.below b8 F57.out.lt)
    have F78 := Lib.hid (Fw7.out.below b8 Fw7.out.lt)
    have RP8 := Lib.hid ((RP7.out.below b8 (Nat.le_refl _)).wide b8.size)
    have RQ8 := Lib.hid (RdH.of_own o8)
    clear b8 o8
    go_wp2_with fail
    refine (CS.out w8 Ap A8 cp c8 RP8.out RQ8.out).mono ?_
    rintro e wa ⟨rfl, ba⟩
    have Bwa := Lib.hid (Bw8.out.trans (ba.mono Bw8.out.size))
    have G5 := (F58.out.below ba F58.out.lt).done
    have G10 := (F78.out.below ba F78.out.lt).done
    clear ba
    go_wp2_with (first
      | (refine BigFrame.wpList_want rfl (fun K hK => ?_); refine wp_load_row 25 (.tmp 10) rfl w6.heap.size rfl 25 (hashV r) (0, 0) _ G10 Tryd.underlying25 rfl (size_hashVW _) ?_; refine hK _ _ ?_; clear hK K)
      | (refine BigFrame.wpList_want rfl (fun K hK => ?_); refine wp_load_row 25 (.tmp 5) rfl w1.heap.size rfl 25 (hashV r) (0, 0) _ G5 Tryd.underlying25 rfl (size_hashVW _) ?_; refine hK _ _ ?_; clear hK K)
      | fail)
    refine (known7 wa (HT.out _ Bwa.out)).mono ?_
    rintro e w9 ⟨rfl, b9⟩
    have B9 := Lib.hid (Bwa.out.trans (b9.mono Bwa.out.size))
    clear b9
    go_wp2_with fail
    go_ret
    exact ⟨rfl, B9.out⟩
  · have CP : Hid (∀ u : World, Calls Tryd.prog 8 #[.slice A n c, .int .i64 i] u fun e w' => e = .returned (.tuple #[.slice none 0 0, .int .i64 2]) ∧ Below u.heap.size u w') := fun u => path_no A n c i u (by omega) (.inr ⟨h, by rw [hnn]; exact (hgtI_some h8 hl).1, fun hb => hi (by omega)⟩)
    rw [← hnn] at CR ⊢
    clear hr lr ht hl hc hcm hx hR hnn
    go_enter Tryd.func3, Tryd.ntmps3
    go_wp2_with fail
    refine CR.out.mono ?_
    rintro e w1 ⟨rfl, b1⟩
    have Bw1 := Lib.hid b1
    clear b1
    go_wp2_with (first
      | (refine wpList_store_row rfl 25 (.tmp 5) (.tmp 19) rfl w1.heap.size (hashV r) rfl rfl 25 (rowV 32 z8) (heap_alloc_new w1 _) (size_hashVW _) (by unfold hashV; rw [rowV_size, rowV_size]) (rowV_one 32 _ (fun i => rfl)) ?_; obtain ⟨w2, hw2⟩ : ∃ w2, w2 = (w1.alloc (.cells (rowV 32 z8) 25)).setRow w1.heap.size (hashV r) := ⟨_, rfl⟩; rw [← hw2]; have Bw2 := Lib.hid (show Below w.heap.size w w2 by rw [hw2]; exact below_setRow (Bw1.out.trans (((Below.refl _ _).alloc (Nat.le_refl _) _).mono Bw1.out.size)) Bw1.out.size _); have BSw2 := Lib.hid (show Below w1.heap.size w1 w2 by rw [hw2]; exact below_setRow ((Below.refl _ _).alloc (Nat.le_refl _) _) (Nat.le_refl _) _); have Fw2 : Hid (Fill w1.heap.size 25 32 32 (hF r) w2) := (by rw [hw2]; exact Fill.of_row (setRow_heap _ _ _ _ _ _ (heap_alloc_new w1 _))); clear hw2)
      | fail)
    refine (CP.out w2).mono ?_
    rintro e w3 ⟨rfl, b3⟩
    have Bw3 := Lib.hid (Bw2.out.trans (b3.mono Bw2.out.size))
    have F23 := Lib.hid (Fw2.out.below b3 Fw2.out.lt)
    clear b3
    go_wp2_with fail
    refine (CM.out _).mono ?_
    rintro e wx ⟨rfl, hwx⟩
    rw [hwx]
    clear hwx wx
    go_wp2_with fail
    refine (CRM.out _).mono ?_
    rintro e wx ⟨rfl, hwx⟩
    rw [hwx]
    clear hwx wx
    go_wp2_with fail
    refine (CRM.out _).mono ?_
    rintro e wx ⟨rfl, hwx⟩
    rw [hwx]
    clear hwx wx
    go_wp2_with fail
    refine (CW.out w3 Bw3.out).mono ?_
    rintro e w4 ⟨v4, R, rfl, b4, o4, hm4⟩
    have hRl : R.length = h + 1 := by have := congrArg List.length hm4; simpa using this
    obtain ⟨g, cg, rfl, hcg, hg1, hg2, hcell⟩ := o4.form (by omega)
    rw [hRl]
    obtain ⟨x, hxk⟩ : ∃ x, R[h]? = some x := ⟨_, List.getElem?_eq_getElem (by omega)⟩
    have hcx := hcell h x hxk
    have hin := o4.2 x (List.mem_of_getElem? hxk)
    have hx3 : x.2.2 = rowN L h := by
      have := congrArg (fun l => l[h]?) hm4
      simp only [List.getElem?_map, hxk, List.getElem?_range (show h < h + 1 by omega)] at this
      simpa using this
    have hrd := hin.rd b4.size
    have ht1 := HTOP.out.1
    have ht2 := HTOP.out.2
    rw [← hx3] at ht1 ht2
    obtain ⟨x1, x2, x3⟩ := x
    dsimp only at ht1 ht2 hx3 hrd
    dsimp only [hrV] at hcx
    obtain ⟨bl, off, rfl, hbl, hcl⟩ := hrd (by omega)
    have kr := hcl 0 (by omega)
    rw [ht2, Nat.zero_mul, Nat.add_zero] at kr
    rw [ht1] at hcx
    have F5 := Lib.hid (F23.out.below b4 F23.out.lt)
    have k5 := F5.out.whole
    have Bw4 := Lib.hid (Bw3.out.trans (b4.mono Bw3.out.size))
    clear b4 o4 hm4 hRl hcg hg1 hcell hxk hin hx3 hrd ht1 ht2 hcl
    go_wp2_with fail
    refine wp_region_quiet_lit (by kernel_rfl) (by kernel_rfl) ?_
    iterate 3 (go_big_quiet_step (fail))
    go_big_quiet_want
    refine quiet_load_midS _ _ rfl w1.heap.size 0 rfl (hC r) _ (fun w hw => by obtain ⟨n, rfl⟩ := hw; exact k5) hash_under rfl (hash_info (hC_len _)) ?_
    go_simp
    go_big_quiet_on
    iterate 7 (go_big_quiet_step (fail))
    go_big_quiet_want
    refine quiet_load_midS _ _ rfl bl off (by go_simp) (hC r) _ (fun w hw => by obtain ⟨n, rfl⟩ := hw; exact kr) hash_under rfl (hash_info (hC_len _)) ?_
    go_simp
    go_big_quiet_on
    repeat (go_big_quiet_step (fail))
    refine wpQuiet_nil ?_
    intro _ hw'
    obtain ⟨nq, hw''⟩ := hw'
    subst hw''
    have B5 := Lib.hid (drewN_below Bw4.out nq)
    have B45 := Lib.hid (drewN_below (Below.refl w4.heap.size w4) nq)
    obtain ⟨w5, hw5⟩ : ∃ w5, w5 = w4.drewN nq := ⟨_, rfl⟩
    rw [← hw5] at B5 B45 ⊢
    have F55 := Lib.hid (F5.out.below B45.out F5.out.lt)
    clear hw5 k5 kr hcx
    by_cases hi0 : i < 0
    · go_wp2_with fail
      refine (known7 w5 (HT.out _ B5.out)).mono ?_
      rintro e w9 ⟨rfl, b9⟩
      have B9 := Lib.hid (B5.out.trans (b9.mono B5.out.size))
      clear b9
      go_wp2_with fail
      go_ret
      exact ⟨rfl, B9.out⟩
    · have hin2 : (n : Int) ≤ i := by omega
      go_wp2_with fail
      refine (known7 w5 (HT.out _ B5.out)).mono ?_
      rintro e w9 ⟨rfl, b9⟩
      have B9 := Lib.hid (B5.out.trans (b9.mono B5.out.size))
      clear b9
      go_wp2_with fail
      go_ret
      exact ⟨rfl, B9.out⟩
theorem treeRoots_any (A : Option Addr) (c : Nat) (L : List (List UInt8)) (hx : ∀ x ∈ L, x.length = 32) (i : Int) (w : World) (hR : RdH w w.heap.size A L) (hc : L.length ≤ c) (hcm : c ≤ 9223372036854775807) (ht : Tabs w) :
    Calls Tryd.prog 3 #[.slice A L.length c, .int .i64 i] w fun e w' => e = .returned (.bool true) ∧ Below w.heap.size w w' := by
  by_cases h300 : 300 < L.length
  · exact tr_big A L.length c i w h300 ht
  · cases hh : hgt L.length with
    | none => exact tr_no A L.length c i w (by omega) hh ht
    | some h => exact tr_yes h L A c i w (hgt_some hh).1 (hgt_some hh).2 hc hcm hx hR ht
end Go.Proofs.YtoippbgnaadebaaDoor
