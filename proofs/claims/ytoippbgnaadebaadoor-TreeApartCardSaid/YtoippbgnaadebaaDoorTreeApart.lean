/- The law's walk: another leaf comes to another root, unless two unlike texts have one sum. -/
import Derived.Test.YtoippbgnaadebaaDoorTrClash
import Derived.Test.YtoippbgnaadebaaDoorTrKnown
namespace Go.Proofs.YtoippbgnaadebaaDoor
open Go.ChangeShapes Go.WideShapes Go.ChangeAt Go.RowKit
set_option linter.unusedVariables false

section
variable {P : Program} (w : World)
/-- An append inside a drawn region, whatever the elements. -/
theorem step_append_cellsT {ops : Array Oper} {o : Oper} {a : Act} {K : Act → World → Prop} {Q : Exit → Act → World → Prop} {E : Prop} (hgd : o.guard = none) (s x : Operand) (t : TypeId)
    (ho : o.op = .call { callee := .builtin .append, args := #[s, x], argTypes := #[t, t] })
    (base : Nat) (e : TypeId) (i : TypeInfo) (z : Value) (size bytes : Nat) (ht : P.underlying t = some (.slice e)) (hi : P.info? e = some i) (hz : i.zero = some z)
    (hsize : i.size = size) (hby : i.bytes = bytes) (hzs : z.cells.size = size) (hsz : 0 < size)
    (v : Value) (n : Nat) (xs : List Value) (hs : a.eval s = v) (hown : w.ownsRow base e size v n xs)
    (ad : Addr) (m c : Nat) (news : List Value) (hx : a.eval x = .slice (some ad) m c) (hl : news.length = m * size) (hnews : ∀ j u, news[j]? = some u → w.cell? (ad.add j) = some u) (h1 : ∀ u ∈ news, u.oneCell' = true)
    (h63 : n + m ≤ maxLen) (hbytes : (n + m) * bytes ≤ 140737488355328) (hbase : base ≤ w.heap.size)
    (h : ∀ v' w', w'.ownsRow base e size v' (n + m) (xs ++ news) → w.grownBy w' v.ownBlock → (v'.ownBlock = v.ownBlock ∨ v'.ownBlock = some w.heap.size) → K (a.put o.dst v') w') :
    if Region.wanted o (yielded ops a.tmps) = true then Oper.wp P o a w K Q else E := by
  have hw : Region.wanted o (yielded ops a.tmps) = true := by simp [Region.wanted, hgd]
  rw [if_pos hw]
  obtain ⟨v', w', hrun, h2, h3, _, h5⟩ := run_append_own_at (P := P) w base t o.type e i z size bytes ht hi hz hsize hby hzs hsz v n xs hown ad m c news hl hnews h1 h63 hbytes hbase
  unfold Oper.wp execOp
  simp only [ho, resolve, invoke, builtin, Sem.run_bind, Sem.run_pure, Result.andThen_ok, List.map_toArray, List.map_cons, List.map_nil, hs, hx, hrun]
  exact h v' w' h2 h3 h5
end

theorem OwT.join {w w' : World} {base c : Nat} {v v' : Value} {L M : List Pc} (h : OwT w base v L) (hM : ∀ x ∈ M, Ow w base x.1 x.2.2 ∧ x.2.2.length ≤ x.2.1) (ho : w'.ownsRow base 56 1 v' (L.length + M.length) (L.map pcV ++ M.map pcV)) (hg : w.grownBy w' v.ownBlock) : OwT w' base v' (L ++ M) := by
  refine ⟨by rw [List.length_append, List.map_append]; exact ho, fun y hy => ?_⟩
  rcases List.mem_append.1 hy with hy | hy
  · exact ⟨(h.2 y hy).1.grownT h.1 hg, (h.2 y hy).2⟩
  · exact ⟨(hM y hy).1.grownT h.1 hg, (hM y hy).2⟩
theorem OwT.cellsAt {w : World} {base c g : Nat} {L : List Pc} (h : OwT w base (.slice (some ⟨g, 0, none⟩) L.length c) L) : ∀ j u, (L.map pcV)[j]? = some u → w.cell? ((⟨g, 0, none⟩ : Addr).add j) = some u := fun j u hu => by
  obtain ⟨g', e, _, _, hc⟩ := rowAt h.1 hu
  injection e with e
  injection e with e _
  subst e
  rw [addr_add]
  exact hc
theorem texts_len {i : Nat} {x : List UInt8} {P : List (List UInt8)} {L : List Pc} (hx : x.length = 32) (hP : ∀ p ∈ P, p.length = 32) (h : L.map (fun (q : Pc) => q.2.2) = textsL i x P P.length) : L.length = P.length ∧ ∀ y ∈ L, y.2.2.length < 1000000000 := by
  refine ⟨by have := congrArg List.length h; simpa [textsL] using this, fun y hy => ?_⟩
  have h1 : y.2.2 ∈ textsL i x P P.length := by rw [← h]; exact List.mem_map.2 ⟨y, hy, rfl⟩
  unfold textsL at h1
  obtain ⟨k, hk, e⟩ := List.mem_map.1 h1
  rw [← e, textN_len i x P k hx (by rw [List.getD_eq_getElem?_getD, List.getElem?_eq_getElem (List.mem_range.1 hk)]; exact hP _ (List.getElem_mem _))]
  omega
theorem texts_clash (i : Nat) (a b : List UInt8) (P : List (List UInt8)) (ha : a.length = 32) (hb : b.length = 32) (hP : ∀ p ∈ P, p.length = 32) (hab : a ≠ b) (h : climbN i a P P.length = climbN i b P P.length) : ClashP (textsL i a P P.length ++ textsL i b P P.length) := by
  obtain ⟨k, hk, h1, h2⟩ := climb_apart i a b P ha hb hab P.length (fun k hk => by rw [List.getD_eq_getElem?_getD, List.getElem?_eq_getElem hk]; exact hP _ (List.getElem_mem _)) h
  have l1 : (textsL i a P P.length).length = P.length := by simp [textsL]
  have l2 : (textsL i b P P.length).length = P.length := by simp [textsL]
  have g1 : (textsL i a P P.length ++ textsL i b P P.length).getD k [] = textN i a P k := by
    rw [List.getD_eq_getElem?_getD, List.getElem?_append_left (by omega)]
    unfold textsL
    rw [List.getElem?_map, List.getElem?_range hk]
    rfl
  have g2 : (textsL i a P P.length ++ textsL i b P P.length).getD (P.length + k) [] = textN i b P k := by
    rw [List.getD_eq_getElem?_getD, List.getElem?_append_right (by omega), l1, show P.length + k - P.length = k by omega]
    unfold textsL
    rw [List.getElem?_map, List.getElem?_range hk]
    rfl
  refine ⟨k, P.length + k, by omega, by rw [List.length_append]; omega, ?_, ?_⟩
  · rw [g1, g2]; exact h2
  · rw [g1, g2]; exact h1

set_option maxRecDepth 100000 in
set_option maxHeartbeats 8000000 in
theorem treeApart_any (a b : List UInt8) (ha : a.length = 32) (hb : b.length = 32) (i : Int) (A : Option Addr) (c : Nat) (P : List (List UInt8)) (hP : ∀ p ∈ P, p.length = 32) (w : World) (hR : RdH w w.heap.size A P) (hn : P.length ≤ 9223372036854775807) (hi63 : i < 9223372036854775808) (ht : Tabs w) :
    Calls Tryd.prog 4 #[.agg (hashV a), .agg (hashV b), .int .i64 i, .slice A P.length c] w fun e w' => e = .returned (.bool true) ∧ Below w.heap.size w w' := by
  have hz := zero_hash
  obtain ⟨n, hnn⟩ : ∃ n, n = P.length := ⟨_, rfl⟩
  obtain ⟨W, hW⟩ : ∃ W, W = (w.alloc (.cells (hashV a) 25)).alloc (.cells (hashV b) 25) := ⟨_, rfl⟩
  have hbW : Below w.heap.size w W := by rw [hW]; exact ((Below.refl _ _).alloc (Nat.le_refl _) _).alloc (by simp) _
  have hsz : W.heap.size = w.heap.size + 2 := by rw [hW]; simp
  have f0 : Fill w.heap.size 25 32 32 (hF a) W := by rw [hW]; exact Fill.of_row (heap_alloc2_old w _ _)
  have f1 : Fill (w.heap.size + 1) 25 32 32 (hF b) W := by rw [hW]; exact Fill.of_row (heap_alloc2_new w _ _)
  have g0 := f0.done
  have g1 := f1.done
  have HW := Lib.hid hW
  have HB := Lib.hid hbW
  have F0 := Lib.hid f0
  have F1 := Lib.hid f1
  have HT : Hid (∀ u : World, Below w.heap.size w u → Tabs u) := fun u hu => ht.below hu ht.2.2.1 ht.2.2.2
  have HNN := Lib.hid hnn
  have HSZ := Lib.hid hsz
  have HRR := Lib.hid hR
  have HE : Hid (∀ u : World, (Op.equalIn 10000 25 (.agg (hashV a)) (.agg (hashV b))).run Tryd.prog u = .ok (a == b) u) := fun u => eq_row 32 25 Tryd.underlying25 a b ha hb u
  rw [← hnn]
  rw [← hnn] at hn
  clear hW hbW hsz f0 f1 ht hnn hR
  by_cases h8 : 8 < n
  · have q1 : decide ((n : Int) > 8) = true := by simp; omega
    go_enter Tryd.func4, Tryd.ntmps4
    go_wp2_with fail
    rw [← HW.out]
    refine (known7 W (HT.out _ HB.out)).mono ?_
    rintro e w9 ⟨rfl, b9⟩
    have B9 := Lib.hid (HB.out.trans (b9.mono HB.out.size))
    clear b9
    go_wp2_with fail
    go_ret
    exact ⟨rfl, B9.out⟩
  · have q1 : decide ((n : Int) > 8) = false := by simp; omega
    have h8' : n ≤ 8 := by omega
    clear h8
    by_cases hab : a = b
    · have he : ∀ u : World, (Op.equalIn 10000 25 (.agg (hashV a)) (.agg (hashV b))).run Tryd.prog u = .ok true u := fun u => by rw [← (beq_iff_eq.2 hab : (a == b) = true)]; exact HE.out u
      clear hab
      go_enter Tryd.func4, Tryd.ntmps4
      go_wp2_with (first
        | (rw [← HW.out]; refine BigFrame.wpList_want rfl (fun K hK => ?_); refine wp_load_row 25 (.tmp 4) rfl w.heap.size rfl 25 (hashV a) (0, 0) _ g0 Tryd.underlying25 rfl (size_hashVW _) ?_; refine hK _ _ ?_; clear hK K)
        | (refine BigFrame.wpList_want rfl (fun K hK => ?_); refine wp_load_row 25 (.tmp 5) rfl (w.heap.size + 1) rfl 25 (hashV b) (0, 0) _ g1 Tryd.underlying25 rfl (size_hashVW _) ?_; refine hK _ _ ?_; clear hK K)
        | fail)
      refine (known7 W (HT.out _ HB.out)).mono ?_
      rintro e w9 ⟨rfl, b9⟩
      have B9 := Lib.hid (HB.out.trans (b9.mono HB.out.size))
      clear b9
      go_wp2_with fail
      go_ret
      exact ⟨rfl, B9.out⟩
    · have he : ∀ u : World, (Op.equalIn 10000 25 (.agg (hashV a)) (.agg (hashV b))).run Tryd.prog u = .ok false u := fun u => by rw [← (beq_eq_false_iff_ne.2 hab : (a == b) = false)]; exact HE.out u
      have HAB := Lib.hid hab
      clear hab
      by_cases hm : mayC i n
      · obtain ⟨m, rfl⟩ : ∃ m : Nat, i = (m : Int) := ⟨i.toNat, by have := hm.2.1; omega⟩
        have HM := Lib.hid hm
        clear hm
        obtain ⟨x, hx⟩ : ∃ x, x = climbN m a P P.length := ⟨_, rfl⟩
        obtain ⟨y, hy⟩ : ∃ y, y = climbN m b P P.length := ⟨_, rfl⟩
        have lx : x.length = 32 := by rw [hx]; exact climbN_len m a P ha _
        have ly : y.length = 32 := by rw [hy]; exact climbN_len m b P hb _
        have CA : Hid (∀ u : World, Below w.heap.size w u → Calls Tryd.prog 12 #[.agg (hashV a), .int .i64 (m : Int), .slice A n c] u fun e w' => e = .returned (.tuple #[.agg (hashV x), .int .i64 0]) ∧ Below u.heap.size u w') := fun u hu => by
          rw [HNN.out, hx]
          exact climb_c a ha m A c P hP u ((HRR.out.below hu (Nat.le_refl _)).wide hu.size) (by rw [← HNN.out]; exact HM.out) (HT.out u hu)
        have CB : Hid (∀ u : World, Below w.heap.size w u → Calls Tryd.prog 12 #[.agg (hashV b), .int .i64 (m : Int), .slice A n c] u fun e w' => e = .returned (.tuple #[.agg (hashV y), .int .i64 0]) ∧ Below u.heap.size u w') := fun u hu => by
          rw [HNN.out, hy]
          exact climb_c b hb m A c P hP u ((HRR.out.below hu (Nat.le_refl _)).wide hu.size) (by rw [← HNN.out]; exact HM.out) (HT.out u hu)
        have HX := Lib.hid hx
        have HY := Lib.hid hy
        have HXY : Hid (∀ u : World, (Op.equalIn 10000 25 (.agg (hashV x)) (.agg (hashV y))).run Tryd.prog u = .ok (x == y) u) := fun u => eq_row 32 25 Tryd.underlying25 x y lx ly u
        clear hx hy lx ly
        by_cases hxy : x = y
        · have he2 : ∀ u : World, (Op.equalIn 10000 25 (.agg (hashV x)) (.agg (hashV y))).run Tryd.prog u = .ok true u := fun u => by rw [← (beq_iff_eq.2 hxy : (x == y) = true)]; exact HXY.out u
          have HXE := Lib.hid hxy
          clear hxy
          go_enter Tryd.func4, Tryd.ntmps4
          go_wp2_with (first
            | (rw [← HW.out]; refine BigFrame.wpList_want rfl (fun K hK => ?_); refine wp_load_row 25 (.tmp 4) rfl w.heap.size rfl 25 (hashV a) (0, 0) _ g0 Tryd.underlying25 rfl (size_hashVW _) ?_; refine hK _ _ ?_; clear hK K)
            | (refine BigFrame.wpList_want rfl (fun K hK => ?_); refine wp_load_row 25 (.tmp 5) rfl (w.heap.size + 1) rfl 25 (hashV b) (0, 0) _ g1 Tryd.underlying25 rfl (size_hashVW _) ?_; refine hK _ _ ?_; clear hK K)
            | (refine wpList_load_row rfl 25 (.tmp 4) rfl w.heap.size rfl 25 (hashV a) (0, 0) _ g0 Tryd.underlying25 rfl (size_hashVW _) ?_)
            | (go_at_call 12; have c0 := CA.out W HB.out; clear CA; refine c0.mono ?_; clear c0; rintro e w1 ⟨rfl, b1⟩; have Bw1 := Lib.hid (HB.out.trans (b1.mono HB.out.size)); have BSw1 := Lib.hid b1; clear b1)
            | (refine wpList_store_row rfl 25 (.tmp 9) (.tmp 27) rfl w1.heap.size (hashV x) rfl rfl 25 (rowV 32 z8) (heap_alloc_new w1 _) (size_hashVW _) (by unfold hashV; rw [rowV_size, rowV_size]) (rowV_one 32 _ (fun i => rfl)) ?_; obtain ⟨w2, hw2⟩ : ∃ w2, w2 = (w1.alloc (.cells (rowV 32 z8) 25)).setRow w1.heap.size (hashV x) := ⟨_, rfl⟩; rw [← hw2]; have Bw2 := Lib.hid (show Below w.heap.size w w2 by rw [hw2]; exact below_setRow (Bw1.out.trans (((Below.refl _ _).alloc (Nat.le_refl _) _).mono Bw1.out.size)) Bw1.out.size _); have BSw2 := Lib.hid (show Below w1.heap.size w1 w2 by rw [hw2]; exact below_setRow ((Below.refl _ _).alloc (Nat.le_refl _) _) (Nat.le_refl _) _); have Fw2 : Hid (Fill w1.heap.size 25 32 32 (hF x) w2) := (by rw [hw2]; exact Fill.of_row (setRow_heap _ _ _ _ _ _ (heap_alloc_new w1 _))); clear hw2; have g12 := (F1.out.below (BSw1.out.trans (BSw2.out.mono BSw1.out.size)) (by have := HSZ.out; omega)).done)
            | (refine wpList_load_row rfl 25 (.tmp 5) rfl (w.heap.size + 1) rfl 25 (hashV b) (0, 0) _ g12 Tryd.underlying25 rfl (size_hashVW _) ?_)
            | (go_at_call 12; have c0 := CB.out w2 Bw2.out; clear CB; refine c0.mono ?_; clear c0; rintro e w3 ⟨rfl, b1⟩; have Bw3 := Lib.hid (Bw2.out.trans (b1.mono Bw2.out.size)); have BSw3 := Lib.hid b1; clear b1)
            | (refine wpList_store_row rfl 25 (.tmp 11) (.tmp 34) rfl w3.heap.size (hashV y) rfl rfl 25 (rowV 32 z8) (heap_alloc_new w3 _) (size_hashVW _) (by unfold hashV; rw [rowV_size, rowV_size]) (rowV_one 32 _ (fun i => rfl)) ?_; obtain ⟨w4, hw2⟩ : ∃ w4, w4 = (w3.alloc (.cells (rowV 32 z8) 25)).setRow w3.heap.size (hashV y) := ⟨_, rfl⟩; rw [← hw2]; have Bw4 := Lib.hid (show Below w.heap.size w w4 by rw [hw2]; exact below_setRow (Bw3.out.trans (((Below.refl _ _).alloc (Nat.le_refl _) _).mono Bw3.out.size)) Bw3.out.size _); have BSw4 := Lib.hid (show Below w3.heap.size w3 w4 by rw [hw2]; exact below_setRow ((Below.refl _ _).alloc (Nat.le_refl _) _) (Nat.le_refl _) _); have Fw4 : Hid (Fill w3.heap.size 25 32 32 (hF y) w4) := (by rw [hw2]; exact Fill.of_row (setRow_heap _ _ _ _ _ _ (heap_alloc_new w3 _))); clear hw2; have G9 := (Fw2.out.below (BSw3.out.trans (BSw4.out.mono BSw3.out.size)) Fw2.out.lt).done; have G11 := Fw4.out.done)
            | (refine wpList_load_row rfl 25 (.tmp 9) rfl w1.heap.size rfl 25 (hashV x) (0, 0) _ G9 Tryd.underlying25 rfl (size_hashVW _) ?_)
            | (refine wpList_load_row rfl 25 (.tmp 11) rfl w3.heap.size rfl 25 (hashV y) (0, 0) _ G11 Tryd.underlying25 rfl (size_hashVW _) ?_)
            | (go_at_call 6; refine (known7 w4 (HT.out _ Bw4.out)).mono ?_; rintro e w9 ⟨rfl, b9⟩; have B9 := Lib.hid (Bw4.out.trans (b9.mono Bw4.out.size)); clear b9)
            | fail)
          obtain ⟨i0, hi0⟩ : ∃ i0, Tryd.prog.info? 56 = some i0 := ⟨_, (Option.some_get (by kernel_rfl)).symm⟩
          obtain ⟨hz0, hz1, hz2⟩ := texts_row (z := .slice none 0 0) hi0
          have hn0 : 0 < P.length := by
            rcases Nat.eq_zero_or_pos P.length with h | h
            · exfalso
              apply HAB.out
              have e1 := HX.out
              have e2 := HY.out
              rw [h] at e1 e2
              exact e1.symm.trans (HXE.out.trans e2)
            · exact h
          have hn8 : P.length ≤ 8 := by rw [← HNN.out]; exact h8'
          have BW4 := Lib.hid (BSw1.out.trans ((BSw2.out.trans ((BSw3.out.trans (BSw4.out.mono BSw3.out.size)).mono BSw2.out.size)).mono BSw1.out.size))
          have HC1 := Lib.hid (show Calls Tryd.prog 16 #[.agg (hashV a), .int .i64 (m : Int), .slice A n c] w4.drew fun e w' => ∃ v L, e = .returned v ∧ Below w4.heap.size w4.drew w' ∧ OwT w' w4.heap.size v L ∧ L.map (fun (q : Pc) => q.2.2) = textsL m a P P.length by
            rw [HNN.out]
            exact refTexts_c a ha m A c P hP w4.drew (((HRR.out.below Bw4.out (Nat.le_refl _)).wide Bw4.out.size)) (by omega) (by omega))
          have HC2 : Hid (∀ u : World, Below w.heap.size w u → Calls Tryd.prog 16 #[.agg (hashV b), .int .i64 (m : Int), .slice A n c] u fun e w' => ∃ v L, e = .returned v ∧ Below u.heap.size u w' ∧ OwT w' u.heap.size v L ∧ L.map (fun (q : Pc) => q.2.2) = textsL m b P P.length) := fun u hu => by
            rw [HNN.out]
            exact refTexts_c b hb m A c P hP u ((HRR.out.below hu (Nat.le_refl _)).wide hu.size) (by omega) (by omega)
          have HCL := Lib.hid (texts_clash m a b P ha hb hP HAB.out (by rw [← HX.out, ← HY.out]; exact HXE.out))
          have HTL1 : Hid (∀ L : List Pc, L.map (fun (q : Pc) => q.2.2) = textsL m a P P.length → L.length = P.length ∧ ∀ y ∈ L, y.2.2.length < 1000000000) := fun L h => texts_len ha hP h
          have HTL2 : Hid (∀ L : List Pc, L.map (fun (q : Pc) => q.2.2) = textsL m b P P.length → L.length = P.length ∧ ∀ y ∈ L, y.2.2.length < 1000000000) := fun L h => texts_len hb hP h
          have hW4 : w.heap.size + 2 ≤ w4.heap.size := by rw [← HSZ.out]; exact BW4.out.size
          have HK : Hid (∀ u : World, Below w4.heap.size w4 u → u.rangeAt w.heap.size 0 (hC a) ∧ u.rangeAt (w.heap.size + 1) 0 (hC b)) := fun u hu => by
            have h1 := BW4.out.trans (hu.mono BW4.out.size)
            exact ⟨(F0.out.below h1 (by have := HSZ.out; omega)).whole, (F1.out.below h1 (by have := HSZ.out; omega)).whole⟩
          have k0 := HK.out w4.drew (Below.refl w4.heap.size w4).drew
          have HW4 := Lib.hid hW4
          have HN0 := Lib.hid hn0
          have HN8 := Lib.hid hn8
          clear hn0 hn8 hW4 g0 g1 g12 G9 G11 he he2
          rename_i K1 hK1
          refine wp_region_noPanic ?_
          refine wp_region_held_drew (S := fun u => u.rangeAt w.heap.size 0 (hC a) ∧ u.rangeAt (w.heap.size + 1) 0 (hC b)) (by kernel_rfl) k0 (fun hHeld => ?_)
          refine wpAnyH_take (i := 0) (oi := _) (v := .agg (hC a).toArray) rfl (by kernel_rfl) (by kernel_rfl) (by kernel_rfl) (fun _ _ _ h => h) (yieldsIf_load_mid (by rfl) _ _ rfl w.heap.size 0 rfl (hC a) _ (fun w h => h.1) hash_under rfl (hash_info (hC_len a))) hHeld ?_
          refine wpAnyH_take (i := 1) (oi := _) (v := .int .i64 (m : Int)) rfl (by kernel_rfl) (by kernel_rfl) (by kernel_rfl) (fun _ _ _ h => h) (Or.inl ⟨by rfl, by intro w hSw; go_simp⟩) hHeld ?_
          refine wpAnyH_take (i := 2) (oi := _) (v := .slice A n c) rfl (by kernel_rfl) (by kernel_rfl) (by kernel_rfl) (fun _ _ _ h => h) (Or.inl ⟨by rfl, by intro w hSw; go_simp⟩) hHeld ?_
          refine wpAnyH_take (i := 4) (oi := _) (v := .agg (hC b).toArray) rfl (by kernel_rfl) (by kernel_rfl) (by kernel_rfl) (fun _ _ _ h => h) (yieldsIf_load_mid (by rfl) _ _ rfl (w.heap.size + 1) 0 rfl (hC b) _ (fun w h => h.2) hash_under rfl (hash_info (hC_len b))) hHeld ?_
          refine wpAnyH_take (i := 5) (oi := _) (v := .int .i64 (m : Int)) rfl (by kernel_rfl) (by kernel_rfl) (by kernel_rfl) (fun _ _ _ h => h) (Or.inl ⟨by rfl, by intro w hSw; go_simp⟩) hHeld ?_
          refine wpAnyH_take (i := 6) (oi := _) (v := .slice A n c) rfl (by kernel_rfl) (by kernel_rfl) (by kernel_rfl) (fun _ _ _ h => h) (Or.inl ⟨by rfl, by intro w hSw; go_simp⟩) hHeld ?_
          refine wpAnyH_ready (rs := [3]) (by kernel_rfl) (by simp) ?_
          refine AllReadyH.cons (o := _) rfl (fun K hK => ?_) AllReadyH.nil
          go_simp
          go_at_call 16
          refine (HC1.out).mono ?_
          rintro e w5 ⟨v1, L1, rfl, b5, o5, l5⟩
          obtain ⟨A1, c1, rfl, hc1⟩ := o5.form
          have B5 := Lib.hid ((Below.refl w4.heap.size w4).drew.trans b5)
          have O5 := Lib.hid o5
          have T5 := Lib.hid l5
          have N5 := Lib.hid (HTL1.out L1 l5)
          have k5 := HK.out _ B5.out
          clear b5 o5 l5 hc1
          go_simp
          refine hK.out _ _ k5 (fun hHeld => ?_)
          clear hK K
          refine wpAnyH_ready (rs := [7]) (by kernel_rfl) (by simp) ?_
          refine AllReadyH.cons (o := _) rfl (fun K hK => ?_) AllReadyH.nil
          go_simp
          go_at_call 16
          refine ((HC2.out _ (Bw4.out.trans (B5.out.mono Bw4.out.size)))).mono ?_
          rintro e w6 ⟨v2, L2, rfl, b6, o6, l6⟩
          obtain ⟨A2, c2, rfl, hc2⟩ := o6.form
          have N6 := Lib.hid (HTL2.out L2 l6)
          have h20 : (L2.map pcV)[0]? = some (pcV (L2[0]'(by rw [N6.out.1]; exact HN0.out))) := by rw [List.getElem?_map, List.getElem?_eq_getElem]; rfl
          obtain ⟨g2, rfl, _, _, _⟩ := rowAt o6.1 h20
          have B6 := Lib.hid (B5.out.trans (b6.mono B5.out.size))
          have O6 := Lib.hid (o6.wide B5.out.size)
          have O56 := Lib.hid (O5.out.below b6 (Nat.le_refl _))
          have T6 := Lib.hid l6
          have k6 := HK.out _ B6.out
          clear b6 o6 l6 hc2 h20
          go_simp
          refine hK.out _ _ k6 (fun hHeld => ?_)
          clear hK K
          refine wpAnyH_ready (rs := [8]) (by kernel_rfl) (by simp) ?_
          refine AllReadyH.cons (o := _) rfl (fun K hK => ?_) AllReadyH.nil
          refine step_append_cellsT _ rfl (.tmp 54) (.tmp 58) 39 rfl w4.heap.size 56 i0 _ 1 24 Tryd.underlying39 hi0 hz0 hz1 hz2 rfl (by decide) (.slice A1 L1.length c1) L1.length (L1.map pcV) rfl O56.out.1 ⟨g2, 0, none⟩ L2.length c2 (L2.map pcV) rfl (by rw [List.length_map, Nat.mul_one]) O6.out.cellsAt (pcV_one L2) (by have h1 := N5.out.1; have h2 := N6.out.1; have h3 := HN8.out; unfold maxLen; omega) (by have h1 := N5.out.1; have h2 := N6.out.1; have h3 := HN8.out; omega) B6.out.size ?_
          intro v7 w7 o7 g7 _
          have OT7 := OwT.join (c := c1) O56.out O6.out.2 o7 g7
          have B7 := Lib.hid (B6.out.grown g7 B6.out.size (fun g hg => (O56.out.1.lt g hg).1))
          obtain ⟨LL, hLL⟩ : ∃ LL, LL = L1 ++ L2 := ⟨_, rfl⟩
          rw [← hLL] at OT7
          have HLL := Lib.hid hLL
          obtain ⟨A7, c7, rfl, hc7⟩ := OT7.form
          have k7 := HK.out _ B7.out
          have HRL := Lib.hid OT7.rdL
          clear o7 g7 hLL OT7 hc7
          go_simp
          refine hK.out _ _ k7 (fun hHeld => ?_)
          clear hK K
          refine wpAnyH_ready (rs := [9]) (by kernel_rfl) (by simp) ?_
          refine AllReadyH.cons (o := _) rfl (fun K hK => ?_) AllReadyH.nil
          go_simp
          go_at_call 15
          refine ((clash_c A7 c7 LL w7 HRL.out (by rw [HLL.out, List.length_append, N5.out.1, N6.out.1]; have := HN8.out; omega) (fun x hx => by rw [HLL.out] at hx; rcases List.mem_append.1 hx with hx | hx; exact N5.out.2 x hx; exact N6.out.2 x hx))).mono ?_
          rintro e w8 ⟨q, rfl, b8, hq⟩
          obtain rfl : q = true := hq (by rw [HLL.out, List.map_append, T5.out, T6.out]; exact HCL.out)
          have B8 := Lib.hid (B7.out.trans (b8.mono B7.out.size))
          have k8 := HK.out _ B8.out
          clear b8 hq
          go_simp
          refine hK.out _ _ k8 (fun hHeld => ?_)
          clear hK K
          refine wpAnyH_ready (rs := [10]) (by kernel_rfl) (by simp) ?_
          refine AllReadyH.cons (o := _) rfl (fun K hK => ?_) AllReadyH.nil
          go_simp
          refine hK.out _ _ k8 (fun hHeld => ?_)
          clear hK K
          refine wpAnyH_done (by kernel_rfl) ?_ _
          refine NoPanic.normal ?_
          first
            | apply hK1
            | apply K1
          clear hK1 K1
          go_wp2_with fail
          go_ret
          exact ⟨rfl, Bw4.out.trans (B8.out.mono Bw4.out.size)⟩
        · have he2 : ∀ u : World, (Op.equalIn 10000 25 (.agg (hashV x)) (.agg (hashV y))).run Tryd.prog u = .ok false u := fun u => by rw [← (beq_eq_false_iff_ne.2 hxy : (x == y) = false)]; exact HXY.out u
          clear hxy
          go_enter Tryd.func4, Tryd.ntmps4
          go_wp2_with (first
            | (rw [← HW.out]; refine BigFrame.wpList_want rfl (fun K hK => ?_); refine wp_load_row 25 (.tmp 4) rfl w.heap.size rfl 25 (hashV a) (0, 0) _ g0 Tryd.underlying25 rfl (size_hashVW _) ?_; refine hK _ _ ?_; clear hK K)
            | (refine BigFrame.wpList_want rfl (fun K hK => ?_); refine wp_load_row 25 (.tmp 5) rfl (w.heap.size + 1) rfl 25 (hashV b) (0, 0) _ g1 Tryd.underlying25 rfl (size_hashVW _) ?_; refine hK _ _ ?_; clear hK K)
            | (refine wpList_load_row rfl 25 (.tmp 4) rfl w.heap.size rfl 25 (hashV a) (0, 0) _ g0 Tryd.underlying25 rfl (size_hashVW _) ?_)
            | (go_at_call 12; have c0 := CA.out W HB.out; clear CA; refine c0.mono ?_; clear c0; rintro e w1 ⟨rfl, b1⟩; have Bw1 := Lib.hid (HB.out.trans (b1.mono HB.out.size)); have BSw1 := Lib.hid b1; clear b1)
            | (refine wpList_store_row rfl 25 (.tmp 9) (.tmp 27) rfl w1.heap.size (hashV x) rfl rfl 25 (rowV 32 z8) (heap_alloc_new w1 _) (size_hashVW _) (by unfold hashV; rw [rowV_size, rowV_size]) (rowV_one 32 _ (fun i => rfl)) ?_; obtain ⟨w2, hw2⟩ : ∃ w2, w2 = (w1.alloc (.cells (rowV 32 z8) 25)).setRow w1.heap.size (hashV x) := ⟨_, rfl⟩; rw [← hw2]; have Bw2 := Lib.hid (show Below w.heap.size w w2 by rw [hw2]; exact below_setRow (Bw1.out.trans (((Below.refl _ _).alloc (Nat.le_refl _) _).mono Bw1.out.size)) Bw1.out.size _); have BSw2 := Lib.hid (show Below w1.heap.size w1 w2 by rw [hw2]; exact below_setRow ((Below.refl _ _).alloc (Nat.le_refl _) _) (Nat.le_refl _) _); have Fw2 : Hid (Fill w1.heap.size 25 32 32 (hF x) w2) := (by rw [hw2]; exact Fill.of_row (setRow_heap _ _ _ _ _ _ (heap_alloc_new w1 _))); clear hw2; have g12 := (F1.out.below (BSw1.out.trans (BSw2.out.mono BSw1.out.size)) (by have := HSZ.out; omega)).done)
            | (refine wpList_load_row rfl 25 (.tmp 5) rfl (w.heap.size + 1) rfl 25 (hashV b) (0, 0) _ g12 Tryd.underlying25 rfl (size_hashVW _) ?_)
            | (go_at_call 12; have c0 := CB.out w2 Bw2.out; clear CB; refine c0.mono ?_; clear c0; rintro e w3 ⟨rfl, b1⟩; have Bw3 := Lib.hid (Bw2.out.trans (b1.mono Bw2.out.size)); have BSw3 := Lib.hid b1; clear b1)
            | (refine wpList_store_row rfl 25 (.tmp 11) (.tmp 34) rfl w3.heap.size (hashV y) rfl rfl 25 (rowV 32 z8) (heap_alloc_new w3 _) (size_hashVW _) (by unfold hashV; rw [rowV_size, rowV_size]) (rowV_one 32 _ (fun i => rfl)) ?_; obtain ⟨w4, hw2⟩ : ∃ w4, w4 = (w3.alloc (.cells (rowV 32 z8) 25)).setRow w3.heap.size (hashV y) := ⟨_, rfl⟩; rw [← hw2]; have Bw4 := Lib.hid (show Below w.heap.size w w4 by rw [hw2]; exact below_setRow (Bw3.out.trans (((Below.refl _ _).alloc (Nat.le_refl _) _).mono Bw3.out.size)) Bw3.out.size _); have BSw4 := Lib.hid (show Below w3.heap.size w3 w4 by rw [hw2]; exact below_setRow ((Below.refl _ _).alloc (Nat.le_refl _) _) (Nat.le_refl _) _); have Fw4 : Hid (Fill w3.heap.size 25 32 32 (hF y) w4) := (by rw [hw2]; exact Fill.of_row (setRow_heap _ _ _ _ _ _ (heap_alloc_new w3 _))); clear hw2; have G9 := (Fw2.out.below (BSw3.out.trans (BSw4.out.mono BSw3.out.size)) Fw2.out.lt).done; have G11 := Fw4.out.done)
            | (refine wpList_load_row rfl 25 (.tmp 9) rfl w1.heap.size rfl 25 (hashV x) (0, 0) _ G9 Tryd.underlying25 rfl (size_hashVW _) ?_)
            | (refine wpList_load_row rfl 25 (.tmp 11) rfl w3.heap.size rfl 25 (hashV y) (0, 0) _ G11 Tryd.underlying25 rfl (size_hashVW _) ?_)
            | (go_at_call 6; refine (known7 w4 (HT.out _ Bw4.out)).mono ?_; rintro e w9 ⟨rfl, b9⟩; have B9 := Lib.hid (Bw4.out.trans (b9.mono Bw4.out.size)); clear b9)
            | fail)
          go_ret
          exact ⟨rfl, B9.out⟩
      · obtain ⟨x, hx⟩ : ∃ x, x = List.replicate 32 (0 : UInt8) := ⟨_, rfl⟩
        have CA : Hid (∀ u : World, Calls Tryd.prog 12 #[.agg (hashV a), .int .i64 i, .slice A n c] u fun e w' => e = .returned (.tuple #[.agg (rowV 32 z8), .int .i64 2]) ∧ Below u.heap.size u w') := fun u => climb_no a i A c n (by omega) hm u
        have CB : Hid (∀ u : World, Calls Tryd.prog 12 #[.agg (hashV b), .int .i64 i, .slice A n c] u fun e w' => e = .returned (.tuple #[.agg (rowV 32 z8), .int .i64 2]) ∧ Below u.heap.size u w') := fun u => climb_no b i A c n (by omega) hm u
        clear hm
        go_enter Tryd.func4, Tryd.ntmps4
        go_wp2_with (first
          | (rw [← HW.out]; refine BigFrame.wpList_want rfl (fun K hK => ?_); refine wp_load_row 25 (.tmp 4) rfl w.heap.size rfl 25 (hashV a) (0, 0) _ g0 Tryd.underlying25 rfl (size_hashVW _) ?_; refine hK _ _ ?_; clear hK K)
          | (refine BigFrame.wpList_want rfl (fun K hK => ?_); refine wp_load_row 25 (.tmp 5) rfl (w.heap.size + 1) rfl 25 (hashV b) (0, 0) _ g1 Tryd.underlying25 rfl (size_hashVW _) ?_; refine hK _ _ ?_; clear hK K)
          | (refine wpList_load_row rfl 25 (.tmp 4) rfl w.heap.size rfl 25 (hashV a) (0, 0) _ g0 Tryd.underlying25 rfl (size_hashVW _) ?_)
          | (go_at_call 12; have c0 := CA.out W; clear CA; refine c0.mono ?_; clear c0; rintro e w1 ⟨rfl, b1⟩; have Bw1 := Lib.hid (HB.out.trans (b1.mono HB.out.size)); have BSw1 := Lib.hid b1; clear b1)
          | (refine wpList_store_row rfl 25 (.tmp 9) (.tmp 27) rfl w1.heap.size (rowV 32 z8) rfl rfl 25 (rowV 32 z8) (heap_alloc_new w1 _) (size_hashVW _) rfl (rowV_one 32 _ (fun i => rfl)) ?_; obtain ⟨w2, hw2⟩ : ∃ w2, w2 = (w1.alloc (.cells (rowV 32 z8) 25)).setRow w1.heap.size (rowV 32 z8) := ⟨_, rfl⟩; rw [← hw2]; have Bw2 := Lib.hid (show Below w.heap.size w w2 by rw [hw2]; exact below_setRow (Bw1.out.trans (((Below.refl _ _).alloc (Nat.le_refl _) _).mono Bw1.out.size)) Bw1.out.size _); have BSw2 := Lib.hid (show Below w1.heap.size w1 w2 by rw [hw2]; exact below_setRow ((Below.refl _ _).alloc (Nat.le_refl _) _) (Nat.le_refl _) _); have Fw2 : Hid (Fill w1.heap.size 25 32 32 z8 w2) := (by rw [hw2]; exact Fill.of_row (setRow_heap _ _ _ _ _ _ (heap_alloc_new w1 _))); clear hw2; have g12 := (F1.out.below (BSw1.out.trans (BSw2.out.mono BSw1.out.size)) (by have := HSZ.out; omega)).done)
          | (refine wpList_load_row rfl 25 (.tmp 5) rfl (w.heap.size + 1) rfl 25 (hashV b) (0, 0) _ g12 Tryd.underlying25 rfl (size_hashVW _) ?_)
          | (go_at_call 12; have c0 := CB.out w2; clear CB; refine c0.mono ?_; clear c0; rintro e w3 ⟨rfl, b1⟩; have Bw3 := Lib.hid (Bw2.out.trans (b1.mono Bw2.out.size)); have BSw3 := Lib.hid b1; clear b1)
          | (refine wpList_store_row rfl 25 (.tmp 11) (.tmp 34) rfl w3.heap.size (rowV 32 z8) rfl rfl 25 (rowV 32 z8) (heap_alloc_new w3 _) (size_hashVW _) rfl (rowV_one 32 _ (fun i => rfl)) ?_; obtain ⟨w4, hw2⟩ : ∃ w4, w4 = (w3.alloc (.cells (rowV 32 z8) 25)).setRow w3.heap.size (rowV 32 z8) := ⟨_, rfl⟩; rw [← hw2]; have Bw4 := Lib.hid (show Below w.heap.size w w4 by rw [hw2]; exact below_setRow (Bw3.out.trans (((Below.refl _ _).alloc (Nat.le_refl _) _).mono Bw3.out.size)) Bw3.out.size _); have BSw4 := Lib.hid (show Below w3.heap.size w3 w4 by rw [hw2]; exact below_setRow ((Below.refl _ _).alloc (Nat.le_refl _) _) (Nat.le_refl _) _); have Fw4 : Hid (Fill w3.heap.size 25 32 32 z8 w4) := (by rw [hw2]; exact Fill.of_row (setRow_heap _ _ _ _ _ _ (heap_alloc_new w3 _))); clear hw2; have G9 := (Fw2.out.below (BSw3.out.trans (BSw4.out.mono BSw3.out.size)) Fw2.out.lt).done; have G11 := Fw4.out.done)
          | (refine wpList_load_row rfl 25 (.tmp 9) rfl w1.heap.size rfl 25 (hashV x) (0, 0) _ G9 Tryd.underlying25 rfl (size_hashVW _) ?_)
          | (refine wpList_load_row rfl 25 (.tmp 11) rfl w3.heap.size rfl 25 (hashV y) (0, 0) _ G11 Tryd.underlying25 rfl (size_hashVW _) ?_)
          | (go_at_call 6; refine (known7 w4 (HT.out _ Bw4.out)).mono ?_; rintro e w9 ⟨rfl, b9⟩; have B9 := Lib.hid (Bw4.out.trans (b9.mono Bw4.out.size)); clear b9)
          | fail)
        go_ret
        exact ⟨rfl, B9.out⟩
end Go.Proofs.YtoippbgnaadebaaDoor
