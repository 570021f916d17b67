/- The walk of NamesOrder. -/
import Derived.Test.YtlfmdnnookkdhaaDoorOrderR
import Derived.Test.YtlfmdnnookkdhaaDoorOrderPlain
namespace Go.Proofs.YtlfmdnnookkdhaaDoor
open Go.ChangeShapes Go.WideShapes Go.ChangeAt Go.RowKit
set_option linter.unusedVariables false

theorem str_toList (l : List UInt8) : (ByteArray.mk l.toArray).toList = l := by rw [ByteArray.toList_eq]
set_option maxRecDepth 100000 in
set_option maxHeartbeats 8000000 in
theorem namesOrder_any (a b : List UInt8) (w : World) (ha : a.length = 32) (hb : b.length = 32) (ht : Tabs w) :
    Calls Tryd.prog 5 #[.agg (hashV a), .agg (hashV b)] w fun e w' => e = .returned (.bool true) ∧ Below w.heap.size w w' := by
  have hz := zero_hash
  go_enter Tryd.func5, Tryd.ntmps5
  go_wp2_with fail
  have g0 : Fill w.heap.size 28 32 32 (hF a) ((w.alloc (.cells (hashV a) 28)).alloc (.cells (hashV b) 28)) := Fill.of_row (heap_alloc2_old w _ _)
  have g1 : Fill (w.heap.size + 1) 28 32 32 (hF b) ((w.alloc (.cells (hashV a) 28)).alloc (.cells (hashV b) 28)) := Fill.of_row (heap_alloc2_new w _ _)
  have b0 : Below w.heap.size w ((w.alloc (.cells (hashV a) 28)).alloc (.cells (hashV b) 28)) := ((Below.refl _ _).alloc (Nat.le_refl _) _).alloc (by simp) _
  generalize (w.alloc (.cells (hashV a) 28)).alloc (.cells (hashV b) 28) = W at *
  refine order_r1 _ _ _ _ _ _ _ _ _ _ _ _ _ _ _ _ _ _ _ _ _ _ _ _ _ _ _ _ _ _ _ _ _ _ _ _ _ _ _ _ _ _ _ _ _ _ _ _ _ _ _ _ _ _ _ _ _ _ _ _ _ _ _ _ _ _ _ _ _ _ _ a b w.heap.size (w.heap.size + 1) W ha hb g0 g1 _ ?_
  intro u12 u13 u14 u15 w1 B1
  have G0 := g0.below B1 g0.lt
  have G1 := g1.below B1 g1.lt
  have hb1 := b0.trans (B1.mono b0.size)
  clear g0 g1 b0 B1
  go_wp2_with fail
  refine (of_any a _ ha).mono ?_
  rintro e w2 ⟨rfl, b2⟩
  have G2 := G0.below b2 G0.lt
  have G3 := G1.below b2 G1.lt
  have hb2 := hb1.trans (b2.mono hb1.size)
  clear G0 G1 hb1 b2
  go_wp2_with (refine wpList_store_row rfl 28 (.tmp 7) (.tmp 19) rfl w2.heap.size (hashV a) rfl rfl 28 (rowV 32 z8) (heap_alloc_new _ _) (hashV_size a) (by unfold hashV; rw [rowV_size, rowV_size]) (rowV_one 32 _ (fun i => rfl)) ?_; rw [World.setRow_alloc_new])
  have bn := (Below.refl w2.heap.size w2).alloc (Nat.le_refl _) (.cells (hashV a) 28)
  have G4 : Fill w2.heap.size 28 32 32 (hF a) (w2.alloc (.cells (hashV a) 28)) := Fill.of_row (heap_alloc_new _ _)
  have G5 := G2.below bn G2.lt
  have G6 := G3.below bn G3.lt
  have hb3 := hb2.trans (bn.mono hb2.size)
  clear G2 G3 hb2 bn hz
  generalize w2.alloc (.cells (hashV a) 28) = w3 at *
  generalize w2.heap.size = p at *
  go_loopw [9, 10, 11] (fun v9 v10 v wr => ∃ i : Nat, i ≤ 32 ∧ v = .int .i64 i ∧ v9 = .bool (ahF a b i) ∧ v10 = .bool (smF a b i) ∧ Below w3.heap.size w3 wr) (fun _ _ v _ => 32 - (intOf v).toNat)
  case atStart => exact ⟨0, by omega, rfl, rfl, rfl, Below.refl _ _⟩
  case round =>
    obtain ⟨i, hi, rfl, rfl, rfl, hbw⟩ := hrel
    by_cases hlt : i < 32
    · have c0 := (G5.below hbw G5.lt).at_ i hlt
      have c1 := (G6.below hbw G6.lt).at_ i hlt
      unfold hF bv at c0 c1
      have HS := Lib.hid (show smF a b (i + 1) = (smF a b i && (a.getD i 0 == b.getD i 0)) from rfl)
      have HA := Lib.hid (show ahF a b (i + 1) = if smF a b i && (a.getD i 0 != b.getD i 0) then decide ((a.getD i 0).toNat < (b.getD i 0).toNat) else ahF a b i from rfl)
      have HE := Lib.hid (UInt8.toNat_inj (a := a.getD i 0) (b := b.getD i 0))
      generalize a.getD i 0 = x at *
      generalize b.getD i 0 = y at *
      generalize ahF a b i = r at *
      cases hsm : smF a b i
      · rw [hsm] at HS HA
        simp only [Bool.false_and, Bool.false_eq_true, if_false] at HS HA
        have HSM := Lib.hid hsm
        clear hsm
        go_wp2_with fail
        go_quiet (fail)
        go_wp2_with fail
        exact ⟨⟨i + 1, by omega, by go_num, by rw [HA.out], by rw [HS.out], below_drewN hbw nq⟩, by simp [intOf]; omega⟩
      · rw [hsm] at HS HA
        simp only [Bool.true_and] at HS HA
        have HSM := Lib.hid hsm
        clear hsm
        by_cases he : x = y
        · have d1 : (((x.toNat : Int)) != ((y.toNat : Int))) = false := by rw [he]; simp
          have HS2 := Lib.hid (show smF a b (i + 1) = true by rw [HS.out, he]; simp)
          have HA2 := Lib.hid (show ahF a b (i + 1) = r by rw [HA.out, he]; simp)
          clear he
          go_wp2_with fail
          go_quiet (fail)
          go_wp2_with fail
          exact ⟨⟨i + 1, by omega, by go_num, by rw [HA2.out], by rw [HS2.out], below_drewN hbw nq⟩, by simp [intOf]; omega⟩
        · have d1 : (((x.toNat : Int)) != ((y.toNat : Int))) = true := by simp; intro h; exact he (HE.out.1 (by omega))
          have HS2 := Lib.hid (show smF a b (i + 1) = false by rw [HS.out]; simpa using he)
          have HA2 := Lib.hid (show ahF a b (i + 1) = decide (x.toNat < y.toNat) by rw [HA.out]; simp [he])
          clear he
          go_wp2_with fail
          go_quiet (fail)
          have hbw1 := below_drewN hbw nq
          have k0 : (wr.drewN nq).cell? ⟨w.heap.size, i, none⟩ = some (.int .u8 (x.toNat : Int)) := c0
          have k1 : (wr.drewN nq).cell? ⟨w.heap.size + 1, i, none⟩ = some (.int .u8 (y.toNat : Int)) := c1
          clear c0 c1 hbw
          generalize wr.drewN nq = wq at *
          go_wp2_with fail
          go_quiet (fail)
          go_wp2_with fail
          exact ⟨⟨i + 1, by omega, by go_num, by rw [HA2.out], by rw [HS2.out], below_drewN hbw1 nq⟩, by simp [intOf]; omega⟩
    · obtain rfl : i = 32 := by omega
      have ge : ∀ u, (Op.equalIn 10000 28 (.agg (hashV a)) (.agg (hashV a))).run Tryd.prog u = .ok true u := fun u => by rw [eq_hash a a ha ha u]; simp
      have h1 := (G4.below hbw G4.lt).done
      have h2 := (G5.below hbw G5.lt).done
      have h3 := (G6.below hbw G6.lt).done
      have hb4 := hb3.trans (hbw.mono hb3.size)
      obtain ⟨o1, o2, o3⟩ := order_less a b ha hb
      have hl1 : ∀ u : World, (binOp .lss 9 (strOf (hexL a)) (strOf (hexL b))).run Tryd.prog u = .ok (.bool (ahF a b 32)) u := fun u => by unfold strOf; rw [binOp_string_lss, str_toList, str_toList, o1]; rfl
      have hl2 : ∀ u : World, (binOp .eql 9 (strOf (hexL a)) (strOf (hexL b))).run Tryd.prog u = .ok (.bool (smF a b 32)) u := fun u => by unfold strOf; rw [binOp_string_eql, str_toList, str_toList, o2]; rfl
      have hl3 : ∀ u : World, (eqGuard .eql 9 (.tmp 57) (.tmp 58) (strOf (hexL a)) (strOf (hexL b))).run Tryd.prog u = .ok () u := fun u => by kernel_rfl
      have HEQ := Lib.hid (equal_any a b wr ha hb)
      rw [o3] at HEQ
      have HK : Hid (∀ u : World, Below wr.heap.size wr u → Calls Tryd.prog 9 #[] u fun e w' => e = .returned (.bool true) ∧ Below u.heap.size u w') := fun u hu => known_any u (ht.below (hb4.trans (hu.mono hb4.size)) ht.2.2.1 ht.2.2.2)
      clear o1 o2 o3
      generalize ahF a b 32 = q1 at *
      generalize smF a b 32 = q2 at *
      go_wp2_with (first | (refine wpList_load_row_g rfl 28 (.tmp 7) rfl p rfl 28 (hashV a) (0, 0) _ h1 Tryd.underlying28 rfl (hashV_size a) ?_) | (refine wpList_load_row_g rfl 28 (.tmp 2) rfl w.heap.size rfl 28 (hashV a) (0, 0) _ h2 Tryd.underlying28 rfl (hashV_size a) ?_) | (refine wpList_load_row_g rfl 28 (.tmp 3) rfl (w.heap.size + 1) rfl 28 (hashV b) (0, 0) _ h3 Tryd.underlying28 rfl (hashV_size b) ?_))
      refine HEQ.out.mono ?_
      rintro e w5 ⟨rfl, b5⟩
      go_wp2_with fail
      refine (HK.out _ b5).mono ?_
      rintro e w6 ⟨rfl, b6⟩
      go_wp2_with fail
      go_ret
      have b7 := hb4.trans (b5.mono hb4.size)
      exact ⟨rfl, b7.trans (b6.mono b7.size)⟩
end Go.Proofs.YtlfmdnnookkdhaaDoor
