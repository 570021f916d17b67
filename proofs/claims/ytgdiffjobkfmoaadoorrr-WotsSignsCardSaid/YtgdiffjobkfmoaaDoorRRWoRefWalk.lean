/- The reference: walks in all chains. -/
import Derived.Test.YtgdiffjobkfmoaaDoorRRWoRefStep
import Derived.Test.YtgdiffjobkfmoaaDoorRRWoEach
import Derived.Test.YtgdiffjobkfmoaaDoorRRWoSign
namespace Go.Proofs.YtgdiffjobkfmoaaDoorRR
open Go.ChangeShapes Go.WideShapes Go.ChangeAt Go.RowKit Go.Shelf
set_option linter.unusedVariables false

section
variable {gf : Nat → List UInt8 → List UInt8} {S : List UInt8}
/-- The first nodes done, one under way. -/
def midL (gf : Nat → List UInt8 → List UInt8) (S : List UInt8) (i : Nat) (y : List UInt8) : List UInt8 := frontL gf S i ++ (y ++ S.drop (16 * (i + 1)))
theorem midL_at (hg : ∀ i x, i < 68 → x.length = 16 → (gf i x).length = 16) (hS : S.length = 1088) (i : Nat) (hi : i < 68) (y : List UInt8) (hy : y.length = 16) (j : Nat) (hj : j < 16) : hF (midL gf S i y) (i * 16 + j) = hF y j := by
  unfold hF midL
  rw [getD_app, frontL_len hg hS i (by omega), if_neg (by omega), getD_app, if_pos (by omega)]
  congr 2
  omega
theorem midL_put (hg : ∀ i x, i < 68 → x.length = 16 → (gf i x).length = 16) (hS : S.length = 1088) (i : Nat) (hi : i < 68) (y y' : List UInt8) (hy : y.length = 16) (hy' : y'.length = 16) (j : Nat) :
    (midL gf S i y').getD j 0 = if 16 * i ≤ j ∧ j < 16 * i + 16 then y'.getD (j - 16 * i) 0 else (midL gf S i y).getD j 0 := by
  have h1 := frontL_len hg hS i (by omega)
  unfold midL
  rw [getD_app, getD_app, getD_app, getD_app, h1, hy, hy']
  by_cases a1 : j < 16 * i
  · rw [if_pos a1, if_neg (by omega), if_pos a1]
  · rw [if_neg a1, if_neg a1]
    by_cases a2 : j < 16 * i + 16
    · rw [if_pos (by omega), if_pos ⟨by omega, a2⟩]
    · rw [if_neg (by omega), if_neg (by omega), if_neg (by omega)]
theorem midL_first (hS : S.length = 1088) (i : Nat) (hi : i < 68) : midL gf S i (nodeL S i) = eachTo gf S i := by
  unfold midL eachTo nodeL
  congr 1
  rw [show 16 * (i + 1) = 16 * i + 16 by omega, ← List.drop_drop, List.take_append_drop]
theorem midL_last (i : Nat) : midL gf S i (gf i (nodeL S i)) = eachTo gf S (i + 1) := by
  unfold midL eachTo
  rw [frontL_succ, List.append_assoc]
end
section
variable {P : Program} {w : World}
/-- The load of a part of a row as a step of a region that draws its order. -/
theorem step_load_midW {ops : Array Oper} {o : Oper} {a : Act} {K : Act → World → Prop} {Q : Exit → Act → World → Prop} {E : Prop} (hgd : o.guard = none) (ty : TypeId) (x : Operand) (ho : o.op = .load ty x)
    (b off : Nat) (hx : a.eval x = .pointer (some ⟨b, off, none⟩)) (cs : List Value) (d : TypeDesc) (hc : w.rangeAt b off cs) (hu : P.underlying ty = some d) (hd : d.isRow = true) (hi : (P.info? ty).map (·.size) = some cs.length) (dst : Option Tmp) (hdst : o.dst = dst)
    (h : K (a.put dst (.agg cs.toArray)) w) : if Region.wanted o (yielded ops a.tmps) = true then Oper.wp P o a w K Q else E := by
  subst hdst
  have hw : Region.wanted o (yielded ops a.tmps) = true := by simp [Region.wanted, hgd]
  rw [if_pos hw]
  exact wp_load_mid ty x ho b off hx cs d hc hu hd hi h
/-- The store of a part of a row as a step of a region that draws its order. -/
theorem step_store_midW {ops : Array Oper} {o : Oper} {a : Act} {K : Act → World → Prop} {Q : Exit → Act → World → Prop} {E : Prop} (hgd : o.guard = none) (ty : TypeId) (x y : Operand) (ho : o.op = .store ty x y)
    (b off : Nat) (cells : Array Value) (hx : a.eval x = .pointer (some ⟨b, off, none⟩)) (hy : a.eval y = .agg cells)
    (ht : w.there b off cells.size) (hi : (P.info? ty).map (·.size) = some cells.size) (h1 : cells.all (·.oneCell') = true) (dst : Option Tmp) (hdst : o.dst = dst)
    (h : K (a.put dst undef) (w.setCells b off cells.toList)) : if Region.wanted o (yielded ops a.tmps) = true then Oper.wp P o a w K Q else E := by
  subst hdst
  have hw : Region.wanted o (yielded ops a.tmps) = true := by simp [Region.wanted, hgd]
  rw [if_pos hw]
  exact wp_store_mid ty x y ho b off cells hx hy ht hi h1 h
theorem readyH_load {md : Region.Mode} {ops : Array Oper} {Q : Exit → Act → World → Prop} {T : World → Prop} {fuel : Nat} {listed : Array Bool} {a : Act} {i : Nat} {o : Oper} (ho : ops[i]? = some o) (hgd : o.guard = none) (ty : TypeId) (x : Operand) (hop : o.op = .load ty x)
    (b off : Nat) (hx : a.eval x = .pointer (some ⟨b, off, none⟩)) (cs : List Value) (d : TypeDesc) (hc : w.rangeAt b off cs) (hu : P.underlying ty = some d) (hd : d.isRow = true) (hi : (P.info? ty).map (·.size) = some cs.length) (dst : Option Tmp) (hdst : o.dst = dst) (hS : T w)
    (h : T w → wpAnyH P md ops Q T fuel (listed.setIfInBounds i true) (a.put dst (.agg cs.toArray)) w) : AllReadyH P md ops Q T fuel listed a w [i] :=
  AllReadyH.cons ho (fun K hK => step_load_midW hgd ty x hop b off hx cs d hc hu hd hi dst hdst (hK.out _ _ hS h)) AllReadyH.nil
end
/-- From where to where. -/
def frW (b : Bool) (d : Nat) : Nat := if b then 0 else d
def toW (b : Bool) (d : Nat) : Nat := if b then d else 3
def refW (b : Bool) (D : Nat → Nat) (i : Nat) (x : List UInt8) : List UInt8 := walkL i (frW b (D i)) (toW b (D i)) x
theorem refW_len (b : Bool) (D : Nat → Nat) : ∀ i x, i < 68 → x.length = 16 → (refW b D i x).length = 16 := fun i x _ hx => walkL_len i _ _ x hx
set_option maxRecDepth 100000 in
set_option maxHeartbeats 8000000 in
theorem refWalk_c (S : List UInt8) (hS : S.length = 1088) (D : Nat → Nat) (hD : ∀ i, i < 68 → D i ≤ 3) (g c : Nat) (b : Bool) (w : World) (hg : g < w.heap.size) (hd : ∀ i, i < 68 → w.cell? ⟨g, i, none⟩ = some (.int .i64 (D i : Int))) :
    Calls Tryd.prog 19 #[.agg (rowV 1088 (hF S)), .slice (some ⟨g, 0, none⟩) 68 c, .bool b] w fun e w' => e = .returned (.agg (rowV 1088 (hF (eachL (refW b D) S)))) ∧ Below w.heap.size w w' := by
  have hz := zero_secret
  have hz59 := zero_begun
  obtain ⟨W, hW⟩ : ∃ W, W = (w.alloc (.cells (rowV 1088 (hF S)) 25)).alloc (.cells (rowV 1088 z0) 25) := ⟨_, rfl⟩
  have hb : Below w.heap.size w W := by rw [hW]; exact ((Below.refl _ _).alloc (Nat.le_refl _) _).alloc (by simp) _
  have hsz : W.heap.size = w.heap.size + 2 := by rw [hW]; simp
  have f0 : Fill w.heap.size 25 1088 1088 (hF S) W := by
    rw [hW]
    exact Fill.of_row (by rw [heap_lt _ _ (by simp)]; exact heap_alloc_new w _)
  have f1 : Fill (w.heap.size + 1) 25 1088 1088 z0 W := by
    rw [hW]
    exact Fill.of_row (by have := heap_alloc_new (w.alloc (.cells (rowV 1088 (hF S)) 25)) (.cells (rowV 1088 z0) 25); simpa using this)
  have HBE := Lib.hid (begin_any W)
  have HW := Lib.hid hW
  have HB := Lib.hid hb
  have H0 := Lib.hid f0
  have H1 := Lib.hid f1
  have HDC := Lib.hid hd
  clear hW hb f0 f1 hd
  go_enter Tryd.func19, Tryd.ntmps19
  go_wp2_with fail
  rw [← HW.out]
  refine HBE.out.mono ?_
  rintro e w3 ⟨rfl, hb3⟩
  have hs3 := hb3.size
  have hba := (Below.refl w3.heap.size w3).alloc (Nat.le_refl _) (.cells (rowV 72 z32) 59)
  have hr4 : ((w3.alloc (.cells (rowV 72 z32) 59)).setRow w3.heap.size (rowV 72 bgT)).heap[w3.heap.size]? = some (.cells (rowV 72 bgT) 59 (0, 0)) := setRow_heap _ _ _ _ _ _ (heap_alloc_new w3 _)
  have hb4 := below_setRow hba (Nat.le_refl _) (rowV 72 bgT)
  have hz4 : ((w3.alloc (.cells (rowV 72 z32) 59)).setRow w3.heap.size (rowV 72 bgT)).heap.size = w3.heap.size + 1 := by simp [World.setRow]
  obtain ⟨w4, hw4⟩ : ∃ w4, w4 = (w3.alloc (.cells (rowV 72 z32) 59)).setRow w3.heap.size (rowV 72 bgT) := ⟨_, rfl⟩
  have HW4 := Lib.hid hw4
  rw [← hw4] at hr4 hb4 hz4
  have HB4 := Lib.hid (hb3.trans (hb4.mono hs3))
  have HF4 := Lib.hid (Fill.of_row hr4)
  clear hb3 hba hr4 hb4 hw4
  go_wp2_with (first
    | (refine wpList_store_row rfl 59 (.tmp 7) (.tmp 12) rfl w3.heap.size (rowV 72 bgT) rfl rfl 59 (rowV 72 z32) (heap_alloc_new w3 _) (begun_size _) (by rw [rowV_size, rowV_size]) (rowV_one 72 _ (fun i => by unfold bgT rv; split <;> rfl)) ?_; rw [← HW4.out])
    | fail)
  go_loopw [8] (fun v wr => ∃ i : Nat, i ≤ 68 ∧ v = .int .i64 (i : Int) ∧ Fill w.heap.size 25 1088 1088 (hF (eachTo (refW b D) S i)) wr ∧ Fill (w.heap.size + 1) 25 1088 1088 z0 wr ∧ Fill w3.heap.size 59 72 72 bgT wr ∧ Below w.heap.size w4 wr) (fun v _ => 68 - (intOf v).toNat)
  case atStart => exact ⟨0, Nat.zero_le _, rfl, by rw [eachTo_zero]; exact H0.out.below HB4.out H0.out.lt, H1.out.below HB4.out H1.out.lt, HF4.out, Below.refl _ _⟩
  case round =>
    obtain ⟨i, hi, rfl, hn, hz1, hf4, hbw⟩ := hrel
    have hsw := hbw.size
    by_cases hlt : i < 68
    · have q1 : (i : Int) < 68 := by omega
      have hdc := (((HB.out.trans ((HB4.out.mono (by omega)).trans hbw))).cell (p := ⟨g, i, none⟩) hg).trans (HDC.out i hlt)
      have hD3 := hD i hlt
      have HN := Lib.hid hn
      have HZ1 := Lib.hid hz1
      have HF5 := Lib.hid hf4
      have HBW := Lib.hid hbw
      clear hn hz1 hf4 hbw
      cases b
      · go_wp2_with fail
        obtain ⟨x0, hx0⟩ : ∃ x0, x0 = nodeL S i := ⟨_, rfl⟩
        have hx016 : x0.length = 16 := by rw [hx0]; exact nodeL_len S hS i hlt
        have HMF := Lib.hid (show midL (refW false D) S i (walkL i (D i) (D i) x0) = eachTo (refW false D) S i by rw [walkL_none _ _ _ _ (Nat.le_refl _), hx0]; exact midL_first hS i hlt)
        have HML := Lib.hid (show midL (refW false D) S i (walkL i (D i) (3) x0) = eachTo (refW false D) S (i + 1) by rw [hx0]; exact midL_last i)
        clear hx0
        go_loopw [11] (fun v wi => ∃ k : Nat, (D i) ≤ k ∧ k ≤ (3) ∧ v = .int .i64 (k : Int) ∧ Fill w.heap.size 25 1088 1088 (hF (midL (refW false D) S i (walkL i (D i) k x0))) wi ∧ Fill (w.heap.size + 1) 25 1088 1088 z0 wi ∧ Fill w3.heap.size 59 72 72 bgT wi ∧ Below w.heap.size w4 wi) (fun v _ => (3) - (intOf v).toNat)
        case atStart => exact ⟨D i, Nat.le_refl _, by omega, rfl, by rw [HMF.out]; exact HN.out, HZ1.out, HF5.out, HBW.out⟩
        case round =>
          clear HN HZ1 HF5 HBW
          obtain ⟨k, hk1, hk2, rfl, hn, hz1, hf5, hbw⟩ := hrel
          have hsw := hbw.size
          by_cases hlt2 : k < 3
          · have q2 : (k : Int) < 3 := by omega
            have hy16 := walkL_len i (D i) k x0 hx016
            have HS := Lib.hid (walkL_succ i (D i) k x0 hk1)
            generalize walkL i (D i) k x0 = y at *
            have hat := midL_at (refW_len false D) hS i hlt y hy16
            have HPUT := Lib.hid (midL_put (refW_len false D) hS i hlt y (stepL i k y) hy16 (stepL_len i k y))
            obtain ⟨LX, hLX⟩ : ∃ LX, LX = (List.range 16).map (hF y) := ⟨_, rfl⟩
            obtain ⟨LB, hLB⟩ : ∃ LB, LB = (List.range 72).map bgT := ⟨_, rfl⟩
            have hiX : (Tryd.prog.info? 23).map (·.size) = some LX.length := by rw [hLX, List.length_map, List.length_range]; exact size_node
            have hiB : (Tryd.prog.info? 59).map (·.size) = some LB.length := by rw [hLB, List.length_map, List.length_range]; exact size_begun
            have huN := Tryd.underlying23
            have huB := Tryd.underlying59
            have HST : Hid (∀ u, Calls Tryd.prog 29 #[.agg LX.toArray, .int .i64 (i : Int), .int .i64 (k : Int)] u (OwnB u ([87, UInt8.ofNat i, UInt8.ofNat k] ++ y))) := by rw [hLX]; exact fun u => refStepText_c y hy16 i k (by omega) (by omega) u
            have HHF : Hid (∀ (A : Option Addr) (c lo : Nat) (u : World), Rd u lo u.heap.size A ([87, UInt8.ofNat i, UInt8.ofNat k] ++ y) → Calls Tryd.prog 28 #[.agg LB.toArray, .slice A ([87, UInt8.ofNat i, UInt8.ofNat k] ++ y).length c] u fun e w' => e = .returned (.agg (rowV 16 (hF (stepL i k y)))) ∧ Below u.heap.size u w') := by
              rw [hLB]
              exact fun A c lo u hr => half_c A c lo _ u hr (by simp [hy16])
            have HLB : Hid (∀ u : World, u.heap[w3.heap.size]? = wr.heap[w3.heap.size]? → u.rangeAt w3.heap.size 0 LB) := by
              rw [hLB]
              exact fun u hu => (hf5.keep hu).range 0 72 bgT (by omega) (fun j _ => by rw [Nat.zero_add])
            have HLX : Hid (∀ u : World, Below wr.heap.size wr u → u.rangeAt w.heap.size (i * 16) LX) := by
              rw [hLX]
              exact fun u hu => (hn.below hu hn.lt).range (i * 16) 16 (hF y) (by omega) (fun j hj => (hat j hj).symm)
            have k0 := HLB.out wr.drew rfl
            have kx := HLX.out _ (Below.refl wr.heap.size wr).drew
            have hl5 := hf5.lt
            have HN := Lib.hid hn
            have HZ1 := Lib.hid hz1
            have HF5 := Lib.hid hf5
            have HBW := Lib.hid hbw
            have HY16 := Lib.hid hy16
            clear hn hz1 hf5 hbw hat hLX hLB hy16
            go_wp2_with fail
            rename_i K1 hK1
            refine wp_region_noPanic ?_
            refine wp_region_held_drew (S := fun u => u.rangeAt w3.heap.size 0 LB) (by kernel_rfl) k0 (fun hHeld => ?_)
            refine wpAnyH_take (i := 0) (oi := _) (v := .int .i64 (i : Int)) rfl (by kernel_rfl) (by kernel_rfl) (by kernel_rfl) (fun _ _ _ h => h) (Or.inl ⟨by rfl, by intro w hSw; go_simp⟩) hHeld ?_
            refine wpAnyH_take (i := 1) (oi := _) (v := .agg LB.toArray) rfl (by kernel_rfl) (by kernel_rfl) (by kernel_rfl) (fun _ _ _ h => h) (yieldsIf_load_mid (by rfl) _ _ rfl w3.heap.size 0 rfl LB _ (fun w h => h) huB rfl hiB) hHeld ?_
            refine wpAnyH_take (i := 2) (oi := _) (v := .int .i64 (i : Int)) rfl (by kernel_rfl) (by kernel_rfl) (by kernel_rfl) (fun _ _ _ h => h) (Or.inl ⟨by rfl, by intro w hSw; go_simp⟩) hHeld ?_
            refine wpAnyH_take (i := 3) (oi := _) (v := .pointer (some ⟨w.heap.size, i * 16, none⟩)) rfl (by kernel_rfl) (by kernel_rfl) (by kernel_rfl) (fun _ _ _ h => h) (Or.inl ⟨by rfl, by intro w hSw; go_simp⟩) hHeld ?_
            refine wpAnyH_take (i := 5) (oi := _) (v := .int .i64 (i : Int)) rfl (by kernel_rfl) (by kernel_rfl) (by kernel_rfl) (fun _ _ _ h => h) (Or.inl ⟨by rfl, by intro w hSw; go_simp⟩) hHeld ?_
            refine wpAnyH_take (i := 6) (oi := _) (v := .int .i64 (k : Int)) rfl (by kernel_rfl) (by kernel_rfl) (by kernel_rfl) (fun _ _ _ h => h) (Or.inl ⟨by rfl, by intro w hSw; go_simp⟩) hHeld ?_
            refine wpAnyH_ready (rs := [4]) (by kernel_rfl) (by simp) ?_
            refine readyH_load rfl rfl 23 (.tmp 35) rfl w.heap.size (i * 16) rfl LX _ kx huN rfl hiX (some 36) rfl k0 (fun hHeld => ?_)
            refine wpAnyH_ready (rs := [7]) (by kernel_rfl) (by simp) ?_
            refine AllReadyH.cons (o := _) rfl (fun K hK => ?_) AllReadyH.nil
            go_simp
            go_at_call 29
            refine (HST.out _).mono ?_
            rintro e w5 ⟨v5, rfl, hb5, hr5⟩
            have HB5 := Lib.hid (((Below.refl wr.heap.size wr).drew).trans hb5)
            have k1 := HLB.out w5 (HB5.out.block _ hl5)
            obtain ⟨A5, c5, e5, hc5, hA5⟩ := rowForm hr5
            have hrd5 := (Ow.of_own (e5 ▸ hr5)).1.rd
            subst e5
            have hh := HHF.out A5 c5 _ w5 hrd5
            clear hb5 hr5 hA5 hc5 hrd5
            go_simp
            refine hK.out _ _ k1 (fun hHeld => ?_)
            clear hK K
            refine wpAnyH_ready (rs := [8]) (by kernel_rfl) (by simp) ?_
            refine AllReadyH.cons (o := _) rfl (fun K hK => ?_) AllReadyH.nil
            go_simp
            go_at_call 28
            refine hh.mono ?_
            rintro e w6 ⟨rfl, hb6⟩
            have HB6 := Lib.hid (HB5.out.trans (hb6.mono HB5.out.size))
            have k2 := HLB.out w6 (HB6.out.block _ hl5)
            clear hb6 hh
            go_simp
            refine hK.out _ _ k2 (fun hHeld => ?_)
            clear hK K
            refine wpAnyH_ready (rs := [9]) (by kernel_rfl) (by simp) ?_
            refine AllReadyH.cons (o := _) rfl (fun K hK => ?_) AllReadyH.nil
            go_simp
            refine hK.out _ _ k2 (fun hHeld => ?_)
            clear hK K
            refine wpAnyH_ready (rs := [10]) (by kernel_rfl) (by simp) ?_
            refine AllReadyH.cons (o := _) rfl (fun K hK => ?_) AllReadyH.nil
            refine step_store_midW rfl 23 (.tmp 41) (.tmp 40) rfl w.heap.size (i * 16) (rowV 16 (hF (stepL i k y))) rfl rfl (by rw [rowV_size]; exact (HN.out.below HB6.out HN.out.lt).there (i * 16) 16 (by omega)) (size_nodeV _) (rowV_one 16 _ (fun i => rfl)) none rfl ?_
            have hn7 := fill_node (HN.out.below HB6.out HN.out.lt) (Nat.mul_comm i 16) (by omega) HPUT.out
            have hz7 : Fill (w.heap.size + 1) 25 1088 1088 z0 (w6.setCells w.heap.size (i * 16) (rowV 16 (hF (stepL i k y))).toList) := (HZ1.out.below HB6.out HZ1.out.lt).keep (setCells_block _ _ _ _ (by omega))
            have hf7 : Fill w3.heap.size 59 72 72 bgT (w6.setCells w.heap.size (i * 16) (rowV 16 (hF (stepL i k y))).toList) := (HF5.out.below HB6.out HF5.out.lt).keep (setCells_block _ _ _ _ (by omega))
            have hb7 : Below w.heap.size w4 (w6.setCells w.heap.size (i * 16) (rowV 16 (hF (stepL i k y))).toList) := below_cells (HBW.out.trans (HB6.out.mono (by omega))) (Nat.le_refl _) _ _
            have k3 := HLB.out (w6.setCells w.heap.size (i * 16) (rowV 16 (hF (stepL i k y))).toList) ((setCells_block _ _ _ _ (by omega)).trans (HB6.out.block _ hl5))
            obtain ⟨w7, hw7⟩ : ∃ w7, w7 = w6.setCells w.heap.size (i * 16) (rowV 16 (hF (stepL i k y))).toList := ⟨_, rfl⟩
            rw [← hw7] at hn7 hz7 hf7 hb7 k3 ⊢
            have HN7 := Lib.hid hn7
            have HZ7 := Lib.hid hz7
            have HF7 := Lib.hid hf7
            have HB7 := Lib.hid hb7
            clear hw7 hn7 hz7 hf7 hb7
            go_simp
            refine hK.out _ _ k3 (fun hHeld => ?_)
            clear hK K
            refine wpAnyH_done (by kernel_rfl) ?_ _
            refine NoPanic.normal ?_
            first | apply hK1 | skip
            go_wp2_with fail
            refine ⟨⟨k + 1, by omega, by omega, by go_num, ?_, HZ7.out, HF7.out, HB7.out⟩, by simp [intOf]; omega⟩
            rw [HS.out]
            exact HN7.out
          · obtain rfl : k = 3 := by omega
            rw [HML.out] at hn
            have HN := Lib.hid hn
            have HZ1 := Lib.hid hz1
            have HF5 := Lib.hid hf5
            have HBW := Lib.hid hbw
            clear hn hz1 hf5 hbw
            go_wp2_with fail
            exact ⟨⟨i + 1, by omega, by go_num, HN.out, HZ1.out, HF5.out, HBW.out⟩, by simp [intOf]; omega⟩
      · go_wp2_with fail
        go_quiet (fail)
        go_wp2_with fail
        replace HBW := Lib.hid (below_drewN HBW.out nq)
        obtain ⟨x0, hx0⟩ : ∃ x0, x0 = nodeL S i := ⟨_, rfl⟩
        have hx016 : x0.length = 16 := by rw [hx0]; exact nodeL_len S hS i hlt
        have HMF := Lib.hid (show midL (refW true D) S i (walkL i (0) (0) x0) = eachTo (refW true D) S i by rw [walkL_none _ _ _ _ (Nat.le_refl _), hx0]; exact midL_first hS i hlt)
        have HML := Lib.hid (show midL (refW true D) S i (walkL i (0) (D i) x0) = eachTo (refW true D) S (i + 1) by rw [hx0]; exact midL_last i)
        clear hx0
        go_loopw [11] (fun v wi => ∃ k : Nat, (0) ≤ k ∧ k ≤ (D i) ∧ v = .int .i64 (k : Int) ∧ Fill w.heap.size 25 1088 1088 (hF (midL (refW true D) S i (walkL i (0) k x0))) wi ∧ Fill (w.heap.size + 1) 25 1088 1088 z0 wi ∧ Fill w3.heap.size 59 72 72 bgT wi ∧ Below w.heap.size w4 wi) (fun v _ => (D i) - (intOf v).toNat)
        case atStart => exact ⟨0, Nat.le_refl _, by omega, rfl, by rw [HMF.out]; exact HN.out, HZ1.out, HF5.out, HBW.out⟩
        case round =>
          clear HN HZ1 HF5 HBW
          obtain ⟨k, hk1, hk2, rfl, hn, hz1, hf5, hbw⟩ := hrel
          have hsw := hbw.size
          by_cases hlt2 : k < D i
          · have q2 : (k : Int) < ((D i : Nat) : Int) := by omega
            have hy16 := walkL_len i (0) k x0 hx016
            have HS := Lib.hid (walkL_succ i (0) k x0 hk1)
            generalize walkL i (0) k x0 = y at *
            have hat := midL_at (refW_len true D) hS i hlt y hy16
            have HPUT := Lib.hid (midL_put (refW_len true D) hS i hlt y (stepL i k y) hy16 (stepL_len i k y))
            obtain ⟨LX, hLX⟩ : ∃ LX, LX = (List.range 16).map (hF y) := ⟨_, rfl⟩
            obtain ⟨LB, hLB⟩ : ∃ LB, LB = (List.range 72).map bgT := ⟨_, rfl⟩
            have hiX : (Tryd.prog.info? 23).map (·.size) = some LX.length := by rw [hLX, List.length_map, List.length_range]; exact size_node
            have hiB : (Tryd.prog.info? 59).map (·.size) = some LB.length := by rw [hLB, List.length_map, List.length_range]; exact size_begun
            have huN := Tryd.underlying23
            have huB := Tryd.underlying59
            have HST : Hid (∀ u, Calls Tryd.prog 29 #[.agg LX.toArray, .int .i64 (i : Int), .int .i64 (k : Int)] u (OwnB u ([87, UInt8.ofNat i, UInt8.ofNat k] ++ y))) := by rw [hLX]; exact fun u => refStepText_c y hy16 i k (by omega) (by omega) u
            have HHF : Hid (∀ (A : Option Addr) (c lo : Nat) (u : World), Rd u lo u.heap.size A ([87, UInt8.ofNat i, UInt8.ofNat k] ++ y) → Calls Tryd.prog 28 #[.agg LB.toArray, .slice A ([87, UInt8.ofNat i, UInt8.ofNat k] ++ y).length c] u fun e w' => e = .returned (.agg (rowV 16 (hF (stepL i k y)))) ∧ Below u.heap.size u w') := by
              rw [hLB]
              exact fun A c lo u hr => half_c A c lo _ u hr (by simp [hy16])
            have HLB : Hid (∀ u : World, u.heap[w3.heap.size]? = wr.heap[w3.heap.size]? → u.rangeAt w3.heap.size 0 LB) := by
              rw [hLB]
              exact fun u hu => (hf5.keep hu).range 0 72 bgT (by omega) (fun j _ => by rw [Nat.zero_add])
            have HLX : Hid (∀ u : World, Below wr.heap.size wr u → u.rangeAt w.heap.size (i * 16) LX) := by
              rw [hLX]
              exact fun u hu => (hn.below hu hn.lt).range (i * 16) 16 (hF y) (by omega) (fun j hj => (hat j hj).symm)
            have k0 := HLB.out wr.drew rfl
            have kx := HLX.out _ (Below.refl wr.heap.size wr).drew
            have hl5 := hf5.lt
            have HN := Lib.hid hn
            have HZ1 := Lib.hid hz1
            have HF5 := Lib.hid hf5
            have HBW := Lib.hid hbw
            have HY16 := Lib.hid hy16
            clear hn hz1 hf5 hbw hat hLX hLB hy16
            go_wp2_with fail
            rename_i K1 hK1
            refine wp_region_noPanic ?_
            refine wp_region_held_drew (S := fun u => u.rangeAt w3.heap.size 0 LB) (by kernel_rfl) k0 (fun hHeld => ?_)
            refine wpAnyH_take (i := 0) (oi := _) (v := .int .i64 (i : Int)) rfl (by kernel_rfl) (by kernel_rfl) (by kernel_rfl) (fun _ _ _ h => h) (Or.inl ⟨by rfl, by intro w hSw; go_simp⟩) hHeld ?_
            refine wpAnyH_take (i := 1) (oi := _) (v := .agg LB.toArray) rfl (by kernel_rfl) (by kernel_rfl) (by kernel_rfl) (fun _ _ _ h => h) (yieldsIf_load_mid (by rfl) _ _ rfl w3.heap.size 0 rfl LB _ (fun w h => h) huB rfl hiB) hHeld ?_
            refine wpAnyH_take (i := 2) (oi := _) (v := .int .i64 (i : Int)) rfl (by kernel_rfl) (by kernel_rfl) (by kernel_rfl) (fun _ _ _ h => h) (Or.inl ⟨by rfl, by intro w hSw; go_simp⟩) hHeld ?_
            refine wpAnyH_take (i := 3) (oi := _) (v := .pointer (some ⟨w.heap.size, i * 16, none⟩)) rfl (by kernel_rfl) (by kernel_rfl) (by kernel_rfl) (fun _ _ _ h => h) (Or.inl ⟨by rfl, by intro w hSw; go_simp⟩) hHeld ?_
            refine wpAnyH_take (i := 5) (oi := _) (v := .int .i64 (i : Int)) rfl (by kernel_rfl) (by kernel_rfl) (by kernel_rfl) (fun _ _ _ h => h) (Or.inl ⟨by rfl, by intro w hSw; go_simp⟩) hHeld ?_
            refine wpAnyH_take (i := 6) (oi := _) (v := .int .i64 (k : Int)) rfl (by kernel_rfl) (by kernel_rfl) (by kernel_rfl) (fun _ _ _ h => h) (Or.inl ⟨by rfl, by intro w hSw; go_simp⟩) hHeld ?_
            refine wpAnyH_ready (rs := [4]) (by kernel_rfl) (by simp) ?_
            refine readyH_load rfl rfl 23 (.tmp 35) rfl w.heap.size (i * 16) rfl LX _ kx huN rfl hiX (some 36) rfl k0 (fun hHeld => ?_)
            refine wpAnyH_ready (rs := [7]) (by kernel_rfl) (by simp) ?_
            refine AllReadyH.cons (o := _) rfl (fun K hK => ?_) AllReadyH.nil
            go_simp
            go_at_call 29
            refine (HST.out _).mono ?_
            rintro e w5 ⟨v5, rfl, hb5, hr5⟩
            have HB5 := Lib.hid (((Below.refl wr.heap.size wr).drew).trans hb5)
            have k1 := HLB.out w5 (HB5.out.block _ hl5)
            obtain ⟨A5, c5, e5, hc5, hA5⟩ := rowForm hr5
            have hrd5 := (Ow.of_own (e5 ▸ hr5)).1.rd
            subst e5
            have hh := HHF.out A5 c5 _ w5 hrd5
            clear hb5 hr5 hA5 hc5 hrd5
            go_simp
            refine hK.out _ _ k1 (fun hHeld => ?_)
            clear hK K
            refine wpAnyH_ready (rs := [8]) (by kernel_rfl) (by simp) ?_
            refine AllReadyH.cons (o := _) rfl (fun K hK => ?_) AllReadyH.nil
            go_simp
            go_at_call 28
            refine hh.mono ?_
            rintro e w6 ⟨rfl, hb6⟩
            have HB6 := Lib.hid (HB5.out.trans (hb6.mono HB5.out.size))
            have k2 := HLB.out w6 (HB6.out.block _ hl5)
            clear hb6 hh
            go_simp
            refine hK.out _ _ k2 (fun hHeld => ?_)
            clear hK K
            refine wpAnyH_ready (rs := [9]) (by kernel_rfl) (by simp) ?_
            refine AllReadyH.cons (o := _) rfl (fun K hK => ?_) AllReadyH.nil
            go_simp
            refine hK.out _ _ k2 (fun hHeld => ?_)
            clear hK K
            refine wpAnyH_ready (rs := [10]) (by kernel_rfl) (by simp) ?_
            refine AllReadyH.cons (o := _) rfl (fun K hK => ?_) AllReadyH.nil
            refine step_store_midW rfl 23 (.tmp 41) (.tmp 40) rfl w.heap.size (i * 16) (rowV 16 (hF (stepL i k y))) rfl rfl (by rw [rowV_size]; exact (HN.out.below HB6.out HN.out.lt).there (i * 16) 16 (by omega)) (size_nodeV _) (rowV_one 16 _ (fun i => rfl)) none rfl ?_
            have hn7 := fill_node (HN.out.below HB6.out HN.out.lt) (Nat.mul_comm i 16) (by omega) HPUT.out
            have hz7 : Fill (w.heap.size + 1) 25 1088 1088 z0 (w6.setCells w.heap.size (i * 16) (rowV 16 (hF (stepL i k y))).toList) := (HZ1.out.below HB6.out HZ1.out.lt).keep (setCells_block _ _ _ _ (by omega))
            have hf7 : Fill w3.heap.size 59 72 72 bgT (w6.setCells w.heap.size (i * 16) (rowV 16 (hF (stepL i k y))).toList) := (HF5.out.below HB6.out HF5.out.lt).keep (setCells_block _ _ _ _ (by omega))
            have hb7 : Below w.heap.size w4 (w6.setCells w.heap.size (i * 16) (rowV 16 (hF (stepL i k y))).toList) := below_cells (HBW.out.trans (HB6.out.mono (by omega))) (Nat.le_refl _) _ _
            have k3 := HLB.out (w6.setCells w.heap.size (i * 16) (rowV 16 (hF (stepL i k y))).toList) ((setCells_block _ _ _ _ (by omega)).trans (HB6.out.block _ hl5))
            obtain ⟨w7, hw7⟩ : ∃ w7, w7 = w6.setCells w.heap.size (i * 16) (rowV 16 (hF (stepL i k y))).toList := ⟨_, rfl⟩
            rw [← hw7] at hn7 hz7 hf7 hb7 k3 ⊢
            have HN7 := Lib.hid hn7
            have HZ7 := Lib.hid hz7
            have HF7 := Lib.hid hf7
            have HB7 := Lib.hid hb7
            clear hw7 hn7 hz7 hf7 hb7
            go_simp
            refine hK.out _ _ k3 (fun hHeld => ?_)
            clear hK K
            refine wpAnyH_done (by kernel_rfl) ?_ _
            refine NoPanic.normal ?_
            first | apply hK1 | skip
            go_wp2_with fail
            refine ⟨⟨k + 1, by omega, by omega, by go_num, ?_, HZ7.out, HF7.out, HB7.out⟩, by simp [intOf]; omega⟩
            rw [HS.out]
            exact HN7.out
          · obtain rfl : k = D i := by omega
            rw [HML.out] at hn
            have HN := Lib.hid hn
            have HZ1 := Lib.hid hz1
            have HF5 := Lib.hid hf5
            have HBW := Lib.hid hbw
            clear hn hz1 hf5 hbw
            go_wp2_with fail
            exact ⟨⟨i + 1, by omega, by go_num, HN.out, HZ1.out, HF5.out, HBW.out⟩, by simp [intOf]; omega⟩
    · obtain rfl : i = 68 := by omega
      rw [eachTo_all hS] at hn
      have HBW := Lib.hid hbw
      have h2 := hn.done
      have h3 := hz1.done
      obtain ⟨Y, hY⟩ : ∃ Y, Y = eachL (refW b D) S := ⟨_, rfl⟩
      rw [← hY] at h2
      have HY := Lib.hid hY
      clear hbw hn hz1 hf4 hY
      go_wp2_with (first
        | (refine wpList_load_row rfl 25 (.tmp 3) rfl w.heap.size rfl 25 (rowV 1088 (hF Y)) (0, 0) _ h2 Tryd.underlying25 rfl (size_secret _) ?_)
        | (refine wpList_store_row rfl 25 (.tmp 6) (.tmp 42) rfl (w.heap.size + 1) (rowV 1088 (hF Y)) rfl rfl 25 (rowV 1088 z0) h3 (size_secret _) (by rw [rowV_size, rowV_size]) (rowV_one 1088 _ (fun i => rfl)) ?_)
        | fail)
      exact bodyPost_ret (v := .agg (rowV 1088 (hF Y))) (results_cell_row rfl _ _ (w.heap.size + 1) 25 (rowV 1088 (hF Y)) (0, 0) _ rfl (setRow_heap _ _ _ _ _ _ h3) Tryd.underlying25 rfl (size_secret _)) rfl ⟨by rw [HY.out], below_setRow (HB.out.trans ((HB4.out.mono (by omega)).trans HBW.out)) (by omega) _⟩
end Go.Proofs.YtgdiffjobkfmoaaDoorRR
