/- The reference's Clash: where two unlike texts have one hash it tells so. -/
import Derived.Test.YtoippbgnaadebaaDoorTrTexts
import Derived.Test.YtoippbgnaadebaaDoorStr
namespace Go.Proofs.YtoippbgnaadebaaDoor
open Go.ChangeShapes Go.WideShapes Go.ChangeAt Go.RowKit
set_option linter.unusedVariables false

/-- Two unlike texts have one hash. -/
def ClashP (l : List (List UInt8)) : Prop := ∃ i k, i < k ∧ k < l.length ∧ shaL (l.getD i []) = shaL (l.getD k []) ∧ l.getD i [] ≠ l.getD k []
/-- The sums as far as they are found. -/
def smF (l : List (List UInt8)) (k : Nat) : Nat → Value := fun j => if j / 32 < k then hF (shaL (l.getD (j / 32) [])) (j % 32) else z8 j
theorem smF_zero (l : List (List UInt8)) : smF l 0 = z8 := by
  funext j
  unfold smF
  rw [if_neg (by omega)]
theorem smF_succ (l : List (List UInt8)) (k n : Nat) (j : Nat) : smF l (k + 1) j = if k * 32 ≤ j ∧ j < k * 32 + (hC (shaL (l.getD k []))).length then (hC (shaL (l.getD k []))).getD (j - k * 32) undef else smF l k j := by
  rw [hC_len]
  unfold smF
  by_cases h : k * 32 ≤ j ∧ j < k * 32 + 32
  · have e1 : j / 32 = k := by omega
    have e2 : j - k * 32 = j % 32 := by omega
    rw [if_pos h, if_pos (by omega), e1, e2]
    generalize shaL (l.getD k []) = z
    unfold hC
    rw [List.getD_eq_getElem?_getD, List.getElem?_map, List.getElem?_range (Nat.mod_lt _ (by omega))]
    rfl
  · rw [if_neg h]
    by_cases h2 : j / 32 < k
    · rw [if_pos h2, if_pos (by omega)]
    · rw [if_neg h2, if_neg (by omega)]
theorem smF_at (l : List (List UInt8)) (n i j : Nat) (hi : i < n) (hj : j < 32) : hF (shaL (l.getD i [])) j = smF l n (i * 32 + j) := by
  unfold smF
  rw [show (i * 32 + j) / 32 = i by omega, show (i * 32 + j) % 32 = j by omega, if_pos hi]
section
variable {P : Program} {w w' : World}
/-- The store of a part of a row as a step of a region that draws its order. -/
theorem step_store_midT {ops : Array Oper} {o : Oper} {a : Act} {K : Act → World → Prop} {Q : Exit → Act → World → Prop} {E : Prop} (hgd : o.guard = none) (ty : TypeId) (x y : Operand) (ho : o.op = .store ty x y)
    (b off : Nat) (cells : Array Value) (hx : a.eval x = .pointer (some ⟨b, off, none⟩)) (hy : a.eval y = .agg cells)
    (ht : w.there b off cells.size) (hi : (P.info? ty).map (·.size) = some cells.size) (h1 : cells.all (·.oneCell') = true) (dst : Option Tmp) (hdst : o.dst = dst)
    (h : K (a.put dst undef) (w.setCells b off cells.toList)) : if Region.wanted o (yielded ops a.tmps) = true then Oper.wp P o a w K Q else E := by
  subst hdst
  have hw : Region.wanted o (yielded ops a.tmps) = true := by simp [Region.wanted, hgd]
  rw [if_pos hw]
  exact wp_store_mid ty x y ho b off cells hx hy ht hi h1 h
theorem wpList_makeSlice_as {ops : Array Oper} {rest : List Oper} {o : Oper} {a : Act} {Q : Exit → Act → World → Prop} (hg : o.guard = none) (t : TypeId) (x y : Operand) (ho : o.op = .makeSlice t x y) (v : Value)
    (hrun : (Instr.makeSlice t (a.eval x) (a.eval y)).run P w = .ok v w') (h : wpList P ops Q rest (a.put o.dst v) w') : wpList P ops Q (o :: rest) a w :=
  wpList_plain hg fun _ hK => by
    unfold Oper.wp execOp
    simp only [ho, Sem.run_bind, hrun, Result.andThen_ok]
    exact hK _ _ h
end
theorem hashz_info : (Tryd.prog.info? 25).map (fun i => (i.zero, i.size, i.bytes)) = some (some (.agg (rowV 32 z8)), 32, 32) := by kernel_rfl
theorem make_hashes (u : World) (n : Nat) (hn : n ≤ 1000000) : (Instr.makeSlice 22 (.int .i64 (n : Int)) (.int .i64 (n : Int))).run Tryd.prog u = .ok (.slice (some ⟨u.heap.size, 0, none⟩) n n) (u.alloc (.cells (rowV (n * 32) z8) 25)) := by
  obtain ⟨i, hi, hzz⟩ := Option.map_eq_some_iff.1 hashz_info
  simp only [Prod.mk.injEq] at hzz
  obtain ⟨hz, hs, hb⟩ := hzz
  have hr := run_make (P := Tryd.prog) u 22 25 i _ Tryd.underlying22 hi hz .i64 .i64 n n (by omega) (Int.le_refl _) (by rw [hb]; omega) (by omega)
  simp only [Int.toNat_natCast, hs] at hr
  rw [hr]
  congr 3
  apply Array.ext
  · rw [size_madeCells, rowV_size]
  · intro j h1 h2
    have e2 := (Array.getElem?_eq_some_iff.1 (rowV_at (n * 32) z8 j (by rw [rowV_size] at h2; exact h2))).2
    rw [e2]
    simp only [madeCells, Array.getElem_map, Array.getElem_range]
    rw [getElem!_def, show (Value.agg (rowV 32 z8)).cells = rowV 32 z8 from rfl, rowV_size, rowV_at 32 z8 (j % 32) (Nat.mod_lt _ (by omega))]
    rfl
theorem quiet_load_mid {P : Program} {C : World → Prop} {a : Act} {o : Oper} {K : Act → Prop} (ty : TypeId) (x : Operand) (ho : o.op = .load ty x) (b off : Nat) (hx : a.eval x = .pointer (some ⟨b, off, none⟩)) (cs : List Value) (d : TypeDesc)
    (hC : ∀ w, C w → w.rangeAt b off cs) (hu : P.underlying ty = some d) (hd : d.isRow = true) (hi : (P.info? ty).map (·.size) = some cs.length) (hk : K (a.put o.dst (.agg cs.toArray))) : o.quiet P a C K :=
  ⟨_, fun w hw => by
    unfold Oper.quietAt execOp
    simp only [ho, hx, Instr.loadAt, Instr.sureAddr, Sem.run_bind, Sem.run_pure, Result.andThen_ok, run_loadVar_mid w b off ty cs d (hC w hw) hu hd hi]
    exact ⟨rfl, rfl⟩, hk⟩
def bC : List Value := (List.range 72).map bgT
theorem bC_len : bC.length = 72 := by unfold bC; rw [List.length_map, List.length_range]
theorem bC_info : (Tryd.prog.info? 53).map (·.size) = some bC.length := by rw [bC_len]; exact size_begun
theorem begun_under : Tryd.prog.underlying 53 = Tryd.prog.underlying 53 := rfl

set_option maxRecDepth 100000 in
set_option maxHeartbeats 8000000 in
theorem clash_c (A : Option Addr) (c : Nat) (L : List Pc) (w : World) (h : RdL w w.heap.size A L) (hn : L.length ≤ 1000000) (hl : ∀ x ∈ L, x.2.2.length < 1000000000) :
    Calls Tryd.prog 15 #[.slice A L.length c] w fun e w' => ∃ b, e = .returned (.bool b) ∧ Below w.heap.size w w' ∧ (ClashP (L.map (fun (q : Pc) => q.2.2)) → b = true) := by
  have hz := zero_begun
  obtain ⟨l, hll⟩ : ∃ l, l = L.map (fun (q : Pc) => q.2.2) := ⟨_, rfl⟩
  have HLN := Lib.hid (show l.length = L.length by rw [hll, List.length_map])
  have HLX : Hid (∀ k x, L[k]? = some x → l.getD k [] = x.2.2) := fun k x e => by rw [hll, List.getD_eq_getElem?_getD, List.getElem?_map, e]; rfl
  rw [← hll]
  clear hll
  go_enter Tryd.func15, Tryd.ntmps15
  go_wp2_with fail
  refine (begin_any w).mono ?_
  rintro e w1 ⟨rfl, b1⟩
  have B1 := Lib.hid b1
  clear b1
  obtain ⟨g1, hg1⟩ : ∃ g, g = w1.heap.size := ⟨_, rfl⟩
  obtain ⟨w2, hw2⟩ : ∃ w2, w2 = w1.alloc (.cells (rowV 72 bgT) 53) := ⟨_, rfl⟩
  obtain ⟨w3, hw3⟩ : ∃ w3, w3 = w2.alloc (.cells (rowV (L.length * 32) z8) 25) := ⟨_, rfl⟩
  have hs2 : w2.heap.size = g1 + 1 := by rw [hw2, hg1]; simp
  have f2 : Fill g1 53 72 72 bgT w3 := by
    rw [hw3]
    exact (Fill.of_row (by rw [hw2, hg1]; exact heap_alloc_new _ _)).keep (heap_lt _ _ (by omega))
  have f3 : Fill (g1 + 1) 25 (L.length * 32) (L.length * 32) (smF l 0) w3 := by
    rw [smF_zero, hw3, ← hs2]
    exact Fill.of_row (heap_alloc_new _ _)
  have bb : Below w.heap.size w w3 := by rw [hw3, hw2]; exact B1.out.trans ((((Below.refl _ _).alloc B1.out.size _).alloc (by have := B1.out.size; simp; omega) _))
  have HG := Lib.hid (show w.heap.size ≤ g1 by rw [hg1]; exact B1.out.size)
  have HW2 := Lib.hid hw2
  have HW3 := Lib.hid hw3
  have HM := Lib.hid (make_hashes w2 L.length hn)
  have F2 := Lib.hid f2
  have F3 := Lib.hid f3
  have BB := Lib.hid bb
  have HS2 := Lib.hid hs2
  have HG1 := Lib.hid hg1
  clear hw3 f2 f3 bb hs2 hw2 hg1
  go_wp2_with (first
    | (refine wpList_store_row rfl 53 (.tmp 3) (.tmp 8) rfl w1.heap.size (rowV 72 bgT) rfl rfl 53 (rowV 72 z32) (heap_alloc_new _ _) (begun_size _) (by rw [rowV_size, rowV_size]) (rowV_one 72 _ (fun i => by unfold bgT rv; split <;> rfl)) ?_; rw [World.setRow_alloc_new, ← HW2.out, ← HG1.out])
    | (refine wpList_makeSlice_as (v := .slice (some ⟨g1 + 1, 0, none⟩) L.length L.length) (w' := w3) rfl 22 (.tmp 10) (.tmp 10) rfl ?hr ?_; case hr => (have hm := HM.out; rw [HS2.out, ← HW3.out] at hm; exact hm))
    | fail)
  go_loopw [5] (fun v wr => ∃ k : Nat, k ≤ L.length ∧ v = .int .i64 (k : Int) ∧ Fill g1 53 72 72 bgT wr ∧ Fill (g1 + 1) 25 (L.length * 32) (L.length * 32) (smF l k) wr ∧ Below w.heap.size w wr) (fun v _ => L.length - (intOf v).toNat)
  case atStart => exact ⟨0, by omega, rfl, F2.out, F3.out, BB.out⟩
  case round =>
    obtain ⟨k, hk, rfl, f2, f3, bb⟩ := hrel
    clear F2 F3 BB
    by_cases hlt : k < L.length
    · obtain ⟨x, hx⟩ : ∃ x, L[k]? = some x := ⟨_, List.getElem?_eq_getElem hlt⟩
      obtain ⟨bl, off, rfl, hbl, hcell⟩ := h.1 (by omega)
      have hc := hcell k x hx
      have hmem : x ∈ L := List.mem_of_getElem? hx
      have hrd := h.2 x hmem
      have hlx := hl x hmem
      have HX := Lib.hid (HLX.out k x hx)
      have q2 : (k : Int) < (L.length : Int) := by omega
      have g1lt := f2.lt
      have g2lt := f3.lt
      have k0 : wr.rangeAt g1 0 bC ∧ wr.cell? ⟨bl, off + k, none⟩ = some (.slice x.1 x.2.2.length x.2.1) := ⟨f2.range 0 72 bgT (by omega) (fun j hj => by rw [Nat.zero_add]), (bb.cell hbl).trans hc⟩
      have hS := Lib.hid (begunSum_any x.1 x.2.1 0 x.2.2 wr.drew ((hrd.below bb (Nat.le_refl _)).wide (Nat.le_refl _) bb.size) hlx)
      have F2 := Lib.hid f2
      have F3 := Lib.hid f3
      have BB := Lib.hid bb
      clear f2 f3 bb hx hrd hlx hcell hc hmem
      go_wp2_with fail
      rename_i K1 hK1
      refine wp_region_noPanic ?_
      refine wp_region_held_drew (S := fun u => u.rangeAt g1 0 bC ∧ u.cell? ⟨bl, off + k, none⟩ = some (.slice x.1 x.2.2.length x.2.1)) (by kernel_rfl) k0 (fun hHeld => ?_)
      refine wpAnyH_take (i := 0) (oi := _) (v := .slice (some ⟨g1 + 1, 0, none⟩) L.length L.length) rfl (by kernel_rfl) (by kernel_rfl) (by kernel_rfl) (fun _ _ _ h => h) (Or.inl ⟨by rfl, by intro w hSw; go_simp⟩) hHeld ?_
      refine wpAnyH_take (i := 1) (oi := _) (v := .int .i64 (k : Int)) rfl (by kernel_rfl) (by kernel_rfl) (by kernel_rfl) (fun _ _ _ h => h) (Or.inl ⟨by rfl, by intro w hSw; go_simp⟩) hHeld ?_
      refine wpAnyH_take (i := 2) (oi := _) (v := .agg bC.toArray) rfl (by kernel_rfl) (by kernel_rfl) (by kernel_rfl) (fun _ _ _ h => h) (yieldsIf_load_mid (by rfl) _ _ rfl g1 0 rfl bC _ (fun w h => h.1) Tryd.underlying53 rfl bC_info) hHeld ?_
      refine wpAnyH_take (i := 3) (oi := _) (v := .slice (some ⟨bl, off, none⟩) L.length c) rfl (by kernel_rfl) (by kernel_rfl) (by kernel_rfl) (fun _ _ _ h => h) (Or.inl ⟨by rfl, by intro w hSw; go_simp⟩) hHeld ?_
      refine wpAnyH_take (i := 4) (oi := _) (v := .int .i64 (k : Int)) rfl (by kernel_rfl) (by kernel_rfl) (by kernel_rfl) (fun _ _ _ h => h) (Or.inl ⟨by rfl, by intro w hSw; go_simp⟩) hHeld ?_
      refine wpAnyH_take (i := 5) (oi := _) (v := .pointer (some ⟨bl, off + k, none⟩)) rfl (by kernel_rfl) (by kernel_rfl) (by kernel_rfl) (fun _ _ _ h => h) (Or.inl ⟨by rfl, by intro w hSw; go_simp⟩) hHeld ?_
      refine wpAnyH_take (i := 6) (oi := _) (v := .slice x.1 x.2.2.length x.2.1) rfl (by kernel_rfl) (by kernel_rfl) (by kernel_rfl) (fun _ _ _ h => h) (Or.inl ⟨by rfl, by intro w hSw; have := hSw.2; go_simp⟩) hHeld ?_
      refine wpAnyH_ready (rs := [7]) (by kernel_rfl) (by simp) ?_
      refine AllReadyH.cons (o := _) rfl (fun K hK => ?_) AllReadyH.nil
      go_simp
      go_at_call 25
      refine (hS.out).mono ?_
      rintro e w6 ⟨rfl, b6⟩
      have B6 := Lib.hid ((Below.refl wr.heap.size wr).drew.trans b6)
      have k6 : w6.rangeAt g1 0 bC ∧ w6.cell? ⟨bl, off + k, none⟩ = some (.slice x.1 x.2.2.length x.2.1) := ⟨rangeAt_below B6.out g1lt k0.1, (B6.out.cell (p := ⟨bl, off + k, none⟩) (by show bl < wr.heap.size; have := HG.out; omega)).trans k0.2⟩
      have F26 := Lib.hid (F2.out.below B6.out g1lt)
      have F36 := Lib.hid (F3.out.below B6.out g2lt)
      clear b6
      go_simp
      refine hK.out _ _ k6 (fun hHeld => ?_)
      clear hK K
      refine wpAnyH_ready (rs := [8]) (by kernel_rfl) (by simp) ?_
      refine AllReadyH.cons (o := _) rfl (fun K hK => ?_) AllReadyH.nil
      go_simp
      refine hK.out _ _ k6 (fun hHeld => ?_)
      clear hK K
      refine wpAnyH_ready (rs := [9]) (by kernel_rfl) (by simp) ?_
      refine AllReadyH.cons (o := _) rfl (fun K hK => ?_) AllReadyH.nil
      refine step_store_midT rfl 25 (.tmp 26) (.tmp 25) rfl (g1 + 1) (k * 32) (hashV (shaL x.2.2)) rfl rfl (by rw [show (hashV (shaL x.2.2)).size = 32 from rowV_size _ _]; exact F36.out.there (k * 32) 32 (by omega)) (size_hashVW _) (rowV_one 32 _ (fun i => rfl)) none rfl ?_
      obtain ⟨w7, hw7⟩ : ∃ w7, w7 = w6.setCells (g1 + 1) (k * 32) (hashV (shaL x.2.2)).toList := ⟨_, rfl⟩
      have hl7 : (hashV (shaL x.2.2)).toList = hC (shaL x.2.2) := by unfold hashV hC; rw [rowV_list]
      have f27 : Fill g1 53 72 72 bgT w7 := by rw [hw7]; exact F26.out.keep (setCells_block _ _ _ _ (by omega))
      have f37 : Fill (g1 + 1) 25 (L.length * 32) (L.length * 32) (smF l (k + 1)) w7 := by
        rw [hw7, hl7]
        exact F36.out.cells (hC (shaL x.2.2)) (k * 32) _ _ _ (by rw [hC_len]; omega) (fun j _ => by rw [← HX.out]; exact smF_succ l k 0 j)
      have bb7 : Below w.heap.size w w7 := by rw [hw7]; exact below_cells (BB.out.trans (B6.out.mono BB.out.size)) (by have := HG.out; omega) _ _
      have k7 : w7.rangeAt g1 0 bC ∧ w7.cell? ⟨bl, off + k, none⟩ = some (.slice x.1 x.2.2.length x.2.1) := ⟨f27.range 0 72 bgT (by omega) (fun j hj => by rw [Nat.zero_add]), by rw [hw7]; exact (World.cell?_of_block (setCells_block _ _ _ _ (by show bl ≠ g1 + 1; have := HG.out; omega))).trans k6.2⟩
      rw [← hw7]
      have F27 := Lib.hid f27
      have F37 := Lib.hid f37
      have BB7 := Lib.hid bb7
      clear hw7 f27 f37 bb7
      go_simp
      refine hK.out _ _ k7 (fun hHeld => ?_)
      clear hK K
      refine wpAnyH_done (by kernel_rfl) ?_ _
      refine NoPanic.normal ?_
      first
        | apply hK1
        | apply K1
      clear hK1 K1
      go_wp2_with fail
      exact ⟨⟨k + 1, by omega, by go_num, F27.out, F37.out, BB7.out⟩, by simp [intOf]; omega⟩
    · obtain rfl : k = L.length := by omega
      have HR : Hid (∀ u : World, Below wr.heap.size wr u → ∀ i, i < L.length → u.rangeAt (g1 + 1) (i * 32) (hC (shaL (l.getD i [])))) := fun u hu i hi => (f3.below hu f3.lt).range (i * 32) 32 _ (by omega) (fun j hj => smF_at l L.length i j hi hj)
      have BB := Lib.hid bb
      have H0 := Lib.hid h
      clear f2 f3 bb h
      obtain ⟨wA, rfl⟩ : ∃ wA, wA = wr := ⟨_, rfl⟩
      go_wp2_with fail
      go_loopw [6] (fun v u => ∃ i : Nat, i ≤ L.length ∧ v = .int .i64 (i : Int) ∧ Below wA.heap.size wA u ∧ ∀ a b, a < i → a < b → b < L.length → shaL (l.getD a []) = shaL (l.getD b []) → l.getD a [] = l.getD b []) (fun v _ => L.length - (intOf v).toNat)
      case atStart => exact ⟨0, by omega, rfl, Below.refl _ _, fun a _ h => absurd h (by omega)⟩
      case round =>
        obtain ⟨i, hi, rfl, hb2, hno⟩ := hrel
        by_cases hil : i < L.length
        · have q3 : (i : Int) < (L.length : Int) := by omega
          have HNO := Lib.hid hno
          have HB2 := Lib.hid hb2
          clear hno hb2
          go_wp2_with fail
          go_loopw [7] (fun v u => ∃ k : Nat, i < k ∧ k ≤ L.length ∧ v = .int .i64 (k : Int) ∧ Below wA.heap.size wA u ∧ ∀ b, i < b → b < k → shaL (l.getD i []) = shaL (l.getD b []) → l.getD i [] = l.getD b []) (fun v _ => L.length - (intOf v).toNat)
          case atStart => exact ⟨i + 1, by omega, by omega, by go_num, HB2.out, fun b h1 h2 => absurd h1 (by omega)⟩
          case round =>
            obtain ⟨k, hik, hk, rfl, hb3, hno⟩ := hrel
            by_cases hkl : k < L.length
            · have q4 : (k : Int) < (L.length : Int) := by omega
              obtain ⟨x, hx⟩ : ∃ x, L[i]? = some x := ⟨_, List.getElem?_eq_getElem hil⟩
              obtain ⟨y, hy⟩ : ∃ y, L[k]? = some y := ⟨_, List.getElem?_eq_getElem hkl⟩
              obtain ⟨bl, off, rfl, hbl, hcell⟩ := H0.out.1 (by omega)
              have hbb := BB.out.trans (hb3.mono BB.out.size)
              have hcx := (hbb.cell (p := ⟨bl, off + i, none⟩) hbl).trans (hcell i x hx)
              have hcy := (hbb.cell (p := ⟨bl, off + k, none⟩) hbl).trans (hcell k y hy)
              have hrx := (H0.out.2 x (List.mem_of_getElem? hx)).below hbb (Nat.le_refl _)
              have hry := (H0.out.2 y (List.mem_of_getElem? hy)).below hbb (Nat.le_refl _)
              have s1 : ∀ n, (convert 56 9 (.slice x.1 x.2.2.length x.2.1)).run Tryd.prog (wr.drewN n) = .ok (strOf x.2.2) (wr.drewN n) := fun n => run_str (w := wr.drewN n) (hrx.keep fun _ _ _ => rfl) x.2.2.length x.2.1 rfl
              have s2 : ∀ n, (convert 56 9 (.slice y.1 y.2.2.length y.2.1)).run Tryd.prog (wr.drewN n) = .ok (strOf y.2.2) (wr.drewN n) := fun n => run_str (w := wr.drewN n) (hry.keep fun _ _ _ => rfl) y.2.2.length y.2.1 rfl
              have EX := HLX.out i x hx
              have EY := HLX.out k y hy
              have HNO2 := Lib.hid hno
              have kx := HR.out _ hb3 i hil
              have ky := HR.out _ hb3 k hkl
              rw [EX] at kx
              rw [EY] at ky
              have HEX := Lib.hid EX
              have HEY := Lib.hid EY
              have HB3 := Lib.hid hb3
              clear hno EX EY hcell hrx hry hx hy hb3 hbb
              obtain ⟨x1, x2, x3⟩ := x
              obtain ⟨y1, y2, y3⟩ := y
              dsimp only at *
              unfold strOf at s1 s2
              have he0 := eq_row 32 25 Tryd.underlying25 (shaL x3) (shaL y3) (shaL_length _) (shaL_length _)
              by_cases hh : shaL x3 = shaL y3
              · have he : ∀ u : World, (Op.equalIn 10000 25 (.agg (hC (shaL x3)).toArray) (.agg (hC (shaL y3)).toArray)).run Tryd.prog u = .ok true u := fun u => by rw [← (beq_iff_eq.2 hh : (shaL x3 == shaL y3) = true)]; exact he0 u
                have HH := Lib.hid hh
                clear hh he0
                by_cases ht : x3 = y3
                · have hs : (x3 == y3) = true := beq_iff_eq.2 ht
                  have HT := Lib.hid ht
                  clear ht
                  go_wp2_with fail
                  refine wp_region_quiet_lit (by kernel_rfl) (by kernel_rfl) ?_
                  iterate 3 (go_big_quiet_step (fail))
                  go_big_quiet_want
                  refine quiet_load_mid _ _ rfl (g1 + 1) (i * 32) rfl (hC (shaL x3)) _ (fun w hw => by obtain ⟨n, rfl⟩ := hw; exact kx) hash_under rfl (hash_info (hC_len _)) ?_
                  go_simp
                  go_big_quiet_on
                  iterate 3 (go_big_quiet_step (fail))
                  go_big_quiet_want
                  refine quiet_load_mid _ _ rfl (g1 + 1) (k * 32) rfl (hC (shaL y3)) _ (fun w hw => by obtain ⟨n, rfl⟩ := hw; exact ky) hash_under rfl (hash_info (hC_len _)) ?_
                  go_simp
                  go_big_quiet_on
                  repeat (go_big_quiet_step (fail))
                  refine wpQuiet_nil ?_
                  intro _ hw'
                  obtain ⟨nq, hw''⟩ := hw'
                  subst hw''
                  go_wp2_with fail
                  exact ⟨⟨k + 1, by omega, by omega, by go_num, below_drewN HB3.out nq, fun b h1 h2 h3 => by
                    by_cases e : b = k
                    · rw [e, HEX.out, HEY.out]; exact HT.out
                    · exact HNO2.out b h1 (by omega) h3⟩, by simp [intOf]; omega⟩
                · have hs : (x3 == y3) = false := beq_eq_false_iff_ne.2 ht
                  clear ht
                  go_wp2_with fail
                  refine wp_region_quiet_lit (by kernel_rfl) (by kernel_rfl) ?_
                  iterate 3 (go_big_quiet_step (fail))
                  go_big_quiet_want
                  refine quiet_load_mid _ _ rfl (g1 + 1) (i * 32) rfl (hC (shaL x3)) _ (fun w hw => by obtain ⟨n, rfl⟩ := hw; exact kx) hash_under rfl (hash_info (hC_len _)) ?_
                  go_simp
                  go_big_quiet_on
                  iterate 3 (go_big_quiet_step (fail))
                  go_big_quiet_want
                  refine quiet_load_mid _ _ rfl (g1 + 1) (k * 32) rfl (hC (shaL y3)) _ (fun w hw => by obtain ⟨n, rfl⟩ := hw; exact ky) hash_under rfl (hash_info (hC_len _)) ?_
                  go_simp
                  go_big_quiet_on
                  repeat (go_big_quiet_step (fail))
                  refine wpQuiet_nil ?_
                  intro _ hw'
                  obtain ⟨nq, hw''⟩ := hw'
                  subst hw''
                  go_wp2_with fail
                  go_ret
                  exact ⟨true, rfl, BB.out.trans ((below_drewN HB3.out nq).mono BB.out.size), fun _ => rfl⟩
              · have he : ∀ u : World, (Op.equalIn 10000 25 (.agg (hC (shaL x3)).toArray) (.agg (hC (shaL y3)).toArray)).run Tryd.prog u = .ok false u := fun u => by rw [← (beq_eq_false_iff_ne.2 hh : (shaL x3 == shaL y3) = false)]; exact he0 u
                have HH := Lib.hid hh
                clear hh he0
                go_wp2_with fail
                refine wp_region_quiet_lit (by kernel_rfl) (by kernel_rfl) ?_
                iterate 3 (go_big_quiet_step (fail))
                go_big_quiet_want
                refine quiet_load_mid _ _ rfl (g1 + 1) (i * 32) rfl (hC (shaL x3)) _ (fun w hw => by obtain ⟨n, rfl⟩ := hw; exact kx) hash_under rfl (hash_info (hC_len _)) ?_
                go_simp
                go_big_quiet_on
                iterate 3 (go_big_quiet_step (fail))
                go_big_quiet_want
                refine quiet_load_mid _ _ rfl (g1 + 1) (k * 32) rfl (hC (shaL y3)) _ (fun w hw => by obtain ⟨n, rfl⟩ := hw; exact ky) hash_under rfl (hash_info (hC_len _)) ?_
                go_simp
                go_big_quiet_on
                repeat (go_big_quiet_step (fail))
                refine wpQuiet_nil ?_
                intro _ hw'
                obtain ⟨nq, hw''⟩ := hw'
                subst hw''
                go_wp2_with fail
                exact ⟨⟨k + 1, by omega, by omega, by go_num, below_drewN HB3.out nq, fun b h1 h2 h3 => by
                  by_cases e : b = k
                  · rw [e, HEX.out, HEY.out] at h3; exact absurd h3 HH.out
                  · exact HNO2.out b h1 (by omega) h3⟩, by simp [intOf]; omega⟩
            · obtain rfl : k = L.length := by omega
              have HNO2 := Lib.hid hno
              have HB3 := Lib.hid hb3
              clear hno hb3
              go_wp2_with fail
              exact ⟨⟨i + 1, by omega, by go_num, HB3.out, fun a b h1 h2 h3 h4 => by
                by_cases e : a = i
                · rw [e] at h2 h4 ⊢; exact HNO2.out b h2 h3 h4
                · exact HNO.out a b (by omega) h2 h3 h4⟩, by simp [intOf]; omega⟩
        · have HNO := Lib.hid hno
          have HB2 := Lib.hid hb2
          clear hno hb2
          go_wp2_with fail
          go_ret
          exact ⟨false, rfl, BB.out.trans (HB2.out.mono BB.out.size), fun hcl => by
            obtain ⟨a, b, h1, h2, h3, h4⟩ := hcl
            have hln := HLN.out
            exact absurd (HNO.out a b (by omega) h1 (by omega) h3) h4⟩
end Go.Proofs.YtoippbgnaadebaaDoor
