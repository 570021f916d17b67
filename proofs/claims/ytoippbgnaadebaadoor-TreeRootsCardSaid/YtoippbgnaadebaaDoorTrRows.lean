/- Contracts: the reference's rows. -/
import Derived.Test.YtoippbgnaadebaaDoorTrSame
namespace Go.Proofs.YtoippbgnaadebaaDoor
open Go.ChangeShapes Go.WideShapes Go.ChangeAt Go.RowKit
set_option linter.unusedVariables false

/-- A row of hashes among rows. -/
abbrev Hr := Option Addr × Nat × List (List UInt8)
def hrV (x : Hr) : Value := .slice x.1 x.2.2.length x.2.1
theorem hrV_one (R : List Hr) : ∀ u ∈ R.map hrV, u.oneCell' = true := by
  intro u hu
  obtain ⟨x, _, rfl⟩ := List.mem_map.1 hu
  rfl
/-- A row that lies below base, or is owned from base on. -/
def InR (w : World) (base : Nat) (x : Hr) : Prop := (RdH w base x.1 x.2.2 ∨ w.ownsRow base 25 32 (.slice x.1 x.2.2.length x.2.1) x.2.2.length (hcs x.2.2)) ∧ x.2.2.length ≤ x.2.1
theorem InR.rd {w : World} {base : Nat} {x : Hr} (h : InR w base x) (hb : base ≤ w.heap.size) : RdH w w.heap.size x.1 x.2.2 := by
  rcases h.1 with h | h
  · exact h.wide hb
  · exact RdH.of_own h
theorem InR.below {w w' : World} {base B : Nat} {x : Hr} (h : InR w base x) (hb : Below B w w') (hB : w.heap.size ≤ B) (h0 : base ≤ w.heap.size) : InR w' base x := by
  refine ⟨?_, h.2⟩
  rcases h.1 with h | h
  · exact .inl (h.below hb (by omega))
  · exact .inr (rowBelow h hb hB)
theorem InR.grown {w w' : World} {base : Nat} {x : Hr} {v : Value} {n : Nat} {xs : List Value} (h : InR w base x) (ho : w.ownsRow base 22 1 v n xs) (hg : w.grownBy w' v.ownBlock) (h0 : base ≤ w.heap.size) : InR w' base x := by
  refine ⟨?_, h.2⟩
  rcases h.1 with h | h
  · exact .inl (h.below ((Below.refl base w).grown hg h0 (fun g e => (ho.lt g e).1)) (Nat.le_refl _))
  · refine .inr ⟨h.1, ?_⟩
    rcases h.2 with h1 | ⟨g, cap, cur, hv, h1, h2, h3⟩
    · exact .inl h1
    · have hlt : g < w.heap.size := blk_lt h2
      refine .inr ⟨g, cap, cur, hv, h1, (hg.block g hlt (fun e => ?_)).trans h2, h3⟩
      rcases ho.2 with ⟨hv', _⟩ | ⟨g', cap', cur', hv', _, h4, _⟩
      · rw [hv'] at e; cases e
      · rw [hv'] at e
        have e' : g = g' := by injection e
        subst e'
        rw [h2] at h4
        injection h4 with h4
        injection h4 with _ h4
        revert h4
        decide
/-- The rows so far. -/
def OwR (w : World) (base : Nat) (v : Value) (R : List Hr) : Prop := w.ownsRow base 22 1 v R.length (R.map hrV) ∧ ∀ x ∈ R, InR w base x
theorem OwR.below {w w' : World} {base B : Nat} {v : Value} {R : List Hr} (h : OwR w base v R) (hb : Below B w w') (hB : w.heap.size ≤ B) (h0 : base ≤ w.heap.size) : OwR w' base v R :=
  ⟨rowBelow h.1 hb hB, fun x hx => (h.2 x hx).below hb hB h0⟩
theorem OwR.form {w : World} {base : Nat} {v : Value} {R : List Hr} (h : OwR w base v R) (hn : 0 < R.length) : ∃ g c, v = .slice (some ⟨g, 0, none⟩) R.length c ∧ R.length ≤ c ∧ base ≤ g ∧ g < w.heap.size ∧ ∀ j x, R[j]? = some x → w.cell? ⟨g, j, none⟩ = some (hrV x) := by
  obtain ⟨A, c, rfl, hc, _⟩ := rowForm h.1
  have h0 : (R.map hrV)[0]? = some (hrV (R[0]'hn)) := by rw [List.getElem?_map, List.getElem?_eq_getElem hn]; rfl
  obtain ⟨g, rfl, h1, h2, _⟩ := rowAt h.1 h0
  refine ⟨g, c, rfl, hc, h1, h2, fun j x hx => ?_⟩
  have hj : (R.map hrV)[j]? = some (hrV x) := by rw [List.getElem?_map, hx]; rfl
  obtain ⟨g', e', _, _, hcell⟩ := rowAt h.1 hj
  injection e' with e'
  injection e' with e' _
  subst e'
  exact hcell
theorem OwR.more {w w' : World} {base : Nat} {v v' : Value} {R : List Hr} {x : Hr} (h : OwR w base v R) (ho : w'.ownsRow base 22 1 v' (R.length + 1) (R.map hrV ++ [hrV x])) (hg : w.grownBy w' v.ownBlock) (hx : InR w base x) (h0 : base ≤ w.heap.size) : OwR w' base v' (R ++ [x]) := by
  refine ⟨by rw [List.length_append, List.map_append]; exact ho, fun y hy => ?_⟩
  rcases List.mem_append.1 hy with hy | hy
  · exact (h.2 y hy).grown h.1 hg h0
  · rw [List.mem_singleton.1 hy]
    exact hx.grown h.1 hg h0
theorem rows_info : (Tryd.prog.info? 22).map (fun i => (i.zero, i.size, i.bytes)) = some (some (.slice none 0 0), 1, 24) := by kernel_rfl
theorem rows_row {i : TypeInfo} (h : (Tryd.prog.info? 22) = some i) : i.zero = some (.slice none 0 0) ∧ i.size = 1 ∧ i.bytes = 24 := by
  have := rows_info
  rw [h] at this
  injection this with this
  injection this with h1 h2
  injection h2 with h2 h3
  exact ⟨h1, h2, h3⟩
theorem one_row (A : Option Addr) (n c : Nat) (u : World) : (Instr.buildSlice 32 1 #[(0, .slice A n c)]).run Tryd.prog u = .ok (.slice (some ⟨u.heap.size, 0, none⟩) 1 1) (u.alloc (.cells #[.slice A n c] 22)) := by
  have hie : Tryd.prog.info? 22 = some ((Tryd.prog.info? 22).get (by kernel_rfl)) := (Option.some_get _).symm
  refine run_buildSlice u _ 22 1 _ #[.slice A n c] _ _ Tryd.underlying32 hie (Option.some_get (by kernel_rfl)).symm (by decide +kernel) (by decide +kernel) ?_
  kernel_rfl
def lenOf : Value → Nat
  | .slice _ n _ => n
  | _ => 0
theorem pairs_take (X : List (List UInt8)) (j : Nat) (hj : j < X.length / 2) : (pairsL X).take (j + 1) = (pairsL X).take j ++ [pairAt X j] := by
  unfold pairsL
  rw [← List.map_take, ← List.map_take, List.take_range, List.take_range, Nat.min_eq_left (by omega), Nat.min_eq_left (by omega), List.range_succ, List.map_append]
  rfl
set_option maxRecDepth 100000 in
set_option maxHeartbeats 8000000 in
theorem rows_c (h : Nat) (L : List (List UInt8)) (A : Option Addr) (c : Nat) (w : World) (h8 : h ≤ 8) (hl : L.length = 2 ^ h) (hc : L.length ≤ c) (hx : ∀ x ∈ L, x.length = 32) (hR : RdH w w.heap.size A L) :
    Calls Tryd.prog 11 #[.slice A L.length c] w fun e w' => ∃ v R, e = .returned v ∧ Below w.heap.size w w' ∧ OwR w' w.heap.size v R ∧ R.map (fun (q : Hr) => q.2.2) = (List.range (h + 1)).map (rowN L) := by
  obtain ⟨i0, hi0⟩ : ∃ i0, Tryd.prog.info? 22 = some i0 := ⟨_, (Option.some_get (by kernel_rfl)).symm⟩
  obtain ⟨hz0, hz1, hz2⟩ := rows_row hi0
  obtain ⟨j0, hj0⟩ : ∃ j0, Tryd.prog.info? 25 = some j0 := ⟨_, (Option.some_get (by kernel_rfl)).symm⟩
  obtain ⟨hy0, hy1, hy2⟩ := hashes_row hj0
  obtain ⟨n, hn⟩ : ∃ n, n = L.length := ⟨_, rfl⟩
  obtain ⟨W, hW⟩ : ∃ W, W = w.alloc (.cells #[.slice A n c] 22) := ⟨_, rfl⟩
  have hb : Below w.heap.size w W := by rw [hW]; exact (Below.refl _ _).alloc (Nat.le_refl _) _
  have hO : OwR W w.heap.size (.slice (some ⟨w.heap.size, 0, none⟩) 1 1) [(A, c, L)] := by
    refine ⟨?_, fun x hx => ?_⟩
    · have := World.ownsRow_lit (base := w.heap.size) (e := 22) (size := 1) w #[.slice A n c] 1 (Nat.le_refl _) (by simp only [maxLen]; omega) rfl
      rw [hW]
      show (w.alloc (.cells #[.slice A n c] 22)).ownsRow w.heap.size 22 1 _ 1 [.slice A L.length c]
      rw [← hn]
      exact this
    · rw [List.mem_singleton.1 hx]
      exact ⟨.inl (hR.below hb (Nat.le_refl _)), hc⟩
  have HB := Lib.hid hb
  have HO := Lib.hid hO
  have HW := Lib.hid hW
  have HONE := Lib.hid (one_row A n c w)
  have HNL := Lib.hid hl
  have HX := Lib.hid hx
  rw [← hn]
  clear hW hb hO hR hx hn hl hc
  go_enter Tryd.func11, Tryd.ntmps11
  go_wp2_with (first
    | (refine wpList_buildSlice_as (v := .slice (some ⟨w.heap.size, 0, none⟩) 1 1) (w' := W) rfl 32 1 #[(0, .tmp 7)] rfl ?hr ?_; case hr => (simp only [List.map_toArray, List.map_cons, List.map_nil]; rw [HW.out]; exact HONE.out))
    | fail)
  go_loopw [3] (fun v wr => ∃ (k : Nat) (R : List Hr), k ≤ h ∧ R.length = k + 1 ∧ OwR wr w.heap.size v R ∧ R.map (fun (q : Hr) => q.2.2) = (List.range (k + 1)).map (rowN L) ∧ Below w.heap.size w wr) (fun v _ => h + 1 - lenOf v)
  case atStart => exact ⟨0, [(A, c, L)], by omega, rfl, HO.out, rfl, HB.out⟩
  case round =>
    obtain ⟨k, R, hk, hRk, ho, hm, gb⟩ := hrel
    obtain ⟨g, cg, rfl, hcg, hg1, hg2, hcell⟩ := ho.form (by omega)
    obtain ⟨x, hxk⟩ : ∃ x, R[k]? = some x := ⟨_, List.getElem?_eq_getElem (by omega)⟩
    have hcx := hcell k x hxk
    have hin := ho.2 x (List.mem_of_getElem? hxk)
    have hx3 : x.2.2 = rowN L k := by
      have := congrArg (fun l => l[k]?) hm
      simp only [List.getElem?_map, hxk, List.getElem?_range (show k < k + 1 by omega)] at this
      simpa using this
    have hxl : x.2.2.length = 2 ^ (h - k) := by
      rw [hx3, rowN_length, HNL.out]
      exact Nat.pow_div hk (by decide)
    obtain ⟨x1, x2, x3⟩ := x
    dsimp only at hx3 hxl
    have hrd := hin.rd gb.size
    have hcap := hin.2
    dsimp only [hrV] at hcx hrd hcap
    have hmem : ∀ y ∈ x3, y.length = 32 := by rw [hx3]; exact rowN_mem L HX.out k
    by_cases hlt : k < h
    · obtain ⟨m, hmm⟩ : ∃ m, m = 2 ^ (h - k - 1) := ⟨_, rfl⟩
      have hm1 : 1 ≤ m := by rw [hmm]; exact Nat.two_pow_pos _
      have hm2 : m ≤ 256 := by rw [hmm]; exact (two_le (h - k - 1) (by omega)).1
      have h2m : x3.length = 2 * m := by rw [hxl, hmm, show h - k = (h - k - 1) + 1 by omega, Nat.pow_succ, Nat.mul_comm]; rfl
      have hpl : (pairsL x3).length = m := by unfold pairsL; rw [List.length_map, List.length_range, h2m]; omega
      have hp3 : pairsL x3 = rowN L (k + 1) := by rw [hx3]; rfl
      obtain ⟨bl, off, rfl, hbl, hcl⟩ := hrd (by omega)
      have GO := Lib.hid ho
      have GM := Lib.hid hm
      have GB := Lib.hid gb
      have GP := Lib.hid hp3
      have GPL := Lib.hid hpl
      have GMEM := Lib.hid hmem
      have GCL := Lib.hid hcl
      have GRK := Lib.hid hRk
      have GNL := Lib.hid h2m
      rw [h2m] at hcx hcap
      rw [hRk]
      have hcx2 : wr.cell? ⟨g, k, none⟩ = some (.slice (some ⟨bl, off, none⟩) (2 * m) x2) := hcx
      have q1 : decide ((2 * (m : Int)) > 1) = true := by simp; omega
      clear ho hm gb hp3 hpl hmem hcl hRk h2m hcx hrd hcap hin hx3 hxl hxk hcell hcg hg1 hg2 hmm
      go_wp2_with fail
      obtain ⟨wo, rfl⟩ : ∃ wo, wo = wr := ⟨_, rfl⟩
      go_loopw [5, 6] (fun v i u => ∃ j : Nat, j ≤ m ∧ i = .int .i64 ((2 * j : Nat) : Int) ∧ u.ownsRow wo.heap.size 25 32 v j (hcs ((pairsL x3).take j)) ∧ Below wo.heap.size wo u) (fun _ i _ => 2 * m - (intOf i).toNat)
      case atStart => exact ⟨0, by omega, rfl, ⟨rfl, .inl ⟨rfl, rfl⟩⟩, Below.refl _ _⟩
      case round =>
        obtain ⟨j, hj, rfl, hrow, hbu⟩ := hrel
        obtain ⟨Av, cv, rfl, hcv, _⟩ := rowForm hrow
        obtain ⟨d, hd⟩ : ∃ d, d = 2 * j := ⟨_, rfl⟩
        rw [← hd]
        have HD := Lib.hid hd
        by_cases hjm : j < m
        · have hla : (x3.getD d []).length = 32 := by rw [List.getD_eq_getElem?_getD, List.getElem?_eq_getElem (by rw [GNL.out]; omega)]; exact GMEM.out _ (List.getElem_mem _)
          have hlb : (x3.getD (d + 1) []).length = 32 := by rw [List.getD_eq_getElem?_getD, List.getElem?_eq_getElem (by rw [GNL.out]; omega)]; exact GMEM.out _ (List.getElem_mem _)
          have ra := GCL.out d (by rw [GNL.out]; omega)
          have rb := GCL.out (d + 1) (by rw [GNL.out]; omega)
          have HPT := Lib.hid (show (pairsL x3).take (j + 1) = (pairsL x3).take j ++ [nd (x3.getD d []) (x3.getD (d + 1) [])] by rw [pairs_take x3 j (by rw [GNL.out]; omega), hd]; rfl)
          have hblt := hbl
          have q2 : (d : Int) + 1 < 2 * (m : Int) := by omega
          have hdm : d + 1 < 2 * m := by omega
          have hd512 : d ≤ 512 := by omega
          generalize x3.getD d [] = a at *
          generalize x3.getD (d + 1) [] = b at *
          obtain ⟨o1, e1⟩ : ∃ o, off + d * 32 = o := ⟨_, rfl⟩
          obtain ⟨o2, e2⟩ : ∃ o, off + (d + 1) * 32 = o := ⟨_, rfl⟩
          rw [e1] at ra
          rw [e2] at rb
          obtain ⟨wq, hwq⟩ : ∃ wq, wq = wr.drew := ⟨_, rfl⟩
          have hbq : Below wo.heap.size wo wq := by rw [hwq]; exact hbu.trans ((Below.refl wr.heap.size wr).drew.mono hbu.size)
          have hrowq : wq.ownsRow wo.heap.size 25 32 (.slice Av j cv) j (hcs ((pairsL x3).take j)) := by rw [hwq]; exact rowBelow hrow ((Below.refl wr.heap.size wr).drew) (Nat.le_refl _)
          have HK : Hid (∀ u : World, Below wo.heap.size wo u → u.rangeAt bl o1 (hC a) ∧ u.rangeAt bl o2 (hC b)) := fun u hu => ⟨rangeAt_below hu hblt ra, rangeAt_below hu hblt rb⟩
          have k0 := HK.out wq hbq
          have HN := Lib.hid (refNode_c a b hla hlb wq)
          obtain ⟨z, hz⟩ : ∃ z, z = nd a b := ⟨_, rfl⟩
          rw [← hz] at HN HPT
          have HBQ := Lib.hid hbq
          have HRQ := Lib.hid hrowq
          have HWQ := Lib.hid hwq
          have HJ := Lib.hid hjm
          clear hla hlb ra rb hbu hrow hwq hbq hrowq hz hd hjm
          go_wp2_with fail
          refine wp_region_noPanic ?_
          rename_i K1 hK1
          refine wp_region_held_drew (S := fun u => u.rangeAt bl o1 (hC a) ∧ u.rangeAt bl o2 (hC b)) (by kernel_rfl) (by rw [← HWQ.out]; exact k0) (fun hHeld => ?_)
          rw [← HWQ.out] at hHeld ⊢
          refine wpAnyH_take (i := 0) (oi := _) (v := .slice Av j cv) rfl (by kernel_rfl) (by kernel_rfl) (by kernel_rfl) (fun _ _ _ h => h) (Or.inl ⟨by rfl, by intro w hSw; go_simp⟩) hHeld ?_
          refine wpAnyH_take (i := 1) (oi := _) (v := .slice (some ⟨bl, off, none⟩) (2 * m) x2) rfl (by kernel_rfl) (by kernel_rfl) (by kernel_rfl) (fun _ _ _ h => h) (Or.inl ⟨by rfl, by intro w hSw; go_simp⟩) hHeld ?_
          refine wpAnyH_take (i := 2) (oi := _) (v := .int .i64 (d : Int)) rfl (by kernel_rfl) (by kernel_rfl) (by kernel_rfl) (fun _ _ _ h => h) (Or.inl ⟨by rfl, by intro w hSw; go_simp⟩) hHeld ?_
          refine wpAnyH_take (i := 3) (oi := _) (v := .pointer (some ⟨bl, o1, none⟩)) rfl (by kernel_rfl) (by kernel_rfl) (by kernel_rfl) (fun _ _ _ h => h) (Or.inl ⟨by rfl, by intro w hSw; go_simp; intro h; omega⟩) hHeld ?_
          refine wpAnyH_take (i := 4) (oi := _) (v := .agg (hC a).toArray) rfl (by kernel_rfl) (by kernel_rfl) (by kernel_rfl) (fun _ _ _ h => h) (yieldsIf_load_mid (by rfl) _ _ rfl bl o1 rfl (hC a) _ (fun w h => h.1) hash_under rfl (hash_info (hC_len a))) hHeld ?_
          refine wpAnyH_take (i := 5) (oi := _) (v := .slice (some ⟨bl, off, none⟩) (2 * m) x2) rfl (by kernel_rfl) (by kernel_rfl) (by kernel_rfl) (fun _ _ _ h => h) (Or.inl ⟨by rfl, by intro w hSw; go_simp⟩) hHeld ?_
          refine wpAnyH_take (i := 6) (oi := _) (v := .int .i64 (d : Int)) rfl (by kernel_rfl) (by kernel_rfl) (by kernel_rfl) (fun _ _ _ h => h) (Or.inl ⟨by rfl, by intro w hSw; go_simp⟩) hHeld ?_
          refine wpAnyH_take (i := 7) (oi := _) (v := .int .i64 ((d : Int) + 1)) rfl (by kernel_rfl) (by kernel_rfl) (by kernel_rfl) (fun _ _ _ h => h) (Or.inl ⟨by rfl, by intro w hSw; go_simp; rw [IntKind.wrap_i64]; omega⟩) hHeld ?_
          refine wpAnyH_take (i := 8) (oi := _) (v := .pointer (some ⟨bl, o2, none⟩)) rfl (by kernel_rfl) (by kernel_rfl) (by kernel_rfl) (fun _ _ _ h => h) (Or.inl ⟨by rfl, by intro w hSw; go_simp; intro h; omega⟩) hHeld ?_
          refine wpAnyH_take (i := 9) (oi := _) (v := .agg (hC b).toArray) rfl (by kernel_rfl) (by kernel_rfl) (by kernel_rfl) (fun _ _ _ h => h) (yieldsIf_load_mid (by rfl) _ _ rfl bl o2 (by go_simp) (hC b) _ (fun w h => h.2) hash_under rfl (hash_info (hC_len b))) hHeld ?_
          refine wpAnyH_ready (rs := [10]) (by kernel_rfl) (by simp) ?_
          refine AllReadyH.cons (o := _) rfl (fun K hK => ?_) AllReadyH.nil
          go_simp
          go_at_call 23
          refine (HN.out).mono ?_
          rintro e u7 ⟨rfl, b7⟩
          have B7 := Lib.hid (HBQ.out.trans (b7.mono HBQ.out.size))
          have R7 := Lib.hid (rowBelow HRQ.out b7 (Nat.le_refl _))
          have k7 := HK.out _ B7.out
          clear b7
          go_simp
          refine hK.out _ _ k7 (fun hHeld => ?_)
          clear hK K
          refine wpAnyH_ready (rs := [11]) (by kernel_rfl) (by simp) ?_
          refine AllReadyH.cons (o := _) rfl (fun K hK => ?_) AllReadyH.nil
          refine step_buildSlice_as (w' := u7.alloc (.cells (hashV z) 25)) rfl 22 1 #[(0, .tmp 40)] rfl (.slice (some ⟨u7.heap.size, 0, none⟩) 1 1) (by simp only [List.map_toArray, List.map_cons, List.map_nil]; exact one_hash z u7) ?_
          have HNB := Lib.hid ((Below.refl u7.heap.size u7).alloc (Nat.le_refl _) (.cells (hashV z) 25))
          have HAL := Lib.hid (heap_alloc_new u7 (.cells (hashV z) 25))
          obtain ⟨u8, hu8⟩ : ∃ u8, u8 = u7.alloc (.cells (hashV z) 25) := ⟨_, rfl⟩
          rw [← hu8] at HNB HAL ⊢
          have B8 := Lib.hid (B7.out.trans (HNB.out.mono B7.out.size))
          have R8 := Lib.hid (rowBelow R7.out HNB.out (Nat.le_refl _))
          have k8 := HK.out _ B8.out
          clear hu8
          try go_simp
          refine hK.out _ _ k8 (fun hHeld => ?_)
          clear hK K
          refine wpAnyH_ready (rs := [12]) (by kernel_rfl) (by simp) ?_
          refine AllReadyH.cons (o := _) rfl (fun K hK => ?_) AllReadyH.nil
          refine step_append_cellsP _ rfl (.tmp 30) (.tmp 41) 22 rfl wo.heap.size 25 j0 _ 32 32 Tryd.underlying22 hj0 hy0 hy1 hy2 (by show (rowV 32 z8).size = 32; rw [rowV_size]) (by decide) (.slice Av j cv) j _ rfl R8.out ⟨u7.heap.size, 0, none⟩ 1 1 (hC z) rfl (by rw [hC_len]) (fun j v hv => by rw [addr_add, cell_of_row u8 _ j _ _ (0, 0) HAL.out]; unfold hashV rowV; rw [List.getElem?_toArray]; exact hv) (fun v hv => by unfold hC at hv; obtain ⟨j, _, rfl⟩ := List.mem_map.1 hv; rfl) (by have := HJ.out; unfold maxLen; omega) (by have := HJ.out; omega) B8.out.size ?_
          intro v9 u9 o9 g9 _
          obtain ⟨A9, c9, rfl, _, _⟩ := rowForm o9
          have R9 := Lib.hid o9
          have B9 := Lib.hid (B8.out.grown g9 B8.out.size (fun g hg => (R8.out.lt g hg).1))
          have k9 := HK.out _ B9.out
          clear o9 g9
          try go_simp
          refine hK.out _ _ k9 (fun hHeld => ?_)
          clear hK K
          refine wpAnyH_ready (rs := [13]) (by kernel_rfl) (by simp) ?_
          refine AllReadyH.cons (o := _) rfl (fun K hK => ?_) AllReadyH.nil
          go_simp
          refine hK.out _ _ k9 (fun hHeld => ?_)
          clear hK K
          refine wpAnyH_done (by kernel_rfl) ?_ _
          refine NoPanic.normal ?_
          first
            | apply hK1
            | apply K1
          clear hK1 K1
          go_wp2_with fail
          refine ⟨⟨j + 1, by have := HJ.out; omega, ?_, ?_, B9.out⟩, ?_⟩
          · have := HD.out
            rw [this]
            go_num
          · rw [HPT.out]
            unfold hcs
            rw [List.flatMap_append]
            have e : List.flatMap hC [z] = hC z := by simp
            rw [e]
            exact R9.out
          · have := HJ.out
            simp [intOf]
            omega
        · obtain rfl : j = m := by omega
          have hall : (pairsL x3).take j = rowN L (k + 1) := by rw [← GP.out, List.take_of_length_le (by rw [GPL.out]; exact Nat.le_refl _)]
          rw [hall] at hrow
          have q2 : decide ((d : Int) + 1 < 2 * (j : Int)) = false := by simp; omega
          have hd512 : d ≤ 512 := by omega
          have hlen : (rowN L (k + 1)).length = j := by rw [← GP.out]; exact GPL.out
          have HLEN := Lib.hid hlen
          have HROW := Lib.hid hrow
          have HBU := Lib.hid hbu
          have OB := Lib.hid (GO.out.below hbu (Nat.le_refl _) GB.out.size)
          obtain ⟨u1, hu1⟩ : ∃ u1, u1 = wr.alloc (.cells #[.slice Av j cv] 22) := ⟨_, rfl⟩
          have hbn : Below wr.heap.size wr u1 := by rw [hu1]; exact (Below.refl _ _).alloc (Nat.le_refl _) _
          have HNW : Hid (∀ q u, [Value.slice Av j cv][q]? = some u → u1.cell? ((⟨wr.heap.size, 0, none⟩ : Addr).add q) = some u) := by rw [hu1]; exact cell_one_new wr (.slice Av j cv) 22
          have hbw : w.heap.size ≤ wr.heap.size := Nat.le_trans GB.out.size hbu.size
          have GA := Lib.hid (OB.out.below hbn (Nat.le_refl _) hbw)
          have HBN := Lib.hid hbn
          have HONE := Lib.hid (one_row Av j cv wr)
          have HU1 := Lib.hid hu1
          have HON := Lib.hid (show ∀ u ∈ [Value.slice Av j cv], u.oneCell' = true from fun u hu => by simp at hu; subst hu; rfl)
          have hh1 : w.heap.size ≤ u1.heap.size := Nat.le_trans hbw hbn.size
          have HM3 := Lib.hid hh1
          have GAR := Lib.hid (show u1.ownsRow w.heap.size 22 1 (.slice (some ⟨g, 0, none⟩) (k + 1) cg) (k + 1) (R.map hrV) by have := GA.out.1; rw [GRK.out] at this; exact this)
          clear hall hlen hrow hbu hu1 hbn hbw hh1 hd
          go_wp2_with (first
            | (refine wpList_buildSlice_as (v := .slice (some ⟨wr.heap.size, 0, none⟩) 1 1) (w' := u1) rfl 32 1 #[(0, .tmp 44)] rfl ?hr ?_; case hr => (simp only [List.map_toArray, List.map_cons, List.map_nil]; rw [HU1.out]; exact HONE.out))
            | (at_builtin; refine wpList_append_own _ rfl (.tmp 43) (.tmp 45) _ rfl w.heap.size 22 i0 _ 1 24 Tryd.underlying32 hi0 hz0 hz1 hz2 rfl (by decide) (.slice (some ⟨g, 0, none⟩) (k + 1) cg) (k + 1) (R.map hrV) rfl GAR.out ⟨wr.heap.size, 0, none⟩ 1 1 [.slice Av j cv] rfl rfl HNW.out HON.out (by unfold maxLen; omega) (by omega) HM3.out ?_; intro v2 u2 o2 g2 _; have O2 := Lib.hid o2; have G2 := Lib.hid g2; clear o2 g2)
            | fail)
          have hrv : hrV (Av, cv, rowN L (k + 1)) = .slice Av j cv := by unfold hrV; rw [HLEN.out]
          have hin : InR u1 w.heap.size (Av, cv, rowN L (k + 1)) := by
            refine ⟨.inr ?_, by rw [HLEN.out]; exact hcv⟩
            show u1.ownsRow w.heap.size 25 32 (.slice Av (rowN L (k + 1)).length cv) (rowN L (k + 1)).length (hcs (rowN L (k + 1)))
            rw [HLEN.out]
            exact rowBase (rowBelow HROW.out HBN.out (Nat.le_refl _)) GB.out.size
          have OF := GA.out.more (x := (Av, cv, rowN L (k + 1))) (by rw [hrv, GRK.out]; exact O2.out) (by rw [GRK.out]; exact G2.out) hin HM3.out
          obtain ⟨A2, c2, rfl, _, _⟩ := rowForm O2.out
          refine ⟨⟨k + 1, R ++ [(Av, cv, rowN L (k + 1))], by omega, by rw [List.length_append, GRK.out]; rfl, OF, ?_, ?_⟩, ?_⟩
          · rw [List.map_append, GM.out, List.range_succ (n := k + 1), List.map_append]; rfl
          · exact ((GB.out.trans (HBU.out.mono GB.out.size)).trans (HBN.out.mono (Nat.le_trans GB.out.size HBU.out.size))).grown G2.out HM3.out (fun g hg => (GAR.out.lt g hg).1)
          · simp only [lenOf]
            omega
    · obtain rfl : k = h := by omega
      have hx1 : x3.length = 1 := by rw [hxl, Nat.sub_self]
      rw [hx1] at hcx
      have GO := Lib.hid ho
      have GM := Lib.hid hm
      have GB := Lib.hid gb
      have hcx2 : wr.cell? ⟨g, k, none⟩ = some (.slice x1 1 x2) := hcx
      rw [hRk] at GO ⊢
      clear ho hm gb hRk hcx hrd hcap hin hx3 hxl hxk hcell hcg hg1 hg2 hmem hx1
      go_wp2_with fail
      go_ret
      exact ⟨_, R, rfl, GB.out, GO.out, GM.out⟩
end Go.Proofs.YtoippbgnaadebaaDoor
