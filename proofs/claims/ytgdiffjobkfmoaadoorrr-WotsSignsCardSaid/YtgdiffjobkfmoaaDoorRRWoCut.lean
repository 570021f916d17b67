/- Contract: the nodes whose bytes these are. -/
import Derived.Test.YtgdiffjobkfmoaaDoorRRWoEach
namespace Go.Proofs.YtgdiffjobkfmoaaDoorRR
open Go.ChangeShapes Go.WideShapes Go.ChangeAt Go.RowKit Go.Shelf
set_option linter.unusedVariables false

/-- A copy into a row, as a step of a region that draws its order: the row is another one, and nothing else is. -/
theorem step_copy_rowW {P : Program} {ops : Array Oper} {o : Oper} {a : Act} {w : World} {K : Act → World → Prop} {Q : Exit → Act → World → Prop} {E : Prop} (hgd : o.guard = none) (d s : Operand) (dT sT : TypeId)
    (ho : o.op = .call { callee := .builtin .copy, args := #[d, s], argTypes := #[dT, sT] }) (elem : TypeId) (hu : P.underlying dT = some (.slice elem)) (hsz : (P.info? elem).map (·.size) = some 1)
    (g off dLen dCap : Nat) (ad : Addr) (sLen sCap : Nat) (hd : a.eval d = .slice (some ⟨g, off, none⟩) dLen dCap) (hs : a.eval s = .slice (some ad) sLen sCap)
    (cur : Array Value) (t : TypeId) (hg : w.heap[g]? = some (.cells cur t (0, 0))) (cs : List Value) (hn : cs.length = Nat.min sLen dLen)
    (hsrc : ∀ j v, cs[j]? = some v → w.cell? (ad.add j) = some v) (hfit : off + cs.length ≤ cur.size) (h1 : ∀ v ∈ cs, v.oneCell' = true) (C : Array Value) (hC : (splice cur.toList off cs).toArray = C)
    (h : K (a.put o.dst (goInt cs.length)) (w.setRow g C)) :
    if Region.wanted o (yielded ops a.tmps) = true then Oper.wp P o a w K Q else E := by
  subst hC
  have hw : Region.wanted o (yielded ops a.tmps) = true := by simp [Region.wanted, hgd]
  rw [if_pos hw]
  have hrun := run_copy_row (P := P) w dT sT o.type elem g off dLen dCap ad sLen sCap cur t cs hu hsz hg hn hsrc hfit h1
  unfold Oper.wp
  simp [execOp, ho, resolve, invoke, builtin, hd, hs, hrun, Result.andThen]
  exact h
theorem each_const (A S : List UInt8) (hA : A.length = 1088) (hS : S.length = 1088) : eachL (fun i _ => nodeL A i) S = A := by
  have key : ∀ n, n ≤ 68 → frontL (fun i _ => nodeL A i) S n = A.take (16 * n) := fun n => by
    induction n with
    | zero => intro _; rfl
    | succ n ih =>
      intro h
      rw [frontL_succ, ih (by omega)]
      unfold nodeL
      rw [show 16 * (n + 1) = 16 * n + 16 by omega, List.take_add]
  unfold eachL
  rw [key 68 (Nat.le_refl _), List.take_of_length_le (by omega)]
set_option maxRecDepth 100000 in
set_option maxHeartbeats 4000000 in
theorem cutClo_c (A x : List UInt8) (hA : A.length = 1088) (i p : Nat) (hi : i < 68) (w : World) (hp : Fill p 41 1088 1088 (hF A) w) :
    Calls Tryd.prog 25 #[.int .i64 (i : Int), .agg (rowV 16 (hF x)), .pointer (some ⟨p, 0, none⟩)] w fun e w' => e = .returned (.agg (rowV 16 (hF (nodeL A i)))) ∧ Below w.heap.size w w' := by
  have hz16 := zero_node
  obtain ⟨W, hW⟩ : ∃ W, W = (w.alloc (.cells (rowV 16 (hF x)) 23)).alloc (.cells (rowV 16 z0) 23) := ⟨_, rfl⟩
  have hb : Below w.heap.size w W := by rw [hW]; exact ((Below.refl _ _).alloc (Nat.le_refl _) _).alloc (by simp) _
  have hsz : W.heap.size = w.heap.size + 2 := by rw [hW]; simp
  have f0 : Fill w.heap.size 23 16 16 (hF x) W := by
    rw [hW]
    exact Fill.of_row (by rw [heap_lt _ _ (by simp)]; exact heap_alloc_new w _)
  have f1 : Fill (w.heap.size + 1) 23 16 16 z0 W := by
    rw [hW]
    exact Fill.of_row (by have := heap_alloc_new (w.alloc (.cells (rowV 16 (hF x)) 23)) (.cells (rowV 16 z0) 23); simpa using this)
  have hpW := hp.below hb hp.lt
  have hnl := nodeL_len A hA i hi
  have HNL := Lib.hid hnl
  have hcl : ((nodeL A i).map bv).length = 16 := by rw [List.length_map]; exact hnl
  have HCL := Lib.hid hcl
  have HSP := Lib.hid (spliced_row 16 (hF x) (hF (nodeL A i)) 0 ((nodeL A i).map bv) (by rw [hcl]; omega) (fun j hj => by
    rw [hcl, if_pos ⟨Nat.zero_le _, by omega⟩, Nat.sub_zero, List.getD_eq_getElem?_getD, hF_at _ j (by rw [hnl]; omega)]
    rfl))
  have HSR : Hid (∀ j v, ((nodeL A i).map bv)[j]? = some v → W.cell? ⟨p, 16 * i + j, none⟩ = some v) := fun j v hv => by
    have hj : j < 16 := by rw [← hcl]; exact (List.getElem?_eq_some_iff.1 hv).1
    have hat : hF (nodeL A i) j = hF A (16 * i + j) := by unfold hF; rw [nodeL_at A i j hj]
    rw [hpW.at_ (16 * i + j) (by omega), ← hat, ← hF_at _ j (by rw [hnl]; exact hj)]
    exact hv
  have HW := Lib.hid hW
  have HB := Lib.hid hb
  have H0 := Lib.hid f0
  have H1 := Lib.hid f1
  have wA : IntKind.i64.wrap (16 * (i : Int)) = 16 * (i : Int) := IntWalk.i64_in _ (by omega)
  have wB : (16 * (i : Int)).toNat = 16 * i := by omega
  have wC : (0 : Int) ≤ 16 * (i : Int) := by omega
  have wD : IntKind.i64.wrap (16 * (i : Int) + 16) = 16 * (i : Int) + 16 := IntWalk.i64_in _ (by omega)
  have wE : (16 * (i : Int) + 16).toNat = 16 * i + 16 := by omega
  have i4 : 16 * (i : Int) ≤ 16 * (i : Int) + 16 := by omega
  have i5 : 16 * (i : Int) + 16 ≤ 1088 := by omega
  have i6 : ¬ (1088 = 16 * i) := by omega
  have hpl := hp.lt
  clear hW hb f0 f1 hcl hnl hpW hp
  go_enter Tryd.func25, Tryd.ntmps25
  go_wp2_with fail
  rw [← HW.out]
  rename_i K hK
  go_region_law (refine step_copy_rowW rfl (.tmp 9) (.tmp 13) 28 28 rfl 5 Tryd.underlying28 size_u8 w.heap.size 0 16 16 ⟨p, 16 * i, none⟩ 16 (1088 - 16 * i) rfl rfl (rowV 16 (hF x)) 23 H0.out.done ((nodeL A i).map bv) (by rw [HCL.out]; rfl) (fun j v hv => by rw [Addr.add_mid]; exact HSR.out j v hv) (by rw [HCL.out, rowV_size]; omega) (bv_one _) (rowV 16 (hF (nodeL A i))) HSP.out ?_; obtain ⟨w5, hw5⟩ : ∃ w5, w5 = W.drew.setRow w.heap.size (rowV 16 (hF (nodeL A i))) := ⟨_, rfl⟩; rw [← hw5]; have h5 : w5.heap[w.heap.size]? = some (.cells (rowV 16 (hF (nodeL A i))) 23 (0, 0)) := (by rw [hw5]; exact setRow_heap _ _ _ _ _ _ (show W.drew.heap[w.heap.size]? = _ from H0.out.done)); have h6 := (H1.out.keep (wr' := w5) (by rw [hw5]; exact setRow_other W.drew _ _ _ (by omega))).done; have HB5 := Lib.hid (show Below w.heap.size w w5 by rw [hw5]; exact below_setRow (HB.out.drew) (Nat.le_refl _) _); clear hw5)
  all_goals
    apply hK
    clear hK K
    obtain ⟨y, hy⟩ : ∃ y, y = nodeL A i := ⟨_, rfl⟩
    rw [← hy] at h5
    have HY := Lib.hid hy
    clear hy
    go_wp2_with (first
      | (refine wpList_load_row rfl 23 (.tmp 4) rfl w.heap.size rfl 23 (rowV 16 (hF y)) (0, 0) _ h5 Tryd.underlying23 rfl (size_nodeV _) ?_)
      | (refine wpList_store_row rfl 23 (.tmp 5) (.tmp 15) rfl (w.heap.size + 1) (rowV 16 (hF y)) rfl rfl 23 (rowV 16 z0) h6 (size_nodeV _) (by rw [rowV_size, rowV_size]) (rowV_one 16 _ (fun i => rfl)) ?_)
      | fail)
    exact bodyPost_ret (v := .agg (rowV 16 (hF y))) (results_cell_row rfl _ _ (w.heap.size + 1) 23 (rowV 16 (hF y)) (0, 0) _ rfl (setRow_heap _ _ _ _ _ _ h6) Tryd.underlying23 rfl (size_nodeV _)) rfl ⟨by rw [HY.out], below_setRow HB5.out (by omega) _⟩
theorem zero_rep : rowV 1088 z0 = rowV 1088 (hF (List.replicate 1088 0)) := by
  apply Array.ext_getElem?
  intro j
  by_cases hj : j < 1088
  · rw [rowV_at _ _ j hj, rowV_at _ _ j hj]
    unfold hF z0
    rw [List.getD_eq_getElem?_getD, List.getElem?_replicate, if_pos hj]
    rfl
  · rw [Array.getElem?_eq_none (by rw [rowV_size]; omega), Array.getElem?_eq_none (by rw [rowV_size]; omega)]
set_option maxRecDepth 100000 in
set_option maxHeartbeats 4000000 in
theorem cut_c (A : List UInt8) (hA : A.length = 1088) (w : World) :
    Calls Tryd.prog 16 #[.agg (rowV 1088 (hF A))] w fun e w' => e = .returned (.agg (rowV 1088 (hF A))) ∧ Below w.heap.size w w' := by
  have hz := zero_nodes
  obtain ⟨W, hW⟩ : ∃ W, W = (w.alloc (.cells (rowV 1088 (hF A)) 41)).alloc (.cells (rowV 1088 z0) 42) := ⟨_, rfl⟩
  have hb : Below w.heap.size w W := by rw [hW]; exact ((Below.refl _ _).alloc (Nat.le_refl _) _).alloc (by simp) _
  have hsz : W.heap.size = w.heap.size + 2 := by rw [hW]; simp
  have f0 : Fill w.heap.size 41 1088 1088 (hF A) W := by
    rw [hW]
    exact Fill.of_row (by rw [heap_lt _ _ (by simp)]; exact heap_alloc_new w _)
  have f1 : Fill (w.heap.size + 1) 42 1088 1088 z0 W := by
    rw [hW]
    exact Fill.of_row (by have := heap_alloc_new (w.alloc (.cells (rowV 1088 (hF A)) 41)) (.cells (rowV 1088 z0) 42); simpa using this)
  have hea := each_c (List.replicate 1088 0) List.length_replicate (fun i _ => nodeL A i) (fun i x hi _ => nodeL_len A hA i hi) 25 #[.pointer (some ⟨w.heap.size, 0, none⟩)] (enters_of Tryd.func25 (by kernel_rfl) rfl) W
    (fun i hi x hx u hu => cutClo_c A x hA i w.heap.size hi u (f0.below hu f0.lt))
  rw [each_const A _ hA List.length_replicate, ← zero_rep] at hea
  have HEA := Lib.hid hea
  have HW := Lib.hid hW
  have HB := Lib.hid hb
  have H1 := Lib.hid f1
  clear hW hb f0 f1 hea
  go_enter Tryd.func16, Tryd.ntmps16
  go_wp2_with fail
  rw [← HW.out]
  refine HEA.out.mono ?_
  rintro e w5 ⟨rfl, hb5⟩
  have HB5 := Lib.hid hb5
  have h6 := (H1.out.below hb5 H1.out.lt).done
  clear hb5
  go_wp2_with (first
    | (refine wpList_store_row rfl 42 (.tmp 2) (.tmp 5) rfl (w.heap.size + 1) (rowV 1088 (hF A)) rfl rfl 42 (rowV 1088 z0) h6 (size_nodes _) (by rw [rowV_size, rowV_size]) (rowV_one 1088 _ (fun i => rfl)) ?_)
    | fail)
  exact bodyPost_ret (v := .agg (rowV 1088 (hF A))) (results_cell_row rfl _ _ (w.heap.size + 1) 42 (rowV 1088 (hF A)) (0, 0) _ rfl (setRow_heap _ _ _ _ _ _ h6) Tryd.underlying42 rfl (size_nodes _)) rfl ⟨rfl, below_setRow (HB.out.trans (HB5.out.mono (by omega))) (by omega) _⟩
end Go.Proofs.YtgdiffjobkfmoaaDoorRR
