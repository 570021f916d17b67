/- Contract: readHash, of any reader. -/
import Derived.Test.YtaoddppkijopmaaCdKit
import Derived.Deep.AppendLies
import Derived.Deep.WholeRow
namespace Go.Proofs.Ytaoddppkijopmaa
open Go.ChangeShapes Go.WideShapes Go.ChangeAt Go.RowKit
set_option linter.unusedVariables false
set_option maxRecDepth 100000

/-- A copy into a row, as a step of a region that draws its order. -/
theorem step_copy_rowH {P : Program} {ops : Array Oper} {o : Oper} {a : Act} {w : World} {K : Act → World → Prop} {Q : Exit → Act → World → Prop} {E : Prop} (hgd : o.guard = none) (d s : Operand) (dT sT : TypeId)
    (ho : o.op = .call { callee := .builtin .copy, args := #[d, s], argTypes := #[dT, sT] }) (elem : TypeId) (hu : P.underlying dT = some (.slice elem)) (hsz : (P.info? elem).map (·.size) = some 1)
    (g off dLen dCap : Nat) (ad : Addr) (sLen sCap : Nat) (hd : a.eval d = .slice (some ⟨g, off, none⟩) dLen dCap) (hs : a.eval s = .slice (some ad) sLen sCap)
    (cur : Array Value) (t : TypeId) (hg : w.heap[g]? = some (.cells cur t (0, 0))) (cs : List Value) (hn : cs.length = Nat.min sLen dLen)
    (hsrc : ∀ j v, cs[j]? = some v → w.cell? (ad.add j) = some v) (hfit : off + cs.length ≤ cur.size) (h1 : ∀ v ∈ cs, v.oneCell' = true) (C : Array Value) (hC : (splice cur.toList off cs).toArray = C)
    (h : K (a.put o.dst (goInt cs.length)) (w.setRow g C)) :
    if Region.wanted o (yielded ops a.tmps) = true then Oper.wp P o a w K Q else E := by
  subst hC
  have hw : Region.wanted o (yielded ops a.tmps) = true := by simp [Region.wanted, hgd]
  rw [if_pos hw]
  have hrun := run_copy_row (P := P) w dT sT o.type elem g off dLen dCap ad sLen sCap cur t cs hu hsz hg hn hsrc hfit h1
  unfold Oper.wp
  simp [execOp, ho, resolve, invoke, builtin, hd, hs, hrun, Result.andThen]
  exact h
/-- A copy of nothing. -/
theorem step_copy_zero {P : Program} {ops : Array Oper} {o : Oper} {a : Act} {w : World} {K : Act → World → Prop} {Q : Exit → Act → World → Prop} {E : Prop} (hgd : o.guard = none) (d s : Operand) (dT sT : TypeId)
    (ho : o.op = .call { callee := .builtin .copy, args := #[d, s], argTypes := #[dT, sT] }) (elem : TypeId) (hu : P.underlying dT = some (.slice elem)) (hsz : (P.info? elem).map (·.size) = some 1)
    (dp sp : Option Addr) (dLen dCap sLen sCap : Nat) (hd : a.eval d = .slice dp dLen dCap) (hs : a.eval s = .slice sp sLen sCap) (hn : sLen = 0)
    (h : K (a.put o.dst (goInt 0)) w) :
    if Region.wanted o (yielded ops a.tmps) = true then Oper.wp P o a w K Q else E := by
  have hw : Region.wanted o (yielded ops a.tmps) = true := by simp [Region.wanted, hgd]
  rw [if_pos hw]
  have hrun := run_copy_none (P := P) w dT sT o.type elem dp sp dLen dCap sLen sCap hu hsz (by subst hn; simp)
  unfold Oper.wp
  simp [execOp, ho, resolve, invoke, builtin, hd, hs, hrun, Result.andThen]
  exact h
theorem size_u8h : (Try.prog.info? 5).map (·.size) = some 1 := by kernel_rfl
def zeros : List UInt8 := List.replicate 32 0
theorem zeros_len : zeros.length = 32 := by simp [zeros]
theorem zero_hashC (u : World) : (zeroValue 23).run Try.prog u = .ok (.agg (rowV 32 (hF zeros))) u := by kernel_rfl
/-- The hash that a reader tells. -/
def hashR (st : Option (List UInt8)) : List UInt8 := if (cutS st 32).1.length = 32 then (cutS st 32).1 else zeros
theorem hashR_len (st : Option (List UInt8)) : (hashR st).length = 32 := by
  unfold hashR
  split
  · assumption
  · exact zeros_len
theorem splice_hash (f : Nat → Value) (l : List UInt8) (hl : l.length = 32) : (splice (rowV 32 f).toList 0 (l.map bv)).toArray = rowV 32 (hF l) := by
  apply Array.ext_getElem?
  intro j
  unfold splice
  rw [List.getElem?_toArray, List.take_zero, List.nil_append]
  by_cases hj : j < 32
  · rw [List.getElem?_append_left (by simp; omega), List.getElem?_map, rowV_at _ _ j hj, List.getElem?_eq_getElem (by omega)]
    simp [hF, List.getD_eq_getElem?_getD, List.getElem?_eq_getElem (show j < l.length by omega)]
  · rw [List.getElem?_append_right (by simp; omega), List.getElem?_drop, List.getElem?_eq_none (by rw [rowV_list]; simp; omega), Array.getElem?_eq_none (by rw [rowV_size]; omega)]
theorem addrAdd (b j : Nat) : (⟨b, 0, none⟩ : Addr).add j = ⟨b, j, none⟩ := by rw [Addr.add_mid, Nat.zero_add]
/-- A row that is stored behind a reader lets it be. -/
theorem RS.keepRow {w : World} {lo p : Nat} {st : Option (List UInt8)} (h : RS w lo p st) {B g : Nat} (hp : p < B) (hg : B ≤ g) (C : Array Value) : RS (w.setRow g C) lo p st :=
  h.below (below_setRow (Below.refl B w) hg C) hp
theorem _root_.Go.World.grownBy.setRowNew {w w' : World} {r : Option Nat} (h : w.grownBy w' r) {g : Nat} (hg : w.heap.size ≤ g) (C : Array Value) : w.grownBy (w'.setRow g C) r :=
  ⟨h.os, h.tape, h.output, by simpa [World.setRow] using h.size, fun k hk hne => (setRow_other _ _ _ _ (by omega)).trans (h.block k hk hne)⟩
theorem hashRP_grown {w W w1 : World} {p g : Nat} (hb : Below w.heap.size w W) (hp : p < w.heap.size) (h : W.drew.grownBy w1 (some p)) (hg : w.heap.size ≤ g) (C : Array Value) : w.grownBy (w1.setRow g C) (some p) :=
  (((grown_of_below hb (some p)).trans (grown_of_below (Below.refl W.heap.size W).drew _)).trans h).setRowNew hg C
/-- What reading a hash leaves. -/
def HashRP (w : World) (lo p : Nat) (st : Option (List UInt8)) (e : Ending) (w' : World) : Prop :=
  e = .returned (.agg (hashV (hashR st))) ∧ RS w' lo p (cutS st 32).2 ∧ w.grownBy w' (some p)

set_option maxHeartbeats 4000000 in
theorem readHash_c (lo p : Nat) (st : Option (List UInt8)) (w : World) (h : RS w lo p st) :
    Calls Try.prog 57 #[.pointer (some ⟨p, 0, none⟩)] w (HashRP w lo p st) := by
  have hz := zero_hashC
  obtain ⟨W, hW⟩ : ∃ W, W = (w.alloc (.cells (rowV 32 (hF zeros)) 23)).alloc (.cells (rowV 32 (hF zeros)) 23) := ⟨_, rfl⟩
  have hb : Below w.heap.size w W := by rw [hW]; exact ((Below.refl _ _).alloc (Nat.le_refl _) _).alloc (by simp) _
  have hsz : W.heap.size = w.heap.size + 2 := by rw [hW]; simp
  have f0 : Fill w.heap.size 23 32 32 (hF zeros) W := by
    rw [hW]
    exact Fill.of_row (by rw [heap_lt _ _ (by simp)]; exact heap_alloc_new w _)
  have f1 : Fill (w.heap.size + 1) 23 32 32 (hF zeros) W := by
    rw [hW]
    exact Fill.of_row (by have := heap_alloc_new (w.alloc (.cells (rowV 32 (hF zeros)) 23)) (.cells (rowV 32 (hF zeros)) 23); simpa using this)
  have hp := h.lt
  have hR : RS W.drew lo p st := (h.below hb hp : RS W lo p st)
  have HC := Lib.hid (bytes_at lo p st 32 W.drew hR)
  have HW := Lib.hid hW
  have HB := Lib.hid hb
  have F0 := Lib.hid f0
  have F1 := Lib.hid f1
  have HS := Lib.hid hsz
  clear hW hb f0 f1 hR hsz h
  rcases cut_len st 32 (by omega) with h0 | h0
  · have HN := Lib.hid (show hashR st = zeros by unfold hashR; rw [if_neg (by omega)])
    have H0 := Lib.hid h0
    clear h0
    go_enter Try.func57, Try.ntmps57
    go_wp2_with fail
    rw [← HW.out]
    rename_i K hK
    go_region_law (first
      | (refine step_copy_zero rfl (.tmp 4) (.tmp 6) 30 30 rfl 5 Try.underlying30 size_u8h _ _ _ _ _ _ rfl rfl H0.out ?_)
      | (go_simp; go_at_call 76; refine HC.out.mono ?_; rintro e w1 ⟨A, rfl, o1, r1, g1⟩))
    all_goals
      apply hK
      clear hK K
      have h5 := (F1.out.keep (g1.block (w.heap.size + 1) (by have := HS.out; simp; omega) (fun e => by injection e with e; omega))).done
      have h6 := (F0.out.keep (g1.block w.heap.size (by have := HS.out; simp; omega) (fun e => by injection e with e; omega))).done
      have G1 := Lib.hid g1
      have R1 := Lib.hid r1
      clear g1 r1 o1
      go_wp2_with (first
        | (refine wpList_load_row rfl 23 (.tmp 3) rfl (w.heap.size + 1) rfl 23 (rowV 32 (hF zeros)) (0, 0) _ h5 Try.underlying23 rfl (size_hashVW _) ?_)
        | (refine wpList_store_row rfl 23 (.tmp 2) (.tmp 8) rfl w.heap.size (rowV 32 (hF zeros)) rfl rfl 23 (rowV 32 (hF zeros)) h6 (size_hashVW _) (by simp only [rowV_size]) (rowV_one 32 _ (fun i => rfl)) ?_)
        | fail)
      exact bodyPost_ret (v := .agg (rowV 32 (hF zeros))) (results_cell_row rfl _ _ w.heap.size 23 (rowV 32 (hF zeros)) (0, 0) _ rfl (setRow_heap _ _ _ _ _ _ h6) Try.underlying23 rfl (size_hashVW _)) rfl ⟨by rw [HN.out]; rfl, R1.out.keepRow hp (Nat.le_refl _) _, hashRP_grown HB.out hp G1.out (Nat.le_refl _) _⟩
  · obtain ⟨x, hx⟩ : ∃ x, x = (cutS st 32).1 := ⟨_, rfl⟩
    have HN := Lib.hid (show hashR st = x by unfold hashR; rw [if_pos (by omega), hx])
    have hxl : x.length = 32 := by rw [hx]; omega
    have HX := Lib.hid hx
    have HXL := Lib.hid hxl
    have H1 : Hid ((splice (rowV 32 (hF zeros)).toList 0 (x.map bv)).toArray = rowV 32 (hF x)) := splice_hash _ x hxl
    clear h0 hx hxl
    go_enter Try.func57, Try.ntmps57
    go_wp2_with fail
    rw [← HW.out]
    rename_i K hK
    go_region_law (first
      | (refine step_copy_rowH rfl (.tmp 4) (.tmp 6) 30 30 rfl 5 Try.underlying30 size_u8h (w.heap.size + 1) 0 32 32 ⟨b1, 0, none⟩ (cutS st 32).1.length (cutS st 32).1.length rfl rfl (rowV 32 (hF zeros)) 23 G5.out (x.map bv) (by rw [List.length_map, HXL.out, ← HX.out, HXL.out]; rfl) HSR.out (by rw [List.length_map, HXL.out, rowV_size]; omega) (bv_one x) (rowV 32 (hF x)) H1.out ?_)
      | (go_simp; go_at_call 76; refine HC.out.mono ?_; rintro e w1 ⟨A, rfl, o1, r1, g1⟩
         obtain ⟨b1, cur, rfl, hb1, hb2, hb3, hb4⟩ := o1 (by rw [← HX.out, HXL.out]; omega)
         have HSR : Hid (∀ j v, (x.map bv)[j]? = some v → w1.cell? ((⟨b1, 0, none⟩ : Addr).add j) = some v) := fun j v hv => by
           rw [addrAdd, cell_of_row w1 b1 j cur _ (0, 0) hb3, ← Array.getElem?_toList]
           rw [← HX.out, HXL.out] at hb4
           rw [← hb4, List.getElem?_take] at hv
           split at hv
           · exact hv
           · cases hv
         have G5 := Lib.hid (F1.out.keep (g1.block (w.heap.size + 1) (by have := HS.out; simp; omega) (fun e => by injection e with e; omega))).done
         have G6 := Lib.hid (F0.out.keep (g1.block w.heap.size (by have := HS.out; simp; omega) (fun e => by injection e with e; omega))).done
         have G1 := Lib.hid g1
         have R1 := Lib.hid r1
         clear g1 r1 o1 hb3 hb4))
    all_goals
      apply hK
      clear hK K
      have RR : RS (w1.setRow (w.heap.size + 1) (rowV 32 (hF x))) lo p (cutS st 32).2 := R1.out.keepRow hp (Nat.le_succ_of_le (Nat.le_refl _)) _
      have GG : w.grownBy (w1.setRow (w.heap.size + 1) (rowV 32 (hF x))) (some p) := hashRP_grown HB.out hp G1.out (by omega) _
      have h6 : (w1.setRow (w.heap.size + 1) (rowV 32 (hF x))).heap[w.heap.size]? = some (.cells (rowV 32 (hF zeros)) 23 (0, 0)) := (setRow_other _ _ _ _ (by omega)).trans G6.out
      have h5 : (w1.setRow (w.heap.size + 1) (rowV 32 (hF x))).heap[w.heap.size + 1]? = some (.cells (rowV 32 (hF x)) 23 (0, 0)) := setRow_heap _ _ _ _ _ _ G5.out
      generalize w1.setRow (w.heap.size + 1) (rowV 32 (hF x)) = w2 at *
      have R2 := Lib.hid RR
      have G2 := Lib.hid GG
      clear RR GG
      go_wp2_with (first
        | (refine wpList_load_row rfl 23 (.tmp 3) rfl (w.heap.size + 1) rfl 23 (rowV 32 (hF x)) (0, 0) _ h5 Try.underlying23 rfl (size_hashVW _) ?_)
        | (refine wpList_store_row rfl 23 (.tmp 2) (.tmp 8) rfl w.heap.size (rowV 32 (hF x)) rfl rfl 23 (rowV 32 (hF zeros)) h6 (size_hashVW _) (by simp only [rowV_size]) (rowV_one 32 _ (fun i => rfl)) ?_)
        | fail)
      exact bodyPost_ret (v := .agg (rowV 32 (hF x))) (results_cell_row rfl _ _ w.heap.size 23 (rowV 32 (hF x)) (0, 0) _ rfl (setRow_heap _ _ _ _ _ _ h6) Try.underlying23 rfl (size_hashVW _)) rfl ⟨by rw [HN.out]; rfl, R2.out.keepRow hp (Nat.le_refl _) _, G2.out.setRowNew (Nat.le_refl _) _⟩
end Go.Proofs.Ytaoddppkijopmaa
