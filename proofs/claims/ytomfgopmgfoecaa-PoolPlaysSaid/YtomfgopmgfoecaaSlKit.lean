/- Votes by their links; rows of structs; what walks want beside. -/
import Derived.Test.YtomfgopmgfoecaaFgPt
import Derived.BigFrame
namespace Go.Proofs.Ytomfgopmgfoecaa
open Go.ChangeMaps Go.MapKept Go.Maps Go.WideElems Go.RowKit
set_option linter.unusedVariables false
set_option maxRecDepth 100000

theorem takeH {P : Program} {ops : Array Oper} {Q : Exit → Act → World → Prop} {S : World → Prop} {md : Region.Mode} {i d : Nat} {oi : Oper} {v : Value} {fuel : Nat} {listed : Array Bool} {ts : Array Value} {ds : List Deferred} {w : World} (hi : ops[i]? = some oi)
    (hd : oi.dst = some d) (hs : Region.noSelect ops = true) (hf : Region.free md ops listed i = true) (hr : (Region.ready md ops listed).contains i = true)
    (hQ : ∀ c a w, Q (.panic c) (a.put oi.dst v) w → Q (.panic c) a w) (hy : YieldsIf P ops S oi v ⟨ts, ds⟩) (hS : S w)
    (h : wpAnyH P md ops Q S fuel (listed.setIfInBounds i true) ⟨ts.setIfInBounds d v, ds⟩ w) : wpAnyH P md ops Q S (fuel + 1) listed ⟨ts, ds⟩ w :=
  wpAnyH_take hi hs hf hr hQ hy hS (by rw [hd]; exact h)
theorem yieldsIf_load_midC {P : Program} {ops : Array Oper} {S : World → Prop} {op : Oper} {a : Act} (hw : Region.wanted op (yielded ops a.tmps) = true) (ty : TypeId) (x : Operand) (ho : op.op = .load ty x)
    (b o : Nat) (hx : a.eval x = .pointer (some ⟨b, o, none⟩)) (cs : List Value) (R : Array Value) (hR : cs.toArray = R) (d : TypeDesc) (hS : ∀ w, S w → w.rangeAt b o cs)
    (hu : P.underlying ty = some d) (hd : d.isRow = true) (hi : (P.info? ty).map (·.size) = some R.size) : YieldsIf P ops S op (.agg R) a := by
  subst hR
  exact yieldsIf_load_mid hw ty x ho b o hx cs d hS hu hd (by rw [hi]; simp)
theorem wp_load_midC {P : Program} {op : Oper} {a : Act} {w : World} {K : Act → World → Prop} {Q : Exit → Act → World → Prop} (ty : TypeId) (x : Operand) (ho : op.op = .load ty x)
    (b o : Nat) (hx : a.eval x = .pointer (some ⟨b, o, none⟩)) (cs : List Value) (C : Array Value) (hC : cs.toArray = C) (d : TypeDesc) (hc : w.rangeAt b o cs)
    (hu : P.underlying ty = some d) (hd : d.isRow = true) (hi : (P.info? ty).map (·.size) = some C.size) (h : K (a.put op.dst (.agg C)) w) : op.wp P a w K Q := by
  subst hC
  exact wp_load_mid ty x ho b o hx cs d hc hu hd (by rw [hi]; simp) h
theorem wpList_build_as' {P : Program} {ops : Array Oper} {rest : List Oper} {o : Oper} {a : Act} {w : World} {Q : Exit → Act → World → Prop} (hg : o.guard = none) (t : TypeId) (parts : Array (Nat × Operand)) (ho : o.op = .build t parts)
    (L : List (Nat × Value)) (C : Array Value) (hC : P.built t L = some C) (hL : (parts.map fun (i, x) => (i, a.eval x)).toList = L)
    (h : wpList P ops Q rest (a.put o.dst (.agg C)) w) : wpList P ops Q (o :: rest) a w :=
  wpList_build hg t parts ho (by rw [hL, hC]; rfl) (by rw [hL, hC]; exact h)
theorem built_pt (e : Nat) (l : List UInt8) : Try.prog.built 37 [(0, .int .u64 (e : Int)), (1, .agg (hashV l))] = some (ptV e l) := by kernel_rfl
theorem built_lk (x : Lk) : Try.prog.built 50 [(0, .agg (pv x.s)), (1, .agg (pv x.t))] = some (lv x) := by kernel_rfl

theorem wp_build_as' {P : Program} {o : Oper} {a : Act} {w : World} {K : Act → World → Prop} {Q : Exit → Act → World → Prop} (t : TypeId) (parts : Array (Nat × Operand)) (ho : o.op = .build t parts)
    (L : List (Nat × Value)) (C : Array Value) (hC : P.built t L = some C) (hL : (parts.map fun (i, x) => (i, a.eval x)).toList = L)
    (h : K (a.put o.dst (.agg C)) w) : o.wp P a w K Q :=
  wp_build t parts ho (by rw [hL, hC]; rfl) (by rw [hL, hC]; exact h)
theorem yieldsIf_build {P : Program} {ops : Array Oper} {S : World → Prop} {op : Oper} {a : Act} (hw : Region.wanted op (yielded ops a.tmps) = true) (t : TypeId) (parts : Array (Nat × Operand)) (ho : op.op = .build t parts)
    (L : List (Nat × Value)) (R : Array Value) (hB : P.built t L = some R) (hL : (parts.map fun (i, x) => (i, a.eval x)).toList = L) : YieldsIf P ops S op (.agg R) a :=
  Or.inl ⟨hw, fun w _ => by
    unfold execOp
    simp only [ho, Sem.run_bind, run_build w t _ R (by rw [hL]; exact hB), Result.andThen_ok]
    rfl⟩
theorem eq_h9 (l : List UInt8) (hl : l.length = 32) (w : World) : (Op.equalIn 9999 24 (.agg (hashV l)) (.agg (hashV l))).run Try.prog w = .ok true w := by
  have := eq_hashD 9997 l l hl hl w
  rw [beq_self_eq_true] at this
  exact this
theorem quiet_load_midC {P : Program} {C : World → Prop} {a : Act} {o : Oper} {K : Act → Prop} (ty : TypeId) (x : Operand) (ho : o.op = .load ty x) (b off : Nat) (hx : a.eval x = .pointer (some ⟨b, off, none⟩)) (cs : List Value) (R : Array Value) (hR : cs.toArray = R) (d : TypeDesc)
    (hC : ∀ w, C w → w.rangeAt b off cs) (hu : P.underlying ty = some d) (hd : d.isRow = true) (hi : (P.info? ty).map (·.size) = some R.size) (hk : K (a.put o.dst (.agg R))) : o.quiet P a C K := by
  subst hR
  exact ⟨_, fun w hw => by
    unfold Oper.quietAt execOp
    simp only [ho, hx, Instr.loadAt, Instr.sureAddr, Sem.run_bind, Sem.run_pure, Result.andThen_ok, run_loadVar_mid w b off ty cs d (hC w hw) hu hd (by rw [hi]; simp)]
    exact ⟨rfl, rfl⟩, hk⟩
theorem quiet_build_as {P : Program} {C : World → Prop} {a : Act} {o : Oper} {K : Act → Prop} (t : TypeId) (parts : Array (Nat × Operand)) (ho : o.op = .build t parts)
    (L : List (Nat × Value)) (R : Array Value) (hB : P.built t L = some R) (hL : (parts.map fun (i, x) => (i, a.eval x)).toList = L) (hk : K (a.put o.dst (.agg R))) : o.quiet P a C K :=
  ⟨_, fun w hw => by
    unfold Oper.quietAt execOp
    simp only [ho, Sem.run_bind, run_build w t _ R (by rw [hL]; exact hB), Result.andThen_ok]
    exact ⟨rfl, rfl⟩, hk⟩
/-- A link in a block. -/
def LkB (g : Nat) (x : Lk) (w : World) : Prop := Fill g 50 66 66 (lkf x) w
def PkB (g : Nat) (p : Pt) (w : World) : Prop := Fill g 37 33 33 (pf p) w
section
variable {g : Nat} {x : Lk} {p : Pt} {w w' : World}
theorem LkB.new : LkB w.heap.size x (w.alloc (.cells (lv x) 50)) := Fill.of_row (heap_alloc_new w _)
theorem PkB.new : PkB w.heap.size p (w.alloc (.cells (pv p) 37)) := Fill.of_row (heap_alloc_new w _)
theorem LkB.lt (h : LkB g x w) : g < w.heap.size := Fill.lt h
theorem PkB.lt (h : PkB g p w) : g < w.heap.size := Fill.lt h
theorem LkB.below {B : Nat} (h : LkB g x w) (hb : Below B w w') (hg : g < B) : LkB g x w' := Fill.below h hb hg
theorem PkB.below {B : Nat} (h : PkB g p w) (hb : Below B w w') (hg : g < B) : PkB g p w' := Fill.below h hb hg
theorem LkB.keep (h : LkB g x w) (e : w'.heap[g]? = w.heap[g]?) : LkB g x w' := Fill.keep h e
theorem PkB.keep (h : PkB g p w) (e : w'.heap[g]? = w.heap[g]?) : PkB g p w' := Fill.keep h e
theorem LkB.row (h : LkB g x w) : w.heap[g]? = some (.cells (lv x) 50 (0, 0)) := Fill.done h
theorem PkB.row (h : PkB g p w) : w.heap[g]? = some (.cells (pv p) 37 (0, 0)) := Fill.done h
theorem LkB.all (h : LkB g x w) : w.rangeAt g 0 (lC x) := fun j v hv => by
  have hj : j < 66 := by rw [← lC_len x]; exact (List.getElem?_eq_some_iff.1 hv).1
  unfold lC at hv
  rw [List.getElem?_map, List.getElem?_range hj] at hv
  rw [Nat.zero_add, Fill.at_ h j hj, ← hv]
  rfl
theorem PkB.all (h : PkB g p w) : w.rangeAt g 0 (pC p) := fun j v hv => by
  have hj : j < 33 := by rw [← pC_len p]; exact (List.getElem?_eq_some_iff.1 hv).1
  unfold pC at hv
  rw [List.getElem?_map, List.getElem?_range hj] at hv
  rw [Nat.zero_add, Fill.at_ h j hj, ← hv]
  rfl
theorem LkB.src (h : LkB g x w) : w.rangeAt g 0 (pC x.s) := fun j v hv => by
  have hj : j < 33 := by rw [← pC_len x.s]; exact (List.getElem?_eq_some_iff.1 hv).1
  unfold pC at hv
  rw [List.getElem?_map, List.getElem?_range hj] at hv
  rw [Nat.zero_add, Fill.at_ h j (by omega), ← hv]
  show some (lkf x j) = some _
  rw [lkf, if_pos hj]
theorem LkB.tgt (h : LkB g x w) : w.rangeAt g 33 (pC x.t) := fun j v hv => by
  have hj : j < 33 := by rw [← pC_len x.t]; exact (List.getElem?_eq_some_iff.1 hv).1
  unfold pC at hv
  rw [List.getElem?_map, List.getElem?_range hj] at hv
  rw [Fill.at_ h (33 + j) (by omega), ← hv]
  show some (lkf x (33 + j)) = some _
  rw [lkf, if_neg (by omega), show 33 + j - 33 = j by omega]
theorem LkB.epoch (h : LkB g x w) : w.cell? ⟨g, 0, none⟩ = some (.int .u64 (x.s.e : Int)) := Fill.at_ h 0 (by omega)
theorem LkB.epochT (h : LkB g x w) : w.cell? ⟨g, 33, none⟩ = some (.int .u64 (x.t.e : Int)) := Fill.at_ h 33 (by omega)
end
theorem hdBelowF {B : Nat} {w W u : World} (h : Below B w W) (hu : Below W.heap.size W.drew u) (hB : B ≤ w.heap.size := by exact Nat.le_refl _) : Below B w u := h.drew.trans (hu.mono (Nat.le_trans hB h.size))
/-- A vote's cells: its validator, its link, its signature's slice. -/
def vtf (n : Int) (x : Lk) (sv : Value) (i : Nat) : Value := if i = 0 then .int .i64 n else if i < 67 then lkf x (i - 1) else sv
def vtw (n : Int) (x : Lk) (sv : Value) : Array Value := rowV 68 (vtf n x sv)
def vtC (n : Int) (x : Lk) (sv : Value) : List Value := (List.range 68).map (vtf n x sv)
theorem vtC_len (n : Int) (x : Lk) (sv : Value) : (vtC n x sv).length = 68 := by simp [vtC]
theorem vtC_arr (n : Int) (x : Lk) (sv : Value) : (vtC n x sv).toArray = vtw n x sv := rfl
theorem vtf_one (n : Int) (x : Lk) (sv : Value) (hs : sv.oneCell' = true) (i : Nat) : (vtf n x sv i).oneCell' = true := by
  unfold vtf
  split
  · rfl
  · split
    · exact lkf_one _ _
    · exact hs
theorem size_vt : (Try.prog.info? 40).map (·.size) = some 68 := by kernel_rfl
theorem size_vtw (n : Int) (x : Lk) (sv : Value) : (Try.prog.info? 40).map (·.size) = some (vtw n x sv).size := by unfold vtw; rw [rowV_size]; exact size_vt
/-- A vote in a block. -/
def VtK (g : Nat) (n : Int) (x : Lk) (sv : Value) (w : World) : Prop := Fill g 40 68 68 (vtf n x sv) w
section
variable {g : Nat} {n : Int} {x : Lk} {sv : Value} {w w' : World}
theorem VtK.new : VtK w.heap.size n x sv (w.alloc (.cells (vtw n x sv) 40)) := Fill.of_row (heap_alloc_new w _)
theorem VtK.lt (h : VtK g n x sv w) : g < w.heap.size := Fill.lt h
theorem VtK.below {B : Nat} (h : VtK g n x sv w) (hb : Below B w w') (hg : g < B) : VtK g n x sv w' := Fill.below h hb hg
theorem VtK.row (h : VtK g n x sv w) : w.heap[g]? = some (.cells (vtw n x sv) 40 (0, 0)) := Fill.done h
theorem VtK.src (h : VtK g n x sv w) : w.rangeAt g 1 (pC x.s) := fun j v hv => by
  have hj : j < 33 := by rw [← pC_len x.s]; exact (List.getElem?_eq_some_iff.1 hv).1
  unfold pC at hv
  rw [List.getElem?_map, List.getElem?_range hj] at hv
  rw [Fill.at_ h (1 + j) (by omega), ← hv]
  show some (vtf n x sv (1 + j)) = some _
  rw [vtf, if_neg (by omega), if_pos (by omega), show 1 + j - 1 = j by omega, lkf, if_pos hj]
theorem VtK.tgt (h : VtK g n x sv w) : w.rangeAt g 34 (pC x.t) := fun j v hv => by
  have hj : j < 33 := by rw [← pC_len x.t]; exact (List.getElem?_eq_some_iff.1 hv).1
  unfold pC at hv
  rw [List.getElem?_map, List.getElem?_range hj] at hv
  rw [Fill.at_ h (34 + j) (by omega), ← hv]
  show some (vtf n x sv (34 + j)) = some _
  rw [vtf, if_neg (by omega), if_pos (by omega), show 34 + j - 1 = 33 + j by omega, lkf, if_neg (by omega), show 33 + j - 33 = j by omega]
theorem VtK.epoch (h : VtK g n x sv w) : w.cell? ⟨g, 1, none⟩ = some (.int .u64 (x.s.e : Int)) := Fill.at_ h 1 (by omega)
theorem VtK.epochT (h : VtK g n x sv w) : w.cell? ⟨g, 34, none⟩ = some (.int .u64 (x.t.e : Int)) := Fill.at_ h 34 (by omega)
theorem VtK.all (h : VtK g n x sv w) : w.rangeAt g 0 (vtC n x sv) := fun j v hv => by
  have hj : j < 68 := by rw [← vtC_len n x sv]; exact (List.getElem?_eq_some_iff.1 hv).1
  unfold vtC at hv
  rw [List.getElem?_map, List.getElem?_range hj] at hv
  rw [Nat.zero_add, Fill.at_ h j hj, ← hv]
  rfl
end
/-- Do two links break the rules? -/
def brk (x y : Lk) : Bool := !decide (x = y) && (decide (x.t.e = y.t.e) || (decide (x.s.e < y.s.e) && decide (y.t.e < x.t.e)) || (decide (y.s.e < x.s.e) && decide (x.t.e < y.t.e)))
theorem brk_self (x : Lk) : brk x x = false := by simp [brk]
theorem brk_comm (x y : Lk) : brk x y = brk y x := by
  unfold brk
  rw [show decide (x = y) = decide (y = x) from decide_eq_decide.2 eq_comm, show decide (x.t.e = y.t.e) = decide (y.t.e = x.t.e) from decide_eq_decide.2 eq_comm]
  cases decide (y = x) <;> cases decide (y.t.e = x.t.e) <;> simp [Bool.or_comm]
end Go.Proofs.Ytomfgopmgfoecaa
