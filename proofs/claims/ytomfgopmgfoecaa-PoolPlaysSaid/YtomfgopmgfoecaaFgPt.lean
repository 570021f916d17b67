/- Checkpoints and links, as values and as keys. -/
import Derived.Test.YtomfgopmgfoecaaMapF
import Derived.Test.YtomfgopmgfoecaaCdEq
namespace Go.Proofs.Ytomfgopmgfoecaa
open Go.ChangeMaps Go.MapKept Go.Maps Go.WideElems Go.RowKit
set_option linter.unusedVariables false
set_option maxRecDepth 100000

structure Pt where
  e : Nat
  l : List UInt8
  he : e < 18446744073709551616
  hl : l.length = 32
theorem Pt.ext' {a b : Pt} (h : a.e = b.e) (h' : a.l = b.l) : a = b := by
  cases a; cases b
  simp only at h h'
  subst h; subst h'
  rfl
instance : DecidableEq Pt := fun a b => decidable_of_iff (a.e = b.e ∧ a.l = b.l) ⟨fun h => Pt.ext' h.1 h.2, fun h => by rw [h]; exact ⟨rfl, rfl⟩⟩
structure Lk where
  s : Pt
  t : Pt
/-- Of noughts. -/
def ptZ : Pt := ⟨0, List.replicate 32 0, by omega, by simp⟩
def lkZ : Lk := ⟨ptZ, ptZ⟩
instance : DecidableEq Lk := fun a b => decidable_of_iff (a.s = b.s ∧ a.t = b.t) ⟨fun h => by cases a; cases b; simp only at h; rw [h.1, h.2], fun h => by rw [h]; exact ⟨rfl, rfl⟩⟩
def pv (p : Pt) : Array Value := ptV p.e p.l
def pf (p : Pt) : Nat → Value := ptF p.e p.l
def lkf (x : Lk) (i : Nat) : Value := if i < 33 then pf x.s i else pf x.t (i - 33)
def lv (x : Lk) : Array Value := rowV 66 (lkf x)
theorem pf_one (p : Pt) (i : Nat) : (pf p i).oneCell' = true := ptF_one _ _ i
theorem lkf_one (x : Lk) (i : Nat) : (lkf x i).oneCell' = true := by unfold lkf; split <;> exact pf_one _ _
theorem size_link : (Try.prog.info? 50).map (·.size) = some 66 := by kernel_rfl
theorem size_pv (p : Pt) : (Try.prog.info? 37).map (·.size) = some (pv p).size := size_ptV _ _
theorem size_lv (x : Lk) : (Try.prog.info? 50).map (·.size) = some (lv x).size := by unfold lv; rw [rowV_size]; exact size_link
/-- The cells of a checkpoint, of a link. -/
def pC (p : Pt) : List Value := (List.range 33).map (pf p)
def lC (x : Lk) : List Value := (List.range 66).map (lkf x)
theorem pC_len (p : Pt) : (pC p).length = 33 := by simp [pC]
theorem lC_len (x : Lk) : (lC x).length = 66 := by simp [lC]
theorem pC_arr (p : Pt) : (pC p).toArray = pv p := rfl
theorem lC_arr (x : Lk) : (lC x).toArray = lv x := rfl
theorem lC_src (x : Lk) : ((lC x).drop 0).take 33 = pC x.s := by
  apply List.ext_getElem?
  intro i
  unfold lC pC
  by_cases hi : i < 33
  · rw [List.drop_zero, List.getElem?_take, if_pos hi, List.getElem?_map, List.getElem?_range (by omega), List.getElem?_map, List.getElem?_range hi]
    show some (lkf x i) = some _
    rw [lkf, if_pos hi]
  · rw [List.drop_zero, List.getElem?_take, if_neg hi, List.getElem?_eq_none (by simp; omega)]
theorem lC_tgt (x : Lk) : ((lC x).drop 33).take 33 = pC x.t := by
  apply List.ext_getElem?
  intro i
  unfold lC pC
  by_cases hi : i < 33
  · rw [List.getElem?_take, if_pos hi, List.getElem?_drop, List.getElem?_map, List.getElem?_range (by omega), List.getElem?_map, List.getElem?_range hi]
    show some (lkf x (33 + i)) = some _
    rw [lkf, if_neg (by omega), show 33 + i - 33 = i by omega]
  · rw [List.getElem?_take, if_neg hi, List.getElem?_eq_none (by simp; omega)]
theorem pC_epoch (p : Pt) : ((pC p).drop 0).take 1 = [.int .u64 (p.e : Int)] := by
  unfold pC
  rw [List.drop_zero, show (33 : Nat) = 32 + 1 from rfl, List.range_succ_eq_map, List.map_cons]
  rfl
theorem pC_name (p : Pt) : ((pC p).drop 1).take 32 = (List.range 32).map (fun i => bv (p.l.getD i 0)) := by
  unfold pC
  rw [show (33 : Nat) = 32 + 1 from rfl, List.range_succ_eq_map, List.map_cons, List.map_map, List.drop_one, List.tail_cons, List.take_of_length_le (by simp)]
  rfl
/-- What a value of a key's type reads as. -/
theorem mapM_some {α β : Type} {f : α → Option β} : ∀ {L : List α}, (∀ x ∈ L, ∃ y, f x = some y) → ∃ ys, L.mapM f = some ys
  | [], _ => ⟨[], rfl⟩
  | x :: L, h => by
    obtain ⟨y, hy⟩ := h x (by simp)
    obtain ⟨ys, hys⟩ := mapM_some (L := L) (fun z hz => h z (by simp [hz]))
    exact ⟨y :: ys, by rw [List.mapM_cons, hy]; simp [hys]⟩
theorem lits_arr {P : Program} {t e : TypeId} {n d : Nat} {cs : List Value} (hu : P.underlying t = some (.array n e)) (hc : cs.length = P.cellsOf t) (h : ∀ i, i < n → ∃ L, P.keyLits d e ((cs.drop (i * P.cellsOf e)).take (P.cellsOf e)) = some L) : ∃ L, P.keyLits (d + 1) t cs = some L := by
  obtain ⟨ys, hys⟩ := mapM_some (f := fun i => P.keyLits d e ((cs.drop (i * P.cellsOf e)).take (P.cellsOf e))) (L := List.range n) (fun i hi => h i (List.mem_range.1 hi))
  refine ⟨ys.flatten, ?_⟩
  unfold Program.keyLits
  simp only [hu]
  rw [if_pos hc, hys]
  rfl
theorem lits_struct {P : Program} {t : TypeId} {fs : Array Field} {d : Nat} {cs : List Value} (hu : P.underlying t = some (.struct fs)) (hc : cs.length = P.cellsOf t) (hn : fs.all (·.name != "_") = true) (h : ∀ f ∈ fs.toList, ∃ L, P.keyLits d f.type ((cs.drop f.offset).take (P.cellsOf f.type)) = some L) : ∃ L, P.keyLits (d + 1) t cs = some L := by
  obtain ⟨ys, hys⟩ := mapM_some (f := fun f : Field => P.keyLits d f.type ((cs.drop f.offset).take (P.cellsOf f.type))) (L := fs.toList) h
  refine ⟨ys.flatten, ?_⟩
  unfold Program.keyLits
  simp only [hu]
  rw [if_pos ⟨hc, hn⟩, hys]
  rfl
theorem lits_int {P : Program} {t : TypeId} {q : IntKind} {n : Int} {d : Nat} (hu : P.underlying t = some (.int q)) (hw : (Lit.int q n).wf = true) : ∃ L, P.keyLits (d + 1) t [.int q n] = some L := by
  refine ⟨[.int q n], ?_⟩
  unfold Program.keyLits
  simp only [hu]
  rw [if_pos ⟨trivial, hw⟩]
theorem cells_u8 : Try.prog.cellsOf 5 = 1 := by kernel_rfl
theorem cells_u64 : Try.prog.cellsOf 35 = 1 := by kernel_rfl
theorem cells_hash : Try.prog.cellsOf 24 = 32 := by kernel_rfl
theorem cells_point : Try.prog.cellsOf 37 = 33 := by kernel_rfl
theorem cells_link : Try.prog.cellsOf 50 = 66 := by kernel_rfl
theorem wf_byte (x : UInt8) : (Lit.int .u8 (x.toNat : Int)).wf = true := by
  have := x.toNat_lt
  simp [Lit.wf, IntKind.min, IntKind.max, IntKind.signed, IntKind.bits]
  omega
theorem lits_hash (l : List UInt8) (d : Nat) : ∃ L, Try.prog.keyLits (d + 2) 24 ((List.range 32).map (fun i => bv (l.getD i 0))) = some L := by
  refine lits_arr Try.underlying24 (by rw [cells_hash]; simp) (fun i hi => ?_)
  rw [cells_u8, Nat.mul_one, List.drop_eq_getElem_cons (by simpa using hi)]
  simp only [List.take_succ_cons, List.take_zero, List.getElem_map]
  exact lits_int Try.underlying5 (wf_byte _)
theorem lits_point (p : Pt) (d : Nat) : ∃ L, Try.prog.keyLits (d + 3) 37 (pC p) = some L := by
  refine lits_struct Try.underlying37 (by rw [cells_point, pC_len]) (by kernel_rfl) (fun f hf => ?_)
  simp only [List.mem_cons, List.not_mem_nil, or_false] at hf
  rcases hf with rfl | rfl
  · show ∃ L, Try.prog.keyLits (d + 2) 35 (((pC p).drop 0).take (Try.prog.cellsOf 35)) = some L
    rw [cells_u64, pC_epoch]
    refine lits_int Try.underlying35 ?_
    have := p.he
    simp [Lit.wf, IntKind.min, IntKind.max, IntKind.signed, IntKind.bits]
    omega
  · show ∃ L, Try.prog.keyLits (d + 2) 24 (((pC p).drop 1).take (Try.prog.cellsOf 24)) = some L
    rw [cells_hash, pC_name]
    exact lits_hash _ _
theorem lits_link (x : Lk) (d : Nat) : ∃ L, Try.prog.keyLits (d + 4) 50 (lC x) = some L := by
  refine lits_struct Try.underlying50 (by rw [cells_link, lC_len]) (by kernel_rfl) (fun f hf => ?_)
  simp only [List.mem_cons, List.not_mem_nil, or_false] at hf
  rcases hf with rfl | rfl
  · show ∃ L, Try.prog.keyLits (d + 3) 37 (((lC x).drop 0).take (Try.prog.cellsOf 37)) = some L
    rw [cells_point, lC_src]
    exact lits_point _ _
  · show ∃ L, Try.prog.keyLits (d + 3) 37 (((lC x).drop 33).take (Try.prog.cellsOf 37)) = some L
    rw [cells_point, lC_tgt]
    exact lits_point _ _
theorem keyOf_wide {k : TypeId} {xs : Array Value} (hwide : (match Try.prog.underlying k with | some (.array _ _) | some (.struct _) => true | _ => false) = true) (hk : Try.prog.keyType k = true) (hf : (Value.agg xs).formed Try.prog k = true) (h : ∃ L, Try.prog.keyLits (Try.prog.types.size + 1) k xs.toList = some L) : ∃ l, keyOf Try.prog k (.agg xs) = some l := by
  obtain ⟨L, h⟩ := h
  refine ⟨.string (keyBytes L), ?_⟩
  unfold keyOf
  split at hwide
  · next hu => simp only [hu, hk, hf, Bool.and_self, if_true, Value.cells, h, Option.map_some]
  · next hu => simp only [hu, hk, hf, Bool.and_self, if_true, Value.cells, h, Option.map_some]
  · cases hwide
theorem sizes : ∃ m, Try.prog.types.size + 1 = m + 4 := ⟨Try.prog.types.size - 3, by
  have h : 3 ≤ Try.prog.types.size := of_decide_eq_true (by kernel_rfl)
  omega⟩
theorem key_point (p : Pt) : ∃ l, keyOf Try.prog 37 (.agg (pv p)) = some l := by
  refine keyOf_wide (by kernel_rfl) (by kernel_rfl) ?_ ?_
  · unfold Value.formed
    rw [Try.underlying37]
    show ((pv p).size == _) = true
    rw [cells_point]
    show ((ptV _ _).size == _) = true
    rw [show (ptV p.e p.l).size = 33 from rowV_size _ _]
    rfl
  · obtain ⟨m, hm⟩ := sizes
    rw [hm]
    exact lits_point p (m + 1)
theorem key_link (x : Lk) : ∃ l, keyOf Try.prog 50 (.agg (lv x)) = some l := by
  refine keyOf_wide (by kernel_rfl) (by kernel_rfl) ?_ ?_
  · unfold Value.formed
    rw [Try.underlying50]
    show ((lv x).size == _) = true
    rw [cells_link, show (lv x).size = 66 from rowV_size _ _]
    rfl
  · obtain ⟨m, hm⟩ := sizes
    rw [hm]
    exact lits_link x m
noncomputable def klP (p : Pt) : Lit := (key_point p).choose
noncomputable def klL (x : Lk) : Lit := (key_link x).choose
theorem pv_inj {a b : Pt} (h : pv a = pv b) : a = b := by
  have h1 : ∀ i, i < 33 → pf a i = pf b i := fun i hi => by
    have ha := rowV_at 33 (pf a) i hi
    have hb := rowV_at 33 (pf b) i hi
    have : rowV 33 (pf a) = rowV 33 (pf b) := h
    rw [this, hb] at ha
    injection ha with ha
    exact ha.symm
  refine Pt.ext' ?_ ?_
  · have := h1 0 (by omega)
    unfold pf ptF at this
    injection this with _ this
    omega
  · apply List.ext_getElem?
    intro i
    by_cases hi : i < 32
    · have := h1 (i + 1) (by omega)
      unfold pf ptF bv at this
      injection this with _ this
      have h2 : a.l.getD i 0 = b.l.getD i 0 := UInt8.toNat_inj.1 (by omega)
      have ha := a.hl
      have hb := b.hl
      rw [List.getD_eq_getElem?_getD, List.getD_eq_getElem?_getD, List.getElem?_eq_getElem (by omega), List.getElem?_eq_getElem (by omega)] at h2
      rw [List.getElem?_eq_getElem (by omega), List.getElem?_eq_getElem (by omega)]
      exact congrArg some h2
    · rw [List.getElem?_eq_none (by have := a.hl; omega), List.getElem?_eq_none (by have := b.hl; omega)]
theorem lv_inj {a b : Lk} (h : lv a = lv b) : a = b := by
  have h1 : lC a = lC b := by
    have := congrArg Array.toList h
    unfold lv at this
    rw [rowV_list, rowV_list] at this
    exact this
  have h2 : pC a.s = pC b.s := by rw [← lC_src, ← lC_src, h1]
  have h3 : pC a.t = pC b.t := by rw [← lC_tgt, ← lC_tgt, h1]
  have e1 : a.s = b.s := pv_inj (by rw [← pC_arr, ← pC_arr, h2])
  have e2 : a.t = b.t := pv_inj (by rw [← pC_arr, ← pC_arr, h3])
  cases a; cases b
  simp only at e1 e2
  rw [e1, e2]
theorem keyP : KeyF 37 (fun p => .agg (pv p)) klP where
  law := Keyed.of_law (deep_law (m := 5) (by omega) (by kernel_rfl) (by kernel_rfl) (by kernel_rfl))
  at_ p := (key_point p).choose_spec
  inj a b h := pv_inj (by injection h)
theorem keyL : KeyF 50 (fun x => .agg (lv x)) klL where
  law := Keyed.of_law (deep_law (m := 5) (by omega) (by kernel_rfl) (by kernel_rfl) (by kernel_rfl))
  at_ x := (key_link x).choose_spec
  inj a b h := lv_inj (by injection h)
end Go.Proofs.Ytomfgopmgfoecaa
