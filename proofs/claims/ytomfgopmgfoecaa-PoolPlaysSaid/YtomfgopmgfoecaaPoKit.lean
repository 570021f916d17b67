/- Votes with their keys: hashes and ballots as keys of maps, signed votes as values. -/
import Derived.Test.YtomfgopmgfoecaaSlKit
import Derived.Test.YtomfgopmgfoecaaRowApp
namespace Go.Proofs.Ytomfgopmgfoecaa
open Go.ChangeMaps Go.MapKept Go.Maps Go.WideElems Go.RowKit
set_option linter.unusedVariables false
set_option maxRecDepth 100000

/-- A key: 32 bytes. -/
structure Hh where
  l : List UInt8
  hl : l.length = 32
theorem Hh.ext' {a b : Hh} (h : a.l = b.l) : a = b := by
  cases a; cases b
  simp only at h
  subst h
  rfl
instance : DecidableEq Hh := fun a b => decidable_of_iff (a.l = b.l) ⟨fun h => Hh.ext' h, fun h => by rw [h]⟩
def hhZ : Hh := ⟨List.replicate 32 0, by simp⟩
/-- A key and a link: a ballot. -/
structure Bt where
  h : Hh
  k : Lk
instance : DecidableEq Bt := fun a b => decidable_of_iff (a.h = b.h ∧ a.k = b.k) ⟨fun h => by cases a; cases b; simp only at h; rw [h.1, h.2], fun h => by rw [h]; exact ⟨rfl, rfl⟩⟩
def hhv (h : Hh) : Array Value := hashV h.l
def hhC (h : Hh) : List Value := (List.range 32).map (hF h.l)
theorem hhC_len (h : Hh) : (hhC h).length = 32 := by simp [hhC]
theorem hhC_arr (h : Hh) : (hhC h).toArray = hhv h := rfl
theorem hhC_alt (h : Hh) : hhC h = (List.range 32).map (fun i => bv (h.l.getD i 0)) := rfl
theorem size_hhv (h : Hh) : (Try.prog.info? 24).map (·.size) = some (hhv h).size := size_hashVW _
theorem hF_one (l : List UInt8) (i : Nat) : (hF l i).oneCell' = true := rfl
def btf (b : Bt) (i : Nat) : Value := if i < 32 then hF b.h.l i else lkf b.k (i - 32)
def btv (b : Bt) : Array Value := rowV 98 (btf b)
def btC (b : Bt) : List Value := (List.range 98).map (btf b)
theorem btC_len (b : Bt) : (btC b).length = 98 := by simp [btC]
theorem btC_arr (b : Bt) : (btC b).toArray = btv b := rfl
theorem size_btv (b : Bt) : (Try.prog.info? 91).map (·.size) = some (btv b).size := by
  have : (Try.prog.info? 91).map (·.size) = some 98 := by kernel_rfl
  unfold btv; rw [rowV_size]; exact this
theorem btC_key (b : Bt) : ((btC b).drop 0).take 32 = hhC b.h := by
  apply List.ext_getElem?
  intro i
  unfold btC hhC
  by_cases hi : i < 32
  · rw [List.drop_zero, List.getElem?_take, if_pos hi, List.getElem?_map, List.getElem?_range (by omega), List.getElem?_map, List.getElem?_range hi]
    show some (btf b i) = some _
    rw [btf, if_pos hi]
  · rw [List.drop_zero, List.getElem?_take, if_neg hi, List.getElem?_eq_none (by simp; omega)]
theorem btC_link (b : Bt) : ((btC b).drop 32).take 66 = lC b.k := by
  apply List.ext_getElem?
  intro i
  unfold btC lC
  by_cases hi : i < 66
  · rw [List.getElem?_take, if_pos hi, List.getElem?_drop, List.getElem?_map, List.getElem?_range (by omega), List.getElem?_map, List.getElem?_range hi]
    show some (btf b (32 + i)) = some _
    rw [btf, if_neg (by omega), show 32 + i - 32 = i by omega]
  · rw [List.getElem?_take, if_neg hi, List.getElem?_eq_none (by simp; omega)]
theorem cells_ballot : Try.prog.cellsOf 91 = 98 := by kernel_rfl
theorem lits_ballot (b : Bt) (d : Nat) : ∃ L, Try.prog.keyLits (d + 5) 91 (btC b) = some L := by
  refine lits_struct Try.underlying91 (by rw [cells_ballot, btC_len]) (by kernel_rfl) (fun f hf => ?_)
  simp only [List.mem_cons, List.not_mem_nil, or_false] at hf
  rcases hf with rfl | rfl
  · show ∃ L, Try.prog.keyLits (d + 4) 24 (((btC b).drop 0).take (Try.prog.cellsOf 24)) = some L
    rw [cells_hash, btC_key]
    exact lits_hash _ _
  · show ∃ L, Try.prog.keyLits (d + 4) 50 (((btC b).drop 32).take (Try.prog.cellsOf 50)) = some L
    rw [cells_link, btC_link]
    exact lits_link _ _
theorem sizes5 : ∃ m, Try.prog.types.size + 1 = m + 5 := ⟨Try.prog.types.size - 4, by
  have h : 4 ≤ Try.prog.types.size := of_decide_eq_true (by kernel_rfl)
  omega⟩
theorem key_hash (h : Hh) : ∃ l, keyOf Try.prog 24 (.agg (hhv h)) = some l := by
  refine keyOf_wide (by kernel_rfl) (by kernel_rfl) ?_ ?_
  · unfold Value.formed
    rw [Try.underlying24]
    show ((hhv h).size == _) = true
    rw [cells_hash, show (hhv h).size = 32 from rowV_size _ _]
    rfl
  · obtain ⟨m, hm⟩ := sizes
    rw [hm]
    exact lits_hash h.l (m + 2)
theorem key_ballot (b : Bt) : ∃ l, keyOf Try.prog 91 (.agg (btv b)) = some l := by
  refine keyOf_wide (by kernel_rfl) (by kernel_rfl) ?_ ?_
  · unfold Value.formed
    rw [Try.underlying91]
    show ((btv b).size == _) = true
    rw [cells_ballot, show (btv b).size = 98 from rowV_size _ _]
    rfl
  · obtain ⟨m, hm⟩ := sizes5
    rw [hm]
    exact lits_ballot b m
noncomputable def klH (h : Hh) : Lit := (key_hash h).choose
noncomputable def klB (b : Bt) : Lit := (key_ballot b).choose
theorem hhv_inj {a b : Hh} (h : hhv a = hhv b) : a = b := by
  have h1 : ∀ i, i < 32 → hF a.l i = hF b.l i := fun i hi => by
    have ha := rowV_at 32 (hF a.l) i hi
    have hb := rowV_at 32 (hF b.l) i hi
    have : rowV 32 (hF a.l) = rowV 32 (hF b.l) := h
    rw [this, hb] at ha
    injection ha with ha
    exact ha.symm
  refine Hh.ext' ?_
  apply List.ext_getElem?
  intro i
  by_cases hi : i < 32
  · have := h1 i hi
    unfold hF bv at this
    injection this with _ this
    have h2 : a.l.getD i 0 = b.l.getD i 0 := UInt8.toNat_inj.1 (by omega)
    have ha := a.hl
    have hb := b.hl
    rw [List.getD_eq_getElem?_getD, List.getD_eq_getElem?_getD, List.getElem?_eq_getElem (by omega), List.getElem?_eq_getElem (by omega)] at h2
    rw [List.getElem?_eq_getElem (by omega), List.getElem?_eq_getElem (by omega)]
    exact congrArg some h2
  · rw [List.getElem?_eq_none (by have := a.hl; omega), List.getElem?_eq_none (by have := b.hl; omega)]
theorem btv_inj {a b : Bt} (h : btv a = btv b) : a = b := by
  have h1 : btC a = btC b := by
    have := congrArg Array.toList h
    unfold btv at this
    rw [rowV_list, rowV_list] at this
    exact this
  have h2 : hhC a.h = hhC b.h := by rw [← btC_key, ← btC_key, h1]
  have h3 : lC a.k = lC b.k := by rw [← btC_link, ← btC_link, h1]
  have e1 : a.h = b.h := hhv_inj (by rw [← hhC_arr, ← hhC_arr, h2])
  have e2 : a.k = b.k := lv_inj (by rw [← lC_arr, ← lC_arr, h3])
  cases a; cases b
  simp only at e1 e2
  rw [e1, e2]
theorem keyH : KeyF 24 (fun h => .agg (hhv h)) klH where
  law := Keyed.of_law (deep_law (m := 5) (by omega) (by kernel_rfl) (by kernel_rfl) (by kernel_rfl))
  at_ h := (key_hash h).choose_spec
  inj a b h := hhv_inj (by injection h)
theorem keyB : KeyF 91 (fun b => .agg (btv b)) klB where
  law := Keyed.of_law (deep_law (m := 6) (by omega) (by kernel_rfl) (by kernel_rfl) (by kernel_rfl))
  at_ b := (key_ballot b).choose_spec
  inj a b h := btv_inj (by injection h)
theorem built_bt (h : Hh) (k : Lk) : Try.prog.built 91 [(0, .agg (hhv h)), (1, .agg (lv k))] = some (btv ⟨h, k⟩) := by kernel_rfl
/-- A signed vote: its validator, its link, its signature's slice, its key, its stake. -/
structure Sg where
  n : Int
  k : Lk
  sv : Value
  h : Hh
  st : Nat
def sgf (x : Sg) (i : Nat) : Value := if i < 68 then vtf x.n x.k x.sv i else if i < 100 then hF x.h.l (i - 68) else .int .u64 (x.st : Int)
def sgv (x : Sg) : Array Value := rowV 101 (sgf x)
def sgC (x : Sg) : List Value := (List.range 101).map (sgf x)
theorem sgC_len (x : Sg) : (sgC x).length = 101 := by simp [sgC]
theorem sgC_arr (x : Sg) : (sgC x).toArray = sgv x := rfl
theorem sgf_one (x : Sg) (hs : x.sv.oneCell' = true) (i : Nat) : (sgf x i).oneCell' = true := by
  unfold sgf
  split
  · exact vtf_one _ _ _ hs i
  · split <;> rfl
theorem size_sg : (Try.prog.info? 42).map (·.size) = some 101 := by kernel_rfl
theorem size_sgv (x : Sg) : (Try.prog.info? 42).map (·.size) = some (sgv x).size := by unfold sgv; rw [rowV_size]; exact size_sg
def SgB (g : Nat) (x : Sg) (w : World) : Prop := Fill g 42 101 101 (sgf x) w
section
variable {g : Nat} {x : Sg} {w w' : World}
theorem SgB.new : SgB w.heap.size x (w.alloc (.cells (sgv x) 42)) := Fill.of_row (heap_alloc_new w _)
theorem SgB.lt (h : SgB g x w) : g < w.heap.size := Fill.lt h
theorem SgB.below {B : Nat} (h : SgB g x w) (hb : Below B w w') (hg : g < B) : SgB g x w' := Fill.below h hb hg
theorem SgB.keep (h : SgB g x w) (e : w'.heap[g]? = w.heap[g]?) : SgB g x w' := Fill.keep h e
theorem SgB.row (h : SgB g x w) : w.heap[g]? = some (.cells (sgv x) 42 (0, 0)) := Fill.done h
theorem SgB.stake (h : SgB g x w) : w.cell? ⟨g, 100, none⟩ = some (.int .u64 (x.st : Int)) := Fill.at_ h 100 (by omega)
theorem SgB.sig (h : SgB g x w) : w.cell? ⟨g, 67, none⟩ = some x.sv := Fill.at_ h 67 (by omega)
theorem SgB.vote (h : SgB g x w) : w.rangeAt g 0 (vtC x.n x.k x.sv) := fun j v hv => by
  have hj : j < 68 := by rw [← vtC_len x.n x.k x.sv]; exact (List.getElem?_eq_some_iff.1 hv).1
  unfold vtC at hv
  rw [List.getElem?_map, List.getElem?_range hj] at hv
  rw [Nat.zero_add, Fill.at_ h j (by omega), ← hv]
  show some (sgf x j) = some _
  rw [sgf, if_pos hj]
theorem SgB.key (h : SgB g x w) : w.rangeAt g 68 (hhC x.h) := fun j v hv => by
  have hj : j < 32 := by rw [← hhC_len x.h]; exact (List.getElem?_eq_some_iff.1 hv).1
  unfold hhC at hv
  rw [List.getElem?_map, List.getElem?_range hj] at hv
  rw [Fill.at_ h (68 + j) (by omega), ← hv]
  show some (sgf x (68 + j)) = some _
  rw [sgf, if_neg (by omega), if_pos (by omega), show 68 + j - 68 = j by omega]
theorem SgB.all (h : SgB g x w) : w.rangeAt g 0 (sgC x) := fun j v hv => by
  have hj : j < 101 := by rw [← sgC_len x]; exact (List.getElem?_eq_some_iff.1 hv).1
  unfold sgC at hv
  rw [List.getElem?_map, List.getElem?_range hj] at hv
  rw [Nat.zero_add, Fill.at_ h j hj, ← hv]
  rfl
end
end Go.Proofs.Ytomfgopmgfoecaa
