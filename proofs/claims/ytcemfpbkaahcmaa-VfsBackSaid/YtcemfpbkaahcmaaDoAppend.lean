/- Contract: a step that appends. -/
import Derived.Test.YtcemfpbkaahcmaaDoEasy
import Derived.StillTailTactics
namespace Go.Proofs.Ytcemfpbkaahcmaa
open Go.RowKit Go.Shelf
set_option linter.unusedVariables false

section
variable {w w' : World} {base p m g : Nat} {S : DS}
theorem row_rd {base' n c : Nat} {l : List UInt8} (h : w.ownsRow base' 5 1 (.slice (some ⟨g, 0, none⟩) n c) n (l.map bv)) : Rd w g (g + 1) (some ⟨g, 0, none⟩) l := fun hn => by
  obtain ⟨b, off, e, h1, h2, hc⟩ := own_rd h hn
  injection e with e
  injection e with e1 e2
  subst e1 e2
  exact ⟨_, _, rfl, Nat.le_refl _, by omega, hc⟩
theorem HoldsOff.row {cur : Array Value} (h : HoldsOff w base p S m g) (hg : w.heap[g]? = some (.cells cur 5 (0, 0))) (hw : w.grownBy w' (some g)) : HoldsOff w' base p S m g := by
  obtain ⟨hG, fb, lb, sv, rv, hM, ho⟩ := h
  refine ⟨hG, fb, lb, sv, rv, ?_, ho⟩
  exact {
    low := hM.low
    blk := (hw.block p (lt_of_block hM.blk) (fun e => by injection e with e; exact ne_types hM.blk hg (by decide) e)).trans hM.blk
    fbl := hM.fbl
    lbl := hM.lbl
    ne := hM.ne
    files := hM.files.kept hw (fun e => by injection e with e; exact ne_map_cells hM.files hg e)
    last := hM.last.kept hw (fun e => by injection e with e; exact ne_map_cells hM.last hg e)
    since := hM.since.kept hw (row_ne hM.since (not_cells_of_type hg (by decide)))
    fil := hM.fil.kept hw (fun g' e k f hk => by injection e with e; subst e; exact ne_types (hM.fil.blk k f hk) hg (by decide)) (fun g' e k f hk => by injection e with e; subst e; exact .inr (ho k f hk)) }
/-- The row of a slice that has an element. -/
theorem row_some {base' sz n : Nat} {t : TypeId} {v : Value} {xs : List Value} (h : w.ownsRow base' t sz v (n + 1) xs) : ∃ g cap cur, v = .slice (some ⟨g, 0, none⟩) (n + 1) cap ∧ base' ≤ g ∧ w.heap[g]? = some (.cells cur t (0, 0)) ∧ n + 1 ≤ cap ∧ cap ≤ maxLen ∧ cur.size = cap * sz := by
  rcases h.2 with ⟨_, h0⟩ | ⟨g, cap, cur, h1, h2, h3, h4, h5, h6, _⟩
  · omega
  · exact ⟨g, cap, cur, h1, h2, h3, h4, h5, h6⟩
set_option maxRecDepth 100000 in
set_option maxHeartbeats 4000000 in
theorem do_append (h : Holds w base p S m) (hm : m ≤ 1073741824) (s : Stp) {hi : Nat} (hs : StepOk w hi s) (hib : hi ≤ base) (hb : s.b.length ≤ 20000) :
    Calls Try.prog 11 #[.pointer (some ⟨p, 0, none⟩), .agg #[.int .i64 2, .int .i64 s.n, .int .i64 s.e, strV s.name, strV s.to, .slice s.A s.b.length s.bc, .slice s.P s.picks.length s.pc]] w (DoP w base p (S.append s.name s.b) (m + 1)) := by
  have hbp := h.lt
  have hbase : base ≤ w.heap.size := by omega
  have hnum := fun e u => num_any e u
  obtain ⟨i0, hi0, hz0, hz1, hz2⟩ := info_parts byte_info
  obtain ⟨hG, fb, lb, sv, rv, hM⟩ := h
  have HM := Lib.hid hM
  have HG := Lib.hid hG
  have HS := Lib.hid hs
  obtain ⟨o, ho⟩ : ∃ o, o = Obj.cells #[.int .i64 2, .int .i64 s.n, .int .i64 s.e, strV s.name, strV s.to, .slice s.A s.b.length s.bc, .slice s.P s.picks.length s.pc] 35 (0, 0) := ⟨_, rfl⟩
  have HB0 := Lib.hid (show (w.alloc o).heap[w.heap.size]? = some (.cells #[.int .i64 2, .int .i64 s.n, .int .i64 s.e, strV s.name, strV s.to, .slice s.A s.b.length s.bc, .slice s.P s.picks.length s.pc] 35 (0, 0)) by rw [ho]; exact heap_alloc_new _ _)
  have HR1 := Lib.hid (hs.rb.alloc (by omega) o)
  have H0 := Lib.hid (World.ownsRow_nil (w.alloc o) (w.alloc o).heap.size 5 1)
  have hsz1 : (w.alloc o).heap.size = w.heap.size + 1 := by simp
  have HSZ1 := Lib.hid hsz1
  subst ho
  clear hG hM hs hsz1
  unfold strV
  go_enter Try.func11, Try.ntmps11
  have tok1 : True := trivial
  go_wp2_with (first
    | (at_builtin; have _t := tok1; refine wpList_append_rd _ rfl (.const (.slice none 0 0)) (.tmp 22) _ rfl (w.heap.size + 1) 5 i0 _ Try.underlying33 hi0 hz0 hz1 hz2 rfl (.slice none 0 0) 0 [] rfl (by rw [← HSZ1.out]; exact H0.out) 0 hi s.A s.bc s.b rfl HR1.out (by omega) (by simp) ?_; intro v1 w2 hown1 hg1 hat1; rw [Nat.zero_add, List.nil_append] at hown1; obtain ⟨A1, c1, rfl, hc1⟩ := row_form hown1; have HO1 := Lib.hid hown1; have HG1 := Lib.hid hg1; have HA1 := Lib.hid hat1; clear hown1 hg1 hat1 tok1)
    | (at_builtin; refine wpList_append_rd _ rfl (.tmp 23) (.tmp 24) _ rfl (w.heap.size + 1) 5 i0 _ Try.underlying33 hi0 hz0 hz1 hz2 rfl (.slice A1 s.b.length c1) s.b.length (s.b.map bv) rfl (HO1.out.alloc _) w2.heap.size (w2.heap.size + 1) (some ⟨w2.heap.size, 0, none⟩) 1 [7] rfl (rd_lit w2 [7] (0, 0)) (by simp; omega) (by have := HG1.out.size; simp at this ⊢; omega) ?_; intro v2 w3 hown2 hg2 hat2; have HO2 := Lib.hid hown2; have HG2 := Lib.hid hg2; have HA2 := Lib.hid hat2; clear hown2 hg2 hat2)
    | fail)
  obtain ⟨g, cap, cur, rfl, hgw, hcur, hcap, hcm, hsz⟩ := row_some (show w3.ownsRow (w.heap.size + 1) 5 1 v2 (s.b.length + 1) _ from HO2.out)
  have hb1 : Below (w.heap.size + 1) (w.alloc (.cells #[.int .i64 2, .int .i64 s.n, .int .i64 s.e, strV s.name, strV s.to, .slice s.A s.b.length s.bc, .slice s.P s.picks.length s.pc] 35 (0, 0))) w3 := by
    refine (below_grown HG1.out (by simp) (fun k e => by cases e)).trans (((Below.refl _ _).alloc (by have := HG1.out.size; simp at this ⊢; omega) _).trans (below_grown HG2.out (by have := HG1.out.size; simp at this ⊢; omega) (fun k e => ?_)))
    rcases HA1.out with h | h
    · rw [h] at e; cases e
    · rw [h] at e; injection e with e; simp at e; omega
  have hb3 : Below w.heap.size w w3 := ((Below.refl _ _).alloc (Nat.le_refl _) _).trans (hb1.mono (by omega))
  have hM3 := HM.out.below hb3 (Nat.le_refl _)
  have hgl : g < w3.heap.size := lt_of_block hcur
  have hrd3 : Rd w3 g (g + 1) (some ⟨g, 0, none⟩) s.b := row_rd (n := s.b.length) (c := cap) (by
    have h := row_take HO2.out s.b.length (by simp)
    simpa using h)
  have hrd : Rd w3.drew g (g + 1) (some ⟨g, 0, none⟩) s.b := hrd3
  have hap := append_off HG.out hM3.drew (g := g) hgl (by omega) (fun k f hk e => by have := HM.out.fil.lt hk; omega) (fun k f hk e => by
      rcases (HM.out.fil.row k f hk).2 with ⟨h, _⟩ | ⟨g', c', cu', h, _, h2, _⟩
      · rw [h] at e; cases e
      · rw [h] at e; have e2 : g' = g := Option.some.inj e; have := lt_of_block h2; omega)
    hm s.name HS.out.nm (some ⟨g, 0, none⟩) cap g (g + 1) s.b hrd hgl (fun x h1 h2 => by omega) (by omega) hcm
  have hbx := (hb1.block w.heap.size (by omega)).trans HB0.out
  have HBW := Lib.hid hb3
  have HCUR := Lib.hid hcur
  have HCAP := Lib.hid hcap
  have HSZ := Lib.hid hsz
  have HGW := Lib.hid hgw
  have HC := Lib.hid hcm
  clear hcur hsz hb1 hb3 hM3 hrd hrd3 hgw
  have q1 : s.b.length ≤ cap := by omega
  have k3 : w3.cell? ⟨w.heap.size, 3, none⟩ = some (strV s.name) := by rw [cell_of_row _ _ 3 _ _ (0, 0) hbx]; rfl
  have k5 : w3.cell? ⟨w.heap.size, 5, none⟩ = some (.slice s.A s.b.length s.bc) := by rw [cell_of_row _ _ 5 _ _ (0, 0) hbx]; rfl
  clear hbx
  unfold strV at hap k3
  go_still_tail 8, (by kernel_rfl)
  have _t : True := trivial
  go_wp2_with (first
    | (go_at_call 23; refine hap.mono ?_; rintro e w4 ⟨rfl, hO4, hb4, hg4⟩; have HO4 := Lib.hid hO4; have HB4 := Lib.hid hb4; have hc4 := (show w4.heap[g]? = w3.heap[g]? from hg4).trans HCUR.out; have HC4 := Lib.hid hc4; clear hO4 hb4 hg4 hc4 hap)
    | fail)
  have hbel : Below base w w4 := (HBW.out.mono (by omega)).trans ((show Below base w3 w3.drew from ⟨rfl, rfl, rfl, Nat.le_refl _, fun _ _ => rfl⟩).trans HB4.out)
  have HBEL := Lib.hid hbel
  clear hbel _t
  go_loopw [8] (fun i wr => ∃ (j : Nat) (cu : Array Value), i = .int .i64 (j : Int) ∧ j ≤ s.b.length + 1 ∧ wr.heap[g]? = some (.cells cu 5 (0, 0)) ∧ cu.size = cap ∧ HoldsOff wr base p (S.append s.name s.b).2 (m + 1) g ∧ Below base w wr) (fun i _ => s.b.length + 1 - (intOf i).toNat)
  case atStart => exact ⟨0, cur, rfl, by omega, HC4.out, by have := HSZ.out; omega, HO4.out, HBEL.out⟩
  case round =>
    obtain ⟨j, cu, rfl, hj, hcu, hcz, hO, hB⟩ := hrel
    have HO := Lib.hid hO
    have HB := Lib.hid hB
    have HCU := Lib.hid hcu
    have HCZ := Lib.hid hcz
    by_cases hlt : j < s.b.length + 1
    · have q2 : (j : Int) < (s.b.length : Int) + 1 := by omega
      have q3 : j < cap := by have := HCAP.out; omega
      have fr := free_block (j := j) hcu
      have hx : wr.cell? ⟨g, j, none⟩ = some cu[j] := by rw [cell_of_row wr g j cu _ (0, 0) hcu, Array.getElem?_eq_getElem (by omega)]
      clear hO hB hcu
      go_wp2
      have hgr := grown_set wr ⟨g, j, none⟩ (.int .u8 9)
      refine ⟨⟨j + 1, cu.setIfInBounds j (.int .u8 9), by go_num, by omega, set_block HCU.out _, by simp [HCZ.out], HO.out.row HCU.out hgr, HB.out.trans (below_grown hgr (by have := HB.out.size; omega) (fun k e => by have e2 : g = k := Option.some.inj e; have := HGW.out; omega))⟩, by simp [intOf]; omega⟩
    · have hj2 : j = s.b.length + 1 := by omega
      subst hj2
      have q2 : ¬ ((s.b.length : Int) + 1) < (s.b.length : Int) + 1 := by omega
      clear hO hB hcu
      go_wp2_with (go_at_call 10; refine (hnum _ _).mono ?_; rintro e w5 ⟨rfl, rfl⟩)
      go_ret2
      exact ⟨rfl, HO.out.holds, HB.out⟩
end
end Go.Proofs.Ytcemfpbkaahcmaa
