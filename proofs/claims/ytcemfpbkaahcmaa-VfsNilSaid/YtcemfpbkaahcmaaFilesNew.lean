/- Contract: Files of a disk that is there: an iterator over its names and sizes, gathered at the call. -/
import Derived.Test.YtcemfpbkaahcmaaCrash
import Derived.Test.YtcemfpbkaahcmaaEnterDo
import Derived.StillTailTactics
import Derived.Deep.AppendLies
namespace Go.Proofs.Ytcemfpbkaahcmaa
open Go.RowKit Go.Shelf
set_option linter.unusedVariables false

section
variable {w w' : World} {base p m : Nat} {S : DS} {fb lb : Nat} {sv : Value} {rv : Nat → Value}
def lenV (S : DS) (q : Str × Nat) : Value := .int .i64 (((S.fl q.2).getD ⟨[], 0⟩).b.length : Int)
/-- What an iterator's two boxes hold: names and sizes, in order. -/
structure IterAt (w : World) (lo a : Nat) (S : DS) : Prop where
  low : lo ≤ a
  names : ∃ v, w.heap[a]? = some (.cells #[v] 55 (0, 0)) ∧ w.ownsRow lo 9 1 v S.D.length (S.D.map fun q => strV q.1)
  sizes : ∃ v, w.heap[a + 1]? = some (.cells #[v] 23 (0, 0)) ∧ w.ownsRow lo 3 1 v S.D.length (S.D.map (lenV S))
def FilesP (w : World) (S : DS) (e : Ending) (w' : World) : Prop :=
  e = .returned (.func (.func 51) #[] #[.pointer (some ⟨w.heap.size, 0, none⟩), .pointer (some ⟨w.heap.size + 1, 0, none⟩)]) ∧ IterAt w' w.heap.size w.heap.size S ∧ Below w.heap.size w w'
theorem two_boxes (w : World) : ((w.alloc (.cells #[.slice none 0 0] 55)).alloc (.cells #[.slice none 0 0] 23)).heap[w.heap.size]? = some (.cells #[.slice none 0 0] 55 (0, 0)) ∧
    ((w.alloc (.cells #[.slice none 0 0] 55)).alloc (.cells #[.slice none 0 0] 23)).heap[w.heap.size + 1]? = some (.cells #[.slice none 0 0] 23 (0, 0)) := by
  refine ⟨(Below.heap_alloc _ _ _ (by simp)).trans (box_cell w _ _), ?_⟩
  have := box_cell (w.alloc (.cells #[.slice none 0 0] 55)) (.slice none 0 0) 23
  rwa [World.size_alloc] at this
theorem one_new {u : World} {g : Nat} (v : Value) (t : TypeId) (h : u.heap[g]? = some (.cells #[v] t (0, 0))) : ∀ j x, [v][j]? = some x → u.cell? ((⟨g, 0, none⟩ : Addr).add j) = some x := by
  intro j x hx
  match j, hx with
  | 0, hx =>
    injection hx with hx
    subst hx
    exact cell_of_one h
theorem rows_apart {u : World} {b b' sz sz' n n' : Nat} {t t' : TypeId} {v v' : Value} {xs xs' : List Value} (ht : t' ≠ t) (h : u.ownsRow b t sz v n xs) (h' : u.ownsRow b' t' sz' v' n' xs') : v.ownBlock = none ∨ v.ownBlock ≠ v'.ownBlock := by
  rcases h'.2 with ⟨rfl, _⟩ | ⟨g', cap, cur, rfl, _, hb, _⟩
  · by_cases e : v.ownBlock = none
    · exact .inl e
    · exact .inr (fun e2 => e (e2.trans rfl))
  · exact row_ne h (not_cells_of_type hb ht)
theorem files_close {wr w2 : World} {An A A1 : Option Addr} {cn c cc1 j : Nat} {x : Value} {ns xs : List Value} (hA : wr.heap[w.heap.size]? = some (.cells #[.slice An ns.length cn] 55 (0, 0))) (hB : wr.heap[w.heap.size + 1]? = some (.cells #[.slice A j c] 23 (0, 0)))
    (hbel : Below w.heap.size w wr) (hn : wr.ownsRow w.heap.size 9 1 (.slice An ns.length cn) ns.length ns) (hs : wr.ownsRow w.heap.size 3 1 (.slice A j c) j xs) (hg : wr.grownBy w2 (Value.slice A j c).ownBlock)
    (hC : w2.heap[w.heap.size + 1]? = some (.cells #[.slice A j c] 23 (0, 0))) (ho : w2.ownsRow w.heap.size 3 1 (.slice A1 (j + 1) cc1) (j + 1) (xs ++ [x])) :
    (w2.setCell ⟨w.heap.size + 1, 0, none⟩ (.slice A1 (j + 1) cc1)).heap[w.heap.size]? = some (.cells #[.slice An ns.length cn] 55 (0, 0)) ∧ (w2.setCell ⟨w.heap.size + 1, 0, none⟩ (.slice A1 (j + 1) cc1)).heap[w.heap.size + 1]? = some (.cells #[.slice A1 (j + 1) cc1] 23 (0, 0)) ∧
    Below w.heap.size w (w2.setCell ⟨w.heap.size + 1, 0, none⟩ (.slice A1 (j + 1) cc1)) ∧ (w2.setCell ⟨w.heap.size + 1, 0, none⟩ (.slice A1 (j + 1) cc1)).ownsRow w.heap.size 9 1 (.slice An ns.length cn) ns.length ns ∧
    (w2.setCell ⟨w.heap.size + 1, 0, none⟩ (.slice A1 (j + 1) cc1)).ownsRow w.heap.size 3 1 (.slice A1 (j + 1) cc1) (j + 1) (xs ++ [x]) := by
  have hgs := grown_set w2 ⟨w.heap.size + 1, 0, none⟩ (.slice A1 (j + 1) cc1)
  have hn2 := hn.kept hg (rows_apart (by decide) hn hs)
  have hA2 := (hg.block w.heap.size (lt_of_block hA) (fun e => by rcases row_ne hs (not_cells_of_type hA (by decide)) with h | h; rw [h] at e; cases e; exact h e.symm)).trans hA
  refine ⟨(hgs.block w.heap.size (lt_of_block hA2) (fun e => by have e2 : w.heap.size + 1 = w.heap.size := Option.some.inj e.symm; omega)).trans hA2, set_block hC _, ?_, hn2.kept hgs (row_ne hn2 (not_cells_of_type hC (by decide))), ho.kept hgs (row_ne ho (not_cells_of_type hC (by decide)))⟩
  refine (hbel.trans (below_grown hg hbel.size (fun k e => (hs.lt k e).1))).trans (below_grown hgs (Nat.le_trans hbel.size hg.size) (fun k e => ?_))
  have e2 : w.heap.size + 1 = k := Option.some.inj e
  omega
theorem int_info4 : (Try.prog.info? 3).map (fun i => (i.zero, i.size, i.bytes)) = some (some (.int .i64 0), 1, 8) := by kernel_rfl
set_option maxRecDepth 100000 in
set_option maxHeartbeats 2000000 in
theorem files_disk (hG : Good S m) (hM : Mem w base p S fb lb sv rv m) (hm : m ≤ 1073741824) :
    Calls Try.prog 27 #[.pointer (some ⟨p, 0, none⟩)] w (FilesP w S) := by
  have hl : S.D.length ≤ 1099511627776 := by have := hG.cnt; have := hG.cnt2; omega
  have hM2 := (hM.alloc (.cells #[.slice none 0 0] 55 (0, 0))).alloc (.cells #[.slice none 0 0] 23 (0, 0))
  have hnone := none_disk hG hM2
  obtain ⟨_, c1, _⟩ := disk_cells hM2.blk
  have hnm := names_any _ _ _ _ hM2.files hG.okD hl
  have HM2 := Lib.hid hM2
  have HG := Lib.hid hG
  have HM := Lib.hid hM
  clear hM2 hG hM
  go_enter Try.func27, Try.ntmps27
  go_wp2_with (first
    | (go_at_call 33; refine hnone.mono ?_; rintro e w' ⟨rfl, rfl⟩)
    | (go_at_call 37; refine hnm.mono ?_; rintro e w1 ⟨v, rfl, hrow, hb⟩; obtain ⟨An, cn, rfl, hcn⟩ := row_form hrow; have HR := Lib.hid hrow; have HB := Lib.hid hb; have hA := (hb.block w.heap.size (by simp; omega)).trans (two_boxes w).1; have hB := (hb.block (w.heap.size + 1) (by simp)).trans (two_boxes w).2; have HA := Lib.hid hA; have HB1 := Lib.hid hB; have fA := free_block (j := 0) hA; have fB := free_block (j := 0) hB; have kA := cell_of_one hA; have kB := cell_of_one hB; clear hrow hb hA hB)
    | fail)
  clear kA kB fA fB hnm hnone c1
  obtain ⟨w2, hw2⟩ : ∃ w2, w2 = w1.setCell ⟨w.heap.size, 0, none⟩ (.slice An S.D.length cn) := ⟨_, rfl⟩
  have hg12 : w1.grownBy w2 (some w.heap.size) := by rw [hw2]; exact grown_set w1 ⟨w.heap.size, 0, none⟩ _
  have hA2 : w2.heap[w.heap.size]? = some (.cells #[.slice An S.D.length cn] 55 (0, 0)) := by rw [hw2]; exact set_block HA.out _
  have hB2 := (hg12.block (w.heap.size + 1) (lt_of_block HB1.out) (fun e => by injection e with e; omega)).trans HB1.out
  have hbel : Below w.heap.size w w2 := (((Below.refl _ w).alloc (Nat.le_refl _) _).alloc (by simp) _).trans ((HB.out.mono (by simp; omega)).trans (below_grown hg12 (by have := lt_of_block HA.out; omega) (fun k e => by injection e with e; omega)))
  have hrow2 := ownsRow_base_a (HR.out.kept hg12 (row_ne HR.out (not_cells_of_type HA.out (by decide)))) (show w.heap.size ≤ _ by simp; omega)
  rw [← hw2]
  have HST := Lib.hid (show _ ∧ _ ∧ _ ∧ _ from ⟨hA2, hB2, hbel, hrow2⟩)
  clear hw2 hg12 hA2 hB2 hbel hrow2 HA HB1 HR
  obtain ⟨i0, hi0, hz0, hz1, hz2⟩ := info_parts int_info4
  go_loopw [17] (fun i wr => ∃ (j : Nat) (A : Option Addr) (c : Nat), i = .int .i64 (j : Int) ∧ j ≤ S.D.length ∧ wr.heap[w.heap.size]? = some (.cells #[.slice An S.D.length cn] 55 (0, 0)) ∧ wr.heap[w.heap.size + 1]? = some (.cells #[.slice A j c] 23 (0, 0)) ∧
    Below w.heap.size w wr ∧ wr.ownsRow w.heap.size 9 1 (.slice An S.D.length cn) S.D.length (S.D.map fun q => strV q.1) ∧ wr.ownsRow w.heap.size 3 1 (.slice A j c) j ((S.D.take j).map (lenV S))) (fun i _ => S.D.length - (intOf i).toNat)
  case atStart => exact ⟨0, none, 0, rfl, Nat.zero_le _, HST.out.1, HST.out.2.1, HST.out.2.2.1, HST.out.2.2.2, World.ownsRow_nil _ _ _ _⟩
  case round =>
    obtain ⟨j, A, c, rfl, hj, hA, hB, hbel, hn, hs⟩ := hrel
    have HBX := Lib.hid hA
    have HBY := Lib.hid hB
    have HBL := Lib.hid hbel
    have HN := Lib.hid hn
    have HSZ := Lib.hid hs
    by_cases hlt : j < S.D.length
    · obtain ⟨s, k, hsk⟩ : ∃ s k, S.D[j] = (s, k) := ⟨_, _, rfl⟩
      have hmemR : (s, k) ∈ S.D := by rw [← hsk]; exact List.getElem_mem hlt
      obtain ⟨f, hf⟩ := Option.isSome_iff_exists.1 (HG.out.domD _ hmemR)
      have hs32 := HG.out.nmD _ hmemR
      obtain ⟨Af, cf, hfb, _⟩ := old_file HM.out hf hbel
      have hM1 := HM.out.below hbel (Nat.le_refl _)
      have hlook := dir_look hM1.drew.files s (le_max hs32)
      rw [mem_look HG.out.okD hmemR] at hlook
      simp only [ptrOf] at hlook
      obtain ⟨_, c1, _⟩ := disk_cells hM1.blk
      obtain ⟨d0, _⟩ := file_cells hfb
      have kB := cell_of_one hB
      have fB := free_block (j := 0) hB
      have hcell : ∃ g, An = some ⟨g, 0, none⟩ ∧ wr.cell? ⟨g, j, none⟩ = some (strV s) := by
        rcases hn.2 with ⟨_, h0⟩ | ⟨g, cap, cur, hv, _⟩
        · omega
        · injection hv with hA _ _
          refine ⟨g, hA, ?_⟩
          have := hn.cells (g := g) (by rw [hA]; rfl) j (strV s) (by simp [hlt, hsk])
          have hadd : (⟨g, 0, none⟩ : Addr).add j = ⟨g, j, none⟩ := by
            unfold Addr.add
            split
            · next h0 => subst h0; rfl
            · simp
          rw [hadd] at this
          exact this
      obtain ⟨g, rfl, hcell⟩ := hcell
      have q : (j : Int) < (S.D.length : Int) := by omega
      have q2 : (j : Int) + 1 ≤ 9223372036854775807 := by omega
      have HF := Lib.hid hf
      have HSK := Lib.hid hsk
      unfold strV at hcell
      have e1 : lenV S (s, k) = .int .i64 (f.b.length : Int) := by unfold lenV; rw [show S.fl (s, k).2 = some f from hf]; rfl
      have htk : (S.D.take (j + 1)).map (lenV S) = (S.D.take j).map (lenV S) ++ [.int .i64 (f.b.length : Int)] := by
        rw [List.take_succ_eq_append_getElem hlt, List.map_append, hsk, List.map_cons, List.map_nil, e1]
      have HTK := Lib.hid htk
      have HHL := Lib.hid hl
      clear hA hB hbel hn hs hfb hM1 hf hsk hmemR hs32 e1 htk hl
      simp only at d0
      obtain ⟨o, ho⟩ : ∃ o, o = Obj.cells #[.int .i64 (f.b.length : Int)] 3 (0, 0) := ⟨_, rfl⟩
      have HSK := Lib.hid (fun (u : World) (h1 : u.os = wr.os) (h2 : u.tape = wr.tape) (h3 : u.output = wr.output) (hu : u.heap = wr.heap.push o) => HSZ.out.kept (row := none) (⟨h1, h2, h3, by rw [hu]; simp, fun k hk _ => by rw [hu, Array.getElem?_push, if_neg (by omega)]⟩ : wr.grownBy u none) (by cases (Value.slice A j c).ownBlock <;> simp))
      have HGN := Lib.hid (fun (u : World) (h1 : u.os = wr.os) (h2 : u.tape = wr.tape) (h3 : u.output = wr.output) (hu : u.heap = wr.heap.push o) => (⟨h1, h2, h3, by rw [hu]; simp, fun k hk _ => by rw [hu, Array.getElem?_push, if_neg (by omega)]⟩ : wr.grownBy u (Value.slice A j c).ownBlock))
      have HNW := Lib.hid (fun (u : World) (hu : u.heap = wr.heap.push o) => one_new (u := u) (g := wr.heap.size) (.int .i64 (f.b.length : Int)) 3 (by rw [hu, ho]; simp))
      have HN3 := Lib.hid (fun (u : World) (hu : u.heap = wr.heap.push o) => (by rw [hu]; have := HBL.out.size; simp; omega : w.heap.size ≤ u.heap.size))
      have HON := Lib.hid (by intro u hu; simp at hu; subst hu; rfl : ∀ u ∈ [Value.int .i64 (f.b.length : Int)], u.oneCell' = true)
      have HN1 := Lib.hid (by have := HHL.out; unfold maxLen; omega : j + 1 ≤ maxLen)
      have HN2 := Lib.hid (by have := HHL.out; omega : (j + 1) * 8 ≤ 140737488355328)
      have caB : (wr.alloc o).cell? ⟨w.heap.size + 1, 0, none⟩ = some (.slice A j c) := (World.cell?_alloc_lt wr o ⟨w.heap.size + 1, 0, none⟩ (lt_of_block HBY.out)).trans kB
      subst ho
      have HC := Lib.hid (fun (u : World) (hu : wr.grownBy u (Value.slice A j c).ownBlock) => (hu.block (w.heap.size + 1) (lt_of_block HBY.out) (fun e => by rcases row_ne HSZ.out (not_cells_of_type HBY.out (by decide)) with h | h; rw [h] at e; cases e; exact h e.symm)).trans HBY.out)
      go_wp2_with fail
      go_region_law
        (refine step_append_cells _ rfl (.tmp 21) (.tmp 32) _ rfl w.heap.size 3 i0 _ 1 8 Try.underlying23 hi0 hz0 hz1 hz2 rfl (by decide) (.slice A j c) j ((S.D.take j).map (lenV S)) (by simp [Act.eval]) (HSK.out _ rfl rfl rfl rfl) ⟨wr.heap.size, 0, none⟩ 1 1 [.int .i64 (f.b.length : Int)] (by simp [Act.eval]) rfl (HNW.out _ rfl) HON.out HN1.out HN2.out (HN3.out _ rfl) ?_; intro v1 w2 hown1 hg1 hat1; obtain ⟨A1, cc1, rfl, _⟩ := row_form hown1; have HOWN := Lib.hid hown1; have hgg : wr.grownBy w2 (Value.slice A j c).ownBlock := by { refine World.grownBy.trans ?_ hg1; exact HGN.out _ rfl rfl rfl rfl }; have HGG := Lib.hid hgg; have hcc := HC.out w2 hgg; have HCC := Lib.hid hcc; have d33 := cell_of_one hcc; have f33 := free_block (j := 0) hcc; clear hown1 hg1 hat1 hcc hgg)
      all_goals
        go_wp2
        refine ⟨⟨j + 1, A1, cc1, by go_num, by omega, ?_⟩, by simp [intOf]; omega⟩
        rw [HTK.out]
        have hfin := files_close (ns := S.D.map fun q => strV q.1) (An := some ⟨g, 0, none⟩) (cn := cn) (by rw [List.length_map]; exact HBX.out) HBY.out HBL.out (by rw [List.length_map]; exact HN.out) HSZ.out HGG.out HCC.out HOWN.out
        rw [List.length_map] at hfin
        exact hfin
    · have e : j = S.D.length := by omega
      subst e
      have q : ¬ (S.D.length : Int) < (S.D.length : Int) := by omega
      clear hA hB hbel hn hs hlt
      go_wp2
      go_ret
      have hs2 := HSZ.out
      rw [List.take_length] at hs2
      exact ⟨rfl, ⟨Nat.le_refl _, ⟨_, HBX.out, HN.out⟩, ⟨_, HBY.out, hs2⟩⟩, HBL.out⟩
end
end Go.Proofs.Ytcemfpbkaahcmaa
