/- Contract: two disks with the same files, all of which last, are the same again. -/
import Derived.Test.YtcemfpbkaahcmaaAgainF
import Derived.Test.YtcemfpbkaahcmaaFilesNew
namespace Go.Proofs.Ytcemfpbkaahcmaa
open Go.RowKit Go.Shelf
attribute [local go_sem] Oper.semAt_some
set_option linter.unusedVariables false

def TruP (w : World) (e : Ending) (w' : World) : Prop := e = .returned (.bool true) ∧ Below w.heap.size w w'
theorem again_ret {w W : World} {tmps : Array Value} {rb D1 D2 : Nat} (h6 : tmps[4]? = some (.pointer (some ⟨rb, 0, none⟩))) (hc : W.cell? ⟨rb, 0, none⟩ = some (.bool true)) (hK1 : W.heap[D1]? = some (.deferred (some []))) (hK2 : W.heap[D2]? = some (.deferred (some []))) (h1 : rb ≠ D1) (h2 : rb ≠ D2) (h12 : D1 ≠ D2) (hD1 : w.heap.size ≤ D1) (hD2 : w.heap.size ≤ D2) (hb : Below w.heap.size w W) :
    bodyPostM Fence.wide 9 Try.prog Try.f15 (TruP w) .ret ⟨tmps, [{ target := .collected D2, args := #[] }, { target := .collected D1, args := #[] }]⟩ W := by
  have hK1' : (W.putObj D2 (.deferred none)).heap[D1]? = some (.deferred (some [])) := (World.putObj_heap_other h12).trans hK1
  refine ⟨by simp, .inl ⟨_, _, rfl, run_takeDeferred hK2, ⟨by simp, .inl ⟨_, _, rfl, run_takeDeferred hK1', ?_⟩⟩⟩⟩
  have hc2 : ((W.putObj D2 (.deferred none)).putObj D1 (.deferred none)).cell? ⟨rb, 0, none⟩ = some (.bool true) := (World.cell?_of_block (World.putObj_heap_other h1)).trans ((World.cell?_of_block (World.putObj_heap_other h2)).trans hc)
  refine ⟨.bool true, ?_, rfl, (hb.trans (belowK_b (w := w) (Nat.le_refl _) W D2 _ _ hD2 hK2 rfl rfl)).trans (belowK_b (w := w) (Nat.le_refl _) _ D1 _ _ hD1 hK1' rfl rfl)⟩
  simp [results, Try.results15, asAddr, go_sem, hc2, h6]
set_option maxRecDepth 1000000 in
set_option maxHeartbeats 4000000 in
theorem again_any {w : World} {base1 base2 p1 p2 m1 m2 : Nat} {S T : DS} (hS : Holds w base1 p1 S m1) (hT : Holds w base2 p2 T m2) (hm1 : m1 ≤ 1073741824) (hm2 : m2 ≤ 1073741824) (hes : S.es = []) (het : T.es = []) (htw : ∀ q ∈ S.D, Twin S T (q.1, S.sz q)) (hl : S.D.length = T.D.length) :
    Calls Try.prog 15 #[.pointer (some ⟨p1, 0, none⟩), .pointer (some ⟨p2, 0, none⟩)] w (TruP w) := by
  have hlS : S.D.length ≤ 1099511627776 := by obtain ⟨hG, _⟩ := hS; have := hG.cnt; have := hG.cnt2; omega
  refine (callsIn_wide (n := 9)).1 (callsIn_of_wp_marks Try.func15 rfl trivial ?_)
  refine wpIn_wide.2 ?_
  simp only [Try.ntmps15, List.size_toArray, List.length_cons, List.length_nil, Nat.reduceAdd, Nat.reduceSub, Array.replicate_succ, Array.replicate_zero, List.push_toArray, List.append_toArray, List.nil_append, List.cons_append]
  go_upto_region 1 with fail
  obtain ⟨w1, hw1⟩ : ∃ w1, w1 = (((w.alloc (.cells #[.pointer (some ⟨p1, 0, none⟩)] 26)).alloc (.cells #[.pointer (some ⟨p2, 0, none⟩)] 26)).alloc (.cells #[.bool false] 4)) := ⟨_, rfl⟩
  have hsz : w1.heap.size = w.heap.size + 3 := by rw [hw1]; simp
  have hb1 : Below w.heap.size w w1 := by rw [hw1]; exact (((Below.refl _ _).alloc (Nat.le_refl _) _).alloc (by simp) _).alloc (by simp; omega) _
  have ax : w1.heap[w.heap.size]? = some (.cells #[.pointer (some ⟨p1, 0, none⟩)] 26 (0, 0)) := by rw [hw1]; exact (Below.heap_alloc _ _ _ (by simp; omega)).trans ((Below.heap_alloc _ _ _ (by simp)).trans (box_cell w _ _))
  have bx : w1.heap[w.heap.size + 1]? = some (.cells #[.pointer (some ⟨p2, 0, none⟩)] 26 (0, 0)) := by
    rw [hw1]
    have := box_cell (w.alloc (.cells #[.pointer (some ⟨p1, 0, none⟩)] 26)) (.pointer (some ⟨p2, 0, none⟩)) 26
    rw [World.size_alloc] at this
    exact (Below.heap_alloc _ _ _ (by simp)).trans this
  have rx : w1.heap[w.heap.size + 2]? = some (.cells #[.bool false] 4 (0, 0)) := by
    rw [hw1]
    have := box_cell ((w.alloc (.cells #[.pointer (some ⟨p1, 0, none⟩)] 26)).alloc (.cells #[.pointer (some ⟨p2, 0, none⟩)] 26)) (.bool false) 4
    rwa [World.size_alloc, World.size_alloc] at this
  rw [← hw1]
  have hS1 := hS.below hb1 (Nat.le_refl _)
  have hT1 := hT.below hb1 (Nat.le_refl _)
  clear hw1 hS hT
  refine again_r1 _ _ _ _ _ _ _ _ _ _ _ _ _ _ _ _ _ _ _ _ _ _ _ _ _ _ _ _ _ _ _ _ _ _ _ _ _ _ _ _ _ _ _ _ _ _ _ _ _ _ _ _ _ _ _ _ _ _ _ _ _ _ _ _ _ _ _ _ _ _ _ _ _ _ _ _ _ _ _ _ _ _ w1 base1 base2 p1 p2 m1 m2 w.heap.size (w.heap.size + 1) S T hS1 hT1 hes het (cell_of_one ax) (cell_of_one bx) _ ?_
  rintro _ _ _ _ _ _ _ _ _ _ _ _ _ _ rfl
  dsimp only
  have HS1 := Lib.hid (hS1.grow (⟨rfl, rfl, rfl, Nat.le_refl _, fun _ _ _ => rfl⟩ : w1.grownBy w1.drew none))
  have HT1 := Lib.hid (hT1.grow (⟨rfl, rfl, rfl, Nat.le_refl _, fun _ _ _ => rfl⟩ : w1.grownBy w1.drew none))
  have HB1 := Lib.hid (hb1.trans (show Below w.heap.size w1 w1.drew from ⟨rfl, rfl, rfl, Nat.le_refl _, fun _ _ => rfl⟩))
  have HAX := Lib.hid (show w1.drew.heap[w.heap.size]? = _ from ax)
  have HBX := Lib.hid (show w1.drew.heap[w.heap.size + 1]? = _ from bx)
  have HRX := Lib.hid (show w1.drew.heap[w.heap.size + 2]? = _ from rx)
  have HSZ := Lib.hid (show w1.drew.heap.size = w.heap.size + 3 from hsz)
  clear hS1 hT1 hb1 ax bx rx hsz hes het
  obtain ⟨w2, hw2⟩ : ∃ w2, w2 = w1.drew := ⟨_, rfl⟩
  rw [← hw2] at HS1 HT1 HB1 HAX HBX HRX HSZ ⊢
  clear hw2
  go_upto_region 4 with fail
  obtain ⟨w3, hw3⟩ : ∃ w3, w3 = w2.alloc (.cells #[.int .i64 0] 3) := ⟨_, rfl⟩
  have hsz3 : w3.heap.size = w2.heap.size + 1 := by rw [hw3]; simp
  have hb3 : Below w2.heap.size w2 w3 := by rw [hw3]; exact (Below.refl _ _).alloc (Nat.le_refl _) _
  have nx : w3.heap[w2.heap.size]? = some (.cells #[.int .i64 0] 3 (0, 0)) := by rw [hw3]; exact box_cell w2 _ _
  rw [← hw3]
  clear hw3
  have ka := cell_of_one ((hb3.block _ (lt_of_block HAX.out)).trans HAX.out)
  have HB3 := Lib.hid hb3
  have HNX := Lib.hid nx
  have HSZ3 := Lib.hid hsz3
  have HS3 := Lib.hid (HS1.out.below hb3 (Nat.le_refl _))
  have HT3 := Lib.hid (HT1.out.below hb3 (Nat.le_refl _))
  clear hb3 nx hsz3 HS1 HT1
  have hfl : Calls Try.prog 27 #[.pointer (some ⟨p1, 0, none⟩)] w3 (FilesP w3 S) := by
    obtain ⟨hG, fb, lb, sv, rv, hM⟩ := HS3.out
    exact files_disk hG hM hm1
  unfold FilesP at hfl
  have hfn := fun a : Nat => fn_nil a (a + 1)
  go_wp2_with (first
    | (go_at_call 27; refine hfl.mono ?_; rintro e w4 ⟨rfl, hit, hb4⟩; have HIT := Lib.hid hit; have HB4 := Lib.hid hb4; have hne := hfn w3.heap.size 51 w4; clear hit hb4 hfl)
    | fail)
  have hs2 := HSZ.out
  have hs3 := HSZ3.out
  have hs4 := HB4.out.size
  have hb34 := HB3.out.trans (HB4.out.mono (by omega))
  refine (wpIn_wide (n := 9)).1 ?_
  refine again_rf0 _ _ _ _ _ _ _ _ _ _ _ _ _ _ _ _ _ _ _ _ _ _ _ _ _ _ _ _ _ _ _ _ _ _ _ _ _ _ _ _ _ _ _ _ _ _ _ _ _ _ _ _ _ _ _ _ _ _ _ _ _ _ _ _ _ _ _ _ _ _ _ _ _ _ _ _ _ _ _ _ w4 base1 base2 p1 p2 m1 m2 w.heap.size (w.heap.size + 1) w2.heap.size w3.heap.size w3.heap.size S T ?_ ?_ ?_ (by omega) (by omega) (by omega) hs4 (HS3.out.below HB4.out (Nat.le_refl _)) (HT3.out.below HB4.out (Nat.le_refl _)) hlS htw HIT.out _ ?_
  · exact (hb34.cell (p := ⟨w.heap.size, 0, none⟩) (by show w.heap.size < _; omega)).trans (cell_of_one HAX.out)
  · exact (hb34.cell (p := ⟨w.heap.size + 1, 0, none⟩) (by show w.heap.size + 1 < _; omega)).trans (cell_of_one HBX.out)
  · exact (HB4.out.block _ (by omega)).trans HNX.out
  · intro D1 W hD1 hK1 hg hn
    dsimp only
    have HTW := Lib.hid ((HT3.out.below HB4.out (Nat.le_refl _)).box ((HB4.out.block _ (by omega)).trans HNX.out) hg)
    have HBW := Lib.hid (HB1.out.trans ((hb34.mono (by omega)).trans (below_grown hg (by omega) (fun k e => by injection e with e; omega))))
    have HBXW := Lib.hid ((hg.block (w.heap.size + 1) (by omega) (fun e => by injection e with e; omega)).trans ((hb34.block (w.heap.size + 1) (by omega)).trans HBX.out))
    have HRXW := Lib.hid ((hg.block (w.heap.size + 2) (by omega) (fun e => by injection e with e; omega)).trans ((hb34.block (w.heap.size + 2) (by omega)).trans HRX.out))
    have HNW := Lib.hid hn
    have HK1 := Lib.hid hK1
    have HD1 := Lib.hid (⟨hD1, Nat.le_trans hs4 hg.size, hs2, hs3⟩ : _ ∧ w3.heap.size ≤ W.heap.size ∧ _ ∧ _)
    have HS4 := Lib.hid hs4
    have kb := cell_of_one HBXW.out
    clear hb34 hg hn hK1 hD1 hs2 hs3 hs4 ka hne
    have hfl : ∀ u, Below W.heap.size W u → Calls Try.prog 27 #[.pointer (some ⟨p2, 0, none⟩)] u (FilesP u T) := fun u hu => by
      obtain ⟨hG, fb, lb, sv, rv, hM⟩ := HTW.out.below hu (Nat.le_refl _)
      exact files_disk hG hM hm2
    unfold FilesP at hfl
    have HFL := Lib.hid hfl
    have h1 := hfl W (Below.refl _ _)
    clear hfl
    go_upto_region 17 with (first
      | (go_at_call 27; refine h1.mono ?_; rintro e w5 ⟨rfl, _, hb5⟩; have HB5 := Lib.hid hb5; have hne := hfn W.heap.size 51 w5; clear hb5 h1)
      | fail)
    have kb := (HB5.out.cell (p := ⟨w.heap.size + 1, 0, none⟩) (lt_of_block HBXW.out)).trans (cell_of_one HBXW.out)
    have h2 := HFL.out w5 HB5.out
    clear hne
    go_wp2_with (first
      | (go_at_call 27; refine h2.mono ?_; rintro e w6 ⟨rfl, hit, hb6⟩; have HB6 := Lib.hid hb6; have HI6 := Lib.hid hit; clear hb6 h2 hit)
      | fail)
    have hb56 := HB5.out.trans (HB6.out.mono HB5.out.size)
    have hs5 := HB5.out.size
    have hs6 := HB6.out.size
    obtain ⟨hD1, hsw, hs2, hs3⟩ := HD1.out
    have hs4 := HS4.out
    refine (wpIn_wide (n := 9)).1 ?_
    refine again_rf1 _ _ _ _ _ _ _ _ _ _ _ _ _ _ _ _ _ _ _ _ _ _ _ _ _ _ _ _ _ _ _ _ _ _ _ _ _ _ _ _ _ _ _ _ _ _ _ _ _ _ _ _ _ _ _ _ _ _ _ _ _ _ _ _ _ _ _ _ _ _ _ _ _ _ _ _ _ _ _ _ _ _ _ w6 w2.heap.size w5.heap.size w5.heap.size S.D.length T ((hb56.block _ (by omega)).trans HNW.out) hl (by omega) hs6 (by omega) HI6.out _ ?_
    intro D2 X hD2 hK2 hg2 hn2
    dsimp only
    have hKX : X.heap[D1]? = some (.deferred (some [])) := by
      have hlt : D1 < W.heap.size := (Array.getElem?_eq_some_iff.1 HK1.out).1
      exact (hg2.block D1 (by omega) (fun e => by injection e with e; omega)).trans ((hb56.block D1 hlt).trans HK1.out)
    have hlt : D1 < w6.heap.size := by have hlt : D1 < W.heap.size := (Array.getElem?_eq_some_iff.1 HK1.out).1; omega
    have hrX := (hg2.block (w.heap.size + 2) (by omega) (fun e => by injection e with e; omega)).trans ((hb56.block (w.heap.size + 2) (by omega)).trans HRXW.out)
    have HRX2 := Lib.hid hrX
    have HBX2 := Lib.hid (HBW.out.trans ((hb56.mono HBW.out.size).trans (below_grown hg2 (by have := HBW.out.size; omega) (fun k e => by injection e with e; omega))))
    have HK := Lib.hid (⟨hKX, hK2, hlt, hD2, hD1, hs2, hs3, hs4, hs5, hs6, hsw⟩ : _ ∧ _ ∧ _ ∧ _ ∧ _ ∧ _ ∧ _ ∧ _ ∧ _ ∧ _ ∧ _)
    have kn := cell_of_one hn2
    have kr := cell_of_one hrX
    have fr := free_block (j := 0) hrX
    clear hb56 hs5 hs6 hsw hs2 hs3 hs4 hD1 hD2 hK2 hg2 hn2 hKX hlt hrX kb
    go_wp2_with fail
    obtain ⟨hKX, hK2, hlt, hD2, hD1, hs2, hs3, hs4, hs5, hs6, hsw⟩ := HK.out
    refine again_ret rfl (World.cell?_setCell_same' _ _ _ (by rw [kr]; rfl)) ((Below.heap_setCell _ _ _ _ (by show D1 ≠ w.heap.size + 2; omega)).trans hKX) ((Below.heap_setCell _ _ _ _ (by show D2 ≠ w.heap.size + 2; omega)).trans hK2) (by omega) (by omega) (by omega) (by omega) (by omega) (HBX2.out.setCell (p := ⟨w.heap.size + 2, 0, none⟩) (by show _ ≤ w.heap.size + 2; omega) _)
end Go.Proofs.Ytcemfpbkaahcmaa
