/- Contract: the law of names. -/
import Derived.Test.YtcemfpbkaahcmaaGoesF
import Derived.Test.YtcemfpbkaahcmaaFaults
namespace Go.Proofs.Ytcemfpbkaahcmaa
open Go.RowKit Go.Shelf
attribute [local go_sem] Oper.semAt_some
set_option linter.unusedVariables false

theorem names_ret {w W : World} {tmps : Array Value} {rb : Nat} (h6 : tmps[6]? = some (.pointer (some ⟨rb, 0, none⟩))) (hc : W.cell? ⟨rb, 0, none⟩ = some (.bool true)) (hb : Below w.heap.size w W) :
    bodyPostM Fence.wide 9 Try.prog Try.f6 (TrueP w) .ret ⟨tmps, []⟩ W := by
  refine ⟨.bool true, ?_, rfl, hb⟩
  simp [results, Try.results6, asAddr, go_sem, hc, h6]
theorem names_ret2 {w W : World} {tmps : Array Value} {rb D : Nat} (h6 : tmps[6]? = some (.pointer (some ⟨rb, 0, none⟩))) (hc : W.cell? ⟨rb, 0, none⟩ = some (.bool true)) (hK : W.heap[D]? = some (.deferred (some []))) (hne : rb ≠ D) (hD : w.heap.size ≤ D) (hb : Below w.heap.size w W) :
    bodyPostM Fence.wide 9 Try.prog Try.f6 (TrueP w) .ret ⟨tmps, [{ target := .collected D, args := #[] }]⟩ W := by
  refine ⟨by simp, .inl ⟨_, _, rfl, run_takeDeferred hK, ?_⟩⟩
  have hc2 : (W.putObj D (.deferred none)).cell? ⟨rb, 0, none⟩ = some (.bool true) := (World.cell?_of_block (World.putObj_heap_other hne)).trans hc
  refine ⟨.bool true, ?_, rfl, hb.trans (belowK_b (w := w) (Nat.le_refl _) W D _ _ hD hK rfl rfl)⟩
  simp [results, Try.results6, asAddr, go_sem, hc2, h6]
set_option maxRecDepth 1000000 in
set_option maxHeartbeats 4000000 in
theorem vfsNames_any (w : World) (An A P : Option Addr) (L : List Str) (b : List UInt8) (ps : List Int) (cn cb cp : Nat) (hT : RdT w w.heap.size An L) (hTl : ∀ s ∈ L, s.length ≤ maxLen) (hr : Rd w 0 w.heap.size A b) (hcb : b.length ≤ cb) (hcm : cb ≤ maxLen) (hP : RdI w w.heap.size P ps) (hcp : ps.length ≤ cp) (hpm : cp ≤ maxLen) (hLl : L.length ≤ 9223372036854775807) :
    Calls Try.prog 6 #[.slice An L.length cn, .slice A b.length cb, .slice P ps.length cp] w (TrueP w) := by
  have hkn := fun u => known_any u
  have hnum := fun e u => num_any e u
  have kb := cell_of_one (box_cell w (.slice A b.length cb) 33)
  unfold maxLen at hcm hpm
  refine (callsIn_wide (n := 9)).1 (callsIn_of_wp_marks Try.func6 rfl trivial ?_)
  refine wpIn_wide.2 ?_
  simp only [Try.ntmps6, List.size_toArray, List.length_cons, List.length_nil, Nat.reduceAdd, Nat.reduceSub, Array.replicate_succ, Array.replicate_zero, List.push_toArray, List.append_toArray, List.nil_append, List.cons_append]
  by_cases hmuch : 20 < L.length ∨ 9000 < b.length ∨ 60 < ps.length
  · have HRX0 := Lib.hid (show ((w.alloc (.cells #[.slice A b.length cb] 33)).alloc (.cells #[.bool false] 4)).heap[w.heap.size + 1]? = some (.cells #[.bool false] 4 (0, 0)) by
      have := box_cell (w.alloc (.cells #[.slice A b.length cb] 33)) (.bool false) 4
      rwa [World.size_alloc] at this)
    by_cases g1 : 20 < L.length
    · have q1 : (20 : Int) < (L.length : Int) := by omega
      clear hmuch g1
      go_wp2_with (go_at_call 7; refine (hkn _).mono ?_; rintro e wk ⟨rfl, hbk⟩; have HBK := Lib.hid hbk; have rx6 := (hbk.block (w.heap.size + 1) (by simp)).trans HRX0.out; have HR6 := Lib.hid rx6; have c6 := cell_of_one rx6; have f6 := free_block (j := 0) rx6; clear hbk rx6)
      exact names_ret rfl (World.cell?_setCell_same' _ _ _ (by rw [c6]; rfl)) ((((Below.refl _ w).alloc (Nat.le_refl _) _).alloc (by simp) _).trans ((HBK.out.mono (by simp; omega)).setCell (p := ⟨w.heap.size + 1, 0, none⟩) (by show _ ≤ w.heap.size + 1; omega) _))
    have q1 : ¬ (20 : Int) < (L.length : Int) := by omega
    by_cases g2 : 9000 < b.length
    · have q2 : (9000 : Int) < (b.length : Int) := by omega
      clear hmuch g1 g2
      go_wp2_with (go_at_call 7; refine (hkn _).mono ?_; rintro e wk ⟨rfl, hbk⟩; have HBK := Lib.hid hbk; have rx6 := (hbk.block (w.heap.size + 1) (by simp)).trans HRX0.out; have HR6 := Lib.hid rx6; have c6 := cell_of_one rx6; have f6 := free_block (j := 0) rx6; clear hbk rx6)
      exact names_ret rfl (World.cell?_setCell_same' _ _ _ (by rw [c6]; rfl)) ((((Below.refl _ w).alloc (Nat.le_refl _) _).alloc (by simp) _).trans ((HBK.out.mono (by simp; omega)).setCell (p := ⟨w.heap.size + 1, 0, none⟩) (by show _ ≤ w.heap.size + 1; omega) _))
    have q2 : ¬ (9000 : Int) < (b.length : Int) := by omega
    have q3 : (60 : Int) < (ps.length : Int) := by omega
    clear hmuch g1 g2
    go_wp2_with (go_at_call 7; refine (hkn _).mono ?_; rintro e wk ⟨rfl, hbk⟩; have HBK := Lib.hid hbk; have rx6 := (hbk.block (w.heap.size + 1) (by simp)).trans HRX0.out; have HR6 := Lib.hid rx6; have c6 := cell_of_one rx6; have f6 := free_block (j := 0) rx6; clear hbk rx6)
    exact names_ret rfl (World.cell?_setCell_same' _ _ _ (by rw [c6]; rfl)) ((((Below.refl _ w).alloc (Nat.le_refl _) _).alloc (by simp) _).trans ((HBK.out.mono (by simp; omega)).setCell (p := ⟨w.heap.size + 1, 0, none⟩) (by show _ ≤ w.heap.size + 1; omega) _))
  · have q1 : ¬ (20 : Int) < (L.length : Int) := by omega
    have q2 : ¬ (9000 : Int) < (b.length : Int) := by omega
    have q3 : ¬ (60 : Int) < (ps.length : Int) := by omega
    have HT := Lib.hid hT
    have HTL := Lib.hid hTl
    have HLL : L.length ≤ 20 := by omega
    clear hT hTl hmuch
    go_wp2_with fail
    obtain ⟨w1, hw1⟩ : ∃ w1, w1 = ((w.alloc (.cells #[.slice A b.length cb] 33)).alloc (.cells #[.bool false] 4)) := ⟨_, rfl⟩
    have hsz : w1.heap.size = w.heap.size + 2 := by rw [hw1]; simp
    have hb1 : Below w.heap.size w w1 := by rw [hw1]; exact ((Below.refl _ _).alloc (Nat.le_refl _) _).alloc (by simp) _
    have bx : w1.heap[w.heap.size]? = some (.cells #[.slice A b.length cb] 33 (0, 0)) := by rw [hw1]; exact (Below.heap_alloc _ _ _ (by simp)).trans (box_cell w _ _)
    have rx : w1.heap[w.heap.size + 1]? = some (.cells #[.bool false] 4 (0, 0)) := by
      rw [hw1]
      have := box_cell (w.alloc (.cells #[.slice A b.length cb] 33)) (.bool false) 4
      rwa [World.size_alloc] at this
    rw [← hw1]
    clear hw1 kb
    refine (new_any (w := w1) 10000 (by omega) (by omega)).mono ?_
    rintro e w2 ⟨p, rfl, hh, hb2⟩
    have HH2 := Lib.hid hh
    have HB2 := Lib.hid hb2
    clear hh hb2
    have HBX := Lib.hid bx
    have HRX := Lib.hid rx
    have HB1 := Lib.hid hb1
    have hr1 := hr.below hb1 (Nat.le_refl _)
    have HR1 := Lib.hid hr1
    clear bx rx hb1 hr hr1
    go_upto_region 4 with fail
    refine names_r4 _ _ _ _ _ _ _ _ _ _ _ _ _ _ _ _ _ _ _ _ _ _ _ _ _ _ _ _ _ _ _ _ _ _ _ _ _ _ _ _ _ _ _ _ _ _ _ _ _ _ _ _ _ _ _ _ _ _ _ _ _ _ _ _ _ _ _ _ _ _ _ _ _ _ _ _ _ _ _ _ _ _ _ _ _ _ _ _ _ _ _ _ _ _ _ _ _ _ _ _ _ _ _ _ _ _ _ _ _ _ _ _ _ _ _ _ _ _ _ _ _ _ _ _ _ _ _ _ _ _ _ _ _ _ _ _ _ _ _ _ _ _ _ _ _ w2 w1.heap.size p w.heap.size w.heap.size cb A b HH2.out ((HB2.out.cell (p := ⟨w.heap.size, 0, none⟩) (by show w.heap.size < _; omega)).trans (cell_of_one HBX.out)) (by omega) (HR1.out.below HB2.out (by omega)) (by omega) hcb hcm (by omega) _ ?_
    intro _ _ _ _ _ _ _ _ _ _ _ _ _ _ _ _ _ _ _ _ _ _ _ _ _ w3 k hh3 hb3
    have HH3 := Lib.hid hh3
    have HB3 := Lib.hid (HB2.out.trans hb3)
    clear hh3 hb3 HH2 HB2
    dsimp only
    go_wp2_with fail
    go_loopw [9, 10] (fun at_ i wr => ∃ (j m : Nat) (s : Str) (es : List En) (ch : Int), at_ = strV s ∧ i = .int .i64 (j : Int) ∧ j ≤ L.length ∧ m ≤ j + 4 ∧ mayB s = true ∧ s.length ≤ maxLen ∧ es.length = j ∧ Rens es ∧ Holds wr w1.heap.size p (NS [(s, k)] [(sF, k)] es ch k b b.length) m ∧ Below w1.heap.size w1 wr) (fun _ i _ => L.length - (intOf i).toNat)
    case atStart => exact ⟨0, 4, sF, [], 4, rfl, rfl, by omega, by omega, may_f, by decide, rfl, Rens.nil, HH3.out, HB3.out⟩
    case round =>
      obtain ⟨j, m, s, es, ch, rfl, rfl, hj, hm, hs, hsl, hel, hrens, hh, hb⟩ := hrel
      have HH := Lib.hid hh
      have HB := Lib.hid hb
      by_cases hlt : j < L.length
      · have q4 : (j : Int) < (L.length : Int) := by omega
        obtain ⟨b0, off, rfl, hb0, hcell⟩ := ((HT.out.below HB1.out (Nat.le_refl _)).below hb (by omega)).at_ hlt
        have htl := HTL.out _ (List.getElem_mem hlt)
        obtain ⟨t, ht⟩ : ∃ t, t = L[j] := ⟨_, rfl⟩
        rw [← ht] at hcell htl
        have hmay := refMay_any t wr htl
        have hren := rename_any hh (by omega) s t hsl htl
        have HB0 := Lib.hid hb0
        unfold strV at hcell hmay hren ⊢
        have HBW := Lib.hid (HB1.out.trans (hb.mono (by omega)))
        have rxw := (hb.block (w.heap.size + 1) (by omega)).trans HRX.out
        clear hh hb ht hb0
        by_cases hmt : mayB t = true
        · rw [hmt] at hmay
          clear rxw
          go_wp2_with (first
            | (go_at_call 25; refine hmay.mono ?_; rintro e w4 ⟨rfl, rfl⟩)
            | (go_at_call 22; refine hren.mono ?_; rintro e w5 hs5; obtain ⟨rfl, h5, b5⟩ := step_eq (g5 t hs hmt _ _ _ _ _ _) hs5; have HH5 := Lib.hid h5; have HB5 := Lib.hid b5; have hc5 := (b5.cell (p := ⟨b0, off + j, none⟩) (by have := HB0.out; show b0 < _; omega)).trans hcell; clear hs5 h5 b5 hren)
            | (go_at_call 10; refine (hnum _ _).mono ?_; rintro e w9 ⟨rfl, rfl⟩))
          exact ⟨⟨j + 1, m + 1, t, es ++ [⟨4, s, t, 0⟩], ch + 1, rfl, by go_num, by omega, by omega, hmt, htl, by simp [hel], hrens.snoc s hmt, HH5.out, HB.out.trans HB5.out⟩, by simp [intOf]; omega⟩
        · have hmf : mayB t = false := by simpa using hmt
          rw [hmf] at hmay
          clear hren
          go_wp2_with (first
            | (go_at_call 25; refine hmay.mono ?_; rintro e w4 ⟨rfl, rfl⟩)
            | (go_at_call 7; refine (hkn _).mono ?_; rintro e w6 ⟨rfl, hb6⟩; have HB6 := Lib.hid hb6; have rx6 := (hb6.block (w.heap.size + 1) (lt_of_block rxw)).trans rxw; have HR6 := Lib.hid rx6; have c6 := cell_of_one rx6; have f6 := free_block (j := 0) rx6; clear hb6 rx6))
          exact names_ret rfl (World.cell?_setCell_same' _ _ _ (by rw [c6]; rfl)) ((HBW.out.trans (HB6.out.mono HBW.out.size)).setCell (p := ⟨w.heap.size + 1, 0, none⟩) (by show _ ≤ w.heap.size + 1; omega) _)
      · have q4 : ¬ (j : Int) < (L.length : Int) := by omega
        have hjl : j = L.length := by omega
        have HBW := Lib.hid (HB1.out.trans (hb.mono (by omega)))
        have kbw := (hb.cell (p := ⟨w.heap.size, 0, none⟩) (by show w.heap.size < _; omega)).trans (cell_of_one HBX.out)
        have HKB := Lib.hid kbw
        clear hh hb kbw
        go_upto_region 15 with fail
        refine names_r15 _ _ _ _ _ _ _ _ _ _ _ _ _ _ _ _ _ _ _ _ _ _ _ _ _ _ _ _ _ _ _ _ _ _ _ _ _ _ _ _ _ _ _ _ _ _ _ _ _ _ _ _ _ _ _ _ _ _ _ _ _ _ _ _ _ _ _ _ _ _ _ _ _ _ _ _ _ _ _ _ _ _ _ _ _ _ _ _ _ _ _ _ _ _ _ _ _ _ _ _ _ _ _ _ _ _ _ _ _ _ _ _ _ _ _ _ _ _ _ _ _ _ _ _ _ _ _ _ _ _ _ _ _ _ _ _ _ _ _ _ _ _ _ _ wr w1.heap.size p w.heap.size w.heap.size cb cn k m A An b s _ es ch L hs hsl HH.out HKB.out (by have := HB.out.size; omega) ((HR1.out.below HB.out (by omega))) (by have := HB.out.size; omega) (by omega) HLL _ ?_
        intro _ _ _ _ _ _ _ _ _ _ _ _ w5 hh5 hb5
        have HH5 := Lib.hid hh5
        have HB5 := Lib.hid (HB.out.trans (hb5.mono HB.out.size))
        clear hh5 hb5 HH HB HBW HKB
        dsimp only
        have hP5 : RdI w5 w5.heap.size P ps := fun hn => by
          obtain ⟨b9, off, e, h2, hc⟩ := ((hP.below HB1.out (Nat.le_refl _)).below HB5.out (by omega)) hn
          exact ⟨b9, off, e, by have := HB5.out.size; omega, hc⟩
        have hcr := crash_any HH5.out (by omega) P cp ps hP5 hcp (by unfold maxLen; omega)
        go_wp2_with (first
          | (go_at_call 12; refine hcr.mono ?_; rintro e w6 ⟨p6, S6, rfl, h6, hcr6, b6⟩; obtain ⟨y, hy⟩ := goes_crashed hrens hcr6; have HH6 := Lib.hid h6; have HB6 := Lib.hid b6; have HY := Lib.hid hy; clear h6 hcr6 b6 hy hcr hP5)
          | fail)
        obtain ⟨w7, hw7⟩ : ∃ w7, w7 = ((w6.alloc (.cells #[.pointer (some ⟨p6, 0, none⟩)] 26)).alloc (.cells #[.int .i64 0] 3)) := ⟨_, rfl⟩
        have hsz7 : w7.heap.size = w6.heap.size + 2 := by rw [hw7]; simp
        have HSZ7 := Lib.hid hsz7
        have hb7 : Below w6.heap.size w6 w7 := by rw [hw7]; exact ((Below.refl _ _).alloc (Nat.le_refl _) _).alloc (by simp) _
        have cx : w7.heap[w6.heap.size]? = some (.cells #[.pointer (some ⟨p6, 0, none⟩)] 26 (0, 0)) := by rw [hw7]; exact (Below.heap_alloc _ _ _ (by simp)).trans (box_cell w6 _ _)
        have nx : w7.heap[w6.heap.size + 1]? = some (.cells #[.int .i64 0] 3 (0, 0)) := by
          rw [hw7]
          have := box_cell (w6.alloc (.cells #[.pointer (some ⟨p6, 0, none⟩)] 26)) (.int .i64 0) 3
          rwa [World.size_alloc] at this
        have hh7 := HH6.out.below hb7 (Nat.le_refl _)
        rw [← hw7]
        clear hw7
        have hfl : Calls Try.prog 27 #[.pointer (some ⟨p6, 0, none⟩)] w7 (FilesP w7 S6) := by
          obtain ⟨hG, fb, lb, sv, rv, hM⟩ := hh7
          exact files_disk hG hM (by omega)
        have HH7 := Lib.hid hh7
        have HB7 := Lib.hid (HB5.out.trans ((HB6.out.mono HB5.out.size).trans (hb7.mono (Nat.le_trans HB5.out.size HB6.out.size))))
        have HCX := Lib.hid cx
        have HNX := Lib.hid nx
        have HLE := Lib.hid (show w1.heap.size ≤ w6.heap.size from Nat.le_trans HB5.out.size HB6.out.size)
        clear cx nx hh7 hb7 hsz7
        unfold FilesP at hfl
        refine hfl.mono ?_
        rintro e w8 ⟨rfl, hit, hb8⟩
        have HIT := Lib.hid hit
        have HB8 := Lib.hid hb8
        clear hit hb8 hfl
        have hfn := fn_nil w7.heap.size (w7.heap.size + 1)
        go_wp2_with fail
        have hle := HLE.out
        have hsz7 := HSZ7.out
        have hs8 := HB8.out.size
        have hbw8 := HB7.out.trans (HB8.out.mono (by omega))
        refine (wpIn_wide (n := 9)).1 ?_
        refine names_rf _ _ _ _ _ _ _ _ _ _ _ _ _ _ _ _ _ _ _ _ _ _ _ _ _ _ _ _ _ _ _ _ _ _ _ _ _ _ _ _ _ _ _ _ _ _ _ _ _ _ _ _ _ _ _ _ _ _ _ _ _ _ _ _ _ _ _ _ _ _ _ _ _ _ _ _ _ _ _ _ _ _ _ _ _ _ _ _ _ _ _ _ _ _ _ _ _ _ _ _ _ _ _ _ _ _ _ _ _ _ _ _ _ _ _ _ _ _ _ _ _ _ _ _ _ _ _ _ _ _ _ _ _ _ _ _ _ _ _ _ _ _ _ _ w8 w5.heap.size p6 m w.heap.size w6.heap.size (w6.heap.size + 1) w7.heap.size w7.heap.size w.heap.size cb A b y S6 ?_ ?_ ?_ (by omega) (by omega) (by omega) hs8 (HH7.out.below HB8.out (Nat.le_refl _)) HY.out HIT.out ?_ (by omega) (by omega) _ ?_
        · exact (hbw8.cell (p := ⟨w.heap.size, 0, none⟩) (by show w.heap.size < _; omega)).trans (cell_of_one HBX.out)
        · exact (HB8.out.cell (p := ⟨w6.heap.size, 0, none⟩) (by show w6.heap.size < _; omega)).trans (cell_of_one HCX.out)
        · exact (HB8.out.block _ (by omega)).trans HNX.out
        · exact HR1.out.below hbw8 (by omega)
        · intro D W hD hK hI
          have rW := (hI.1.block (w.heap.size + 1) (by omega) (fun e => by injection e with e; omega)).trans ((hbw8.block (w.heap.size + 1) (by omega)).trans HRX.out)
          have HBW := Lib.hid (HB1.out.trans ((hbw8.mono (by omega)).trans (below_grown hI.1 (by omega) (fun k e => by injection e with e; omega))))
          have HRW := Lib.hid rW
          have HKW := Lib.hid hK
          have HDD := Lib.hid hD
          have kn := cell_of_one hI.2
          clear hbw8 rW hK hD hI
          dsimp only
          go_wp2_with (first
            | (go_at_call 7; refine (hkn _).mono ?_; rintro e wk ⟨rfl, hbk⟩; have HBK := Lib.hid hbk; have rx6 := (hbk.block (w.heap.size + 1) (lt_of_block HRW.out)).trans HRW.out; have HR6 := Lib.hid rx6; have c6 := cell_of_one rx6; have f6 := free_block (j := 0) rx6; clear hbk rx6)
            | fail)
          refine names_ret2 rfl (World.cell?_setCell_same' _ _ _ (by rw [c6]; rfl)) ?_ ?_ ?_ ((HBW.out.trans (HBK.out.mono HBW.out.size)).setCell (p := ⟨w.heap.size + 1, 0, none⟩) (by show _ ≤ w.heap.size + 1; omega) _)
          · have hlt : D < W.heap.size := (Array.getElem?_eq_some_iff.1 HKW.out).1
            exact (Below.heap_setCell _ _ _ _ (by have := HDD.out; show D ≠ w.heap.size + 1; omega)).trans ((HBK.out.block D hlt).trans HKW.out)
          · have := HDD.out; omega
          · have := HDD.out; omega
end Go.Proofs.Ytcemfpbkaahcmaa
