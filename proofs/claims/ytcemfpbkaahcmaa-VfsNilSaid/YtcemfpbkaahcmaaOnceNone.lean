/- Contract: what is told of a disk that is not there. -/
import Derived.Test.YtcemfpbkaahcmaaFilesNone
import Derived.Test.YtcemfpbkaahcmaaRoundM
import Derived.Test.YtcemfpbkaahcmaaAgain
namespace Go.Proofs.Ytcemfpbkaahcmaa
open Go.RowKit Go.Shelf
attribute [local go_sem] Oper.semAt_some
set_option linter.unusedVariables false

theorem NoneAt.later {w u : World} {v : Value} (h : NoneAt w v) (hb : Below w.heap.size w u) : NoneAt u v := fun u' hu => h u' (hb.trans (hu.mono hb.size))
/-- An iterator over nothing stops at once. -/
theorem files_stops0 (F : Fence) (n : Nat) (hF : F.fn 51) (hro : F.round = none) (hn : 1 ≤ n) (w : World) (a : Nat) (ha : a + 1 < w.heap.size) (h1 : w.cell? ⟨a, 0, none⟩ = some (.slice none 0 0)) (h2 : w.cell? ⟨a + 1, 0, none⟩ = some (.slice none 0 0)) :
    SeqStopsK F n Try.prog 51 #[.pointer (some ⟨a, 0, none⟩), .pointer (some ⟨a + 1, 0, none⟩)] (fun x : Nz (fun _ => False) => #[strV x.1.1, .int .i64 x.1.2]) (KpC a w.heap.size) (fun xs => xs = []) (fun pre => pre <+: []) 0 w :=
  fun l J Jx W hW _ _ hY h0 =>
    files1_in F n hF hro hn l a a w.heap.size none none 0 0 [] (by simp) (KpC a w.heap.size) (fun _ _ h => h) J Jx hY W (Nat.le_refl _) ha ((hW.cell (p := ⟨a, 0, none⟩) (by show a < _; omega)).trans h1) ((hW.cell (p := ⟨a + 1, 0, none⟩) ha).trans h2) (fun j x hx => by simp at hx) h0
theorem once_ret {w W : World} {tmps : Array Value} {rb D : Nat} (h6 : tmps[6]? = some (.pointer (some ⟨rb, 0, none⟩))) (hc : W.cell? ⟨rb, 0, none⟩ = some (.bool true)) (hK : W.heap[D]? = some (.deferred (some []))) (hne : rb ≠ D) (hD : w.heap.size ≤ D) (hb : Below w.heap.size w W) :
    bodyPostM Fence.wide 9 Try.prog Try.f49 (TruP w) .ret ⟨tmps, [{ target := .collected D, args := #[] }]⟩ W := by
  refine ⟨by simp, .inl ⟨_, _, rfl, run_takeDeferred hK, ?_⟩⟩
  have hc2 : (W.putObj D (.deferred none)).cell? ⟨rb, 0, none⟩ = some (.bool true) := (World.cell?_of_block (World.putObj_heap_other hne)).trans hc
  refine ⟨.bool true, ?_, rfl, hb.trans (belowK_b (w := w) (Nat.le_refl _) W D _ _ hD hK rfl rfl)⟩
  simp [results, Try.results49, asAddr, go_sem, hc2, h6]
set_option maxRecDepth 1000000 in
set_option maxHeartbeats 4000000 in
theorem once_none {w : World} {q : Option Addr} (hN : NoneAt w (.pointer q)) (bq : Nat) (hbq : bq < w.heap.size) (hd : w.cell? ⟨bq, 1, none⟩ = some (.slice none 0 0)) :
    Calls Try.prog 49 #[.pointer q, .pointer (some ⟨bq, 0, none⟩), .int .i64 0] w (TruP w) := by
  refine (callsIn_wide (n := 9)).1 (callsIn_of_wp_marks Try.func49 rfl trivial ?_)
  refine wpIn_wide.2 ?_
  simp only [Try.ntmps49, List.size_toArray, List.length_cons, List.length_nil, Nat.reduceAdd, Nat.reduceSub, Array.replicate_succ, Array.replicate_zero, List.push_toArray, List.append_toArray, List.nil_append, List.cons_append]
  have HN := Lib.hid hN
  have HDD := Lib.hid hd
  clear hN hd
  go_upto_region 2 with fail
  obtain ⟨w1, hw1⟩ : ∃ w1, w1 = ((((w.alloc (.cells #[.pointer (some ⟨bq, 0, none⟩)] 84)).alloc (.cells #[.int .i64 0] 3)).alloc (.cells #[.bool false] 4)).alloc (.cells #[.int .i64 0] 3)) := ⟨_, rfl⟩
  have hsz : w1.heap.size = w.heap.size + 4 := by rw [hw1]; simp
  have hb1 : Below w.heap.size w w1 := by rw [hw1]; exact ((((Below.refl _ _).alloc (Nat.le_refl _) _).alloc (by simp) _).alloc (by simp; omega) _).alloc (by simp; omega) _
  have dx : w1.heap[w.heap.size]? = some (.cells #[.pointer (some ⟨bq, 0, none⟩)] 84 (0, 0)) := by rw [hw1]; exact (Below.heap_alloc _ _ _ (by simp; omega)).trans ((Below.heap_alloc _ _ _ (by simp; omega)).trans ((Below.heap_alloc _ _ _ (by simp)).trans (box_cell w _ _)))
  have rx : w1.heap[w.heap.size + 2]? = some (.cells #[.bool false] 4 (0, 0)) := by
    rw [hw1]
    have := box_cell ((w.alloc (.cells #[.pointer (some ⟨bq, 0, none⟩)] 84)).alloc (.cells #[.int .i64 0] 3)) (.bool false) 4
    rw [World.size_alloc, World.size_alloc] at this
    exact (Below.heap_alloc _ _ _ (by simp)).trans this
  have nx : w1.heap[w.heap.size + 3]? = some (.cells #[.int .i64 0] 3 (0, 0)) := by
    rw [hw1]
    have := box_cell (((w.alloc (.cells #[.pointer (some ⟨bq, 0, none⟩)] 84)).alloc (.cells #[.int .i64 0] 3)).alloc (.cells #[.bool false] 4)) (.int .i64 0) 3
    rwa [World.size_alloc, World.size_alloc, World.size_alloc] at this
  rw [← hw1]
  clear hw1
  have hfl := (files_none (HN.out.later hb1)).mono fun e w' h => (⟨h.1, h.2.symm⟩ : _ ∧ _)
  obtain ⟨w2, hw2⟩ : ∃ w2, w2 = (w1.alloc (.cells #[.slice none 0 0] 55)).alloc (.cells #[.slice none 0 0] 23) := ⟨_, rfl⟩
  have hsz2 : w2.heap.size = w1.heap.size + 2 := by rw [hw2]; simp
  have hb2 : Below w1.heap.size w1 w2 := by rw [hw2]; exact ((Below.refl _ _).alloc (Nat.le_refl _) _).alloc (by simp) _
  have k1 : w2.cell? ⟨w1.heap.size, 0, none⟩ = some (.slice none 0 0) := by rw [hw2]; exact cell_of_one (two_boxes w1).1
  have k2 : w2.cell? ⟨w1.heap.size + 1, 0, none⟩ = some (.slice none 0 0) := by rw [hw2]; exact cell_of_one (two_boxes w1).2
  rw [← hw2] at hfl
  clear hw2
  have hne := fn_nil w1.heap.size (w1.heap.size + 1) 51 w2
  have HF := Lib.hid (⟨hsz, hb1, dx, rx, nx, hsz2, hb2, k1, k2⟩ : _ ∧ _ ∧ _ ∧ _ ∧ _ ∧ _ ∧ _ ∧ _ ∧ _)
  clear hsz hb1 dx rx nx hsz2 hb2 k1 k2
  go_wp2_with (first
    | (go_at_call 27; refine hfl.mono ?_; rintro e w' ⟨rfl, rfl⟩; clear hfl)
    | fail)
  obtain ⟨hsz, hb1, dx, rx, nx, hsz2, hb2, k1, k2⟩ := HF.out
  clear hne
  refine (wpIn_wide (n := 9)).1 ?_
  refine wpIn_rangeFunc_ownG (w0 := w2) rfl (by omega) (gf := 51) (lb := #[.pointer (some ⟨w1.heap.size, 0, none⟩), .pointer (some ⟨w1.heap.size + 1, 0, none⟩)]) rfl trivial (enters_of Try.func51 (by kernel_rfl) rfl)
    (files_stops0 Fence.wide 8 trivial rfl (by omega) w2 w1.heap.size (by omega) k1 k2) kpC_t (fun W l o o' hl _ _ _ => kpC_b W l o o' hl) (Below.refl _ _) (fun _ => rfl)
    (CountI w2 (w.heap.size + 3)) (fun _ _ _ => False) (countI_from (by omega)) (fun _ _ _ _ _ hs _ _ => hs) ⟨World.grownBy.refl _ _, (hb2.block _ (by omega)).trans nx⟩
    (fun x => x.2.elim) (fun l x => x.2.elim) (fun l pre x => x.2.elim) ?done (fun D c pre W _ _ h _ => h.elim)
  case done =>
    rintro D xs W hD rfl hi hK
    have hn := hi.2
    simp only [List.length_nil, Int.natCast_zero] at hn
    have kn := cell_of_one hn
    have kd := cell_of_one ((hi.1.block (w.heap.size) (by omega) (fun e => by injection e with e; omega)).trans ((hb2.block _ (by omega)).trans dx))
    have hr := (hi.1.block (w.heap.size + 2) (by omega) (fun e => by injection e with e; omega)).trans ((hb2.block _ (by omega)).trans rx)
    have kr := cell_of_one hr
    have fr := free_block (j := 0) hr
    have kq : W.cell? ⟨bq, 1, none⟩ = some (.slice none 0 0) := (World.cell?_of_block (a := ⟨bq, 1, none⟩) ((hi.1.block bq (by omega) (fun e => by injection e with e; omega)).trans ((hb2.block bq (by omega)).trans (hb1.block bq hbq)))).trans HDD.out
    have hbW : Below w.heap.size w W := hb1.trans ((hb2.mono (by omega)).trans (below_grown hi.1 (by omega) (fun k e => by injection e with e; omega)))
    have HBW := Lib.hid hbW
    have HK := Lib.hid hK
    have HD := Lib.hid (⟨hD, hsz, hsz2⟩ : _ ∧ _ ∧ _)
    have HR := Lib.hid hr
    clear hbW hK hD hi hn hr hsz hb1 dx rx nx hsz2 hb2 k1 k2
    dsimp only
    go_wp2_with fail
    go_region
    all_goals
      go_wp2_with fail
      obtain ⟨hD, hsz, hsz2⟩ := HD.out
      refine once_ret rfl (World.cell?_setCell_same' _ _ _ (by show (W.cell? _).isSome = true; rw [kr]; rfl)) ((Below.heap_setCell _ _ _ _ (by show D ≠ w.heap.size + 2; omega)).trans HK.out) (by omega) (by omega) ((HBW.out.trans (show Below w.heap.size W W.drew from ⟨rfl, rfl, rfl, Nat.le_refl _, fun _ _ => rfl⟩)).setCell (p := ⟨w.heap.size + 2, 0, none⟩) (by show _ ≤ w.heap.size + 2; omega) _)
end Go.Proofs.Ytcemfpbkaahcmaa
