/- The walk of SumsFit. -/
import Derived.Test.YtodfpgbgcenbgaaSumFit
import Derived.Deep.RegionHeld3
import Derived.Laws.StructEq
namespace Go.Proofs.Ytodfpgbgcenbgaa
open Go.ChangeShapes Go.WideShapes Go.ChangeAt Go.RowKit
set_option linter.unusedVariables false

theorem fit_bytes (s t : Nat) (w : World) (hs : s < 4294967296) (ht : t < 4294967296) :
    Calls Try.prog 14 #[.int .u32 (s : Int), .int .u32 (t : Int)] w fun e w' => ∃ (Y : Array Value) (y0 y1 y2 y3 : UInt8), e = .returned (.agg Y) ∧ Y = #[.int .u8 (y0.toNat : Int), .int .u8 (y1.toNat : Int), .int .u8 (y2.toNat : Int), .int .u8 (y3.toNat : Int)] ∧ moreS s [y0, y1, y2, y3] = t ∧ Below w.heap.size w w' := by
  refine (fit_any s t w hs ht).mono ?_
  rintro e w' ⟨rfl, hb⟩
  exact ⟨_, _, _, _, _, rfl, by rw [fourV_bytes]; rfl, fit_more s t ht, hb⟩

theorem eq_four (a0 a1 a2 a3 b0 b1 b2 b3 : Int) (w : World) : (Op.equalIn 10000 31 (.agg #[.int .u8 a0, .int .u8 a1, .int .u8 a2, .int .u8 a3]) (.agg #[.int .u8 b0, .int .u8 b1, .int .u8 b2, .int .u8 b3])).run Try.prog w = .ok (a0 == b0 && a1 == b1 && a2 == b2 && a3 == b3) w := by
  have u3 := Try.underlying5
  have a3' : ∀ u : World, (isAgg 5).run Try.prog u = .ok false u := fun u => by kernel_rfl
  have z3 : ∀ u : World, (sizeOf 5).run Try.prog u = .ok 1 u := fun u => by kernel_rfl
  rw [show (10000 : Nat) = 9999 + 1 from rfl, Op.equalIn]
  simp only [Sem.run_bind, run_underlying Try.underlying31, Result.andThen_ok]
  simp only [Std.Legacy.Range.forIn_eq_forIn_range', Std.Legacy.Range.size, Nat.sub_zero, Nat.add_sub_cancel, Nat.div_one, List.range'_succ, List.range'_zero, List.forIn_cons, List.forIn_nil]
  go_simp
  by_cases h0 : a0 = b0 <;> by_cases h1 : a1 = b1 <;> by_cases h2 : a2 = b2 <;> by_cases h3 : a3 = b3 <;> simp [h0, h1, h2, h3]

/-- Four bytes as a slice of a block. -/
theorem Rd.four {w : World} {b : Nat} {x0 x1 x2 x3 : UInt8} {t : TypeId} {fr : Nat × Nat} (h : w.heap[b]? = some (.cells #[.int .u8 (x0.toNat : Int), .int .u8 (x1.toNat : Int), .int .u8 (x2.toNat : Int), .int .u8 (x3.toNat : Int)] t fr)) : Rd w 0 w.heap.size (some ⟨b, 0, none⟩) [x0, x1, x2, x3] := fun _ => by
  have hlt : b < w.heap.size := by
    rcases Nat.lt_or_ge b w.heap.size with h' | h'
    · exact h'
    · rw [Array.getElem?_eq_none h'] at h; cases h
  refine ⟨b, 0, rfl, Nat.zero_le _, hlt, fun j x hx => ?_⟩
  rw [Nat.zero_add, cell_of_row w b j _ _ _ h]
  match j, hx with
  | 0, hx => injection hx with hx; subst hx; rfl
  | 1, hx => injection hx with hx; subst hx; rfl
  | 2, hx => injection hx with hx; subst hx; rfl
  | 3, hx => injection hx with hx; subst hx; rfl

set_option maxRecDepth 100000 in
set_option maxHeartbeats 8000000 in
theorem sumsFit_any (s t : Nat) (x0 x1 x2 x3 : UInt8) (w : World) (hs : s < 4294967296) (ht : t < 4294967296) :
    Calls Try.prog 5 #[.int .u32 (s : Int), .int .u32 (t : Int), .agg #[.int .u8 (x0.toNat : Int), .int .u8 (x1.toNat : Int), .int .u8 (x2.toNat : Int), .int .u8 (x3.toNat : Int)]] w fun e w' => e = .returned (.bool true) ∧ Below w.heap.size w w' := by
  have hz := zero_four
  go_enter Try.func5, Try.ntmps5
  go_wp2_with fail
  have hb0 : Below w.heap.size w (w.alloc (.cells #[.int .u8 (x0.toNat : Int), .int .u8 (x1.toNat : Int), .int .u8 (x2.toNat : Int), .int .u8 (x3.toNat : Int)] 31)) := (Below.refl _ _).alloc (Nat.le_refl _) _
  have g0 := heap_alloc_new w (.cells #[.int .u8 (x0.toNat : Int), .int .u8 (x1.toNat : Int), .int .u8 (x2.toNat : Int), .int .u8 (x3.toNat : Int)] 31)
  have hsz : (w.alloc (.cells #[.int .u8 (x0.toNat : Int), .int .u8 (x1.toNat : Int), .int .u8 (x2.toNat : Int), .int .u8 (x3.toNat : Int)] 31)).heap.size = w.heap.size + 1 := by simp
  generalize w.alloc (.cells #[.int .u8 (x0.toNat : Int), .int .u8 (x1.toNat : Int), .int .u8 (x2.toNat : Int), .int .u8 (x3.toNat : Int)] 31) = W at *
  refine (fit_bytes s t W hs ht).mono ?_
  rintro e w1 ⟨Y, y0, y1, y2, y3, rfl, hY, hfit, b1⟩
  have HY := Lib.hid hY
  have ys : Y.size = 4 := by rw [hY]; rfl
  have yo : Y.all (·.oneCell') = true := by rw [hY]; simp [Value.oneCell']
  have YS := Lib.hid ys
  have YO := Lib.hid yo
  clear hY ys yo
  have hb1 := hb0.trans (b1.mono (by omega))
  replace g0 := (b1.block w.heap.size (by omega)).trans g0
  have h1s : w.heap.size < w1.heap.size := by have := b1.size; omega
  have G0 := Lib.hid g0
  have HF := Lib.hid hfit
  clear hb0 b1 hsz g0 hfit
  go_wp2_with (refine wpList_store_row rfl 31 (.tmp 7) (.tmp 10) rfl w1.heap.size Y rfl rfl 31 four0 (heap_alloc_new _ _) (by rw [YS.out]; exact size_four) (by rw [YS.out]; rfl) YO.out ?_; rw [World.setRow_alloc_new])
  have hb2 : Below w.heap.size w (w1.alloc (.cells Y 31)) := hb1.alloc hb1.size _
  have g7 : (w1.alloc (.cells Y 31)).heap[w1.heap.size]? = some (.cells #[.int .u8 (y0.toNat : Int), .int .u8 (y1.toNat : Int), .int .u8 (y2.toNat : Int), .int .u8 (y3.toNat : Int)] 31 (0, 0)) := by rw [heap_alloc_new, HY.out]
  have g5 := (heap_alloc_old w1 (.cells Y 31) h1s).trans G0.out
  have hs7 : w1.heap.size < (w1.alloc (.cells Y 31)).heap.size := by simp
  generalize w1.alloc (.cells Y 31) = W2 at *
  generalize w1.heap.size = p7 at *
  clear hb1 G0 HY YS YO hz
  refine (more_any s (some ⟨p7, 0, none⟩) 4 [y0, y1, y2, y3] W2 hs (Rd.four g7) (by simp)).mono ?_
  rw [HF.out]
  unfold rv
  rintro e w3 ⟨rfl, b3⟩
  replace g7 := (b3.block p7 hs7).trans g7
  replace g5 := (b3.block w.heap.size (by omega)).trans g5
  have hb3 := hb2.trans (b3.mono hb2.size)
  replace hs7 : p7 < w3.heap.size := Nat.lt_of_lt_of_le hs7 b3.size
  clear hb2 b3
  have G7 := Lib.hid g7
  have G5 := Lib.hid g5
  clear g7 g5
  go_wp2_with fail
  refine (refMore_any s (some ⟨p7, 0, none⟩) 4 [y0, y1, y2, y3] w3 _ hs (Rd.four G7.out) (by simp)).mono ?_
  rw [HF.out]
  unfold rv
  rintro e w4 ⟨rfl, rfl⟩
  have HX := Lib.hid (moreS_tell (s := s) (a := [x0, x1, x2, x3]) (b := [y0, y1, y2, y3]) rfl (by simp))
  have hX := moreS_lt s [x0, x1, x2, x3]
  have c0 : w3.cell? ⟨w.heap.size, 0, none⟩ = some (.int .u8 (x0.toNat : Int)) := cell_of_row _ _ _ _ _ _ G5.out
  have c1 : w3.cell? ⟨w.heap.size, 1, none⟩ = some (.int .u8 (x1.toNat : Int)) := cell_of_row _ _ _ _ _ _ G5.out
  have c2 : w3.cell? ⟨w.heap.size, 2, none⟩ = some (.int .u8 (x2.toNat : Int)) := cell_of_row _ _ _ _ _ _ G5.out
  have c3 : w3.cell? ⟨w.heap.size, 3, none⟩ = some (.int .u8 (x3.toNat : Int)) := cell_of_row _ _ _ _ _ _ G5.out
  have e0 : w3.cell? ⟨p7, 0, none⟩ = some (.int .u8 (y0.toNat : Int)) := cell_of_row _ _ _ _ _ _ G7.out
  have e1 : w3.cell? ⟨p7, 1, none⟩ = some (.int .u8 (y1.toNat : Int)) := cell_of_row _ _ _ _ _ _ G7.out
  have e2 : w3.cell? ⟨p7, 2, none⟩ = some (.int .u8 (y2.toNat : Int)) := cell_of_row _ _ _ _ _ _ G7.out
  have e3 : w3.cell? ⟨p7, 3, none⟩ = some (.int .u8 (y3.toNat : Int)) := cell_of_row _ _ _ _ _ _ G7.out
  have hm : Try.prog.eqGuardType Try.prog.depth 31 = false := by kernel_rfl
  obtain ⟨X, hXd⟩ : ∃ X, X = moreS s [x0, x1, x2, x3] := ⟨_, rfl⟩
  obtain ⟨q, hq⟩ : ∃ q : Bool, q = decide ([x0, x1, x2, x3] = [y0, y1, y2, y3]) := ⟨_, rfl⟩
  have hqX : ((X : Int) == (t : Int)) = q := by
    rw [hq, Bool.eq_iff_iff, beq_iff_eq, decide_eq_true_eq]
    constructor
    · intro h; exact HX.out (by rw [← hXd, HF.out]; omega)
    · intro h; rw [hXd, h, HF.out]
  have heq : ∀ u : World, (Op.equalIn 10000 31 (.agg #[.int .u8 (x0.toNat : Int), .int .u8 (x1.toNat : Int), .int .u8 (x2.toNat : Int), .int .u8 (x3.toNat : Int)]) (.agg #[.int .u8 (y0.toNat : Int), .int .u8 (y1.toNat : Int), .int .u8 (y2.toNat : Int), .int .u8 (y3.toNat : Int)])).run Try.prog u = .ok q u := fun u => by
    rw [eq_four, hq]
    congr 1
    rw [Bool.eq_iff_iff, decide_eq_true_eq]
    simp only [Bool.and_eq_true, beq_iff_eq, List.cons.injEq, and_true]
    constructor
    · rintro ⟨⟨⟨h0, h1⟩, h2⟩, h3⟩
      exact ⟨UInt8.toNat_inj.1 (by omega), UInt8.toNat_inj.1 (by omega), UInt8.toNat_inj.1 (by omega), UInt8.toNat_inj.1 (by omega)⟩
    · rintro ⟨rfl, rfl, rfl, rfl⟩
      exact ⟨⟨⟨rfl, rfl⟩, rfl⟩, rfl⟩
  have hmr := more_any s (some ⟨w.heap.size, 0, none⟩) 4 [x0, x1, x2, x3] w3.drew hs (Rd.four (w := w3.drew) G5.out) (by simp)
  rw [← hXd] at hmr hX
  unfold rv at hmr
  rw [show [x0, x1, x2, x3].length = 4 by rfl] at hmr
  have HMR := Lib.hid hmr
  clear hmr
  have HK := Lib.hid known_any
  have H5 : Hid (∀ u : World, Below w3.drew.heap.size w3.drew u → u.heap[w.heap.size]? = some (.cells #[.int .u8 (x0.toNat : Int), .int .u8 (x1.toNat : Int), .int .u8 (x2.toNat : Int), .int .u8 (x3.toNat : Int)] 31 (0, 0))) := fun u hu => (hu.block w.heap.size (by have := hb3.size; show w.heap.size < w3.heap.size; omega)).trans G5.out
  have H7 : Hid (∀ u : World, Below w3.drew.heap.size w3.drew u → u.heap[p7]? = some (.cells #[.int .u8 (y0.toNat : Int), .int .u8 (y1.toNat : Int), .int .u8 (y2.toNat : Int), .int .u8 (y3.toNat : Int)] 31 (0, 0))) := fun u hu => (hu.block p7 hs7).trans G7.out
  clear HX hXd hq HF
  rcases q with _ | _
  all_goals
    go_wp2_with fail
    go_region_held3 (fun u => u.cell? ⟨w.heap.size, 0, none⟩ = some (.int .u8 (x0.toNat : Int)) ∧ u.cell? ⟨w.heap.size, 1, none⟩ = some (.int .u8 (x1.toNat : Int)) ∧ u.cell? ⟨w.heap.size, 2, none⟩ = some (.int .u8 (x2.toNat : Int)) ∧ u.cell? ⟨w.heap.size, 3, none⟩ = some (.int .u8 (x3.toNat : Int)) ∧ u.cell? ⟨p7, 0, none⟩ = some (.int .u8 (y0.toNat : Int)) ∧ u.cell? ⟨p7, 1, none⟩ = some (.int .u8 (y1.toNat : Int)) ∧ u.cell? ⟨p7, 2, none⟩ = some (.int .u8 (y2.toNat : Int)) ∧ u.cell? ⟨p7, 3, none⟩ = some (.int .u8 (y3.toNat : Int)))
      (first | exact ⟨c0, c1, c2, c3, e0, e1, e2, e3⟩ | exact ⟨cell_of_row _ _ 0 _ _ _ (H5.out _ bb.out), cell_of_row _ _ 1 _ _ _ (H5.out _ bb.out), cell_of_row _ _ 2 _ _ _ (H5.out _ bb.out), cell_of_row _ _ 3 _ _ _ (H5.out _ bb.out), cell_of_row _ _ 0 _ _ _ (H7.out _ bb.out), cell_of_row _ _ 1 _ _ _ (H7.out _ bb.out), cell_of_row _ _ 2 _ _ _ (H7.out _ bb.out), cell_of_row _ _ 3 _ _ _ (H7.out _ bb.out)⟩ | exact ⟨cell_of_row _ _ 0 _ _ _ (H5.out _ bc.out), cell_of_row _ _ 1 _ _ _ (H5.out _ bc.out), cell_of_row _ _ 2 _ _ _ (H5.out _ bc.out), cell_of_row _ _ 3 _ _ _ (H5.out _ bc.out), cell_of_row _ _ 0 _ _ _ (H7.out _ bc.out), cell_of_row _ _ 1 _ _ _ (H7.out _ bc.out), cell_of_row _ _ 2 _ _ _ (H7.out _ bc.out), cell_of_row _ _ 3 _ _ _ (H7.out _ bc.out)⟩)
      (first | (go_at_call 11; (with_reducible refine HMR.out.mono ?_); rintro e w5 ⟨rfl, b5⟩; have bb := Lib.hid b5) | (go_at_call 8; (with_reducible refine (HK.out _).mono ?_); rintro e w6 ⟨rfl, b6⟩; have bc := Lib.hid (bb.out.trans (b6.mono bb.out.size))))
    have hbx := hb3.drew.trans (bc.out.mono hb3.size)
    clear bb bc b5 b6 H5 H7 HMR heq hm hqX c0 c1 c2 c3 e0 e1 e2 e3
    go_wp2
    go_ret
    exact ⟨rfl, hbx⟩
end Go.Proofs.Ytodfpgbgcenbgaa
