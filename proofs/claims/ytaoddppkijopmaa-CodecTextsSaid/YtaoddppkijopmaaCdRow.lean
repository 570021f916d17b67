/- Contracts: rowOf, by what its two functions do. -/
import Derived.Test.YtaoddppkijopmaaCdKit
import Derived.Shelf.Abstract
namespace Go.Proofs.Ytaoddppkijopmaa
open Go.ChangeShapes Go.WideShapes Go.ChangeAt Go.RowKit
set_option linter.unusedVariables false
set_option maxRecDepth 100000

/-- A row, told as bytes and no refusal. -/
def RowP (w : World) (l : List UInt8) (e : Ending) (w' : World) : Prop :=
  ∃ A c, e = .returned (.tuple #[.slice A l.length c, .int .i64 0]) ∧ l.length ≤ c ∧ Ow w' w.heap.size A l ∧ Below w.heap.size w w'
/-- The refusal. -/
def NoP (w : World) (e : Ending) (w' : World) : Prop := e = .returned (.tuple #[.slice none 0 0, .int .i64 2]) ∧ Below w.heap.size w w'

set_option maxHeartbeats 2000000 in
theorem rowOf_point_ok (V : Array Value) (hV : (Try.prog.info? 29).map (·.size) = some V.size) (may row : Nat) (em : ∀ args w, (callFunc may args).run Try.prog w = .ok (.enter may args) w) (er : ∀ args w, (callFunc row args).run Try.prog w = .ok (.enter row args) w) (l : List UInt8) (w : World)
    (hm : ∀ u, Below w.heap.size w u → Calls Try.prog may #[.agg V] u fun x w' => x = .returned (.bool true) ∧ Below u.heap.size u w') (hr : ∀ u, Below w.heap.size w u → Calls Try.prog row #[.agg V] u (NewP u l)) :
    Calls Try.prog 40 #[.agg V, .func (.func may) #[] #[], .func (.func row) #[] #[]] w (RowP w l) := by
  have HR := Lib.hid (heap_alloc_new w (.cells V 29))
  have b0 : Below w.heap.size w (w.alloc (.cells V 29)) := (Below.refl _ _).alloc (Nat.le_refl _) _
  have HM := Lib.hid (hm _ b0)
  have H2 := Lib.hid hr
  clear hm hr
  go_enter Try.func40, Try.ntmps40
  go_wp2_with (first | (refine wpList_load_row rfl 29 (.tmp 3) rfl w.heap.size rfl 29 V (0, 0) _ HR2.out Try.underlying29 rfl hV ?_) | (refine wpList_load_row rfl 29 (.tmp 3) rfl w.heap.size rfl 29 V (0, 0) _ HR.out Try.underlying29 rfl hV ?_) | (go_at_fn may; refine HM.out.mono ?_; rintro x w1 ⟨rfl, b1⟩; have b2 := b0.trans (b1.mono b0.size); have HR2 := Lib.hid ((b1.block w.heap.size (by simp)).trans HR.out); have H3 := Lib.hid (H2.out _ b2); clear HM H2 HR b1) | (go_at_fn row; refine H3.out.mono ?_; rintro x w2 ⟨A, c, rfl, hc, ho, b3⟩))
  go_ret2
  exact ⟨A, c, rfl, hc, ho.wide b2.size, b2.trans (b3.mono b2.size)⟩
set_option maxHeartbeats 2000000 in
theorem rowOf_point_no (V : Array Value) (hV : (Try.prog.info? 29).map (·.size) = some V.size) (may row : Nat) (em : ∀ args w, (callFunc may args).run Try.prog w = .ok (.enter may args) w) (w : World)
    (hm : ∀ u, Below w.heap.size w u → Calls Try.prog may #[.agg V] u fun x w' => x = .returned (.bool false) ∧ Below u.heap.size u w') :
    Calls Try.prog 40 #[.agg V, .func (.func may) #[] #[], .func (.func row) #[] #[]] w (NoP w) := by
  have HR := Lib.hid (heap_alloc_new w (.cells V 29))
  have b0 : Below w.heap.size w (w.alloc (.cells V 29)) := (Below.refl _ _).alloc (Nat.le_refl _) _
  have HM := Lib.hid (hm _ b0)
  clear hm
  go_enter Try.func40, Try.ntmps40
  go_wp2_with (first | (refine wpList_load_row rfl 29 (.tmp 3) rfl w.heap.size rfl 29 V (0, 0) _ HR.out Try.underlying29 rfl hV ?_) | (go_at_fn may; refine HM.out.mono ?_; rintro x w1 ⟨rfl, b1⟩))
  go_ret2
  exact ⟨rfl, b0.trans (b1.mono b0.size)⟩
set_option maxHeartbeats 2000000 in
theorem rowOf_vote_ok (V : Array Value) (hV : (Try.prog.info? 32).map (·.size) = some V.size) (may row : Nat) (em : ∀ args w, (callFunc may args).run Try.prog w = .ok (.enter may args) w) (er : ∀ args w, (callFunc row args).run Try.prog w = .ok (.enter row args) w) (l : List UInt8) (w : World)
    (hm : ∀ u, Below w.heap.size w u → Calls Try.prog may #[.agg V] u fun x w' => x = .returned (.bool true) ∧ Below u.heap.size u w') (hr : ∀ u, Below w.heap.size w u → Calls Try.prog row #[.agg V] u (NewP u l)) :
    Calls Try.prog 29 #[.agg V, .func (.func may) #[] #[], .func (.func row) #[] #[]] w (RowP w l) := by
  have HR := Lib.hid (heap_alloc_new w (.cells V 32))
  have b0 : Below w.heap.size w (w.alloc (.cells V 32)) := (Below.refl _ _).alloc (Nat.le_refl _) _
  have HM := Lib.hid (hm _ b0)
  have H2 := Lib.hid hr
  clear hm hr
  go_enter Try.func29, Try.ntmps29
  go_wp2_with (first | (refine wpList_load_row rfl 32 (.tmp 3) rfl w.heap.size rfl 32 V (0, 0) _ HR2.out Try.underlying32 rfl hV ?_) | (refine wpList_load_row rfl 32 (.tmp 3) rfl w.heap.size rfl 32 V (0, 0) _ HR.out Try.underlying32 rfl hV ?_) | (go_at_fn may; refine HM.out.mono ?_; rintro x w1 ⟨rfl, b1⟩; have b2 := b0.trans (b1.mono b0.size); have HR2 := Lib.hid ((b1.block w.heap.size (by simp)).trans HR.out); have H3 := Lib.hid (H2.out _ b2); clear HM H2 HR b1) | (go_at_fn row; refine H3.out.mono ?_; rintro x w2 ⟨A, c, rfl, hc, ho, b3⟩))
  go_ret2
  exact ⟨A, c, rfl, hc, ho.wide b2.size, b2.trans (b3.mono b2.size)⟩
set_option maxHeartbeats 2000000 in
theorem rowOf_vote_no (V : Array Value) (hV : (Try.prog.info? 32).map (·.size) = some V.size) (may row : Nat) (em : ∀ args w, (callFunc may args).run Try.prog w = .ok (.enter may args) w) (w : World)
    (hm : ∀ u, Below w.heap.size w u → Calls Try.prog may #[.agg V] u fun x w' => x = .returned (.bool false) ∧ Below u.heap.size u w') :
    Calls Try.prog 29 #[.agg V, .func (.func may) #[] #[], .func (.func row) #[] #[]] w (NoP w) := by
  have HR := Lib.hid (heap_alloc_new w (.cells V 32))
  have b0 : Below w.heap.size w (w.alloc (.cells V 32)) := (Below.refl _ _).alloc (Nat.le_refl _) _
  have HM := Lib.hid (hm _ b0)
  clear hm
  go_enter Try.func29, Try.ntmps29
  go_wp2_with (first | (refine wpList_load_row rfl 32 (.tmp 3) rfl w.heap.size rfl 32 V (0, 0) _ HR.out Try.underlying32 rfl hV ?_) | (go_at_fn may; refine HM.out.mono ?_; rintro x w1 ⟨rfl, b1⟩))
  go_ret2
  exact ⟨rfl, b0.trans (b1.mono b0.size)⟩
set_option maxHeartbeats 2000000 in
theorem rowOf_header_ok (V : Array Value) (hV : (Try.prog.info? 27).map (·.size) = some V.size) (may row : Nat) (em : ∀ args w, (callFunc may args).run Try.prog w = .ok (.enter may args) w) (er : ∀ args w, (callFunc row args).run Try.prog w = .ok (.enter row args) w) (l : List UInt8) (w : World)
    (hm : ∀ u, Below w.heap.size w u → Calls Try.prog may #[.agg V] u fun x w' => x = .returned (.bool true) ∧ Below u.heap.size u w') (hr : ∀ u, Below w.heap.size w u → Calls Try.prog row #[.agg V] u (NewP u l)) :
    Calls Try.prog 24 #[.agg V, .func (.func may) #[] #[], .func (.func row) #[] #[]] w (RowP w l) := by
  have HR := Lib.hid (heap_alloc_new w (.cells V 27))
  have b0 : Below w.heap.size w (w.alloc (.cells V 27)) := (Below.refl _ _).alloc (Nat.le_refl _) _
  have HM := Lib.hid (hm _ b0)
  have H2 := Lib.hid hr
  clear hm hr
  go_enter Try.func24, Try.ntmps24
  go_wp2_with (first | (refine wpList_load_row rfl 27 (.tmp 3) rfl w.heap.size rfl 27 V (0, 0) _ HR2.out Try.underlying27 rfl hV ?_) | (refine wpList_load_row rfl 27 (.tmp 3) rfl w.heap.size rfl 27 V (0, 0) _ HR.out Try.underlying27 rfl hV ?_) | (go_at_fn may; refine HM.out.mono ?_; rintro x w1 ⟨rfl, b1⟩; have b2 := b0.trans (b1.mono b0.size); have HR2 := Lib.hid ((b1.block w.heap.size (by simp)).trans HR.out); have H3 := Lib.hid (H2.out _ b2); clear HM H2 HR b1) | (go_at_fn row; refine H3.out.mono ?_; rintro x w2 ⟨A, c, rfl, hc, ho, b3⟩))
  go_ret2
  exact ⟨A, c, rfl, hc, ho.wide b2.size, b2.trans (b3.mono b2.size)⟩
set_option maxHeartbeats 2000000 in
theorem rowOf_header_no (V : Array Value) (hV : (Try.prog.info? 27).map (·.size) = some V.size) (may row : Nat) (em : ∀ args w, (callFunc may args).run Try.prog w = .ok (.enter may args) w) (w : World)
    (hm : ∀ u, Below w.heap.size w u → Calls Try.prog may #[.agg V] u fun x w' => x = .returned (.bool false) ∧ Below u.heap.size u w') :
    Calls Try.prog 24 #[.agg V, .func (.func may) #[] #[], .func (.func row) #[] #[]] w (NoP w) := by
  have HR := Lib.hid (heap_alloc_new w (.cells V 27))
  have b0 : Below w.heap.size w (w.alloc (.cells V 27)) := (Below.refl _ _).alloc (Nat.le_refl _) _
  have HM := Lib.hid (hm _ b0)
  clear hm
  go_enter Try.func24, Try.ntmps24
  go_wp2_with (first | (refine wpList_load_row rfl 27 (.tmp 3) rfl w.heap.size rfl 27 V (0, 0) _ HR.out Try.underlying27 rfl hV ?_) | (go_at_fn may; refine HM.out.mono ?_; rintro x w1 ⟨rfl, b1⟩))
  go_ret2
  exact ⟨rfl, b0.trans (b1.mono b0.size)⟩
end Go.Proofs.Ytaoddppkijopmaa
