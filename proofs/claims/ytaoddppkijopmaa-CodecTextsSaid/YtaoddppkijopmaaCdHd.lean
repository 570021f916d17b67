/- Contracts: headers without operations. -/
import Derived.Test.YtaoddppkijopmaaCdVoteOf
import Derived.Test.YtaoddppkijopmaaCdPt
import Derived.Deep.RegionHeld3
namespace Go.Proofs.Ytaoddppkijopmaa
open Go.ChangeShapes Go.WideShapes Go.ChangeAt Go.RowKit
set_option linter.unusedVariables false
set_option maxRecDepth 100000

/-- A header's cells: its parent, its epoch, its operations' slice. -/
def hdF (l : List UInt8) (e : Nat) (sv : Value) (i : Nat) : Value := if i < 32 then bv (l.getD i 0) else if i = 32 then .int .u64 (e : Int) else sv
def hdV (l : List UInt8) (e : Nat) (sv : Value) : Array Value := rowV 34 (hdF l e sv)
theorem size_header : (Try.prog.info? 27).map (·.size) = some 34 := by kernel_rfl
theorem size_hdV (l : List UInt8) (e : Nat) (sv : Value) : (Try.prog.info? 27).map (·.size) = some (hdV l e sv).size := by unfold hdV; rw [rowV_size]; exact size_header
theorem built_header1 (e : Nat) : Try.prog.built 27 [(1, .int .u64 (e : Int))] = some (hdV zeros e (.slice none 0 0)) := by kernel_rfl
theorem built_header0 : Try.prog.built 27 [] = some (hdV zeros 0 (.slice none 0 0)) := by kernel_rfl
/-- A header in a block of its own. -/
def HdB (g : Nat) (l : List UInt8) (e : Nat) (sv : Value) (w : World) : Prop := Fill g 27 34 34 (hdF l e sv) w
section
variable {g : Nat} {l : List UInt8} {e : Nat} {sv : Value} {w w' : World}
theorem HdB.new : HdB w.heap.size l e sv (w.alloc (.cells (hdV l e sv) 27)) := Fill.of_row (heap_alloc_new w _)
theorem HdB.epoch (h : HdB g l e sv w) : w.cell? ⟨g, 32, none⟩ = some (.int .u64 (e : Int)) := Fill.at_ h 32 (by omega)
theorem HdB.ops (h : HdB g l e sv w) : w.cell? ⟨g, 33, none⟩ = some sv := Fill.at_ h 33 (by omega)
theorem HdB.below {B : Nat} (h : HdB g l e sv w) (hb : Below B w w') (hg : g < B) : HdB g l e sv w' := Fill.below h hb hg
theorem HdB.lt (h : HdB g l e sv w) : g < w.heap.size := Fill.lt h
theorem HdB.row (h : HdB g l e sv w) : w.heap[g]? = some (.cells (hdV l e sv) 27 (0, 0)) := Fill.done h
theorem HdB.rd (h : HdB g l e sv w) (hl : l.length = 32) {lo hi : Nat} (h1 : lo ≤ g) (h2 : g < hi) : Rd w lo hi (some ⟨g, 0, none⟩) l := fun _ =>
  ⟨g, 0, rfl, h1, h2, fun j x hx => by
    have hj : j < 32 := by
      rcases Nat.lt_or_ge j 32 with h | h
      · exact h
      · rw [List.getElem?_eq_none (by omega)] at hx; cases hx
    have := Fill.at_ h j (by omega)
    rw [Nat.zero_add, this]
    unfold hdF
    rw [if_pos hj, List.getD_eq_getElem?_getD, hx]
    rfl⟩
end
/-- Join of as many pieces as a call lays. -/
theorem joinL (L : List Pc) (w : World) (C : Array Value) (hC : C = (L.map fun x => Value.slice x.1 x.2.2.length x.2.1).toArray) (hr : ∀ x ∈ L, Rd w 0 w.heap.size x.1 x.2.2) (n : Nat) (hn : n = L.length) (hL : L.length ≤ 140737488355328) (hl : (flat L).length ≤ 140737488355328) :
    Calls Try.prog 50 #[.slice (some ⟨w.heap.size, 0, none⟩) n n] (w.alloc (.cells C 30)) (NewP w (flat L)) := by
  subst hn
  have hb : Below w.heap.size w (w.alloc (.cells C 30)) := (Below.refl _ _).alloc (Nat.le_refl _) _
  have hh : (w.alloc (.cells C 30)).heap[w.heap.size]? = some (.cells C 30 (0, 0)) := heap_alloc_new w _
  have hsz : (w.alloc (.cells C 30)).heap.size = w.heap.size + 1 := by simp
  have hR : RdL (w.alloc (.cells C 30)) (w.alloc (.cells C 30)).heap.size (some ⟨w.heap.size, 0, none⟩) L := by
    refine ⟨fun _ => ⟨w.heap.size, 0, rfl, by omega, fun j x hx => ?_⟩, fun x hx => ((hr x hx).below hb (Nat.le_refl _)).wide (Nat.le_refl _) (by omega)⟩
    rw [Nat.zero_add, cell_of_row _ w.heap.size j _ _ (0, 0) hh, hC]
    simp [hx]
  refine (join_any (some ⟨w.heap.size, 0, none⟩) L.length L _ hR hL hl).mono ?_
  rintro e w' ⟨A, c, he, hc, ho, hbw⟩
  exact ⟨A, c, he, hc, ho.wide (by omega), hb.trans (hbw.mono (by omega))⟩
theorem join0 (A : Option Addr) (c : Nat) (w : World) : Calls Try.prog 50 #[.slice A 0 c] w (NewP w []) :=
  join_any A c [] w ⟨fun h => absurd h (by simp), fun x hx => by cases hx⟩ (by simp) (by simp [flat])
theorem allMay_op_nil (A : Option Addr) (c f : Nat) (w : World) : Calls Try.prog 43 #[.slice A 0 c, .func (.func f) #[] #[]] w fun e w' => e = .returned (.bool true) ∧ w = w' := by
  go_enter Try.func43, Try.ntmps43
  go_wp2
  refine wp_loop_rounds 1 ?_
  rw [rounds_succ]
  go_wp2
  go_ret
  exact ⟨rfl, rfl⟩
theorem slice_info : (Try.prog.info? 30).map (fun i => (i.zero, i.size, i.bytes)) = some (some (.slice none 0 0), 1, 24) := by kernel_rfl
/-- Room for so many rows. -/
theorem make_rows (n : Nat) (hn : n ≤ 65536) (u : World) : (Instr.makeSlice 69 (.int .i64 0) (.int .i64 (n : Int))).run Try.prog u = .ok (.slice (some ⟨u.heap.size, 0, none⟩) 0 n) (u.alloc (.cells (madeCells #[.slice none 0 0] n) 30)) := by
  obtain ⟨i0, hi0, hz0, hz1, hz2⟩ := info_parts slice_info
  have h := run_make (P := Try.prog) u 69 30 i0 (.slice none 0 0) Try.underlying69 hi0 hz0 .i64 .i64 0 (n : Int) (by omega) (by omega) (by rw [hz2]; omega) (by omega)
  simpa [hz1, Value.cells] using h
theorem listRow_op_nil (A : Option Addr) (c f : Nat) (w : World) : Calls Try.prog 53 #[.slice A 0 c, .func (.func f) #[] #[]] w (NewP w []) := by
  have b0 : ∀ o, Below w.heap.size w (w.alloc o) := fun o => (Below.refl _ _).alloc (Nat.le_refl _) o
  have hmk : ∀ u : World, (Instr.makeSlice 69 (.int .i64 0) (.int .i64 0)).run Try.prog u = .ok (.slice (some ⟨u.heap.size, 0, none⟩) 0 0) (u.alloc (.cells (madeCells #[.slice none 0 0] 0) 30)) := fun u => make_rows 0 (by omega) u
  go_enter Try.func53, Try.ntmps53
  go_wp2
  refine wp_loop_rounds 1 ?_
  rw [rounds_succ]
  go_wp2_with (go_at_call 50; refine (join0 _ _ _).mono ?_; rintro e w1 ⟨A1, c1, rfl, hc1, o1, b1⟩)
  go_ret
  exact ⟨A1, c1, rfl, hc1, o1.wide (b0 _).size, (b0 _).trans (b1.mono (b0 _).size)⟩
theorem countRow_c (n : Nat) (w : World) (hn : n < 256) : Calls Try.prog 52 #[.int .i64 (n : Int)] w (NewP w (putL n 1)) := by
  have hw : IntKind.u64.wrap ((n : Nat) : Int) = ((n : Nat) : Int) := IntWalk.u64_in _ (by omega)
  go_enter Try.func52, Try.ntmps52
  go_wp2_with (go_at_call 51; refine (numberRow_c n 1 _ (by omega) (by omega) (by omega) (by omega)).mono ?_; rintro e w1 ⟨A1, c1, rfl, hc1, o1, b1⟩)
  go_ret
  exact ⟨A1, c1, rfl, hc1, o1, b1⟩

theorem hdBelow {w W u : World} (h : Below w.heap.size w W) (hu : Below W.heap.size W.drew u) : Below w.heap.size w u := h.drew.trans (hu.mono h.size)
/-- A header's first bytes. -/
def hdL (l : List UInt8) (e n : Nat) : List UInt8 := l ++ (putL e 8 ++ putL n 1)

set_option maxHeartbeats 8000000 in
theorem headerRow_nil (l : List UInt8) (e : Nat) (A : Option Addr) (c : Nat) (w : World) (he : e < 18446744073709551616) (hl : l.length = 32) :
    Calls Try.prog 25 #[.agg (hdV l e (.slice A 0 c))] w (NewP w (hdL l e 0)) := by
  obtain ⟨W, hW⟩ : ∃ W, W = w.alloc (.cells (hdV l e (.slice A 0 c)) 27) := ⟨_, rfl⟩
  have hb : Below w.heap.size w W := by rw [hW]; exact (Below.refl _ _).alloc (Nat.le_refl _) _
  have v0 : HdB w.heap.size l e (.slice A 0 c) W := by rw [hW]; exact HdB.new
  have hlt : w.heap.size < W.heap.size := v0.lt
  have HW := Lib.hid hW
  have HB := Lib.hid hb
  have V0 := Lib.hid v0
  have HL := Lib.hid hlt
  have HLN := Lib.hid hl
  have HN := Lib.hid (fun u => numberRow_c e 8 u (by omega) (by omega) he (by simpa using he))
  have HCT := Lib.hid (fun u => countRow_c 0 u (by omega))
  have HLR := Lib.hid (fun u => listRow_op_nil A c 54 u)
  have K0 : Hid (∀ u : World, Below W.heap.size W.drew u → u.cell? ⟨w.heap.size, 32, none⟩ = some (.int .u64 (e : Int)) ∧ u.cell? ⟨w.heap.size, 33, none⟩ = some (.slice A 0 c)) := fun u hu => by
    have hv : HdB w.heap.size l e (.slice A 0 c) W.drew := v0
    exact ⟨(hv.below hu hlt).epoch, (hv.below hu hlt).ops⟩
  have BX : Hid (Below W.heap.size W.drew W.drew) := Below.refl _ _
  have HRD : Hid (∀ u : World, Below W.heap.size W.drew u → Rd u 0 u.heap.size (some ⟨w.heap.size, 0, none⟩) l) := fun u hu => by
    have hv : HdB w.heap.size l e (.slice A 0 c) W.drew := v0
    exact (hv.below hu hlt).rd hl (Nat.zero_le _) (Nat.lt_of_lt_of_le hlt hu.size)
  clear hW hb v0 hlt hl he
  go_enter Try.func25, Try.ntmps25
  go_wp2_with fail
  rw [← HW.out]
  rename_i K hK
  go_region_held3 (fun u => u.cell? ⟨w.heap.size, 32, none⟩ = some (.int .u64 (e : Int)) ∧ u.cell? ⟨w.heap.size, 33, none⟩ = some (.slice A 0 c)) (first | exact K0.out _ BX.out | exact K0.out _ (BX.out.alloc BX.out.size _) | exact (K0.out _ BX.out).1 | exact (K0.out _ BX.out).2 | exact (K0.out _ (BX.out.alloc BX.out.size _)).1 | exact (K0.out _ (BX.out.alloc BX.out.size _)).2) (first
    | (go_at_call 51; refine (HN.out _).mono ?_; rintro x w1 ⟨A1, c1, rfl, hc1, o1, b1⟩; have BX := Lib.hid (BX.out.trans (b1.mono BX.out.size)); (try have Z1 := Lib.hid (Z1.out.trans (b1.mono Z1.out.size))); (try have Z2 := Lib.hid (Z2.out.trans (b1.mono Z2.out.size))); (try have Z3 := Lib.hid (Z3.out.trans (b1.mono Z3.out.size))); have Z1 : Hid (Below w1.heap.size w1 w1) := Below.refl _ _; have O1 := Lib.hid o1; clear o1 b1)
    | (go_at_call 52; refine (HCT.out _).mono ?_; rintro x w2 ⟨A2, c2, rfl, hc2, o2, b2⟩; have BX := Lib.hid (BX.out.trans (b2.mono BX.out.size)); (try have Z1 := Lib.hid (Z1.out.trans (b2.mono Z1.out.size))); (try have Z2 := Lib.hid (Z2.out.trans (b2.mono Z2.out.size))); (try have Z3 := Lib.hid (Z3.out.trans (b2.mono Z3.out.size))); have Z2 : Hid (Below w2.heap.size w2 w2) := Below.refl _ _; have O2 := Lib.hid o2; clear o2 b2)
    | (go_at_call 53; refine (HLR.out _).mono ?_; rintro x w3 ⟨A3, c3, rfl, hc3, o3, b3⟩; have BX := Lib.hid (BX.out.trans (b3.mono BX.out.size)); (try have Z1 := Lib.hid (Z1.out.trans (b3.mono Z1.out.size))); (try have Z2 := Lib.hid (Z2.out.trans (b3.mono Z2.out.size))); (try have Z3 := Lib.hid (Z3.out.trans (b3.mono Z3.out.size))); have Z3 : Hid (Below w3.heap.size w3 w3) := Below.refl _ _; have O3 := Lib.hid o3; clear o3 b3)
    | (go_at_call 50
       refine (joinL [(some ⟨w.heap.size, 0, none⟩, 32, l), (A1, c1, putL e 8), (A2, c2, putL 0 1), (A3, c3, [])] _ _ (by simp [HLN.out]) (fun x hx => ?hr) 4 rfl (by simp) (by simp [flat, HLN.out, putL_length])).mono ?_
       case hr =>
         simp only [List.mem_cons, List.not_mem_nil, or_false] at hx
         rcases hx with rfl | rfl | rfl | rfl
         · exact HRD.out _ BX.out
         · exact (O1.out.below Z1.out (Nat.le_refl _)).rd.wide (Nat.zero_le _) (Nat.le_refl _)
         · exact (O2.out.below Z2.out (Nat.le_refl _)).rd.wide (Nat.zero_le _) (Nat.le_refl _)
         · exact Rd.nil
       rintro x w4 ⟨A4, c4, rfl, hc4, o4, b4⟩
       have HX := Lib.hid BX.out.size
       have BX := Lib.hid (BX.out.trans (b4.mono BX.out.size))))
  all_goals
    apply hK
    clear hK K
    go_wp2_with fail
    go_ret
    exact ⟨A4, c4, by simp [flat, hdL], by simpa [flat, hdL] using hc4, by simpa [flat, hdL] using o4.wide (Nat.le_trans HB.out.size HX.out), hdBelow HB.out BX.out⟩
end Go.Proofs.Ytaoddppkijopmaa
