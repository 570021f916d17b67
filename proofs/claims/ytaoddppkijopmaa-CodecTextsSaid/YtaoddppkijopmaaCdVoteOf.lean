/- Contracts: what is told of bytes that are no vote's. -/
import Derived.Test.YtaoddppkijopmaaCdMay
import Derived.Test.YtaoddppkijopmaaCdRow
namespace Go.Proofs.Ytaoddppkijopmaa
open Go.ChangeShapes Go.WideShapes Go.ChangeAt Go.RowKit
set_option linter.unusedVariables false
set_option maxRecDepth 100000

theorem voteBytes_no (n : Int) (e1 : Nat) (l1 : List UInt8) (e2 : Nat) (l2 : List UInt8) (A : Option Addr) (k c : Nat) (w : World) (hm : mayVt n e1 e2 k = false) :
    Calls Try.prog 13 #[.agg (vtV n e1 l1 e2 l2 (.slice A k c))] w (NoP w) := by
  have b0 : Below w.heap.size w (w.alloc (.cells (vtV n e1 l1 e2 l2 (.slice A k c)) 32)) := (Below.refl _ _).alloc (Nat.le_refl _) _
  have HC := Lib.hid (rowOf_vote_no (vtV n e1 l1 e2 l2 (.slice A k c)) (size_vtV _ _ _ _ _ _) 30 31 (enters_of Try.func30 (by kernel_rfl) rfl) (w.alloc (.cells (vtV n e1 l1 e2 l2 (.slice A k c)) 32))
    (fun u _ => by have h := mayVote_c n e1 l1 e2 l2 A k c u; rwa [hm] at h))
  clear hm
  go_enter Try.func13, Try.ntmps13
  go_wp2_with (first | (refine wpList_load_row rfl 32 (.tmp 1) rfl w.heap.size rfl 32 (vtV n e1 l1 e2 l2 (.slice A k c)) (0, 0) _ (heap_alloc_new w _) Try.underlying32 rfl (size_vtV _ _ _ _ _ _) ?_) | (go_at_call 29; refine HC.out.mono ?_; rintro x w1 ⟨rfl, b1⟩))
  go_ret2
  exact ⟨rfl, b0.trans (b1.mono b0.size)⟩

/-- A row and a number as a function's two results. -/
theorem results_cell_row_tmp {P : Program} {fn : Func} {p u : Tmp} {ty : TypeId} (h : fn.results = #[.cell p ty, .tmp u]) (tmps : Array Value) (w : World) (g : Nat) (t : TypeId) (cs : Array Value) (fr : Nat × Nat) (d : TypeDesc)
    (hp : tmps.getD p undef = .pointer (some ⟨g, 0, none⟩)) (hg : w.heap[g]? = some (.cells cs t fr))
    (hu : P.underlying ty = some d) (hd : (match d with | .struct _ | .array _ _ => true | _ => false) = true) (hi : (P.info? ty).map (·.size) = some cs.size) (v : Value) (hv : tmps.getD u undef = v) :
    (results fn tmps).run P w = .ok (.tuple #[.agg cs, v]) w := by
  subst hv
  have hp' : tmps[p]?.getD undef = .pointer (some ⟨g, 0, none⟩) := by simpa using hp
  simp [results, h, hp', asAddr, run_loadVar_row w g t ty cs fr d hg hu hd hi]
/-- A zero vote and a refusal. -/
def vote0 : Array Value := vtV 0 0 zeros 0 zeros (.slice none 0 0)
theorem size_vote0 : (Try.prog.info? 32).map (·.size) = some vote0.size := size_vtV _ _ _ _ _ _
theorem one_vote0 : vote0.all (·.oneCell') = true := rowV_one 68 _ (vtF_one _ _ _ _ _ _ rfl)
theorem zero_vote0 (u : World) : (zeroValue 32).run Try.prog u = .ok (.agg vote0) u := zero_voteC u

set_option maxHeartbeats 4000000 in
/-- Bytes whose vote may not be are no vote's. -/
theorem readAll_vote_no (A : Option Addr) (c : Nat) (l : List UInt8) (w : World) (h : Rd w 0 w.heap.size A l) (hl : l.length ≤ 140737488355328)
    (hm : mayVt (((numS (some l) 1).1 : Nat) : Int) (ptR (vtS1 (some l))).1 (ptR (vtS2 (some l))).1 (blobS (vtS3 (some l))).1.length = false) :
    Calls Try.prog 32 #[.slice A l.length c, .func (.func 33) #[] #[], .func (.func 13) #[] #[]] w
      fun e w' => e = .returned (.tuple #[.agg vote0, .int .i64 4]) ∧ Below w.heap.size w w' := by
  have hz := zero_vote0
  obtain ⟨W, hW⟩ : ∃ W, W = w.alloc (.cells vote0 32) := ⟨_, rfl⟩
  have hb : Below w.heap.size w W := by rw [hW]; exact (Below.refl _ _).alloc (Nat.le_refl _) _
  have hsz : W.heap.size = w.heap.size + 1 := by rw [hW]; simp
  have f0 : W.heap[w.heap.size]? = some (.cells vote0 32 (0, 0)) := by rw [hW]; exact heap_alloc_new w _
  have HC := Lib.hid (read_any A c l W ((h.below hb (Nat.le_refl _)).wide (Nat.le_refl _) (by omega)) hl)
  have HW := Lib.hid hW
  have HB := Lib.hid hb
  have F0 := Lib.hid f0
  have HS := Lib.hid hsz
  have HM := Lib.hid hm
  clear hW hb f0 hsz h hl hm
  go_enter Try.func32, Try.ntmps32
  go_wp2_with (go_at_call 55; rw [← HW.out]; refine HC.out.mono ?_; rintro e w1 ⟨p, rfl, hp, hR, b1⟩)
  have HC2 := Lib.hid (readVote_c W.heap.size p (some l) w1 hR)
  have F1 := Lib.hid ((b1.block w.heap.size (by have := HS.out; omega)).trans F0.out)
  have HB1 := Lib.hid (HB.out.trans (b1.mono HB.out.size))
  have HL1 := Lib.hid (show w.heap.size < w1.heap.size by have := HS.out; have := b1.size; omega)
  have HP := Lib.hid (show w.heap.size < p by have := HS.out; omega)
  clear hR b1 HC F0
  refine HC2.out.mono ?_
  rintro e w2 ⟨A2, rfl, o2, r2, g2⟩
  have F2 := Lib.hid ((g2.block w.heap.size HL1.out (fun e => by injection e with e; have := HP.out; omega)).trans F1.out)
  have HL2 := Lib.hid (Nat.lt_of_lt_of_le HL1.out g2.size)
  have HB2 : Hid (Below w.heap.size w w2) := ⟨g2.os.trans HB1.out.os, g2.tape.trans HB1.out.tape, g2.output.trans HB1.out.output, Nat.le_trans HB1.out.size g2.size, fun k hk => (g2.block k (Nat.lt_trans hk HL1.out) (fun e => by injection e with e; have := HP.out; omega)).trans (HB1.out.block k hk)⟩
  clear o2 r2 g2 HC2 F1 HB1
  have HC3 := Lib.hid (fun u => voteBytes_no (((numS (some l) 1).1 : Nat) : Int) (ptR (vtS1 (some l))).1 (ptR (vtS1 (some l))).2 (ptR (vtS2 (some l))).1 (ptR (vtS2 (some l))).2 A2 (blobS (vtS3 (some l))).1.length (blobS (vtS3 (some l))).1.length u HM.out)
  have HSZ := Lib.hid (size_vtV (((numS (some l) 1).1 : Nat) : Int) (ptR (vtS1 (some l))).1 (ptR (vtS1 (some l))).2 (ptR (vtS2 (some l))).1 (ptR (vtS2 (some l))).2 (.slice A2 (blobS (vtS3 (some l))).1.length (blobS (vtS3 (some l))).1.length))
  have HON : Hid ((vtV (((numS (some l) 1).1 : Nat) : Int) (ptR (vtS1 (some l))).1 (ptR (vtS1 (some l))).2 (ptR (vtS2 (some l))).1 (ptR (vtS2 (some l))).2 (.slice A2 (blobS (vtS3 (some l))).1.length (blobS (vtS3 (some l))).1.length)).all (·.oneCell') = true) := rowV_one 68 _ (vtF_one _ _ _ _ _ _ rfl)
  have HSI : Hid (vote0.size = (vtV (((numS (some l) 1).1 : Nat) : Int) (ptR (vtS1 (some l))).1 (ptR (vtS1 (some l))).2 (ptR (vtS2 (some l))).1 (ptR (vtS2 (some l))).2 (.slice A2 (blobS (vtS3 (some l))).1.length (blobS (vtS3 (some l))).1.length)).size) := (rowV_size _ _).trans (rowV_size _ _).symm
  generalize vtV (((numS (some l) 1).1 : Nat) : Int) (ptR (vtS1 (some l))).1 (ptR (vtS1 (some l))).2 (ptR (vtS2 (some l))).1 (ptR (vtS2 (some l))).2 (.slice A2 (blobS (vtS3 (some l))).1.length (blobS (vtS3 (some l))).1.length) = C at *
  have K2 := heap_alloc_new w2 (.cells C 32)
  have bn : Hid (Below w2.heap.size w2 (w2.alloc (.cells C 32))) := (Below.refl _ _).alloc (Nat.le_refl _) _
  go_wp2_with (first
    | (refine wpList_store_row rfl 32 (.tmp 8) (.tmp 15) rfl w2.heap.size C rfl rfl 32 vote0 (heap_alloc_new _ _) HSZ.out HSI.out HON.out ?_; rw [World.setRow_alloc_new])
    | (refine wpList_load_row rfl 32 (.tmp 8) rfl w2.heap.size rfl 32 C (0, 0) _ K2 Try.underlying32 rfl HSZ.out ?_)
    | (refine (HC3.out _).mono ?_; rintro e w3 ⟨rfl, b3⟩
       have BB : Hid (Below w.heap.size w (w3.alloc (.cells vote0 32))) := ((HB2.out.trans (bn.out.mono HB2.out.size)).trans (b3.mono (by have := HB2.out.size; simp; omega))).alloc (by have := HB2.out.size; have := b3.size; simp at this; omega) _
       have h6 : (w3.alloc (.cells vote0 32)).heap[w.heap.size]? = some (.cells vote0 32 (0, 0)) := (heap_lt _ _ (by have := HL2.out; have := b3.size; simp at this; omega)).trans ((b3.block w.heap.size (by have := HL2.out; simp; omega)).trans ((heap_lt _ _ HL2.out).trans F2.out))
       have h7 := heap_alloc_new w3 (.cells vote0 32)
       clear b3)
    | (refine wpList_load_row rfl 32 (.tmp 11) rfl w3.heap.size rfl 32 vote0 (0, 0) _ h7 Try.underlying32 rfl size_vote0 ?_)
    | (refine wpList_store_row rfl 32 (.tmp 6) (.tmp 30) rfl w.heap.size vote0 rfl rfl 32 vote0 h6 size_vote0 rfl one_vote0 ?_))
  have K6 : ((w3.alloc (.cells vote0 32)).setRow w.heap.size vote0).heap[w.heap.size]? = some (.cells vote0 32 (0, 0)) := setRow_heap _ _ _ _ _ _ h6
  exact bodyPost_ret (v := .tuple #[.agg vote0, .int .i64 4]) (results_cell_row_tmp rfl _ _ w.heap.size 32 vote0 (0, 0) _ rfl K6 Try.underlying32 rfl size_vote0 _ rfl) rfl ⟨rfl, below_setRow BB.out (Nat.le_refl _) _⟩

set_option maxHeartbeats 4000000 in
theorem voteOf_no (A : Option Addr) (c : Nat) (l : List UInt8) (w : World) (h : Rd w 0 w.heap.size A l) (hl : l.length ≤ 140737488355328)
    (hm : mayVt (((numS (some l) 1).1 : Nat) : Int) (ptR (vtS1 (some l))).1 (ptR (vtS2 (some l))).1 (blobS (vtS3 (some l))).1.length = false) :
    Calls Try.prog 14 #[.slice A l.length c] w fun e w' => e = .returned (.tuple #[.agg vote0, .int .i64 4]) ∧ Below w.heap.size w w' := by
  have hz := zero_vote0
  have b0 : Below w.heap.size w (w.alloc (.cells vote0 32)) := (Below.refl _ _).alloc (Nat.le_refl _) _
  have HC := Lib.hid (readAll_vote_no A c l (w.alloc (.cells vote0 32)) ((h.below b0 (Nat.le_refl _)).wide (Nat.le_refl _) (by simp)) hl hm)
  clear h hl hm
  go_enter Try.func14, Try.ntmps14
  go_wp2_with (first
    | (go_at_call 32; refine HC.out.mono ?_; rintro e w1 ⟨rfl, b1⟩
       have h6 : w1.heap[w.heap.size]? = some (.cells vote0 32 (0, 0)) := (b1.block w.heap.size (by simp)).trans (heap_alloc_new w _))
    | (refine wpList_store_row rfl 32 (.tmp 2) (.tmp 6) rfl w.heap.size vote0 rfl rfl 32 vote0 h6 size_vote0 rfl one_vote0 ?_))
  have K6 : (w1.setRow w.heap.size vote0).heap[w.heap.size]? = some (.cells vote0 32 (0, 0)) := setRow_heap _ _ _ _ _ _ h6
  exact bodyPost_ret (v := .tuple #[.agg vote0, .int .i64 4]) (results_cell_row_tmp rfl _ _ w.heap.size 32 vote0 (0, 0) _ rfl K6 Try.underlying32 rfl size_vote0 _ rfl) rfl ⟨rfl, below_setRow (b0.trans (b1.mono b0.size)) (Nat.le_refl _) _⟩
/-- No bytes are no vote's. -/
theorem voteOf_nil (w : World) : Calls Try.prog 14 #[.slice none 0 0] w fun e w' => e = .returned (.tuple #[.agg vote0, .int .i64 4]) ∧ Below w.heap.size w w' :=
  voteOf_no none 0 [] w Rd.nil (by simp) (by decide +kernel)
end Go.Proofs.Ytaoddppkijopmaa
