/- Contract: VoteOf, of any bytes. -/
import Derived.Test.YtmebppfbdeokeaaCdVrow
import Derived.Test.YtmebppfbdeokeaaCdPofA
namespace Go.Proofs.Ytmebppfbdeokeaa
open Go.ChangeShapes Go.WideShapes Go.ChangeAt Go.RowKit
set_option linter.unusedVariables false
set_option maxRecDepth 100000

/-- Are they a vote's bytes? -/
def vofOk (l : List UInt8) : Bool := mayVt (((numS (some l) 1).1 : Nat) : Int) (ptR (vtS1 (some l))).1 (ptR (vtS2 (some l))).1 (blobS (vtS3 (some l))).1.length && (vtL (numS (some l) 1).1 (ptR (vtS1 (some l))).1 (ptR (vtS1 (some l))).2 (ptR (vtS2 (some l))).1 (ptR (vtS2 (some l))).2 (blobS (vtS3 (some l))).1 == l)
/-- The vote's cells, its signature at A. -/
def vofV (l : List UInt8) (A : Option Addr) : Array Value := vtV (((numS (some l) 1).1 : Nat) : Int) (ptR (vtS1 (some l))).1 (ptR (vtS1 (some l))).2 (ptR (vtS2 (some l))).1 (ptR (vtS2 (some l))).2 (.slice A (blobS (vtS3 (some l))).1.length (blobS (vtS3 (some l))).1.length)
def vofS (l : List UInt8) : List UInt8 := (blobS (vtS3 (some l))).1
/-- What is told of a vote's bytes. -/
def VofP (w : World) (l : List UInt8) (e : Ending) (w' : World) : Prop :=
  (vofOk l = true ∧ ∃ A, e = .returned (.tuple #[.agg (vofV l A), .int .i64 0]) ∧ Ow w' (w.heap.size + 1) A (vofS l) ∧ Below w.heap.size w w') ∨ (vofOk l = false ∧ e = .returned (.tuple #[.agg vote0, .int .i64 4]) ∧ Below w.heap.size w w')
theorem size_vofV (l : List UInt8) (A : Option Addr) : (Try.prog.info? 29).map (·.size) = some (vofV l A).size := size_vtV _ _ _ _ _ _
theorem one_vofV (l : List UInt8) (A : Option Addr) : (vofV l A).all (·.oneCell') = true := rowV_one 68 _ (vtF_one _ _ _ _ _ _ rfl)
theorem sz_vofV (l : List UInt8) (A : Option Addr) : vote0.size = (vofV l A).size := (rowV_size _ _).trans (rowV_size _ _).symm

set_option maxHeartbeats 4000000 in
theorem readAll_vote_may (A : Option Addr) (c : Nat) (l : List UInt8) (w : World) (h : Rd w 0 w.heap.size A l) (hl : l.length ≤ 140737488355328) (hm : mayVt (((numS (some l) 1).1 : Nat) : Int) (ptR (vtS1 (some l))).1 (ptR (vtS2 (some l))).1 (blobS (vtS3 (some l))).1.length = true) :
    Calls Try.prog 35 #[.slice A l.length c, .func (.func 36) #[] #[], .func (.func 7) #[] #[]] w (VofP w l) := by
  have hz := zero_vote0
  obtain ⟨W, hW⟩ : ∃ W, W = w.alloc (.cells vote0 29) := ⟨_, rfl⟩
  have hb : Below w.heap.size w W := by rw [hW]; exact (Below.refl _ _).alloc (Nat.le_refl _) _
  have hsz : W.heap.size = w.heap.size + 1 := by rw [hW]; simp
  have f0 : W.heap[w.heap.size]? = some (.cells vote0 29 (0, 0)) := by rw [hW]; exact heap_alloc_new w _
  have hrd := (h.below hb (Nat.le_refl _))
  have HC := Lib.hid (read_any A c l W (hrd.wide (Nat.le_refl _) (by omega)) hl)
  have HRD := Lib.hid hrd
  have HW := Lib.hid hW
  have HB := Lib.hid hb
  have F0 := Lib.hid f0
  have HS := Lib.hid hsz
  have HM := Lib.hid hm
  clear hW hb f0 hsz h hl hrd hm
  go_enter Try.func35, Try.ntmps35
  go_wp2_with (go_at_call 54; rw [← HW.out]; refine HC.out.mono ?_; rintro e w1 ⟨p, rfl, hp, hR, b1⟩)
  have HC2 := Lib.hid (readVote_c W.heap.size p (some l) w1 hR)
  have F1 := Lib.hid ((b1.block w.heap.size (by have := HS.out; omega)).trans F0.out)
  have HB1 := Lib.hid (HB.out.trans (b1.mono HB.out.size))
  have HL1 := Lib.hid (show w.heap.size < w1.heap.size by have := HS.out; have := b1.size; omega)
  have HP := Lib.hid (show w.heap.size < p by have := HS.out; omega)
  have HRD1 := Lib.hid (HRD.out.below b1 (by have := HS.out; omega))
  clear hR b1 HC F0 HRD
  refine HC2.out.mono ?_
  rintro e w2 ⟨A2, rfl, o2, r2, g2⟩
  have F2 := Lib.hid ((g2.block w.heap.size HL1.out (fun e => by injection e with e; have := HP.out; omega)).trans F1.out)
  have HL2 := Lib.hid (Nat.lt_of_lt_of_le HL1.out g2.size)
  have HB2 : Hid (Below w.heap.size w w2) := ⟨g2.os.trans HB1.out.os, g2.tape.trans HB1.out.tape, g2.output.trans HB1.out.output, Nat.le_trans HB1.out.size g2.size, fun k hk => (g2.block k (Nat.lt_trans hk HL1.out) (fun e => by injection e with e; have := HP.out; omega)).trans (HB1.out.block k hk)⟩
  have HRD2 := Lib.hid (HRD1.out.grown g2 (Nat.le_of_lt HL1.out) (fun g hg => by injection hg with hg; have := HP.out; omega))
  have HO2 : Hid (Ow w2 (w.heap.size + 1) A2 (vofS l)) := o2.wide HL1.out
  clear r2 g2 HC2 F1 HB1 HRD1 o2
  have HOK := Lib.hid (show vofOk l = (mayVt (((numS (some l) 1).1 : Nat) : Int) (ptR (vtS1 (some l))).1 (ptR (vtS2 (some l))).1 (blobS (vtS3 (some l))).1.length && (vtL (numS (some l) 1).1 (ptR (vtS1 (some l))).1 (ptR (vtS1 (some l))).2 (ptR (vtS2 (some l))).1 (ptR (vtS2 (some l))).2 (blobS (vtS3 (some l))).1 == l)) from rfl)
  rw [HM.out, Bool.true_and] at HOK
  have HPB : Hid (∀ u, Below w2.heap.size w2 u → Calls Try.prog 7 #[.agg (vofV l A2)] u (RowP u (vtL (numS (some l) 1).1 (ptR (vtS1 (some l))).1 (ptR (vtS1 (some l))).2 (ptR (vtS2 (some l))).1 (ptR (vtS2 (some l))).2 (blobS (vtS3 (some l))).1))) := fun u hu => voteBytes_ok _ _ _ _ _ (blobS (vtS3 (some l))).1 A2 _ u HM.out (hashR_len _) (hashR_len _) ((HO2.out.below hu (Nat.le_refl _)).rd.wide (Nat.zero_le _) (Nat.le_refl _))
  obtain ⟨X, hX⟩ : ∃ X, X = vtL (numS (some l) 1).1 (ptR (vtS1 (some l))).1 (ptR (vtS1 (some l))).2 (ptR (vtS2 (some l))).1 (ptR (vtS2 (some l))).2 (blobS (vtS3 (some l))).1 := ⟨_, rfl⟩
  rw [← hX] at HPB HOK
  have HXE := Lib.hid hX
  clear hX
  have HSZ := Lib.hid (size_vofV l A2)
  have HON := Lib.hid (one_vofV l A2)
  have HSI := Lib.hid (sz_vofV l A2)
  obtain ⟨C, hC⟩ : ∃ C, C = vofV l A2 := ⟨_, rfl⟩
  have hC2 : vtV (((numS (some l) 1).1 : Nat) : Int) (ptR (vtS1 (some l))).1 (ptR (vtS1 (some l))).2 (ptR (vtS2 (some l))).1 (ptR (vtS2 (some l))).2 (.slice A2 (blobS (vtS3 (some l))).1.length (blobS (vtS3 (some l))).1.length) = C := hC.symm
  rw [← hC] at HPB HSZ HON HSI
  rw [hC2]
  have HCE := Lib.hid hC
  clear hC hC2
  have K2 := heap_alloc_new w2 (.cells C 29)
  have bn : Hid (Below w2.heap.size w2 (w2.alloc (.cells C 29))) := (Below.refl _ _).alloc (Nat.le_refl _) _
  have HPC := Lib.hid (HPB.out _ bn.out)
  cases hq : (X == l)
  · rw [hq] at HOK
    have HQ := Lib.hid hq
    clear hq
    go_wp2_with (first
      | (refine wpList_store_row rfl 29 (.tmp 8) (.tmp 15) rfl w2.heap.size C rfl rfl 29 vote0 (heap_alloc_new _ _) HSZ.out HSI.out HON.out ?_; rw [World.setRow_alloc_new])
      | (refine wpList_load_row rfl 29 (.tmp 8) rfl w2.heap.size rfl 29 C (0, 0) _ K2 Try.underlying29 rfl HSZ.out ?_)
      | (refine HPC.out.mono ?_; rintro e w3 ⟨A3, c3, rfl, hc3, o3, b3⟩
         have BB : Hid (Below w.heap.size w (w3.alloc (.cells vote0 29))) := ((HB2.out.trans (bn.out.mono HB2.out.size)).trans (b3.mono (by have := HB2.out.size; simp; omega))).alloc (by have := HB2.out.size; have := b3.size; simp at this; omega) _
         have h6 : (w3.alloc (.cells vote0 29)).heap[w.heap.size]? = some (.cells vote0 29 (0, 0)) := (heap_lt _ _ (by have := HL2.out; have := b3.size; simp at this; omega)).trans ((b3.block w.heap.size (by have := HL2.out; simp; omega)).trans ((heap_lt _ _ HL2.out).trans F2.out))
         have h7 := heap_alloc_new w3 (.cells vote0 29)
         have hEq := bytesEqual_c o3.rd ((HRD2.out.below bn.out (Nat.le_of_lt HL2.out)).below b3 (by have := HL2.out; simp; omega)) c3 c _ _ rfl rfl
         rw [HQ.out] at hEq
         have HEq := Lib.hid hEq
         clear b3 o3 hEq)
      | (go_at_call 34; refine HEq.out.mono ?_; rintro e w4 ⟨rfl, rfl⟩)
      | (refine wpList_load_row rfl 29 (.tmp 11) rfl w3.heap.size rfl 29 vote0 (0, 0) _ h7 Try.underlying29 rfl size_vote0 ?_)
      | (refine wpList_store_row rfl 29 (.tmp 6) (.tmp 30) rfl w.heap.size vote0 rfl rfl 29 vote0 h6 size_vote0 rfl one_vote0 ?_))
    have K6 : ((w3.alloc (.cells vote0 29)).setRow w.heap.size vote0).heap[w.heap.size]? = some (.cells vote0 29 (0, 0)) := setRow_heap _ _ _ _ _ _ h6
    exact bodyPost_ret (v := .tuple #[.agg vote0, .int .i64 4]) (results_cell_row_tmp rfl _ _ w.heap.size 29 vote0 (0, 0) _ rfl K6 Try.underlying29 rfl size_vote0 _ rfl) rfl (.inr ⟨HOK.out, rfl, below_setRow BB.out (Nat.le_refl _) _⟩)
  · rw [hq] at HOK
    have HQ := Lib.hid hq
    clear hq
    go_wp2_with (first
      | (refine wpList_store_row rfl 29 (.tmp 8) (.tmp 15) rfl w2.heap.size C rfl rfl 29 vote0 (heap_alloc_new _ _) HSZ.out HSI.out HON.out ?_; rw [World.setRow_alloc_new])
      | (refine wpList_load_row rfl 29 (.tmp 8) rfl w2.heap.size rfl 29 C (0, 0) _ K2 Try.underlying29 rfl HSZ.out ?_)
      | (refine HPC.out.mono ?_; rintro e w3 ⟨A3, c3, rfl, hc3, o3, b3⟩
         have BB : Hid (Below w.heap.size w w3) := (HB2.out.trans (bn.out.mono HB2.out.size)).trans (b3.mono (by have := HB2.out.size; simp; omega))
         have h6 : w3.heap[w.heap.size]? = some (.cells vote0 29 (0, 0)) := (b3.block w.heap.size (by have := HL2.out; simp; omega)).trans ((heap_lt _ _ HL2.out).trans F2.out)
         have h7 : w3.heap[w2.heap.size]? = some (.cells C 29 (0, 0)) := (b3.block w2.heap.size (by simp)).trans K2
         have HO3 := Lib.hid ((HO2.out.below bn.out (Nat.le_refl _)).below b3 (Nat.le_refl _))
         have hEq := bytesEqual_c o3.rd ((HRD2.out.below bn.out (Nat.le_of_lt HL2.out)).below b3 (by have := HL2.out; simp; omega)) c3 c _ _ rfl rfl
         rw [HQ.out] at hEq
         have HEq := Lib.hid hEq
         clear b3 o3 hEq)
      | (go_at_call 34; refine HEq.out.mono ?_; rintro e w4 ⟨rfl, rfl⟩)
      | (refine wpList_load_row rfl 29 (.tmp 8) rfl w2.heap.size rfl 29 C (0, 0) _ h7 Try.underlying29 rfl HSZ.out ?_)
      | (refine wpList_store_row rfl 29 (.tmp 6) (.tmp 31) rfl w.heap.size C rfl rfl 29 vote0 h6 HSZ.out HSI.out HON.out ?_))
    have K6 : (w3.setRow w.heap.size C).heap[w.heap.size]? = some (.cells C 29 (0, 0)) := setRow_heap _ _ _ _ _ _ h6
    exact bodyPost_ret (v := .tuple #[.agg C, .int .i64 0]) (results_cell_row_tmp rfl _ _ w.heap.size 29 C (0, 0) _ rfl K6 Try.underlying29 rfl HSZ.out _ rfl) rfl (.inl ⟨HOK.out, A2, by rw [HCE.out], owRow HO3.out (by omega) C, below_setRow BB.out (Nat.le_refl _) _⟩)
end Go.Proofs.Ytmebppfbdeokeaa
