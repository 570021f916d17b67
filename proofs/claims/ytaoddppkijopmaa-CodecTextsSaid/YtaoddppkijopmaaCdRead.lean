/- Contracts: readPoint, readVote, of any reader. -/
import Derived.Test.YtaoddppkijopmaaCdHash
namespace Go.Proofs.Ytaoddppkijopmaa
open Go.ChangeShapes Go.WideShapes Go.ChangeAt Go.RowKit
set_option linter.unusedVariables false
set_option maxRecDepth 100000

/-- A struct that is built, under its own name. -/
theorem wpList_build_as {P : Program} {ops : Array Oper} {rest : List Oper} {o : Oper} {a : Act} {w : World} {Q : Exit → Act → World → Prop} (hg : o.guard = none) (t : TypeId) (parts : Array (Nat × Operand)) (ho : o.op = .build t parts)
    (L : List (Nat × Value)) (C : Array Value) (hC : P.built t L = some C) (hL : (parts.map fun (i, x) => (i, a.eval x)).toList = L)
    (h : wpList P ops Q rest (a.put o.dst (.agg C)) w) : wpList P ops Q (o :: rest) a w :=
  wpList_build hg t parts ho (by rw [hL, hC]; rfl) (by rw [hL, hC]; exact h)
theorem built_point (e : Nat) (l : List UInt8) : Try.prog.built 29 [(0, .int .u64 (e : Int)), (1, .agg (hashV l))] = some (ptV e l) := by kernel_rfl
theorem zero_pointC (u : World) : (zeroValue 29).run Try.prog u = .ok (.agg (ptV 0 zeros)) u := by kernel_rfl
/-- The checkpoint that a reader tells. -/
def ptR (st : Option (List UInt8)) : Nat × List UInt8 := ((numS st 8).1, hashR (numS st 8).2)
def ptS (st : Option (List UInt8)) : Option (List UInt8) := (cutS (numS st 8).2 32).2
def PointRP (w : World) (lo p : Nat) (st : Option (List UInt8)) (e : Ending) (w' : World) : Prop :=
  e = .returned (.agg (ptV (ptR st).1 (ptR st).2)) ∧ RS w' lo p (ptS st) ∧ w.grownBy w' (some p)

set_option maxHeartbeats 4000000 in
theorem readPoint_c (lo p : Nat) (st : Option (List UInt8)) (w : World) (h : RS w lo p st) :
    Calls Try.prog 65 #[.pointer (some ⟨p, 0, none⟩)] w (PointRP w lo p st) := by
  have hz := zero_pointC
  obtain ⟨W, hW⟩ : ∃ W, W = w.alloc (.cells (ptV 0 zeros) 29) := ⟨_, rfl⟩
  have hb : Below w.heap.size w W := by rw [hW]; exact (Below.refl _ _).alloc (Nat.le_refl _) _
  have hsz : W.heap.size = w.heap.size + 1 := by rw [hW]; simp
  have f0 : Fill w.heap.size 29 33 33 (ptF 0 zeros) W := by
    rw [hW]
    exact Fill.of_row (heap_alloc_new w _)
  have hp := h.lt
  have hR : RS W lo p st := h.below hb hp
  have HC := Lib.hid (number_at lo p st 8 W hR)
  have HW := Lib.hid hW
  have HB := Lib.hid hb
  have F0 := Lib.hid f0
  have HS := Lib.hid hsz
  clear hW hb f0 hR hsz h
  go_enter Try.func65, Try.ntmps65
  go_wp2_with fail
  rw [← HW.out]
  refine HC.out.mono ?_
  rintro e w1 ⟨rfl, r1, g1⟩
  have HC2 := Lib.hid (readHash_c lo p (numS st 8).2 w1 r1)
  have G1 := Lib.hid g1
  clear r1 g1 HC
  go_wp2_with fail
  refine HC2.out.mono ?_
  rintro e w2 ⟨rfl, r2, g2⟩
  have R2 := Lib.hid r2
  have G2 := Lib.hid g2
  clear r2 g2 HC2
  have h6 := (F0.out.keep ((G2.out.block w.heap.size (by have := G1.out.size; have := HS.out; omega) (fun e => by injection e with e; omega)).trans (G1.out.block w.heap.size (by have := HS.out; omega) (fun e => by injection e with e; omega)))).done
  have HB2 := Lib.hid (built_point (numS st 8).1 (hashR (numS st 8).2))
  go_wp2_with (first
    | (refine wpList_build_as rfl 29 #[(0, .tmp 4), (1, .tmp 6)] rfl _ _ HB2.out (by kernel_rfl) ?_)
    | (refine wpList_store_row rfl 29 (.tmp 2) (.tmp 7) rfl w.heap.size (ptV (numS st 8).1 (hashR (numS st 8).2)) rfl rfl 29 (rowV 33 (ptF 0 zeros)) h6 (size_ptV _ _) (by simp only [ptV, rowV_size]) (rowV_one 33 _ (ptF_one _ _)) ?_)
    | fail)
  have K6 : (w2.setRow w.heap.size (ptV (numS st 8).1 (hashR (numS st 8).2))).heap[w.heap.size]? = some (.cells (ptV (numS st 8).1 (hashR (numS st 8).2)) 29 (0, 0)) := setRow_heap _ _ _ _ _ _ h6
  have GG : w.grownBy (w2.setRow w.heap.size (ptV (numS st 8).1 (hashR (numS st 8).2))) (some p) := ((((grown_of_below HB.out (some p)).trans G1.out).trans G2.out)).setRowNew (Nat.le_refl _) _
  exact bodyPost_ret (v := .agg (ptV (numS st 8).1 (hashR (numS st 8).2))) (results_cell_row rfl _ _ w.heap.size 29 (ptV (numS st 8).1 (hashR (numS st 8).2)) (0, 0) _ rfl K6 Try.underlying29 rfl (size_ptV _ _)) rfl ⟨rfl, R2.out.keepRow hp (Nat.le_refl _) _, GG⟩

theorem num1 (st : Option (List UInt8)) : (numS st 1).1 < 256 := by
  simp only [numS]
  rw [if_pos (by omega)]
  have h1 := num_lt (cutS st 1).1
  rcases cut_len st 1 (by omega) with h | h
  · rw [h] at h1; simp only [] at h1 ⊢; omega
  · have e : (cutS st 1).1.length = 1 := by omega
    rw [e] at h1; simp only [] at h1 ⊢; omega
theorem readValidator_c (lo p : Nat) (st : Option (List UInt8)) (w : World) (h : RS w lo p st) :
    Calls Try.prog 64 #[.pointer (some ⟨p, 0, none⟩)] w fun e w' => e = .returned (.int .i64 (((numS st 1).1 : Nat) : Int)) ∧ RS w' lo p (numS st 1).2 ∧ w.grownBy w' (some p) := by
  have h1 := num1 st
  have hw : IntKind.i64.wrap (((numS st 1).1 : Nat) : Int) = (((numS st 1).1 : Nat) : Int) := IntWalk.i64_in _ (by omega)
  go_enter Try.func64, Try.ntmps64
  go_wp2_with (go_at_call 58; refine (number_at lo p st 1 _ h).mono ?_; rintro e w1 ⟨rfl, hR, hg⟩)
  go_ret
  exact ⟨rfl, hR, hg⟩

/-- A vote's cells: its validator, its two checkpoints, its signature's slice. -/
def vtF (n : Int) (e1 : Nat) (l1 : List UInt8) (e2 : Nat) (l2 : List UInt8) (sv : Value) (i : Nat) : Value :=
  if i = 0 then .int .i64 n else if i < 34 then ptF e1 l1 (i - 1) else if i < 67 then ptF e2 l2 (i - 34) else sv
def vtV (n : Int) (e1 : Nat) (l1 : List UInt8) (e2 : Nat) (l2 : List UInt8) (sv : Value) : Array Value := rowV 68 (vtF n e1 l1 e2 l2 sv)
theorem size_vote : (Try.prog.info? 32).map (·.size) = some 68 := by kernel_rfl
theorem size_vtV (n : Int) (e1 : Nat) (l1 : List UInt8) (e2 : Nat) (l2 : List UInt8) (sv : Value) : (Try.prog.info? 32).map (·.size) = some (vtV n e1 l1 e2 l2 sv).size := by unfold vtV; rw [rowV_size]; exact size_vote
theorem vtF_one (n : Int) (e1 : Nat) (l1 : List UInt8) (e2 : Nat) (l2 : List UInt8) (sv : Value) (hs : sv.oneCell' = true) (i : Nat) : (vtF n e1 l1 e2 l2 sv i).oneCell' = true := by
  unfold vtF
  split
  · rfl
  · split
    · exact ptF_one _ _ _
    · split
      · exact ptF_one _ _ _
      · exact hs
theorem built_vote (n : Int) (e1 : Nat) (l1 : List UInt8) (e2 : Nat) (l2 : List UInt8) (A : Option Addr) (k c : Nat) :
    Try.prog.built 32 [(0, .int .i64 n), (1, .agg (ptV e1 l1)), (2, .agg (ptV e2 l2)), (3, .slice A k c)] = some (vtV n e1 l1 e2 l2 (.slice A k c)) := by kernel_rfl
theorem zero_voteC (u : World) : (zeroValue 32).run Try.prog u = .ok (.agg (vtV 0 0 zeros 0 zeros (.slice none 0 0))) u := by kernel_rfl
theorem owRow {w : World} {lo : Nat} {A : Option Addr} {l : List UInt8} (h : Ow w lo A l) {g : Nat} (hg : g < lo) (C : Array Value) : Ow (w.setRow g C) lo A l := fun hn => by
  obtain ⟨b, cur, e, h1, h2, h3, h4⟩ := h hn
  exact ⟨b, cur, e, h1, by simpa [World.setRow] using h2, (setRow_other _ _ _ _ (by omega)).trans h3, h4⟩
/-- The vote that a reader tells, and the reader behind it. -/
def vtS1 (st : Option (List UInt8)) := (numS st 1).2
def vtS2 (st : Option (List UInt8)) := ptS (vtS1 st)
def vtS3 (st : Option (List UInt8)) := ptS (vtS2 st)
def VoteRP (w : World) (lo p : Nat) (st : Option (List UInt8)) (e : Ending) (w' : World) : Prop :=
  ∃ A, e = .returned (.agg (vtV (((numS st 1).1 : Nat) : Int) (ptR (vtS1 st)).1 (ptR (vtS1 st)).2 (ptR (vtS2 st)).1 (ptR (vtS2 st)).2 (.slice A (blobS (vtS3 st)).1.length (blobS (vtS3 st)).1.length)))
    ∧ Ow w' w.heap.size A (blobS (vtS3 st)).1 ∧ RS w' lo p (blobS (vtS3 st)).2 ∧ w.grownBy w' (some p)

set_option maxHeartbeats 4000000 in
theorem readVote_c (lo p : Nat) (st : Option (List UInt8)) (w : World) (h : RS w lo p st) :
    Calls Try.prog 33 #[.pointer (some ⟨p, 0, none⟩)] w (VoteRP w lo p st) := by
  have hz := zero_voteC
  obtain ⟨W, hW⟩ : ∃ W, W = w.alloc (.cells (vtV 0 0 zeros 0 zeros (.slice none 0 0)) 32) := ⟨_, rfl⟩
  have hb : Below w.heap.size w W := by rw [hW]; exact (Below.refl _ _).alloc (Nat.le_refl _) _
  have hsz : W.heap.size = w.heap.size + 1 := by rw [hW]; simp
  have f0 : Fill w.heap.size 32 68 68 (vtF 0 0 zeros 0 zeros (.slice none 0 0)) W := by
    rw [hW]
    exact Fill.of_row (heap_alloc_new w _)
  have hp := h.lt
  have hR : RS W lo p st := h.below hb hp
  have HC := Lib.hid (readValidator_c lo p st W hR)
  have HW := Lib.hid hW
  have HB := Lib.hid hb
  have F0 := Lib.hid f0
  have HS := Lib.hid hsz
  clear hW hb f0 hR hsz h
  go_enter Try.func33, Try.ntmps33
  go_wp2_with fail
  rw [← HW.out]
  refine HC.out.mono ?_
  rintro e w1 ⟨rfl, r1, g1⟩
  have HC2 := Lib.hid (readPoint_c lo p (vtS1 st) w1 r1)
  have G1 := Lib.hid ((grown_of_below HB.out (some p)).trans g1)
  have F1 := Lib.hid (F0.out.keep (g1.block w.heap.size (by have := HS.out; omega) (fun e => by injection e with e; omega)))
  clear r1 g1 HC F0
  have L1 := Lib.hid F1.out.lt
  go_wp2_with fail
  refine HC2.out.mono ?_
  rintro e w2 ⟨rfl, r2, g2⟩
  have HC3 := Lib.hid (readPoint_c lo p (vtS2 st) w2 r2)
  have G2 := Lib.hid (G1.out.trans g2)
  have F2 := Lib.hid (F1.out.keep (g2.block w.heap.size L1.out (fun e => by injection e with e; omega)))
  clear r2 g2 HC2 F1 G1 L1
  have L2 := Lib.hid F2.out.lt
  go_wp2_with fail
  refine HC3.out.mono ?_
  rintro e w3 ⟨rfl, r3, g3⟩
  have HC4 := Lib.hid (blob_at lo p (vtS3 st) w3 r3)
  have G3 := Lib.hid (G2.out.trans g3)
  have F3 := Lib.hid (F2.out.keep (g3.block w.heap.size L2.out (fun e => by injection e with e; omega)))
  clear r3 g3 HC3 F2 G2 L2
  have L3 := Lib.hid F3.out.lt
  go_wp2_with fail
  refine HC4.out.mono ?_
  rintro e w4 ⟨A, rfl, o4, r4, g4⟩
  have G4 := Lib.hid (G3.out.trans g4)
  have h6 := (F3.out.keep (g4.block w.heap.size L3.out (fun e => by injection e with e; omega))).done
  have O4 := Lib.hid o4
  have HW3 := Lib.hid G3.out.size
  have R4 := Lib.hid r4
  have HL := Lib.hid L3.out
  clear r4 g4 HC4 F3 G3 L3 o4
  have HB2 := Lib.hid (built_vote (((numS st 1).1 : Nat) : Int) (ptR (vtS1 st)).1 (ptR (vtS1 st)).2 (ptR (vtS2 st)).1 (ptR (vtS2 st)).2 A (blobS (vtS3 st)).1.length (blobS (vtS3 st)).1.length)
  obtain ⟨C, hC⟩ : ∃ C, C = vtV (((numS st 1).1 : Nat) : Int) (ptR (vtS1 st)).1 (ptR (vtS1 st)).2 (ptR (vtS2 st)).1 (ptR (vtS2 st)).2 (.slice A (blobS (vtS3 st)).1.length (blobS (vtS3 st)).1.length) := ⟨_, rfl⟩
  rw [← hC] at HB2
  have HSZ : Hid ((Try.prog.info? 32).map (·.size) = some C.size) := by rw [hC]; exact size_vtV _ _ _ _ _ _
  have HON : Hid (C.all (·.oneCell') = true) := by rw [hC]; exact rowV_one 68 _ (vtF_one _ _ _ _ _ _ rfl)
  have hsi : (rowV 68 (vtF 0 0 zeros 0 zeros (.slice none 0 0))).size = C.size := by rw [hC]; simp only [vtV, rowV_size]
  have HSI := Lib.hid hsi
  clear hsi
  have HC' := Lib.hid hC
  clear hC
  go_wp2_with (first
    | (refine wpList_build_as rfl 32 #[(0, .tmp 4), (1, .tmp 6), (2, .tmp 8), (3, .tmp 10)] rfl _ _ HB2.out (by kernel_rfl) ?_)
    | (refine wpList_store_row rfl 32 (.tmp 2) (.tmp 11) rfl w.heap.size C rfl rfl 32 (rowV 68 (vtF 0 0 zeros 0 zeros (.slice none 0 0))) h6 HSZ.out HSI.out HON.out ?_)
    | fail)
  have K6 : (w4.setRow w.heap.size C).heap[w.heap.size]? = some (.cells C 32 (0, 0)) := setRow_heap _ _ _ _ _ _ h6
  exact bodyPost_ret (v := .agg C) (results_cell_row rfl _ _ w.heap.size 32 C (0, 0) _ rfl K6 Try.underlying32 rfl HSZ.out) rfl ⟨A, by rw [HC'.out], (owRow O4.out HL.out C).wide HW3.out, R4.out.keepRow hp (Nat.le_refl _) _, G4.out.setRowNew (Nat.le_refl _) _⟩
end Go.Proofs.Ytaoddppkijopmaa
