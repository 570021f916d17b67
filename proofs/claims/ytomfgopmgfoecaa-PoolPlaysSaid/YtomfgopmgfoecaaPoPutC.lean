/- A vote is put: places and ballots. -/
import Derived.Test.YtomfgopmgfoecaaPoPutB
import Derived.BigFrame
import Derived.Great.BuildSlice
namespace Go.Proofs.Ytomfgopmgfoecaa
open Go.ChangeMaps Go.MapKept Go.Maps Go.RowKit Go.ChangeShapes Go.WideShapes Go.ChangeAt
set_option linter.unusedVariables false
set_option maxRecDepth 100000

theorem wrap_sum {a b : Nat} (h : a + b ≤ 18446744073709551615) : IntKind.u64.wrap ((a : Int) + (b : Int)) = (a : Int) + (b : Int) := by rw [IntKind.wrap_u64]; omega
theorem zero_ints (u : World) : (zeroValue 47).run Try.prog u = .ok (.slice none 0 0) u := by kernel_rfl
theorem one_int (N : Nat) (u : World) : (Instr.buildSlice 47 1 #[(0, .int .i64 (N : Int))]).run Try.prog u = .ok (.slice (some ⟨u.heap.size, 0, none⟩) 1 1) (u.alloc (.cells #[.int .i64 (N : Int)] 3)) := by
  have hie : Try.prog.info? 3 = some ((Try.prog.info? 3).get (by kernel_rfl)) := (Option.some_get _).symm
  refine run_buildSlice u _ 3 1 _ #[.int .i64 (N : Int)] _ _ Try.underlying47 hie (Option.some_get (by kernel_rfl)).symm (by decide +kernel) (by decide +kernel) ?_
  kernel_rfl
theorem own_int (N : Nat) (u : World) : (u.alloc (.cells #[.int .i64 (N : Int)] 3)).ownsRow 0 3 1 (.slice (some ⟨u.heap.size, 0, none⟩) 1 1) 1 (intC N) :=
  ⟨rfl, .inr ⟨u.heap.size, 1, #[.int .i64 (N : Int)], rfl, Nat.zero_le _, heap_alloc_new u _, Nat.le_refl _, by unfold maxLen; omega, rfl, rfl⟩⟩
theorem int_row {i : TypeInfo} (h : (Try.prog.info? 3) = some i) : i.zero = some (.int .i64 0) ∧ i.size = 1 ∧ i.bytes = 8 := by
  have : (Try.prog.info? 3).map (fun i => (i.zero, i.size, i.bytes)) = some (some (.int .i64 0), 1, 8) := by kernel_rfl
  rw [h] at this
  injection this with this
  injection this with h1 h2
  injection h2 with h2 h3
  exact ⟨h1, h2, h3⟩
theorem built_tally (a : Int) (A : Option Addr) (n c : Nat) : Try.prog.built 82 [(0, .int .u64 a), (1, .slice A n c)] = some #[.int .u64 a, .slice A n c] := by kernel_rfl
def addW (wt : Lk → Nat) (k : Lk) (a : Nat) (l : Lk) : Nat := if l = k then a else wt l
theorem tal_set (wt : Lk → Nat) (hd : Lk ⊕ Hh → Option Value) (k : Lk) (a : Nat) (v : Value) : setF (talF wt hd) k (some (.agg #[.int .u64 (a : Int), v])) = talF (addW wt k a) (setF hd (.inl k) (some v)) := by
  funext y
  by_cases h : y = k
  · subst h
    simp [setF, talF, addW]
  · simp [setF, talF, addW, h]
theorem kys_inl (hd : Lk ⊕ Hh → Option Value) (k : Lk) (v : Option Value) : kysF (setF hd (.inl k) v) = kysF hd := by
  funext y
  simp [kysF, setF]
theorem kys_set (hd : Lk ⊕ Hh → Option Value) (h : Hh) (v : Value) : setF (kysF hd) h (some v) = kysF (setF hd (.inr h) (some v)) := by
  funext y
  by_cases e : y = h
  · subst e
    simp [kysF, setF]
  · simp [kysF, setF, e]
theorem tal_inr (wt : Lk → Nat) (hd : Lk ⊕ Hh → Option Value) (h : Hh) (v : Option Value) : talF wt (setF hd (.inr h) v) = talF wt hd := by
  funext y
  simp [talF, setF]
section
variable {s bt bk bb : Nat} {vv vl : Value} {hd : Lk ⊕ Hh → Option Value} {F : Nat → Prop} {S : PoS} {n : Nat} {w w' : World}
/-- The list that is to grow: whose block it is. -/
theorem own_of (h : PoB s bt bk bb vv vl hd F S n w) {i : Lk ⊕ Hh} {A : Option Addr} {L0 : List Nat} {c : Nat} (hL : L0 = (S.pl i).getD []) (hy : (hd i).getD (.slice none 0 0) = .slice A L0.length c) : w.ownsRow 0 3 1 (.slice A L0.length c) L0.length (rws intC L0) ∧ (∀ k, (Value.slice A L0.length c).ownBlock = some k → F k ∧ hd i = some (.slice A L0.length c)) ∧ (∀ k, (Value.slice A L0.length c).ownBlock = some k → k ≠ s ∧ k ≠ bt ∧ k ≠ bk ∧ k ≠ bb) := by
  have h1 := h.row i
  rw [← hL, hy] at h1
  exact ⟨h1.1, h1.2, fun k hk => ⟨(h.hd_ne (h1.2 k hk).2 hk).1, (h.hd_ne (h1.2 k hk).2 hk).2.1, (h.hd_ne (h1.2 k hk).2 hk).2.2.1, (h.hd_ne (h1.2 k hk).2 hk).2.2.2.1⟩⟩
end
noncomputable def pp_r5C : Code := ((Try.f35.body.bind (regionOf 5))).getD .skip
set_option maxRecDepth 1000000 in
set_option maxHeartbeats 8000000 in
theorem pp_r5 (c1 c2 c7 c8 c9 c10 c11 c12 c13 c14 c15 c16 c17 c18 c19 c20 c21 c22 c23 c24 c25 c26 c27 c28 c29 c30 c31 c32 c33 c34 c35 c36 c37 c38 c39 c40 c41 c42 c43 c44 c45 c46 c47 c48 c49 c50 c51 c52 c53 c54 c55 c56 c57 c58 c59 c60 c61 c62 c63 c64 c65 c66 c67 c68 c69 c70 c71 c72 c73 c74 c75 c76 c77 c78 c79 c80 c81 c82 c83 : Value) (w : World) (s bt bk bb n : Nat) (vv vl : Value) (hd : Lk ⊕ Hh → Option Value) (F : Nat → Prop) (S : PoS) (x : Sg) (gb gl gt : Nat) (a : Nat) (Ay : Option Addr) (L0 : List Nat) (cy N : Nat) (h : PoB s bt bk bb vv vl hd F S n w) (hl : Loc gb gl gt x a (.slice Ay L0.length cy) w) (hnf : ∀ k, k = gb ∨ k = gl ∨ k = gt → ¬ F k) (hL0 : L0 = (S.pl (.inl x.k)).getD []) (hy : (hd (.inl x.k)).getD (.slice none 0 0) = .slice Ay L0.length cy) (hn : n ≤ 1000000) (hll : L0.length ≤ 1000000) (hsum : a + x.st ≤ 18446744073709551615)
    (Q : Exit → Act → World → Prop) (hQ : ∀ (u37 u38 u39 u40 u41 u42 u43 u44 u45 u46 u47 u48 u49 u50 u51 u52 : Value) (w' : World), (∃ v' F', PoB s bt bk bb vv vl (setF hd (.inl x.k) (some v')) F' { S with wt := addW S.wt x.k (a + x.st), pl := fun j => if j = (.inl x.k) then some (L0 ++ [N]) else S.pl j } (n + 1) w' ∧ Kept F w w' ∧ (∀ k, F' k → F k ∨ w.heap.size ≤ k) ∧ (∀ k, F k → F' k) ∧ Loc gb gl gt x a (.slice Ay L0.length cy) w') → Q .normal ⟨#[.pointer (some ⟨s, 0, none⟩), c1, c2, .pointer (some ⟨gb, 0, none⟩), .int .i64 (N : Int), .pointer (some ⟨gl, 0, none⟩), .pointer (some ⟨gt, 0, none⟩), c7, c8, c9, c10, c11, c12, c13, c14, c15, c16, c17, c18, c19, c20, c21, c22, c23, c24, c25, c26, c27, c28, c29, c30, c31, c32, c33, c34, c35, c36, u37, u38, u39, u40, u41, u42, u43, u44, u45, u46, u47, u48, u49, u50, u51, u52, c53, c54, c55, c56, c57, c58, c59, c60, c61, c62, c63, c64, c65, c66, c67, c68, c69, c70, c71, c72, c73, c74, c75, c76, c77, c78, c79, c80, c81, c82, c83], []⟩ w') :
    Code.wp Try.prog pp_r5C Q ⟨#[.pointer (some ⟨s, 0, none⟩), c1, c2, .pointer (some ⟨gb, 0, none⟩), .int .i64 (N : Int), .pointer (some ⟨gl, 0, none⟩), .pointer (some ⟨gt, 0, none⟩), c7, c8, c9, c10, c11, c12, c13, c14, c15, c16, c17, c18, c19, c20, c21, c22, c23, c24, c25, c26, c27, c28, c29, c30, c31, c32, c33, c34, c35, c36, c37, c38, c39, c40, c41, c42, c43, c44, c45, c46, c47, c48, c49, c50, c51, c52, c53, c54, c55, c56, c57, c58, c59, c60, c61, c62, c63, c64, c65, c66, c67, c68, c69, c70, c71, c72, c73, c74, c75, c76, c77, c78, c79, c80, c81, c82, c83], []⟩ w := by
  conv => arg 2; whnf
  try dsimp only at hQ ⊢
  obtain ⟨i0, hi0⟩ : ∃ i0, Try.prog.info? 3 = some i0 := ⟨_, (Option.some_get (by kernel_rfl)).symm⟩
  obtain ⟨hz0, hz1, hz2⟩ := int_row hi0
  have HLL := Lib.hid hL0
  have HYY := Lib.hid hy
  obtain ⟨w2, hw2⟩ : ∃ w2, w2 = w.drew := ⟨_, rfl⟩
  have HF : Hid (PoB s bt bk bb vv vl hd F S n w2) := by rw [hw2]; exact h.below ((Below.refl _ _).drew)
  have LO : Hid (Loc gb gl gt x a (.slice Ay L0.length cy) w2) := by rw [hw2]; exact (show Loc gb gl gt x a (.slice Ay L0.length cy) w.drew from hl)
  have HK : Hid (Kept F w w2) := by rw [hw2]; exact Kept.of_below ((Below.refl _ _).drew)
  have NF := Lib.hid hnf
  clear h hl hnf hL0 hy
  refine wp_region_noPanic ?_
  refine wp_region_held_drew (S := (fun u => u.heap[s]? = some (.cells #[vv, vl, .map (some bt), .map (some bk), .map (some bb)] 79 (0, 0)) ∧ Loc gb gl gt x a (.slice Ay L0.length cy) u)) (by kernel_rfl) (by rw [← hw2]; exact ⟨HF.out.cells, LO.out⟩) (fun hHeld => ?_)
  rw [← hw2]
  rw [← hw2] at hHeld
  clear hw2
  refine takeH (i := 0) (d := 37) (oi := _) (v := .pointer (some ⟨s, 0, none⟩)) rfl (by kernel_rfl) (by kernel_rfl) (by kernel_rfl) (by kernel_rfl) (fun _ _ _ h => h) (Or.inl ⟨by kernel_rfl, by intro u hSw; clear hSw; go_simp⟩) hHeld ?_
  try simp only [List.setIfInBounds_toArray, List.set_cons_zero, List.set_cons_succ]
  refine takeH (i := 1) (d := 38) (oi := _) (v := .pointer (some ⟨s, 0, none⟩)) rfl (by kernel_rfl) (by kernel_rfl) (by kernel_rfl) (by kernel_rfl) (fun _ _ _ h => h) (Or.inl ⟨by kernel_rfl, by intro u hSw; clear hSw; go_simp⟩) hHeld ?_
  try simp only [List.setIfInBounds_toArray, List.set_cons_zero, List.set_cons_succ]
  refine takeH (i := 2) (d := 39) (oi := _) (v := .pointer (some ⟨s, 2, none⟩)) rfl (by kernel_rfl) (by kernel_rfl) (by kernel_rfl) (by kernel_rfl) (fun _ _ _ h => h) (Or.inl ⟨by kernel_rfl, by intro u hSw; clear hSw; go_simp⟩) hHeld ?_
  try simp only [List.setIfInBounds_toArray, List.set_cons_zero, List.set_cons_succ]
  refine takeH (i := 3) (d := 40) (oi := _) (v := .map (some bt)) rfl (by kernel_rfl) (by kernel_rfl) (by kernel_rfl) (by kernel_rfl) (fun _ _ _ h => h) (Or.inl ⟨by kernel_rfl, by intro u hSw; (have hc : u.cell? ⟨s, 2, none⟩ = some (.map (some bt)) := cell_of_row u s 2 _ _ (0, 0) hSw.1; clear hSw; go_simp)⟩) hHeld ?_
  try simp only [List.setIfInBounds_toArray, List.set_cons_zero, List.set_cons_succ]
  refine takeH (i := 4) (d := 41) (oi := _) (v := .agg (lv x.k)) rfl (by kernel_rfl) (by kernel_rfl) (by kernel_rfl) (by kernel_rfl) (fun _ _ _ h => h) (yieldsIf_load_midC (by kernel_rfl) _ _ rfl (gl) 0 rfl (lC x.k) (lv x.k) (lC_arr x.k) _ (fun u hSw => hSw.2.2.1.all) Try.underlying50 rfl (size_lv x.k)) hHeld ?_
  try simp only [List.setIfInBounds_toArray, List.set_cons_zero, List.set_cons_succ]
  refine takeH (i := 5) (d := 42) (oi := _) (v := .pointer (some ⟨gt, 0, none⟩)) rfl (by kernel_rfl) (by kernel_rfl) (by kernel_rfl) (by kernel_rfl) (fun _ _ _ h => h) (Or.inl ⟨by kernel_rfl, by intro u hSw; clear hSw; go_simp⟩) hHeld ?_
  try simp only [List.setIfInBounds_toArray, List.set_cons_zero, List.set_cons_succ]
  refine takeH (i := 6) (d := 43) (oi := _) (v := .int .u64 (a : Int)) rfl (by kernel_rfl) (by kernel_rfl) (by kernel_rfl) (by kernel_rfl) (fun _ _ _ h => h) (Or.inl ⟨by kernel_rfl, by intro u hSw; (have hc : u.cell? ⟨gt, 0, none⟩ = some (.int .u64 (a : Int)) := cell_of_row u gt 0 _ _ (0, 0) hSw.2.2.2; clear hSw; go_simp)⟩) hHeld ?_
  try simp only [List.setIfInBounds_toArray, List.set_cons_zero, List.set_cons_succ]
  refine takeH (i := 7) (d := 44) (oi := _) (v := .pointer (some ⟨gb, 100, none⟩)) rfl (by kernel_rfl) (by kernel_rfl) (by kernel_rfl) (by kernel_rfl) (fun _ _ _ h => h) (Or.inl ⟨by kernel_rfl, by intro u hSw; clear hSw; go_simp⟩) hHeld ?_
  try simp only [List.setIfInBounds_toArray, List.set_cons_zero, List.set_cons_succ]
  refine takeH (i := 8) (d := 45) (oi := _) (v := .int .u64 (x.st : Int)) rfl (by kernel_rfl) (by kernel_rfl) (by kernel_rfl) (by kernel_rfl) (fun _ _ _ h => h) (Or.inl ⟨by kernel_rfl, by intro u hSw; (have hc : u.cell? ⟨gb, 100, none⟩ = some (.int .u64 (x.st : Int)) := hSw.2.1.stake; clear hSw; go_simp)⟩) hHeld ?_
  try simp only [List.setIfInBounds_toArray, List.set_cons_zero, List.set_cons_succ]
  refine takeH (i := 9) (d := 46) (oi := _) (v := .int .u64 ((a : Int) + (x.st : Int))) rfl (by kernel_rfl) (by kernel_rfl) (by kernel_rfl) (by kernel_rfl) (fun _ _ _ h => h) (Or.inl ⟨by kernel_rfl, by intro u hSw; clear hSw; go_simp; exact wrap_sum hsum⟩) hHeld ?_
  try simp only [List.setIfInBounds_toArray, List.set_cons_zero, List.set_cons_succ]
  refine takeH (i := 10) (d := 47) (oi := _) (v := .pointer (some ⟨gt, 1, none⟩)) rfl (by kernel_rfl) (by kernel_rfl) (by kernel_rfl) (by kernel_rfl) (fun _ _ _ h => h) (Or.inl ⟨by kernel_rfl, by intro u hSw; clear hSw; go_simp⟩) hHeld ?_
  try simp only [List.setIfInBounds_toArray, List.set_cons_zero, List.set_cons_succ]
  refine takeH (i := 11) (d := 48) (oi := _) (v := .slice Ay L0.length cy) rfl (by kernel_rfl) (by kernel_rfl) (by kernel_rfl) (by kernel_rfl) (fun _ _ _ h => h) (Or.inl ⟨by kernel_rfl, by intro u hSw; (have hc : u.cell? ⟨gt, 1, none⟩ = some (.slice Ay L0.length cy) := cell_of_row u gt 1 _ _ (0, 0) hSw.2.2.2; clear hSw; go_simp)⟩) hHeld ?_
  try simp only [List.setIfInBounds_toArray, List.set_cons_zero, List.set_cons_succ]
  refine takeH (i := 12) (d := 49) (oi := _) (v := .int .i64 (N : Int)) rfl (by kernel_rfl) (by kernel_rfl) (by kernel_rfl) (by kernel_rfl) (fun _ _ _ h => h) (Or.inl ⟨by kernel_rfl, by intro u hSw; clear hSw; go_simp⟩) hHeld ?_
  try simp only [List.setIfInBounds_toArray, List.set_cons_zero, List.set_cons_succ]
  refine wpAnyH_ready (rs := [13]) (by kernel_rfl) (by simp) ?_
  refine AllReadyH.cons (o := _) rfl (fun K hK => ?_) (AllReadyH.nil)
  refine step_buildSlice_row (w' := w2.alloc (.cells (#[.int .i64 (N : Int)]) 3)) (by kernel_rfl) 47 1 #[(0, .tmp 49)] rfl (.slice (some ⟨w2.heap.size, 0, none⟩) 1 1) (by simp only [List.map_toArray, List.map_cons, List.map_nil]; exact one_int N w2) ?_
  obtain ⟨gn, hgn⟩ : ∃ g0, g0 = w2.heap.size := ⟨_, rfl⟩
  have ol := own_int N w2
  have b2 : Below w2.heap.size w2 (w2.alloc (.cells (#[.int .i64 (N : Int)]) 3)) := (Below.refl _ _).alloc (Nat.le_refl _) _
  rw [← hgn] at ol ⊢
  obtain ⟨w2, hw2⟩ : ∃ w3, w3 = w2.alloc (.cells (#[.int .i64 (N : Int)]) 3) := ⟨_, rfl⟩
  rw [← hw2] at ol b2 ⊢
  have OL := Lib.hid ol
  have HF := Lib.hid (HF.out.below b2)
  have LO := Lib.hid (LO.out.below b2)
  have HK := Lib.hid (HK.out.trans (F' := F) (Kept.of_below b2) (fun k e => .inl e))
  clear ol b2 hw2 hgn
  try go_simp
  refine hK.out _ _ (⟨HF.out.cells, LO.out⟩) (fun hHeld => ?_)
  clear hK K
  try simp only [Act.put, List.setIfInBounds_toArray, List.set_cons_zero, List.set_cons_succ]
  refine wpAnyH_ready (rs := [14]) (by kernel_rfl) (by simp) ?_
  refine AllReadyH.cons (o := _) rfl (fun K hK => ?_) (AllReadyH.nil)
  have HY := Lib.hid (own_of HF.out (i := (.inl x.k)) HLL.out HYY.out)
  refine step_append_row (by kernel_rfl) (.tmp 48) (.tmp 50) 47 rfl 0 3 i0 _ 1 8 Try.underlying47 hi0 hz0 hz1 hz2 rfl (by decide) (.slice Ay L0.length cy) L0.length (rws intC L0) rfl HY.out.1 0 _ 1 (intC N) rfl OL.out (intC_one N) (by unfold maxLen; omega) (by omega) (Nat.zero_le _) ?_
  intro v' w3 o3 g3 b3
  obtain ⟨A3, c3', rfl, _, _, _⟩ := ownForm o3
  rw [rws_more] at o3
  have o3' : w3.ownsRow 0 3 1 (.slice A3 (L0.length + 1) c3') (L0 ++ [N]).length (rws intC (L0 ++ [N])) := by rw [List.length_append]; exact o3
  have q1 : ∀ k, F k → (∀ v, hd (.inl x.k) = some v → v.ownBlock ≠ some k) → w3.heap[k]? = w2.heap[k]? := fun k hF hv => g3.block k (HF.out.fin k hF) (fun e => hv _ (HY.out.2.1 k e.symm).2 e.symm)
  have m3 := HF.out.tal.kept g3 (fun e => (HY.out.2.2 bt e.symm).2.1 rfl)
  obtain ⟨w5, hr5, hm5, ht5⟩ := m3.put keyL Try.underlying75 (by unfold maxLen; omega) x.k (.agg #[.int .u64 ((a : Int) + (x.st : Int)), .slice A3 (L0.length + 1) c3'])
  rw [show (a : Int) + (x.st : Int) = ((a + x.st : Nat) : Int) from rfl, tal_set] at hm5
  obtain ⟨t1, t2, t3⟩ := turned_block ht5
  have mk5 : MapF 24 klH w5 bk (n + 1) (kysF (setF hd (.inl x.k) (some (.slice A3 (L0.length + 1) c3')))) := by
    rw [kys_inl]
    exact ((HF.out.keys.kept g3 (fun e => (HY.out.2.2 bk e.symm).2.2.1 rfl)).keep (t1 bk HF.out.ne.1.symm)).mono (Nat.le_succ n)
  have HFIN := Lib.hid (HF.out.turnRow (.inl x.k) bt (.inl rfl) (v' := .slice A3 (L0.length + 1) c3') (Nat.le_succ n) (fun k hF hb hv => (t1 k hb).trans (q1 k hF hv)) (by rw [t2]; exact g3.size) hm5 mk5 (ownKeep o3' (fun g hg => t1 g (row_ne o3' hg t3))) (by
      rcases b3 with b3 | b3
      · cases hh : (Value.slice Ay L0.length cy).ownBlock with
        | none => exact .inr (fun k e => by rw [b3, hh] at e; cases e)
        | some k => exact .inl ⟨_, (HY.out.2.1 k hh).2, b3⟩
      · exact .inr (fun k e => by rw [b3] at e; injection e with e; omega)))
  have yk : ∀ k, (Value.slice Ay L0.length cy).ownBlock = some k → F k := fun k e => (HY.out.2.1 k e).1
  have LO3 := Lib.hid (LO.out.keep (w' := w3) (fun k hk => g3.block k (LO.out.lt k hk) (fun e => NF.out k hk (yk k e.symm))))
  have C3 := Lib.hid ((q1 s HF.out.foot.1 (fun v hv e => (HF.out.hd_ne hv e).1 rfl)).trans HF.out.cells)
  have LO5 := Lib.hid (LO3.out.keep (w' := w5) (fun k hk => t1 k (fun e => NF.out k hk (by rw [e]; exact HF.out.foot.2.1))))
  have HK5 : Hid (Kept F w w5 ∧ ∀ k, (Value.slice A3 (L0.length + 1) c3').ownBlock = some k → F k ∨ w.heap.size ≤ k) := ⟨(HK.out.trans (F' := F) ⟨g3.os, g3.tape, g3.output, g3.size, fun k hk hn => g3.block k hk (fun e => hn (yk k e.symm))⟩ (fun k e => .inl e)).trans (Kept.turned ht5 HF.out.foot.2.1) (fun k e => .inl e), fun k e => by
      rcases b3 with b3 | b3
      · exact .inl (yk k (by rw [← b3]; exact e))
      · rw [b3] at e
        injection e with e
        have := HK.out.2.2.2.1
        exact .inr (by omega)⟩
  clear o3 o3' g3 b3 q1 m3 hm5 ht5 t1 t2 t3 mk5 yk HY
  try go_simp
  refine hK.out _ _ (⟨C3.out, LO3.out⟩) (fun hHeld => ?_)
  clear hK K
  try simp only [Act.put, List.setIfInBounds_toArray, List.set_cons_zero, List.set_cons_succ]
  refine takeH (i := 15) (d := 52) (oi := _) (v := .agg (#[.int .u64 ((a : Int) + (x.st : Int)), .slice A3 (L0.length + 1) c3'])) rfl (by kernel_rfl) (by kernel_rfl) (by kernel_rfl) (by kernel_rfl) (fun _ _ _ h => h) (yieldsIf_build (by kernel_rfl) 82 #[(0, .tmp 46), (1, .tmp 51)] rfl _ _ (built_tally _ _ _ _) (by kernel_rfl)) hHeld ?_
  try simp only [List.setIfInBounds_toArray, List.set_cons_zero, List.set_cons_succ]
  refine wpAnyH_ready (rs := [16]) (by kernel_rfl) (by simp) ?_
  refine AllReadyH.cons (o := _) rfl (fun K hK => ?_) (AllReadyH.nil)
  go_simp
  try go_simp
  refine hK.out _ _ (⟨HFIN.out.cells, LO5.out⟩) (fun hHeld => ?_)
  clear hK K
  try simp only [Act.put, List.setIfInBounds_toArray, List.set_cons_zero, List.set_cons_succ]
  refine wpAnyH_done (by kernel_rfl) ?_ _
  refine NoPanic.normal ?_
  exact hQ _ _ _ _ _ _ _ _ _ _ _ _ _ _ _ _ _ ⟨_, _, HFIN.out, HK5.out.1, fun k hk => hk.elim .inl (HK5.out.2 k), fun k hk => .inl hk, LO5.out⟩
end Go.Proofs.Ytomfgopmgfoecaa
