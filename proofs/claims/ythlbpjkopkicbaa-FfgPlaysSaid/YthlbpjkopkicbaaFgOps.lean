/- A gadget: its small calls. -/
import Derived.Test.YthlbpjkopkicbaaFgSt
namespace Go.Proofs.Ythlbpjkopkicbaa
open Go.ChangeMaps Go.MapKept Go.Maps Go.RowKit
set_option linter.unusedVariables false
set_option maxRecDepth 100000

theorem takeH {P : Program} {ops : Array Oper} {Q : Exit → Act → World → Prop} {S : World → Prop} {md : Region.Mode} {i d : Nat} {oi : Oper} {v : Value} {fuel : Nat} {listed : Array Bool} {ts : Array Value} {ds : List Deferred} {w : World} (hi : ops[i]? = some oi)
    (hd : oi.dst = some d) (hs : Region.noSelect ops = true) (hf : Region.free md ops listed i = true) (hr : (Region.ready md ops listed).contains i = true)
    (hQ : ∀ c a w, Q (.panic c) (a.put oi.dst v) w → Q (.panic c) a w) (hy : YieldsIf P ops S oi v ⟨ts, ds⟩) (hS : S w)
    (h : wpAnyH P md ops Q S fuel (listed.setIfInBounds i true) ⟨ts.setIfInBounds d v, ds⟩ w) : wpAnyH P md ops Q S (fuel + 1) listed ⟨ts, ds⟩ w :=
  wpAnyH_take hi hs hf hr hQ hy hS (by rw [hd]; exact h)
theorem yieldsIf_load_midC {P : Program} {ops : Array Oper} {S : World → Prop} {op : Oper} {a : Act} (hw : Region.wanted op (yielded ops a.tmps) = true) (ty : TypeId) (x : Operand) (ho : op.op = .load ty x)
    (b o : Nat) (hx : a.eval x = .pointer (some ⟨b, o, none⟩)) (cs : List Value) (R : Array Value) (hR : cs.toArray = R) (d : TypeDesc) (hS : ∀ w, S w → w.rangeAt b o cs)
    (hu : P.underlying ty = some d) (hd : d.isRow = true) (hi : (P.info? ty).map (·.size) = some R.size) : YieldsIf P ops S op (.agg R) a := by
  subst hR
  exact yieldsIf_load_mid hw ty x ho b o hx cs d hS hu hd (by rw [hi]; simp)
theorem wp_load_midC {P : Program} {op : Oper} {a : Act} {w : World} {K : Act → World → Prop} {Q : Exit → Act → World → Prop} (ty : TypeId) (x : Operand) (ho : op.op = .load ty x)
    (b o : Nat) (hx : a.eval x = .pointer (some ⟨b, o, none⟩)) (cs : List Value) (C : Array Value) (hC : cs.toArray = C) (d : TypeDesc) (hc : w.rangeAt b o cs)
    (hu : P.underlying ty = some d) (hd : d.isRow = true) (hi : (P.info? ty).map (·.size) = some C.size) (h : K (a.put op.dst (.agg C)) w) : op.wp P a w K Q := by
  subst hC
  exact wp_load_mid ty x ho b o hx cs d hc hu hd (by rw [hi]; simp) h
/-- A link in a block. -/
def LkB (g : Nat) (x : Lk) (w : World) : Prop := Fill g 36 66 66 (lkf x) w
def PkB (g : Nat) (p : Pt) (w : World) : Prop := Fill g 29 33 33 (pf p) w
section
variable {g : Nat} {x : Lk} {p : Pt} {w w' : World}
theorem LkB.new : LkB w.heap.size x (w.alloc (.cells (lv x) 36)) := Fill.of_row (heap_alloc_new w _)
theorem PkB.new : PkB w.heap.size p (w.alloc (.cells (pv p) 29)) := Fill.of_row (heap_alloc_new w _)
theorem LkB.lt (h : LkB g x w) : g < w.heap.size := Fill.lt h
theorem PkB.lt (h : PkB g p w) : g < w.heap.size := Fill.lt h
theorem LkB.below {B : Nat} (h : LkB g x w) (hb : Below B w w') (hg : g < B) : LkB g x w' := Fill.below h hb hg
theorem PkB.below {B : Nat} (h : PkB g p w) (hb : Below B w w') (hg : g < B) : PkB g p w' := Fill.below h hb hg
theorem LkB.keep (h : LkB g x w) (e : w'.heap[g]? = w.heap[g]?) : LkB g x w' := Fill.keep h e
theorem PkB.keep (h : PkB g p w) (e : w'.heap[g]? = w.heap[g]?) : PkB g p w' := Fill.keep h e
theorem LkB.row (h : LkB g x w) : w.heap[g]? = some (.cells (lv x) 36 (0, 0)) := Fill.done h
theorem PkB.row (h : PkB g p w) : w.heap[g]? = some (.cells (pv p) 29 (0, 0)) := Fill.done h
theorem LkB.all (h : LkB g x w) : w.rangeAt g 0 (lC x) := fun j v hv => by
  have hj : j < 66 := by rw [← lC_len x]; exact (List.getElem?_eq_some_iff.1 hv).1
  unfold lC at hv
  rw [List.getElem?_map, List.getElem?_range hj] at hv
  rw [Nat.zero_add, Fill.at_ h j hj, ← hv]
  rfl
theorem PkB.all (h : PkB g p w) : w.rangeAt g 0 (pC p) := fun j v hv => by
  have hj : j < 33 := by rw [← pC_len p]; exact (List.getElem?_eq_some_iff.1 hv).1
  unfold pC at hv
  rw [List.getElem?_map, List.getElem?_range hj] at hv
  rw [Nat.zero_add, Fill.at_ h j hj, ← hv]
  rfl
theorem LkB.src (h : LkB g x w) : w.rangeAt g 0 (pC x.s) := fun j v hv => by
  have hj : j < 33 := by rw [← pC_len x.s]; exact (List.getElem?_eq_some_iff.1 hv).1
  unfold pC at hv
  rw [List.getElem?_map, List.getElem?_range hj] at hv
  rw [Nat.zero_add, Fill.at_ h j (by omega), ← hv]
  show some (lkf x j) = some _
  rw [lkf, if_pos hj]
theorem LkB.tgt (h : LkB g x w) : w.rangeAt g 33 (pC x.t) := fun j v hv => by
  have hj : j < 33 := by rw [← pC_len x.t]; exact (List.getElem?_eq_some_iff.1 hv).1
  unfold pC at hv
  rw [List.getElem?_map, List.getElem?_range hj] at hv
  rw [Fill.at_ h (33 + j) (by omega), ← hv]
  show some (lkf x (33 + j)) = some _
  rw [lkf, if_neg (by omega), show 33 + j - 33 = j by omega]
theorem LkB.epoch (h : LkB g x w) : w.cell? ⟨g, 0, none⟩ = some (.int .u64 (x.s.e : Int)) := Fill.at_ h 0 (by omega)
theorem LkB.epochT (h : LkB g x w) : w.cell? ⟨g, 33, none⟩ = some (.int .u64 (x.t.e : Int)) := Fill.at_ h 33 (by omega)
end
/-- A gadget's own block: the store's place. -/
def GaB (g s : Nat) (w : World) : Prop := w.heap[g]? = some (.cells #[.pointer (some ⟨s, 0, none⟩)] 51 (0, 0))
theorem isNone_c (g s : Nat) (w : World) (h : GaB g s w) : Calls Try.prog 29 #[.pointer (some ⟨g, 0, none⟩)] w fun e w' => e = .returned (.bool false) ∧ w' = w := by
  have hc := cell_of_row w g 0 _ _ (0, 0) h
  have hc' : w.cell? ⟨g, 0, none⟩ = some (.pointer (some ⟨s, 0, none⟩)) := hc
  go_enter Try.func29, Try.ntmps29
  go_wp2_with fail
  go_ret
  exact ⟨rfl, rfl⟩
theorem seen_c (g s : Nat) (w : World) (h : GaB g s w) : Calls Try.prog 35 #[.pointer (some ⟨g, 0, none⟩)] w fun e w' => e = .returned (.pointer (some ⟨s, 0, none⟩)) ∧ w' = w := by
  have hc := cell_of_row w g 0 _ _ (0, 0) h
  have hc' : w.cell? ⟨g, 0, none⟩ = some (.pointer (some ⟨s, 0, none⟩)) := hc
  go_enter Try.func35, Try.ntmps35
  go_wp2_with (go_at_call 29; refine (isNone_c g s _ h).mono ?_; rintro e w1 ⟨rfl, rfl⟩)
  go_ret
  exact ⟨rfl, rfl⟩
theorem mayP_c (p : Pt) (w : World) : Calls Try.prog 27 #[.agg (pv p)] w fun e w' => e = .returned (.bool (decide (p.e ≤ 4611686018427387904))) ∧ Below w.heap.size w w' := mayPoint_c p.e p.l w
def mayL (x : Lk) : Bool := decide (x.s.e ≤ 4611686018427387904) && decide (x.t.e ≤ 4611686018427387904) && decide (x.s.e < x.t.e)
set_option maxHeartbeats 4000000 in
theorem mayLink_c (x : Lk) (w : World) : Calls Try.prog 30 #[.agg (lv x)] w fun e w' => e = .returned (.bool (mayL x)) ∧ Below w.heap.size w w' := by
  obtain ⟨W, hW⟩ : ∃ W, W = w.alloc (.cells (lv x) 36) := ⟨_, rfl⟩
  have hB : Below w.heap.size w W := by rw [hW]; exact (Below.refl _ _).alloc (Nat.le_refl _) _
  have h0 : LkB w.heap.size x W := by rw [hW]; exact LkB.new
  have HW := Lib.hid hW
  have HB := Lib.hid hB
  have H0 := Lib.hid h0
  have k1 := h0.src
  clear hW hB h0
  unfold mayL
  go_enter Try.func30, Try.ntmps30
  go_wp2_with (first
    | (rw [← HW.out]; refine wpList_load_mid rfl 29 (.tmp 3) rfl w.heap.size 0 rfl (pC x.s) _ k1 Try.underlying29 rfl (by rw [size_pv x.s]; rfl) ?_; rw [pC_arr])
    | fail)
  refine (mayP_c x.s W).mono ?_
  rintro e w1 ⟨rfl, b1⟩
  have B1 := Lib.hid (HB.out.trans (b1.mono HB.out.size))
  have H1 := Lib.hid (H0.out.below b1 H0.out.lt)
  clear b1 k1
  by_cases c1 : x.s.e ≤ 4611686018427387904
  · rw [decide_eq_true c1]
    have k2 := H1.out.tgt
    go_wp2_with (first
      | (refine BigFrame.wpList_want rfl (fun K hK => ?_); refine wp_load_midC 29 (.tmp 7) rfl w.heap.size 33 rfl (pC x.t) (pv x.t) rfl _ k2 Try.underlying29 rfl (size_pv x.t) ?_; refine hK _ _ ?_; clear hK K)
      | fail)
    refine (mayP_c x.t w1).mono ?_
    rintro e w2 ⟨rfl, b2⟩
    have B2 := Lib.hid (B1.out.trans (b2.mono B1.out.size))
    have H2 := Lib.hid (H1.out.below b2 H1.out.lt)
    clear b2 k2
    by_cases c2 : x.t.e ≤ 4611686018427387904
    · rw [decide_eq_true c2]
      have k3 := H2.out.epoch
      have k4 := H2.out.epochT
      have e1 : decide ((x.s.e : Int) < (x.t.e : Int)) = decide (x.s.e < x.t.e) := by rw [Bool.eq_iff_iff, decide_eq_true_eq, decide_eq_true_eq]; omega
      go_wp2_with fail
      go_ret
      exact ⟨by simp [c1, c2], B2.out⟩
    · rw [decide_eq_false c2]
      go_wp2_with fail
      go_ret
      exact ⟨by simp [c2], B2.out⟩
  · rw [decide_eq_false c1]
    go_wp2_with fail
    go_ret
    exact ⟨by simp [c1], B1.out⟩
theorem hdBelowF {B : Nat} {w W u : World} (h : Below B w W) (hu : Below W.heap.size W.drew u) (hB : B ≤ w.heap.size := by exact Nat.le_refl _) : Below B w u := h.drew.trans (hu.mono (Nat.le_trans hB h.size))
theorem zero_empty (u : World) : (zeroValue 79).run Try.prog u = .ok (.agg #[]) u := by kernel_rfl
set_option maxHeartbeats 4000000 in
theorem has_c (s bt bs bw : Nat) (vl : Value) (hd : Pt → Option Value) (F : Nat → Prop) (S : FgS) (n : Nat) (x : Lk) (w : World) (h : FgB s bt bs bw vl hd F S n w) : Calls Try.prog 31 #[.pointer (some ⟨s, 0, none⟩), .agg (lv x)] w fun e w' => e = .returned (.bool (decide (x ∈ S.told))) ∧ Below w.heap.size w w' := by
  obtain ⟨W, hW⟩ : ∃ W, W = w.alloc (.cells (lv x) 36) := ⟨_, rfl⟩
  have hB : Below w.heap.size w W := by rw [hW]; exact (Below.refl _ _).alloc (Nat.le_refl _) _
  have h0 : LkB w.heap.size x W := by rw [hW]; exact LkB.new
  have hF := h.below hB
  have KP : Hid (∀ u : World, Below W.heap.size W.drew u → FgB s bt bs bw vl hd F S n u ∧ LkB w.heap.size x u) := fun u hu => ⟨(show FgB _ _ _ _ _ _ _ _ _ W.drew from hF.below ((Below.refl _ _).drew)).below hu, (show LkB _ _ W.drew from h0).below hu h0.lt⟩
  have BX : Hid (Below W.heap.size W.drew W.drew) := Below.refl _ _
  have HW := Lib.hid hW
  have HB := Lib.hid hB
  have HT : Hid ((toldF S.told x).isSome = decide (x ∈ S.told)) := by
    unfold toldF
    split
    · next hx => rw [decide_eq_true hx]; rfl
    · next hx => rw [decide_eq_false hx]; rfl
  have HG : Hid ((toldF S.told x).getD (.agg #[]) = .agg #[]) := by
    unfold toldF
    split <;> rfl
  clear hW hB h0 hF h
  go_enter Try.func31, Try.ntmps31
  go_wp2_with fail
  rw [← HW.out]
  rename_i K1 hK1
  refine wp_region_noPanic ?_
  refine wp_region_held_drew (S := (fun u => FgB s bt bs bw vl hd F S n u ∧ LkB w.heap.size x u)) (by kernel_rfl) (KP.out _ BX.out) (fun hHeld => ?_)
  refine takeH (i := 0) (d := 8) (oi := _) (v := .pointer (some ⟨s, 0, none⟩)) rfl (by kernel_rfl) (by kernel_rfl) (by kernel_rfl) (by kernel_rfl) (fun _ _ _ h => h) (Or.inl ⟨by kernel_rfl, by intro u hSw; clear hSw; go_simp⟩) hHeld ?_
  try simp only [List.setIfInBounds_toArray, List.set_cons_zero, List.set_cons_succ]
  refine takeH (i := 1) (d := 9) (oi := _) (v := .pointer (some ⟨s, 0, none⟩)) rfl (by kernel_rfl) (by kernel_rfl) (by kernel_rfl) (by kernel_rfl) (fun _ _ _ h => h) (Or.inl ⟨by kernel_rfl, by intro u hSw; clear hSw; go_simp⟩) hHeld ?_
  try simp only [List.setIfInBounds_toArray, List.set_cons_zero, List.set_cons_succ]
  refine takeH (i := 2) (d := 10) (oi := _) (v := .pointer (some ⟨s, 1, none⟩)) rfl (by kernel_rfl) (by kernel_rfl) (by kernel_rfl) (by kernel_rfl) (fun _ _ _ h => h) (Or.inl ⟨by kernel_rfl, by intro u hSw; clear hSw; go_simp⟩) hHeld ?_
  try simp only [List.setIfInBounds_toArray, List.set_cons_zero, List.set_cons_succ]
  refine takeH (i := 3) (d := 11) (oi := _) (v := .map (some bt)) rfl (by kernel_rfl) (by kernel_rfl) (by kernel_rfl) (by kernel_rfl) (fun _ _ _ h => h) (Or.inl ⟨by kernel_rfl, by intro u hSw; (have hc : u.cell? ⟨s, 1, none⟩ = some (.map (some bt)) := cell_of_row u s 1 _ _ (0, 0) hSw.1.cells; clear hSw; go_simp)⟩) hHeld ?_
  try simp only [List.setIfInBounds_toArray, List.set_cons_zero, List.set_cons_succ]
  refine takeH (i := 4) (d := 12) (oi := _) (v := .agg (lv x)) rfl (by kernel_rfl) (by kernel_rfl) (by kernel_rfl) (by kernel_rfl) (fun _ _ _ h => h) (yieldsIf_load_midC (by kernel_rfl) _ _ rfl (w.heap.size) 0 rfl (lC x) (lv x) (lC_arr x) _ (fun u hSw => hSw.2.all) Try.underlying36 rfl (size_lv x)) hHeld ?_
  try simp only [List.setIfInBounds_toArray, List.set_cons_zero, List.set_cons_succ]
  refine takeH (i := 5) (d := 13) (oi := _) (v := .tuple #[.agg #[], .bool (toldF S.told x).isSome]) rfl (by kernel_rfl) (by kernel_rfl) (by kernel_rfl) (by kernel_rfl) (fun _ _ _ h => h) (Or.inl ⟨by kernel_rfl, by intro u hSw; (have hl := hSw.1.told.lookOk keyL Try.underlying69 (z := .agg #[]) (zero_empty u) x; rw [HG.out] at hl; clear hSw; go_simp)⟩) hHeld ?_
  try simp only [List.setIfInBounds_toArray, List.set_cons_zero, List.set_cons_succ]
  refine takeH (i := 6) (d := 7) (oi := _) (v := .tuple #[.agg #[], .bool (toldF S.told x).isSome]) rfl (by kernel_rfl) (by kernel_rfl) (by kernel_rfl) (by kernel_rfl) (fun _ _ _ h => h) (Or.inl ⟨by kernel_rfl, by intro u hSw; clear hSw; go_simp⟩) hHeld ?_
  try simp only [List.setIfInBounds_toArray, List.set_cons_zero, List.set_cons_succ]
  refine takeH (i := 7) (d := 14) (oi := _) (v := .agg #[]) rfl (by kernel_rfl) (by kernel_rfl) (by kernel_rfl) (by kernel_rfl) (fun _ _ _ h => h) (Or.inl ⟨by kernel_rfl, by intro u hSw; clear hSw; go_simp⟩) hHeld ?_
  try simp only [List.setIfInBounds_toArray, List.set_cons_zero, List.set_cons_succ]
  refine wpAnyH_ready (rs := [8, 9]) (by kernel_rfl) (by simp) ?_
  refine AllReadyH.cons (o := _) rfl (fun K hK => ?_) (AllReadyH.cons (o := _) rfl (fun K hK => ?_) (AllReadyH.nil))
  · go_simp
    refine hK.out _ _ (KP.out _ BX.out) (fun hHeld => ?_)
    clear hK K
    try simp only [Act.put, List.setIfInBounds_toArray, List.set_cons_zero, List.set_cons_succ]
    refine wpAnyH_ready (rs := [9]) (by kernel_rfl) (by simp) ?_
    refine AllReadyH.cons (o := _) rfl (fun K hK => ?_) (AllReadyH.nil)
    go_simp
    refine hK.out _ _ (KP.out _ (BX.out.alloc BX.out.size _)) (fun hHeld => ?_)
    clear hK K
    try simp only [Act.put, List.setIfInBounds_toArray, List.set_cons_zero, List.set_cons_succ]
    refine wpAnyH_ready (rs := [10]) (by kernel_rfl) (by simp) ?_
    refine AllReadyH.cons (o := _) rfl (fun K hK => ?_) (AllReadyH.nil)
    go_simp
    refine hK.out _ _ (KP.out _ (BX.out.alloc BX.out.size _)) (fun hHeld => ?_)
    clear hK K
    try simp only [Act.put, List.setIfInBounds_toArray, List.set_cons_zero, List.set_cons_succ]
    refine takeH (i := 11) (d := 6) (oi := _) (v := .bool (toldF S.told x).isSome) rfl (by kernel_rfl) (by kernel_rfl) (by kernel_rfl) (by kernel_rfl) (fun _ _ _ h => h) (Or.inl ⟨by kernel_rfl, by intro u hSw; clear hSw; go_simp⟩) hHeld ?_
    try simp only [List.setIfInBounds_toArray, List.set_cons_zero, List.set_cons_succ]
    refine wpAnyH_done (by kernel_rfl) ?_ _
    refine NoPanic.normal ?_
    first
      | apply hK1
      | apply K1
    clear hK1 K1
    go_wp2_with fail
    go_ret
    exact ⟨by rw [HT.out]; rfl, hdBelowF HB.out (BX.out.alloc BX.out.size _)⟩
  · go_simp
    refine hK.out _ _ (KP.out _ (BX.out.alloc BX.out.size _)) (fun hHeld => ?_)
    clear hK K
    try simp only [Act.put, List.setIfInBounds_toArray, List.set_cons_zero, List.set_cons_succ]
    refine wpAnyH_ready (rs := [8, 10]) (by kernel_rfl) (by simp) ?_
    refine AllReadyH.cons (o := _) rfl (fun K hK => ?_) (AllReadyH.cons (o := _) rfl (fun K hK => ?_) (AllReadyH.nil))
    · go_simp
      refine hK.out _ _ (KP.out _ (BX.out.alloc BX.out.size _)) (fun hHeld => ?_)
      clear hK K
      try simp only [Act.put, List.setIfInBounds_toArray, List.set_cons_zero, List.set_cons_succ]
      refine wpAnyH_ready (rs := [10]) (by kernel_rfl) (by simp) ?_
      refine AllReadyH.cons (o := _) rfl (fun K hK => ?_) (AllReadyH.nil)
      go_simp
      refine hK.out _ _ (KP.out _ (BX.out.alloc BX.out.size _)) (fun hHeld => ?_)
      clear hK K
      try simp only [Act.put, List.setIfInBounds_toArray, List.set_cons_zero, List.set_cons_succ]
      refine takeH (i := 11) (d := 6) (oi := _) (v := .bool (toldF S.told x).isSome) rfl (by kernel_rfl) (by kernel_rfl) (by kernel_rfl) (by kernel_rfl) (fun _ _ _ h => h) (Or.inl ⟨by kernel_rfl, by intro u hSw; clear hSw; go_simp⟩) hHeld ?_
      try simp only [List.setIfInBounds_toArray, List.set_cons_zero, List.set_cons_succ]
      refine wpAnyH_done (by kernel_rfl) ?_ _
      refine NoPanic.normal ?_
      first
        | apply hK1
        | apply K1
      clear hK1 K1
      go_wp2_with fail
      go_ret
      exact ⟨by rw [HT.out]; rfl, hdBelowF HB.out (BX.out.alloc BX.out.size _)⟩
    · go_simp
      refine hK.out _ _ (KP.out _ (BX.out.alloc BX.out.size _)) (fun hHeld => ?_)
      clear hK K
      try simp only [Act.put, List.setIfInBounds_toArray, List.set_cons_zero, List.set_cons_succ]
      refine takeH (i := 8) (d := 15) (oi := _) (v := .bool (toldF S.told x).isSome) rfl (by kernel_rfl) (by kernel_rfl) (by kernel_rfl) (by kernel_rfl) (fun _ _ _ h => h) (Or.inl ⟨by kernel_rfl, by intro u hSw; clear hSw; go_simp⟩) hHeld ?_
      try simp only [List.setIfInBounds_toArray, List.set_cons_zero, List.set_cons_succ]
      refine takeH (i := 11) (d := 6) (oi := _) (v := .bool (toldF S.told x).isSome) rfl (by kernel_rfl) (by kernel_rfl) (by kernel_rfl) (by kernel_rfl) (fun _ _ _ h => h) (Or.inl ⟨by kernel_rfl, by intro u hSw; clear hSw; go_simp⟩) hHeld ?_
      try simp only [List.setIfInBounds_toArray, List.set_cons_zero, List.set_cons_succ]
      refine wpAnyH_done (by kernel_rfl) ?_ _
      refine NoPanic.normal ?_
      first
        | apply hK1
        | apply K1
      clear hK1 K1
      go_wp2_with fail
      go_ret
      exact ⟨by rw [HT.out]; rfl, hdBelowF HB.out (BX.out.alloc BX.out.size _)⟩
def stN (f : Pt → Option Nat) (p : Pt) : Nat := (f p).getD 0
theorem stN_look (f : Pt → Option Nat) (p : Pt) : (stF f p).getD (.int .i64 0) = .int .i64 (stN f p : Nat) := by
  unfold stF stN stv
  cases f p <;> rfl
theorem zero_standing (u : World) : (zeroValue 66).run Try.prog u = .ok (.int .i64 0) u := by kernel_rfl
/-- A gadget in memory. -/
def FgM (g : Nat) (F : Nat → Prop) (S : FgS) (n : Nat) (w : World) : Prop := ∃ s bt bs bw vl hd, GaB g s w ∧ F g ∧ FgB s bt bs bw vl hd F S n w
theorem FgM.below {g : Nat} {F : Nat → Prop} {S : FgS} {n : Nat} {w w' : World} (h : FgM g F S n w) (hb : Below w.heap.size w w') : FgM g F S n w' := by
  obtain ⟨s, bt, bs, bw, vl, hd, h1, h2, h3⟩ := h
  exact ⟨s, bt, bs, bw, vl, hd, (hb.block g (h3.fin g h2)).trans h1, h2, h3.below hb⟩
theorem FgM.keep {g : Nat} {F : Nat → Prop} {S : FgS} {n : Nat} {w w' : World} (h : FgM g F S n w) (hk : ∀ k, F k → w'.heap[k]? = w.heap[k]?) (hs : w.heap.size ≤ w'.heap.size) : FgM g F S n w' := by
  obtain ⟨s, bt, bs, bw, vl, hd, h1, h2, h3⟩ := h
  exact ⟨s, bt, bs, bw, vl, hd, (hk g h2).trans h1, h2, h3.keep hk hs⟩
set_option maxHeartbeats 4000000 in
theorem justified_c (g : Nat) (F : Nat → Prop) (S : FgS) (n : Nat) (p : Pt) (w : World) (h : FgM g F S n w) : Calls Try.prog 22 #[.pointer (some ⟨g, 0, none⟩), .agg (pv p)] w fun e w' => e = .returned (.bool (decide (1 ≤ stN S.stands p))) ∧ Below w.heap.size w w' := by
  obtain ⟨s, bt, bs, bw, vl, hd, hg, hgF, h⟩ := h
  have hglt := h.fin g hgF
  obtain ⟨W, hW⟩ : ∃ W, W = w.alloc (.cells (pv p) 29) := ⟨_, rfl⟩
  have hB : Below w.heap.size w W := by rw [hW]; exact (Below.refl _ _).alloc (Nat.le_refl _) _
  have h0 : PkB w.heap.size p W := by rw [hW]; exact PkB.new
  have hF := h.below hB
  have hG : GaB g s W := (hB.block g hglt).trans hg
  have KP : Hid (∀ u : World, Below W.heap.size W.drew u → GaB g s u ∧ FgB s bt bs bw vl hd F S n u ∧ PkB w.heap.size p u) := fun u hu => ⟨(hu.block g (Nat.lt_of_lt_of_le hglt hB.size)).trans (show GaB g s W.drew from hG), (show FgB _ _ _ _ _ _ _ _ _ W.drew from hF.below ((Below.refl _ _).drew)).below hu, (show PkB _ _ W.drew from h0).below hu h0.lt⟩
  have BX : Hid (Below W.heap.size W.drew W.drew) := Below.refl _ _
  have HW := Lib.hid hW
  have HB := Lib.hid hB
  clear hW hB h0 hF h hg hG hgF hglt
  go_enter Try.func22, Try.ntmps22
  go_wp2_with fail
  rw [← HW.out]
  rename_i K1 hK1
  refine wp_region_noPanic ?_
  refine wp_region_held_drew (S := (fun u => GaB g s u ∧ FgB s bt bs bw vl hd F S n u ∧ PkB w.heap.size p u)) (by kernel_rfl) (KP.out _ BX.out) (fun hHeld => ?_)
  refine takeH (i := 0) (d := 5) (oi := _) (v := .pointer (some ⟨g, 0, none⟩)) rfl (by kernel_rfl) (by kernel_rfl) (by kernel_rfl) (by kernel_rfl) (fun _ _ _ h => h) (Or.inl ⟨by kernel_rfl, by intro u hSw; clear hSw; go_simp⟩) hHeld ?_
  try simp only [List.setIfInBounds_toArray, List.set_cons_zero, List.set_cons_succ]
  refine takeH (i := 5) (d := 10) (oi := _) (v := .agg (pv p)) rfl (by kernel_rfl) (by kernel_rfl) (by kernel_rfl) (by kernel_rfl) (fun _ _ _ h => h) (yieldsIf_load_midC (by kernel_rfl) _ _ rfl (w.heap.size) 0 rfl (pC p) (pv p) (pC_arr p) _ (fun u hSw => hSw.2.2.all) Try.underlying29 rfl (size_pv p)) hHeld ?_
  try simp only [List.setIfInBounds_toArray, List.set_cons_zero, List.set_cons_succ]
  refine wpAnyH_ready (rs := [1]) (by kernel_rfl) (by simp) ?_
  refine AllReadyH.cons (o := _) rfl (fun K hK => ?_) (AllReadyH.nil)
  go_simp
  go_at_call 35
  refine (seen_c g s _ (KP.out _ BX.out).1).mono ?_
  rintro e w1 ⟨rfl, rfl⟩
  go_simp
  refine hK.out _ _ (KP.out _ BX.out) (fun hHeld => ?_)
  clear hK K
  try simp only [Act.put, List.setIfInBounds_toArray, List.set_cons_zero, List.set_cons_succ]
  refine takeH (i := 2) (d := 7) (oi := _) (v := .pointer (some ⟨s, 0, none⟩)) rfl (by kernel_rfl) (by kernel_rfl) (by kernel_rfl) (by kernel_rfl) (fun _ _ _ h => h) (Or.inl ⟨by kernel_rfl, by intro u hSw; clear hSw; go_simp⟩) hHeld ?_
  try simp only [List.setIfInBounds_toArray, List.set_cons_zero, List.set_cons_succ]
  refine takeH (i := 3) (d := 8) (oi := _) (v := .pointer (some ⟨s, 2, none⟩)) rfl (by kernel_rfl) (by kernel_rfl) (by kernel_rfl) (by kernel_rfl) (fun _ _ _ h => h) (Or.inl ⟨by kernel_rfl, by intro u hSw; clear hSw; go_simp⟩) hHeld ?_
  try simp only [List.setIfInBounds_toArray, List.set_cons_zero, List.set_cons_succ]
  refine takeH (i := 4) (d := 9) (oi := _) (v := .map (some bs)) rfl (by kernel_rfl) (by kernel_rfl) (by kernel_rfl) (by kernel_rfl) (fun _ _ _ h => h) (Or.inl ⟨by kernel_rfl, by intro u hSw; (have hc : u.cell? ⟨s, 2, none⟩ = some (.map (some bs)) := cell_of_row u s 2 _ _ (0, 0) hSw.2.1.cells; clear hSw; go_simp)⟩) hHeld ?_
  try simp only [List.setIfInBounds_toArray, List.set_cons_zero, List.set_cons_succ]
  refine takeH (i := 6) (d := 11) (oi := _) (v := .int .i64 (stN S.stands p : Nat)) rfl (by kernel_rfl) (by kernel_rfl) (by kernel_rfl) (by kernel_rfl) (fun _ _ _ h => h) (Or.inl ⟨by kernel_rfl, by intro u hSw; (have hl := hSw.2.1.stands.look keyP Try.underlying70 (z := .int .i64 0) (zero_standing u) p; rw [stN_look] at hl; clear hSw; go_simp)⟩) hHeld ?_
  try simp only [List.setIfInBounds_toArray, List.set_cons_zero, List.set_cons_succ]
  refine takeH (i := 7) (d := 12) (oi := _) (v := .bool (decide (1 ≤ stN S.stands p))) rfl (by kernel_rfl) (by kernel_rfl) (by kernel_rfl) (by kernel_rfl) (fun _ _ _ h => h) (Or.inl ⟨by kernel_rfl, by intro u hSw; clear hSw; (go_simp; try omega)⟩) hHeld ?_
  try simp only [List.setIfInBounds_toArray, List.set_cons_zero, List.set_cons_succ]
  refine takeH (i := 8) (d := 4) (oi := _) (v := .bool (decide (1 ≤ stN S.stands p))) rfl (by kernel_rfl) (by kernel_rfl) (by kernel_rfl) (by kernel_rfl) (fun _ _ _ h => h) (Or.inl ⟨by kernel_rfl, by intro u hSw; clear hSw; go_simp⟩) hHeld ?_
  try simp only [List.setIfInBounds_toArray, List.set_cons_zero, List.set_cons_succ]
  refine wpAnyH_done (by kernel_rfl) ?_ _
  refine NoPanic.normal ?_
  first
    | apply hK1
    | apply K1
  clear hK1 K1
  go_wp2_with fail
  go_ret
  exact ⟨rfl, hdBelowF HB.out BX.out⟩
set_option maxHeartbeats 4000000 in
theorem final_c (g : Nat) (F : Nat → Prop) (S : FgS) (n : Nat) (p : Pt) (w : World) (h : FgM g F S n w) : Calls Try.prog 23 #[.pointer (some ⟨g, 0, none⟩), .agg (pv p)] w fun e w' => e = .returned (.bool (decide (stN S.stands p = 2))) ∧ Below w.heap.size w w' := by
  obtain ⟨s, bt, bs, bw, vl, hd, hg, hgF, h⟩ := h
  have hglt := h.fin g hgF
  obtain ⟨W, hW⟩ : ∃ W, W = w.alloc (.cells (pv p) 29) := ⟨_, rfl⟩
  have hB : Below w.heap.size w W := by rw [hW]; exact (Below.refl _ _).alloc (Nat.le_refl _) _
  have h0 : PkB w.heap.size p W := by rw [hW]; exact PkB.new
  have hF := h.below hB
  have hG : GaB g s W := (hB.block g hglt).trans hg
  have KP : Hid (∀ u : World, Below W.heap.size W.drew u → GaB g s u ∧ FgB s bt bs bw vl hd F S n u ∧ PkB w.heap.size p u) := fun u hu => ⟨(hu.block g (Nat.lt_of_lt_of_le hglt hB.size)).trans (show GaB g s W.drew from hG), (show FgB _ _ _ _ _ _ _ _ _ W.drew from hF.below ((Below.refl _ _).drew)).below hu, (show PkB _ _ W.drew from h0).below hu h0.lt⟩
  have BX : Hid (Below W.heap.size W.drew W.drew) := Below.refl _ _
  have HW := Lib.hid hW
  have HB := Lib.hid hB
  clear hW hB h0 hF h hg hG hgF hglt
  go_enter Try.func23, Try.ntmps23
  go_wp2_with fail
  rw [← HW.out]
  rename_i K1 hK1
  refine wp_region_noPanic ?_
  refine wp_region_held_drew (S := (fun u => GaB g s u ∧ FgB s bt bs bw vl hd F S n u ∧ PkB w.heap.size p u)) (by kernel_rfl) (KP.out _ BX.out) (fun hHeld => ?_)
  refine takeH (i := 0) (d := 5) (oi := _) (v := .pointer (some ⟨g, 0, none⟩)) rfl (by kernel_rfl) (by kernel_rfl) (by kernel_rfl) (by kernel_rfl) (fun _ _ _ h => h) (Or.inl ⟨by kernel_rfl, by intro u hSw; clear hSw; go_simp⟩) hHeld ?_
  try simp only [List.setIfInBounds_toArray, List.set_cons_zero, List.set_cons_succ]
  refine takeH (i := 5) (d := 10) (oi := _) (v := .agg (pv p)) rfl (by kernel_rfl) (by kernel_rfl) (by kernel_rfl) (by kernel_rfl) (fun _ _ _ h => h) (yieldsIf_load_midC (by kernel_rfl) _ _ rfl (w.heap.size) 0 rfl (pC p) (pv p) (pC_arr p) _ (fun u hSw => hSw.2.2.all) Try.underlying29 rfl (size_pv p)) hHeld ?_
  try simp only [List.setIfInBounds_toArray, List.set_cons_zero, List.set_cons_succ]
  refine wpAnyH_ready (rs := [1]) (by kernel_rfl) (by simp) ?_
  refine AllReadyH.cons (o := _) rfl (fun K hK => ?_) (AllReadyH.nil)
  go_simp
  go_at_call 35
  refine (seen_c g s _ (KP.out _ BX.out).1).mono ?_
  rintro e w1 ⟨rfl, rfl⟩
  go_simp
  refine hK.out _ _ (KP.out _ BX.out) (fun hHeld => ?_)
  clear hK K
  try simp only [Act.put, List.setIfInBounds_toArray, List.set_cons_zero, List.set_cons_succ]
  refine takeH (i := 2) (d := 7) (oi := _) (v := .pointer (some ⟨s, 0, none⟩)) rfl (by kernel_rfl) (by kernel_rfl) (by kernel_rfl) (by kernel_rfl) (fun _ _ _ h => h) (Or.inl ⟨by kernel_rfl, by intro u hSw; clear hSw; go_simp⟩) hHeld ?_
  try simp only [List.setIfInBounds_toArray, List.set_cons_zero, List.set_cons_succ]
  refine takeH (i := 3) (d := 8) (oi := _) (v := .pointer (some ⟨s, 2, none⟩)) rfl (by kernel_rfl) (by kernel_rfl) (by kernel_rfl) (by kernel_rfl) (fun _ _ _ h => h) (Or.inl ⟨by kernel_rfl, by intro u hSw; clear hSw; go_simp⟩) hHeld ?_
  try simp only [List.setIfInBounds_toArray, List.set_cons_zero, List.set_cons_succ]
  refine takeH (i := 4) (d := 9) (oi := _) (v := .map (some bs)) rfl (by kernel_rfl) (by kernel_rfl) (by kernel_rfl) (by kernel_rfl) (fun _ _ _ h => h) (Or.inl ⟨by kernel_rfl, by intro u hSw; (have hc : u.cell? ⟨s, 2, none⟩ = some (.map (some bs)) := cell_of_row u s 2 _ _ (0, 0) hSw.2.1.cells; clear hSw; go_simp)⟩) hHeld ?_
  try simp only [List.setIfInBounds_toArray, List.set_cons_zero, List.set_cons_succ]
  refine takeH (i := 6) (d := 11) (oi := _) (v := .int .i64 (stN S.stands p : Nat)) rfl (by kernel_rfl) (by kernel_rfl) (by kernel_rfl) (by kernel_rfl) (fun _ _ _ h => h) (Or.inl ⟨by kernel_rfl, by intro u hSw; (have hl := hSw.2.1.stands.look keyP Try.underlying70 (z := .int .i64 0) (zero_standing u) p; rw [stN_look] at hl; clear hSw; go_simp)⟩) hHeld ?_
  try simp only [List.setIfInBounds_toArray, List.set_cons_zero, List.set_cons_succ]
  refine takeH (i := 7) (d := 12) (oi := _) (v := .bool (decide (stN S.stands p = 2))) rfl (by kernel_rfl) (by kernel_rfl) (by kernel_rfl) (by kernel_rfl) (fun _ _ _ h => h) (Or.inl ⟨by kernel_rfl, by intro u hSw; clear hSw; (go_simp; try (first | omega | (rw [Bool.eq_iff_iff, beq_iff_eq, decide_eq_true_eq]; omega)))⟩) hHeld ?_
  try simp only [List.setIfInBounds_toArray, List.set_cons_zero, List.set_cons_succ]
  refine takeH (i := 8) (d := 4) (oi := _) (v := .bool (decide (stN S.stands p = 2))) rfl (by kernel_rfl) (by kernel_rfl) (by kernel_rfl) (by kernel_rfl) (fun _ _ _ h => h) (Or.inl ⟨by kernel_rfl, by intro u hSw; clear hSw; go_simp⟩) hHeld ?_
  try simp only [List.setIfInBounds_toArray, List.set_cons_zero, List.set_cons_succ]
  refine wpAnyH_done (by kernel_rfl) ?_ _
  refine NoPanic.normal ?_
  first
    | apply hK1
    | apply K1
  clear hK1 K1
  go_wp2_with fail
  go_ret
  exact ⟨rfl, hdBelowF HB.out BX.out⟩
end Go.Proofs.Ythlbpjkopkicbaa
