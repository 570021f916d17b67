/- A gadget is copied: its rows and maps. -/
import Derived.Test.YthlbpjkopkicbaaFgAllN
import Derived.Test.YthlbpjkopkicbaaLayC
import Derived.Test.YthlbpjkopkicbaaFgFolB
namespace Go.Proofs.Ythlbpjkopkicbaa
open Go.ChangeMaps Go.MapKept Go.Maps Go.WideElems Go.RowKit Go.ChangeShapes Go.WideShapes Go.ChangeAt
set_option linter.unusedVariables false
set_option maxRecDepth 100000

theorem ownLess {w : World} {base base' sz n : Nat} {t : TypeId} {v : Value} {xs : List Value} (h : w.ownsRow base t sz v n xs) (hb : base' ≤ base) : w.ownsRow base' t sz v n xs := by
  refine ⟨h.1, ?_⟩
  rcases h.2 with h0 | ⟨g, cap, cur, hv, h1, h2⟩
  · exact .inl h0
  · exact .inr ⟨g, cap, cur, hv, Nat.le_trans hb h1, h2⟩
theorem cloneT_c {w : World} {b n : Nat} {f : Lk → Option Value} (h : MapF 36 klL w b n f) : Calls Try.prog 52 #[.map (some b)] w fun e w' => ∃ m, e = .returned (.map (some m)) ∧ MapF 36 klL w' m n f ∧ w.heap.size ≤ m ∧ Below w.heap.size w w' := by
  obtain ⟨D, h1, h2⟩ := h
  refine (AnyW.maps_Clone_owns Try.cloneT 36 heldR b n D w h1).mono ?_
  rintro e w' ⟨rfl, q1, _, q3⟩
  exact ⟨_, rfl, ⟨D, q1, h2⟩, Nat.le_refl _, q3⟩
theorem cloneS_c {w : World} {b n : Nat} {f : Pt → Option Value} (h : MapF 29 klP w b n f) : Calls Try.prog 53 #[.map (some b)] w fun e w' => ∃ m, e = .returned (.map (some m)) ∧ MapF 29 klP w' m n f ∧ w.heap.size ≤ m ∧ Below w.heap.size w w' := by
  obtain ⟨D, h1, h2⟩ := h
  refine (AnyW.maps_Clone_owns Try.cloneS 29 heldR b n D w h1).mono ?_
  rintro e w' ⟨rfl, q1, _, q3⟩
  exact ⟨_, rfl, ⟨D, q1, h2⟩, Nat.le_refl _, q3⟩
theorem built_store (v : Value) (a b c : Nat) (hv : ∃ A n k, v = .slice A n k) : Try.prog.built 73 [(0, v), (1, .map (some a)), (2, .map (some b)), (3, .map (some c))] = some #[v, .map (some a), .map (some b), .map (some c)] := by
  obtain ⟨A, n, k, rfl⟩ := hv
  kernel_rfl
noncomputable def cp_r1C : Code := ((Try.f39.body.bind (regionOf 1))).getD .skip
set_option maxRecDepth 1000000 in
set_option maxHeartbeats 8000000 in
theorem cp_r1 (c1 c2 c3 c4 c5 c6 c7 c8 c9 c10 c11 c12 c13 c14 c15 c16 c17 c18 c19 c20 c21 c22 c23 c24 c25 c26 c27 c28 c29 c30 c31 c32 c33 c34 c35 c36 c37 c38 c39 c40 c41 : Value) (w : World) (s bt bs bw n : Nat) (vl : Value) (hd : Pt → Option Value) (F : Nat → Prop) (S : FgS) (h : FgB s bt bs bw vl hd F S n w) (hlk : S.links.length ≤ 1000000)
    (Q : Exit → Act → World → Prop) (hQ : ∀ (u3 u6 u7 u8 u9 u10 u11 u12 u13 u14 u15 u16 u17 u18 u19 u20 u21 u22 u23 : Value) (w' : World), (∃ sN m1 m2 m3 vN, u3 = .pointer (some ⟨sN, 0, none⟩) ∧ FgB sN m1 m2 m3 vN (fun _ => none) (fun k => w.heap.size ≤ k ∧ k < w'.heap.size) { S with waiting := fun _ => none } n w' ∧ MapF 29 klP w' m3 0 (fun _ => none) ∧ Below w.heap.size w w') → Q .normal ⟨#[.pointer (some ⟨s, 0, none⟩), c1, c2, u3, c4, c5, u6, u7, u8, u9, u10, u11, u12, u13, u14, u15, u16, u17, u18, u19, u20, u21, u22, u23, c24, c25, c26, c27, c28, c29, c30, c31, c32, c33, c34, c35, c36, c37, c38, c39, c40, c41], []⟩ w') :
    Code.wp Try.prog cp_r1C Q ⟨#[.pointer (some ⟨s, 0, none⟩), c1, c2, c3, c4, c5, c6, c7, c8, c9, c10, c11, c12, c13, c14, c15, c16, c17, c18, c19, c20, c21, c22, c23, c24, c25, c26, c27, c28, c29, c30, c31, c32, c33, c34, c35, c36, c37, c38, c39, c40, c41], []⟩ w := by
  conv => arg 2; whnf
  try dsimp only at hQ ⊢
  obtain ⟨A, c, rfl, _⟩ := ownForm h.links
  have hmm := @run_makeMap Try.prog
  have KP : Hid (∀ u : World, Below w.heap.size w.drew u → FgB s bt bs bw (.slice A S.links.length c) hd F S n u) := fun u hu => (show FgB _ _ _ _ _ _ _ _ _ w.drew from h.below ((Below.refl _ _).drew)).below hu
  have BX : Hid (Below w.heap.size w.drew w.drew) := Below.refl _ _
  have SZ : Hid (w.heap.size ≤ w.drew.heap.size) := Nat.le_refl _
  clear h
  refine wp_region_noPanic ?_
  refine wp_region_held_drew (S := (fun u => FgB s bt bs bw (.slice A S.links.length c) hd F S n u)) (by kernel_rfl) (KP.out _ BX.out) (fun hHeld => ?_)
  obtain ⟨w2, hw2⟩ : ∃ w2, w2 = w.drew := ⟨_, rfl⟩
  have BX : Hid (Below w.heap.size w.drew w2) := by rw [hw2]; exact Below.refl _ _
  have SZ : Hid (w.heap.size ≤ w2.heap.size) := by rw [hw2]; exact Nat.le_refl _
  rw [← hw2] at hHeld ⊢
  have HW2 := Lib.hid hw2
  clear hw2
  refine takeH (i := 0) (d := 6) (oi := _) (v := .pointer (some ⟨s, 0, none⟩)) rfl (by kernel_rfl) (by kernel_rfl) (by kernel_rfl) (by kernel_rfl) (fun _ _ _ h => h) (Or.inl ⟨by kernel_rfl, by intro u hSw; clear hSw; go_simp⟩) hHeld ?_
  try simp only [List.setIfInBounds_toArray, List.set_cons_zero, List.set_cons_succ]
  refine takeH (i := 1) (d := 7) (oi := _) (v := .pointer (some ⟨s, 0, none⟩)) rfl (by kernel_rfl) (by kernel_rfl) (by kernel_rfl) (by kernel_rfl) (fun _ _ _ h => h) (Or.inl ⟨by kernel_rfl, by intro u hSw; clear hSw; go_simp⟩) hHeld ?_
  try simp only [List.setIfInBounds_toArray, List.set_cons_zero, List.set_cons_succ]
  refine takeH (i := 2) (d := 8) (oi := _) (v := .pointer (some ⟨s, 0, none⟩)) rfl (by kernel_rfl) (by kernel_rfl) (by kernel_rfl) (by kernel_rfl) (fun _ _ _ h => h) (Or.inl ⟨by kernel_rfl, by intro u hSw; clear hSw; go_simp⟩) hHeld ?_
  try simp only [List.setIfInBounds_toArray, List.set_cons_zero, List.set_cons_succ]
  refine takeH (i := 3) (d := 9) (oi := _) (v := .slice A S.links.length c) rfl (by kernel_rfl) (by kernel_rfl) (by kernel_rfl) (by kernel_rfl) (fun _ _ _ h => h) (Or.inl ⟨by kernel_rfl, by intro u hSw; (have hc : u.cell? ⟨s, 0, none⟩ = some (.slice A S.links.length c) := cell_of_row u s 0 _ _ (0, 0) hSw.cells; clear hSw; go_simp)⟩) hHeld ?_
  try simp only [List.setIfInBounds_toArray, List.set_cons_zero, List.set_cons_succ]
  refine takeH (i := 5) (d := 11) (oi := _) (v := .pointer (some ⟨s, 0, none⟩)) rfl (by kernel_rfl) (by kernel_rfl) (by kernel_rfl) (by kernel_rfl) (fun _ _ _ h => h) (Or.inl ⟨by kernel_rfl, by intro u hSw; clear hSw; go_simp⟩) hHeld ?_
  try simp only [List.setIfInBounds_toArray, List.set_cons_zero, List.set_cons_succ]
  refine takeH (i := 6) (d := 12) (oi := _) (v := .pointer (some ⟨s, 0, none⟩)) rfl (by kernel_rfl) (by kernel_rfl) (by kernel_rfl) (by kernel_rfl) (fun _ _ _ h => h) (Or.inl ⟨by kernel_rfl, by intro u hSw; clear hSw; go_simp⟩) hHeld ?_
  try simp only [List.setIfInBounds_toArray, List.set_cons_zero, List.set_cons_succ]
  refine takeH (i := 7) (d := 13) (oi := _) (v := .pointer (some ⟨s, 1, none⟩)) rfl (by kernel_rfl) (by kernel_rfl) (by kernel_rfl) (by kernel_rfl) (fun _ _ _ h => h) (Or.inl ⟨by kernel_rfl, by intro u hSw; clear hSw; go_simp⟩) hHeld ?_
  try simp only [List.setIfInBounds_toArray, List.set_cons_zero, List.set_cons_succ]
  refine takeH (i := 8) (d := 14) (oi := _) (v := .map (some bt)) rfl (by kernel_rfl) (by kernel_rfl) (by kernel_rfl) (by kernel_rfl) (fun _ _ _ h => h) (Or.inl ⟨by kernel_rfl, by intro u hSw; (have hc : u.cell? ⟨s, 1, none⟩ = some (.map (some bt)) := cell_of_row u s 1 _ _ (0, 0) hSw.cells; clear hSw; go_simp)⟩) hHeld ?_
  try simp only [List.setIfInBounds_toArray, List.set_cons_zero, List.set_cons_succ]
  refine takeH (i := 10) (d := 16) (oi := _) (v := .pointer (some ⟨s, 0, none⟩)) rfl (by kernel_rfl) (by kernel_rfl) (by kernel_rfl) (by kernel_rfl) (fun _ _ _ h => h) (Or.inl ⟨by kernel_rfl, by intro u hSw; clear hSw; go_simp⟩) hHeld ?_
  try simp only [List.setIfInBounds_toArray, List.set_cons_zero, List.set_cons_succ]
  refine takeH (i := 11) (d := 17) (oi := _) (v := .pointer (some ⟨s, 0, none⟩)) rfl (by kernel_rfl) (by kernel_rfl) (by kernel_rfl) (by kernel_rfl) (fun _ _ _ h => h) (Or.inl ⟨by kernel_rfl, by intro u hSw; clear hSw; go_simp⟩) hHeld ?_
  try simp only [List.setIfInBounds_toArray, List.set_cons_zero, List.set_cons_succ]
  refine takeH (i := 12) (d := 18) (oi := _) (v := .pointer (some ⟨s, 2, none⟩)) rfl (by kernel_rfl) (by kernel_rfl) (by kernel_rfl) (by kernel_rfl) (fun _ _ _ h => h) (Or.inl ⟨by kernel_rfl, by intro u hSw; clear hSw; go_simp⟩) hHeld ?_
  try simp only [List.setIfInBounds_toArray, List.set_cons_zero, List.set_cons_succ]
  refine takeH (i := 13) (d := 19) (oi := _) (v := .map (some bs)) rfl (by kernel_rfl) (by kernel_rfl) (by kernel_rfl) (by kernel_rfl) (fun _ _ _ h => h) (Or.inl ⟨by kernel_rfl, by intro u hSw; (have hc : u.cell? ⟨s, 2, none⟩ = some (.map (some bs)) := cell_of_row u s 2 _ _ (0, 0) hSw.cells; clear hSw; go_simp)⟩) hHeld ?_
  try simp only [List.setIfInBounds_toArray, List.set_cons_zero, List.set_cons_succ]
  refine wpAnyH_ready (rs := [4, 15]) (by kernel_rfl) (by simp) ?_
  refine AllReadyH.cons (o := _) rfl (fun K hK => ?_) (AllReadyH.cons (o := _) rfl (fun K hK => ?_) (AllReadyH.nil))
  · go_simp
    go_at_call 38
    refine (cloneL_c _ 0 A c S.links (KP.out _ BX.out).links hlk).mono ?_
    rintro e w2 ⟨A1, c1, rfl, o1, b2⟩
    try have R1 := Lib.hid (ownKeep R1.out (fun g hg => b2.block g (R1.out.lt g hg).2))
    try have M1 := Lib.hid (M1.out.keep (b2.block _ M1.out.lt))
    try have M2 := Lib.hid (M2.out.keep (b2.block _ M2.out.lt))
    try have M3 := Lib.hid (M3.out.keep (b2.block _ M3.out.lt))
    have R1 := Lib.hid (ownLess o1 SZ.out)
    have SZ := Lib.hid (Nat.le_trans SZ.out b2.size)
    have BX := Lib.hid (BX.out.trans (b2.mono BX.out.size))
    clear o1 b2
    go_simp
    refine hK.out _ _ (KP.out _ BX.out) (fun hHeld => ?_)
    clear hK K
    try simp only [Act.put, List.setIfInBounds_toArray, List.set_cons_zero, List.set_cons_succ]
    refine wpAnyH_ready (rs := [9, 15]) (by kernel_rfl) (by simp) ?_
    refine AllReadyH.cons (o := _) rfl (fun K hK => ?_) (AllReadyH.cons (o := _) rfl (fun K hK => ?_) (AllReadyH.nil))
    · go_simp
      go_at_call 52
      refine (cloneT_c (KP.out _ BX.out).told).mono ?_
      rintro e w2 ⟨m1, rfl, q1, g1, b2⟩
      have GE1 := Lib.hid (Nat.le_trans SZ.out g1)
      try have NE13 := Lib.hid (show m1 ≠ m3 from by have := M3.out.lt; omega)
      try have R1 := Lib.hid (ownKeep R1.out (fun g hg => b2.block g (R1.out.lt g hg).2))
      try have M1 := Lib.hid (M1.out.keep (b2.block _ M1.out.lt))
      try have M2 := Lib.hid (M2.out.keep (b2.block _ M2.out.lt))
      try have M3 := Lib.hid (M3.out.keep (b2.block _ M3.out.lt))
      have M1 := Lib.hid q1
      have SZ := Lib.hid (Nat.le_trans SZ.out b2.size)
      have BX := Lib.hid (BX.out.trans (b2.mono BX.out.size))
      clear q1 g1 b2
      go_simp
      refine hK.out _ _ (KP.out _ BX.out) (fun hHeld => ?_)
      clear hK K
      try simp only [Act.put, List.setIfInBounds_toArray, List.set_cons_zero, List.set_cons_succ]
      refine wpAnyH_ready (rs := [14, 15]) (by kernel_rfl) (by simp) ?_
      refine AllReadyH.cons (o := _) rfl (fun K hK => ?_) (AllReadyH.cons (o := _) rfl (fun K hK => ?_) (AllReadyH.nil))
      · go_simp
        go_at_call 53
        refine (cloneS_c (KP.out _ BX.out).stands).mono ?_
        rintro e w2 ⟨m2, rfl, q1, g1, b2⟩
        have GE2 := Lib.hid (Nat.le_trans SZ.out g1)
        have NE12 := Lib.hid (show m1 ≠ m2 from by have := M1.out.lt; omega)
        try have NE23 := Lib.hid (show m2 ≠ m3 from by have := M3.out.lt; omega)
        try have R1 := Lib.hid (ownKeep R1.out (fun g hg => b2.block g (R1.out.lt g hg).2))
        try have M1 := Lib.hid (M1.out.keep (b2.block _ M1.out.lt))
        try have M2 := Lib.hid (M2.out.keep (b2.block _ M2.out.lt))
        try have M3 := Lib.hid (M3.out.keep (b2.block _ M3.out.lt))
        have M2 := Lib.hid q1
        have SZ := Lib.hid (Nat.le_trans SZ.out b2.size)
        have BX := Lib.hid (BX.out.trans (b2.mono BX.out.size))
        clear q1 g1 b2
        go_simp
        refine hK.out _ _ (KP.out _ BX.out) (fun hHeld => ?_)
        clear hK K
        try simp only [Act.put, List.setIfInBounds_toArray, List.set_cons_zero, List.set_cons_succ]
        refine wpAnyH_ready (rs := [15]) (by kernel_rfl) (by simp) ?_
        refine AllReadyH.cons (o := _) rfl (fun K hK => ?_) (AllReadyH.nil)
        go_simp
        obtain ⟨m3, hm3⟩ : ∃ m3, m3 = w2.heap.size := ⟨_, rfl⟩
        have GE3 : Hid (w.heap.size ≤ m3) := by rw [hm3]; exact SZ.out
        try have NE13 := Lib.hid (show m1 ≠ m3 from by have := M1.out.lt; omega)
        try have NE23 := Lib.hid (show m2 ≠ m3 from by have := M2.out.lt; omega)
        have b2 : Below w2.heap.size w2 (w2.alloc (.map #[] 0)) := (Below.refl _ _).alloc (Nat.le_refl _) _
        have q3 : MapF 29 klP (w2.alloc (.map #[] 0)) m3 0 (fun _ => none) := by rw [hm3]; exact MapF.made w2
        rw [← hm3]
        obtain ⟨w2, hw2⟩ : ∃ w3, w3 = w2.alloc (.map #[] 0) := ⟨_, rfl⟩
        rw [← hw2] at b2 q3 ⊢
        try have R1 := Lib.hid (ownKeep R1.out (fun g hg => b2.block g (R1.out.lt g hg).2))
        try have M1 := Lib.hid (M1.out.keep (b2.block _ M1.out.lt))
        try have M2 := Lib.hid (M2.out.keep (b2.block _ M2.out.lt))
        try have M3 := Lib.hid (M3.out.keep (b2.block _ M3.out.lt))
        have M3 := Lib.hid q3
        have SZ := Lib.hid (Nat.le_trans SZ.out b2.size)
        have BX := Lib.hid (BX.out.trans (b2.mono BX.out.size))
        clear q3 b2 hw2 hm3
        go_simp
        refine hK.out _ _ (KP.out _ BX.out) (fun hHeld => ?_)
        clear hK K
        try simp only [Act.put, List.setIfInBounds_toArray, List.set_cons_zero, List.set_cons_succ]
        refine takeH (i := 16) (d := 22) (oi := _) (v := .agg (#[.slice A1 S.links.length c1, .map (some m1), .map (some m2), .map (some m3)])) rfl (by kernel_rfl) (by kernel_rfl) (by kernel_rfl) (by kernel_rfl) (fun _ _ _ h => h) (yieldsIf_build (by kernel_rfl) 73 #[(0, .tmp 10), (1, .tmp 15), (2, .tmp 20), (3, .tmp 21)] rfl _ _ (built_store _ m1 m2 m3 ⟨_, _, _, rfl⟩) (by kernel_rfl)) hHeld ?_
        try simp only [List.setIfInBounds_toArray, List.set_cons_zero, List.set_cons_succ]
        refine wpAnyH_ready (rs := [17]) (by kernel_rfl) (by simp) ?_
        refine AllReadyH.cons (o := _) rfl (fun K hK => ?_) (AllReadyH.nil)
        go_simp
        obtain ⟨sN, hsN⟩ : ∃ sN, sN = w2.heap.size := ⟨_, rfl⟩
        have b2 : Below w2.heap.size w2 (w2.alloc (.cells #[.slice A1 S.links.length c1, .map (some m1), .map (some m2), .map (some m3)] 73)) := (Below.refl _ _).alloc (Nat.le_refl _) _
        have q3 : (w2.alloc (.cells #[.slice A1 S.links.length c1, .map (some m1), .map (some m2), .map (some m3)] 73)).heap[sN]? = some (.cells #[.slice A1 S.links.length c1, .map (some m1), .map (some m2), .map (some m3)] 73 (0, 0)) := by rw [hsN]; exact heap_alloc_new w2 _
        have gs : w.heap.size ≤ sN ∧ sN < (w2.alloc (.cells #[.slice A1 S.links.length c1, .map (some m1), .map (some m2), .map (some m3)] 73)).heap.size := ⟨by rw [hsN]; exact SZ.out, by rw [hsN]; simp⟩
        rw [← hsN]
        obtain ⟨w2, hw2⟩ : ∃ w3, w3 = w2.alloc (.cells #[.slice A1 S.links.length c1, .map (some m1), .map (some m2), .map (some m3)] 73) := ⟨_, rfl⟩
        rw [← hw2] at b2 q3 gs ⊢
        try have R1 := Lib.hid (ownKeep R1.out (fun g hg => b2.block g (R1.out.lt g hg).2))
        try have M1 := Lib.hid (M1.out.keep (b2.block _ M1.out.lt))
        try have M2 := Lib.hid (M2.out.keep (b2.block _ M2.out.lt))
        try have M3 := Lib.hid (M3.out.keep (b2.block _ M3.out.lt))
        have SZ := Lib.hid (Nat.le_trans SZ.out b2.size)
        have BX := Lib.hid (BX.out.trans (b2.mono BX.out.size))
        have FIN := Lib.hid (And.intro q3 gs)
        clear q3 gs b2 hw2 hsN
        go_simp
        refine hK.out _ _ (KP.out _ BX.out) (fun hHeld => ?_)
        clear hK K
        try simp only [Act.put, List.setIfInBounds_toArray, List.set_cons_zero, List.set_cons_succ]
        refine takeH (i := 18) (d := 3) (oi := _) (v := .pointer (some ⟨sN, 0, none⟩)) rfl (by kernel_rfl) (by kernel_rfl) (by kernel_rfl) (by kernel_rfl) (fun _ _ _ h => h) (Or.inl ⟨by kernel_rfl, by intro u hSw; clear hSw; go_simp⟩) hHeld ?_
        try simp only [List.setIfInBounds_toArray, List.set_cons_zero, List.set_cons_succ]
        refine wpAnyH_done (by kernel_rfl) ?_ _
        refine NoPanic.normal ?_
        exact hQ _ _ _ _ _ _ _ _ _ _ _ _ _ _ _ _ _ _ _ _ ⟨sN, m1, m2, m3, .slice A1 S.links.length c1, rfl, {
          cells := FIN.out.1
          told := M1.out
          stands := M2.out
          waits := M3.out.mono (Nat.zero_le _)
          links := ownLess R1.out (Nat.zero_le _)
          rows := fun p => rfl
          apart := fun p q v v' k _ h => by cases h
          apartL := fun p v k h => by cases h
          foot := ⟨FIN.out.2, ⟨GE1.out, M1.out.lt⟩, ⟨GE2.out, M2.out.lt⟩, ⟨GE3.out, M3.out.lt⟩, fun k hk => R1.out.lt k hk⟩
          ne := ⟨NE12.out, NE13.out, NE23.out⟩
          fin := fun k hk => hk.2 }, M3.out, ((Below.refl w.heap.size w).drew).trans BX.out⟩
      · go_simp
        obtain ⟨m3, hm3⟩ : ∃ m3, m3 = w2.heap.size := ⟨_, rfl⟩
        have GE3 : Hid (w.heap.size ≤ m3) := by rw [hm3]; exact SZ.out
        try have NE13 := Lib.hid (show m1 ≠ m3 from by have := M1.out.lt; omega)
        try have NE23 := Lib.hid (show m2 ≠ m3 from by have := M2.out.lt; omega)
        have b2 : Below w2.heap.size w2 (w2.alloc (.map #[] 0)) := (Below.refl _ _).alloc (Nat.le_refl _) _
        have q3 : MapF 29 klP (w2.alloc (.map #[] 0)) m3 0 (fun _ => none) := by rw [hm3]; exact MapF.made w2
        rw [← hm3]
        obtain ⟨w2, hw2⟩ : ∃ w3, w3 = w2.alloc (.map #[] 0) := ⟨_, rfl⟩
        rw [← hw2] at b2 q3 ⊢
        try have R1 := Lib.hid (ownKeep R1.out (fun g hg => b2.block g (R1.out.lt g hg).2))
        try have M1 := Lib.hid (M1.out.keep (b2.block _ M1.out.lt))
        try have M2 := Lib.hid (M2.out.keep (b2.block _ M2.out.lt))
        try have M3 := Lib.hid (M3.out.keep (b2.block _ M3.out.lt))
        have M3 := Lib.hid q3
        have SZ := Lib.hid (Nat.le_trans SZ.out b2.size)
        have BX := Lib.hid (BX.out.trans (b2.mono BX.out.size))
        clear q3 b2 hw2 hm3
        go_simp
        refine hK.out _ _ (KP.out _ BX.out) (fun hHeld => ?_)
        clear hK K
        try simp only [Act.put, List.setIfInBounds_toArray, List.set_cons_zero, List.set_cons_succ]
        refine wpAnyH_ready (rs := [14]) (by kernel_rfl) (by simp) ?_
        refine AllReadyH.cons (o := _) rfl (fun K hK => ?_) (AllReadyH.nil)
        go_simp
        go_at_call 53
        refine (cloneS_c (KP.out _ BX.out).stands).mono ?_
        rintro e w2 ⟨m2, rfl, q1, g1, b2⟩
        have GE2 := Lib.hid (Nat.le_trans SZ.out g1)
        have NE12 := Lib.hid (show m1 ≠ m2 from by have := M1.out.lt; omega)
        try have NE23 := Lib.hid (show m2 ≠ m3 from by have := M3.out.lt; omega)
        try have R1 := Lib.hid (ownKeep R1.out (fun g hg => b2.block g (R1.out.lt g hg).2))
        try have M1 := Lib.hid (M1.out.keep (b2.block _ M1.out.lt))
        try have M2 := Lib.hid (M2.out.keep (b2.block _ M2.out.lt))
        try have M3 := Lib.hid (M3.out.keep (b2.block _ M3.out.lt))
        have M2 := Lib.hid q1
        have SZ := Lib.hid (Nat.le_trans SZ.out b2.size)
        have BX := Lib.hid (BX.out.trans (b2.mono BX.out.size))
        clear q1 g1 b2
        go_simp
        refine hK.out _ _ (KP.out _ BX.out) (fun hHeld => ?_)
        clear hK K
        try simp only [Act.put, List.setIfInBounds_toArray, List.set_cons_zero, List.set_cons_succ]
        refine takeH (i := 16) (d := 22) (oi := _) (v := .agg (#[.slice A1 S.links.length c1, .map (some m1), .map (some m2), .map (some m3)])) rfl (by kernel_rfl) (by kernel_rfl) (by kernel_rfl) (by kernel_rfl) (fun _ _ _ h => h) (yieldsIf_build (by kernel_rfl) 73 #[(0, .tmp 10), (1, .tmp 15), (2, .tmp 20), (3, .tmp 21)] rfl _ _ (built_store _ m1 m2 m3 ⟨_, _, _, rfl⟩) (by kernel_rfl)) hHeld ?_
        try simp only [List.setIfInBounds_toArray, List.set_cons_zero, List.set_cons_succ]
        refine wpAnyH_ready (rs := [17]) (by kernel_rfl) (by simp) ?_
        refine AllReadyH.cons (o := _) rfl (fun K hK => ?_) (AllReadyH.nil)
        go_simp
        obtain ⟨sN, hsN⟩ : ∃ sN, sN = w2.heap.size := ⟨_, rfl⟩
        have b2 : Below w2.heap.size w2 (w2.alloc (.cells #[.slice A1 S.links.length c1, .map (some m1), .map (some m2), .map (some m3)] 73)) := (Below.refl _ _).alloc (Nat.le_refl _) _
        have q3 : (w2.alloc (.cells #[.slice A1 S.links.length c1, .map (some m1), .map (some m2), .map (some m3)] 73)).heap[sN]? = some (.cells #[.slice A1 S.links.length c1, .map (some m1), .map (some m2), .map (some m3)] 73 (0, 0)) := by rw [hsN]; exact heap_alloc_new w2 _
        have gs : w.heap.size ≤ sN ∧ sN < (w2.alloc (.cells #[.slice A1 S.links.length c1, .map (some m1), .map (some m2), .map (some m3)] 73)).heap.size := ⟨by rw [hsN]; exact SZ.out, by rw [hsN]; simp⟩
        rw [← hsN]
        obtain ⟨w2, hw2⟩ : ∃ w3, w3 = w2.alloc (.cells #[.slice A1 S.links.length c1, .map (some m1), .map (some m2), .map (some m3)] 73) := ⟨_, rfl⟩
        rw [← hw2] at b2 q3 gs ⊢
        try have R1 := Lib.hid (ownKeep R1.out (fun g hg => b2.block g (R1.out.lt g hg).2))
        try have M1 := Lib.hid (M1.out.keep (b2.block _ M1.out.lt))
        try have M2 := Lib.hid (M2.out.keep (b2.block _ M2.out.lt))
        try have M3 := Lib.hid (M3.out.keep (b2.block _ M3.out.lt))
        have SZ := Lib.hid (Nat.le_trans SZ.out b2.size)
        have BX := Lib.hid (BX.out.trans (b2.mono BX.out.size))
        have FIN := Lib.hid (And.intro q3 gs)
        clear q3 gs b2 hw2 hsN
        go_simp
        refine hK.out _ _ (KP.out _ BX.out) (fun hHeld => ?_)
        clear hK K
        try simp only [Act.put, List.setIfInBounds_toArray, List.set_cons_zero, List.set_cons_succ]
        refine takeH (i := 18) (d := 3) (oi := _) (v := .pointer (some ⟨sN, 0, none⟩)) rfl (by kernel_rfl) (by kernel_rfl) (by kernel_rfl) (by kernel_rfl) (fun _ _ _ h => h) (Or.inl ⟨by kernel_rfl, by intro u hSw; clear hSw; go_simp⟩) hHeld ?_
        try simp only [List.setIfInBounds_toArray, List.set_cons_zero, List.set_cons_succ]
        refine wpAnyH_done (by kernel_rfl) ?_ _
        refine NoPanic.normal ?_
        exact hQ _ _ _ _ _ _ _ _ _ _ _ _ _ _ _ _ _ _ _ _ ⟨sN, m1, m2, m3, .slice A1 S.links.length c1, rfl, {
          cells := FIN.out.1
          told := M1.out
          stands := M2.out
          waits := M3.out.mono (Nat.zero_le _)
          links := ownLess R1.out (Nat.zero_le _)
          rows := fun p => rfl
          apart := fun p q v v' k _ h => by cases h
          apartL := fun p v k h => by cases h
          foot := ⟨FIN.out.2, ⟨GE1.out, M1.out.lt⟩, ⟨GE2.out, M2.out.lt⟩, ⟨GE3.out, M3.out.lt⟩, fun k hk => R1.out.lt k hk⟩
          ne := ⟨NE12.out, NE13.out, NE23.out⟩
          fin := fun k hk => hk.2 }, M3.out, ((Below.refl w.heap.size w).drew).trans BX.out⟩
    · go_simp
      obtain ⟨m3, hm3⟩ : ∃ m3, m3 = w2.heap.size := ⟨_, rfl⟩
      have GE3 : Hid (w.heap.size ≤ m3) := by rw [hm3]; exact SZ.out
      try have NE13 := Lib.hid (show m1 ≠ m3 from by have := M1.out.lt; omega)
      try have NE23 := Lib.hid (show m2 ≠ m3 from by have := M2.out.lt; omega)
      have b2 : Below w2.heap.size w2 (w2.alloc (.map #[] 0)) := (Below.refl _ _).alloc (Nat.le_refl _) _
      have q3 : MapF 29 klP (w2.alloc (.map #[] 0)) m3 0 (fun _ => none) := by rw [hm3]; exact MapF.made w2
      rw [← hm3]
      obtain ⟨w2, hw2⟩ : ∃ w3, w3 = w2.alloc (.map #[] 0) := ⟨_, rfl⟩
      rw [← hw2] at b2 q3 ⊢
      try have R1 := Lib.hid (ownKeep R1.out (fun g hg => b2.block g (R1.out.lt g hg).2))
      try have M1 := Lib.hid (M1.out.keep (b2.block _ M1.out.lt))
      try have M2 := Lib.hid (M2.out.keep (b2.block _ M2.out.lt))
      try have M3 := Lib.hid (M3.out.keep (b2.block _ M3.out.lt))
      have M3 := Lib.hid q3
      have SZ := Lib.hid (Nat.le_trans SZ.out b2.size)
      have BX := Lib.hid (BX.out.trans (b2.mono BX.out.size))
      clear q3 b2 hw2 hm3
      go_simp
      refine hK.out _ _ (KP.out _ BX.out) (fun hHeld => ?_)
      clear hK K
      try simp only [Act.put, List.setIfInBounds_toArray, List.set_cons_zero, List.set_cons_succ]
      refine wpAnyH_ready (rs := [9]) (by kernel_rfl) (by simp) ?_
      refine AllReadyH.cons (o := _) rfl (fun K hK => ?_) (AllReadyH.nil)
      go_simp
      go_at_call 52
      refine (cloneT_c (KP.out _ BX.out).told).mono ?_
      rintro e w2 ⟨m1, rfl, q1, g1, b2⟩
      have GE1 := Lib.hid (Nat.le_trans SZ.out g1)
      try have NE13 := Lib.hid (show m1 ≠ m3 from by have := M3.out.lt; omega)
      try have R1 := Lib.hid (ownKeep R1.out (fun g hg => b2.block g (R1.out.lt g hg).2))
      try have M1 := Lib.hid (M1.out.keep (b2.block _ M1.out.lt))
      try have M2 := Lib.hid (M2.out.keep (b2.block _ M2.out.lt))
      try have M3 := Lib.hid (M3.out.keep (b2.block _ M3.out.lt))
      have M1 := Lib.hid q1
      have SZ := Lib.hid (Nat.le_trans SZ.out b2.size)
      have BX := Lib.hid (BX.out.trans (b2.mono BX.out.size))
      clear q1 g1 b2
      go_simp
      refine hK.out _ _ (KP.out _ BX.out) (fun hHeld => ?_)
      clear hK K
      try simp only [Act.put, List.setIfInBounds_toArray, List.set_cons_zero, List.set_cons_succ]
      refine wpAnyH_ready (rs := [14]) (by kernel_rfl) (by simp) ?_
      refine AllReadyH.cons (o := _) rfl (fun K hK => ?_) (AllReadyH.nil)
      go_simp
      go_at_call 53
      refine (cloneS_c (KP.out _ BX.out).stands).mono ?_
      rintro e w2 ⟨m2, rfl, q1, g1, b2⟩
      have GE2 := Lib.hid (Nat.le_trans SZ.out g1)
      have NE12 := Lib.hid (show m1 ≠ m2 from by have := M1.out.lt; omega)
      try have NE23 := Lib.hid (show m2 ≠ m3 from by have := M3.out.lt; omega)
      try have R1 := Lib.hid (ownKeep R1.out (fun g hg => b2.block g (R1.out.lt g hg).2))
      try have M1 := Lib.hid (M1.out.keep (b2.block _ M1.out.lt))
      try have M2 := Lib.hid (M2.out.keep (b2.block _ M2.out.lt))
      try have M3 := Lib.hid (M3.out.keep (b2.block _ M3.out.lt))
      have M2 := Lib.hid q1
      have SZ := Lib.hid (Nat.le_trans SZ.out b2.size)
      have BX := Lib.hid (BX.out.trans (b2.mono BX.out.size))
      clear q1 g1 b2
      go_simp
      refine hK.out _ _ (KP.out _ BX.out) (fun hHeld => ?_)
      clear hK K
      try simp only [Act.put, List.setIfInBounds_toArray, List.set_cons_zero, List.set_cons_succ]
      refine takeH (i := 16) (d := 22) (oi := _) (v := .agg (#[.slice A1 S.links.length c1, .map (some m1), .map (some m2), .map (some m3)])) rfl (by kernel_rfl) (by kernel_rfl) (by kernel_rfl) (by kernel_rfl) (fun _ _ _ h => h) (yieldsIf_build (by kernel_rfl) 73 #[(0, .tmp 10), (1, .tmp 15), (2, .tmp 20), (3, .tmp 21)] rfl _ _ (built_store _ m1 m2 m3 ⟨_, _, _, rfl⟩) (by kernel_rfl)) hHeld ?_
      try simp only [List.setIfInBounds_toArray, List.set_cons_zero, List.set_cons_succ]
      refine wpAnyH_ready (rs := [17]) (by kernel_rfl) (by simp) ?_
      refine AllReadyH.cons (o := _) rfl (fun K hK => ?_) (AllReadyH.nil)
      go_simp
      obtain ⟨sN, hsN⟩ : ∃ sN, sN = w2.heap.size := ⟨_, rfl⟩
      have b2 : Below w2.heap.size w2 (w2.alloc (.cells #[.slice A1 S.links.length c1, .map (some m1), .map (some m2), .map (some m3)] 73)) := (Below.refl _ _).alloc (Nat.le_refl _) _
      have q3 : (w2.alloc (.cells #[.slice A1 S.links.length c1, .map (some m1), .map (some m2), .map (some m3)] 73)).heap[sN]? = some (.cells #[.slice A1 S.links.length c1, .map (some m1), .map (some m2), .map (some m3)] 73 (0, 0)) := by rw [hsN]; exact heap_alloc_new w2 _
      have gs : w.heap.size ≤ sN ∧ sN < (w2.alloc (.cells #[.slice A1 S.links.length c1, .map (some m1), .map (some m2), .map (some m3)] 73)).heap.size := ⟨by rw [hsN]; exact SZ.out, by rw [hsN]; simp⟩
      rw [← hsN]
      obtain ⟨w2, hw2⟩ : ∃ w3, w3 = w2.alloc (.cells #[.slice A1 S.links.length c1, .map (some m1), .map (some m2), .map (some m3)] 73) := ⟨_, rfl⟩
      rw [← hw2] at b2 q3 gs ⊢
      try have R1 := Lib.hid (ownKeep R1.out (fun g hg => b2.block g (R1.out.lt g hg).2))
      try have M1 := Lib.hid (M1.out.keep (b2.block _ M1.out.lt))
      try have M2 := Lib.hid (M2.out.keep (b2.block _ M2.out.lt))
      try have M3 := Lib.hid (M3.out.keep (b2.block _ M3.out.lt))
      have SZ := Lib.hid (Nat.le_trans SZ.out b2.size)
      have BX := Lib.hid (BX.out.trans (b2.mono BX.out.size))
      have FIN := Lib.hid (And.intro q3 gs)
      clear q3 gs b2 hw2 hsN
      go_simp
      refine hK.out _ _ (KP.out _ BX.out) (fun hHeld => ?_)
      clear hK K
      try simp only [Act.put, List.setIfInBounds_toArray, List.set_cons_zero, List.set_cons_succ]
      refine takeH (i := 18) (d := 3) (oi := _) (v := .pointer (some ⟨sN, 0, none⟩)) rfl (by kernel_rfl) (by kernel_rfl) (by kernel_rfl) (by kernel_rfl) (fun _ _ _ h => h) (Or.inl ⟨by kernel_rfl, by intro u hSw; clear hSw; go_simp⟩) hHeld ?_
      try simp only [List.setIfInBounds_toArray, List.set_cons_zero, List.set_cons_succ]
      refine wpAnyH_done (by kernel_rfl) ?_ _
      refine NoPanic.normal ?_
      exact hQ _ _ _ _ _ _ _ _ _ _ _ _ _ _ _ _ _ _ _ _ ⟨sN, m1, m2, m3, .slice A1 S.links.length c1, rfl, {
        cells := FIN.out.1
        told := M1.out
        stands := M2.out
        waits := M3.out.mono (Nat.zero_le _)
        links := ownLess R1.out (Nat.zero_le _)
        rows := fun p => rfl
        apart := fun p q v v' k _ h => by cases h
        apartL := fun p v k h => by cases h
        foot := ⟨FIN.out.2, ⟨GE1.out, M1.out.lt⟩, ⟨GE2.out, M2.out.lt⟩, ⟨GE3.out, M3.out.lt⟩, fun k hk => R1.out.lt k hk⟩
        ne := ⟨NE12.out, NE13.out, NE23.out⟩
        fin := fun k hk => hk.2 }, M3.out, ((Below.refl w.heap.size w).drew).trans BX.out⟩
  · go_simp
    obtain ⟨m3, hm3⟩ : ∃ m3, m3 = w2.heap.size := ⟨_, rfl⟩
    have GE3 : Hid (w.heap.size ≤ m3) := by rw [hm3]; exact SZ.out
    try have NE13 := Lib.hid (show m1 ≠ m3 from by have := M1.out.lt; omega)
    try have NE23 := Lib.hid (show m2 ≠ m3 from by have := M2.out.lt; omega)
    have b2 : Below w2.heap.size w2 (w2.alloc (.map #[] 0)) := (Below.refl _ _).alloc (Nat.le_refl _) _
    have q3 : MapF 29 klP (w2.alloc (.map #[] 0)) m3 0 (fun _ => none) := by rw [hm3]; exact MapF.made w2
    rw [← hm3]
    obtain ⟨w2, hw2⟩ : ∃ w3, w3 = w2.alloc (.map #[] 0) := ⟨_, rfl⟩
    rw [← hw2] at b2 q3 ⊢
    try have R1 := Lib.hid (ownKeep R1.out (fun g hg => b2.block g (R1.out.lt g hg).2))
    try have M1 := Lib.hid (M1.out.keep (b2.block _ M1.out.lt))
    try have M2 := Lib.hid (M2.out.keep (b2.block _ M2.out.lt))
    try have M3 := Lib.hid (M3.out.keep (b2.block _ M3.out.lt))
    have M3 := Lib.hid q3
    have SZ := Lib.hid (Nat.le_trans SZ.out b2.size)
    have BX := Lib.hid (BX.out.trans (b2.mono BX.out.size))
    clear q3 b2 hw2 hm3
    go_simp
    refine hK.out _ _ (KP.out _ BX.out) (fun hHeld => ?_)
    clear hK K
    try simp only [Act.put, List.setIfInBounds_toArray, List.set_cons_zero, List.set_cons_succ]
    refine wpAnyH_ready (rs := [4]) (by kernel_rfl) (by simp) ?_
    refine AllReadyH.cons (o := _) rfl (fun K hK => ?_) (AllReadyH.nil)
    go_simp
    go_at_call 38
    refine (cloneL_c _ 0 A c S.links (KP.out _ BX.out).links hlk).mono ?_
    rintro e w2 ⟨A1, c1, rfl, o1, b2⟩
    try have R1 := Lib.hid (ownKeep R1.out (fun g hg => b2.block g (R1.out.lt g hg).2))
    try have M1 := Lib.hid (M1.out.keep (b2.block _ M1.out.lt))
    try have M2 := Lib.hid (M2.out.keep (b2.block _ M2.out.lt))
    try have M3 := Lib.hid (M3.out.keep (b2.block _ M3.out.lt))
    have R1 := Lib.hid (ownLess o1 SZ.out)
    have SZ := Lib.hid (Nat.le_trans SZ.out b2.size)
    have BX := Lib.hid (BX.out.trans (b2.mono BX.out.size))
    clear o1 b2
    go_simp
    refine hK.out _ _ (KP.out _ BX.out) (fun hHeld => ?_)
    clear hK K
    try simp only [Act.put, List.setIfInBounds_toArray, List.set_cons_zero, List.set_cons_succ]
    refine wpAnyH_ready (rs := [9]) (by kernel_rfl) (by simp) ?_
    refine AllReadyH.cons (o := _) rfl (fun K hK => ?_) (AllReadyH.nil)
    go_simp
    go_at_call 52
    refine (cloneT_c (KP.out _ BX.out).told).mono ?_
    rintro e w2 ⟨m1, rfl, q1, g1, b2⟩
    have GE1 := Lib.hid (Nat.le_trans SZ.out g1)
    try have NE13 := Lib.hid (show m1 ≠ m3 from by have := M3.out.lt; omega)
    try have R1 := Lib.hid (ownKeep R1.out (fun g hg => b2.block g (R1.out.lt g hg).2))
    try have M1 := Lib.hid (M1.out.keep (b2.block _ M1.out.lt))
    try have M2 := Lib.hid (M2.out.keep (b2.block _ M2.out.lt))
    try have M3 := Lib.hid (M3.out.keep (b2.block _ M3.out.lt))
    have M1 := Lib.hid q1
    have SZ := Lib.hid (Nat.le_trans SZ.out b2.size)
    have BX := Lib.hid (BX.out.trans (b2.mono BX.out.size))
    clear q1 g1 b2
    go_simp
    refine hK.out _ _ (KP.out _ BX.out) (fun hHeld => ?_)
    clear hK K
    try simp only [Act.put, List.setIfInBounds_toArray, List.set_cons_zero, List.set_cons_succ]
    refine wpAnyH_ready (rs := [14]) (by kernel_rfl) (by simp) ?_
    refine AllReadyH.cons (o := _) rfl (fun K hK => ?_) (AllReadyH.nil)
    go_simp
    go_at_call 53
    refine (cloneS_c (KP.out _ BX.out).stands).mono ?_
    rintro e w2 ⟨m2, rfl, q1, g1, b2⟩
    have GE2 := Lib.hid (Nat.le_trans SZ.out g1)
    have NE12 := Lib.hid (show m1 ≠ m2 from by have := M1.out.lt; omega)
    try have NE23 := Lib.hid (show m2 ≠ m3 from by have := M3.out.lt; omega)
    try have R1 := Lib.hid (ownKeep R1.out (fun g hg => b2.block g (R1.out.lt g hg).2))
    try have M1 := Lib.hid (M1.out.keep (b2.block _ M1.out.lt))
    try have M2 := Lib.hid (M2.out.keep (b2.block _ M2.out.lt))
    try have M3 := Lib.hid (M3.out.keep (b2.block _ M3.out.lt))
    have M2 := Lib.hid q1
    have SZ := Lib.hid (Nat.le_trans SZ.out b2.size)
    have BX := Lib.hid (BX.out.trans (b2.mono BX.out.size))
    clear q1 g1 b2
    go_simp
    refine hK.out _ _ (KP.out _ BX.out) (fun hHeld => ?_)
    clear hK K
    try simp only [Act.put, List.setIfInBounds_toArray, List.set_cons_zero, List.set_cons_succ]
    refine takeH (i := 16) (d := 22) (oi := _) (v := .agg (#[.slice A1 S.links.length c1, .map (some m1), .map (some m2), .map (some m3)])) rfl (by kernel_rfl) (by kernel_rfl) (by kernel_rfl) (by kernel_rfl) (fun _ _ _ h => h) (yieldsIf_build (by kernel_rfl) 73 #[(0, .tmp 10), (1, .tmp 15), (2, .tmp 20), (3, .tmp 21)] rfl _ _ (built_store _ m1 m2 m3 ⟨_, _, _, rfl⟩) (by kernel_rfl)) hHeld ?_
    try simp only [List.setIfInBounds_toArray, List.set_cons_zero, List.set_cons_succ]
    refine wpAnyH_ready (rs := [17]) (by kernel_rfl) (by simp) ?_
    refine AllReadyH.cons (o := _) rfl (fun K hK => ?_) (AllReadyH.nil)
    go_simp
    obtain ⟨sN, hsN⟩ : ∃ sN, sN = w2.heap.size := ⟨_, rfl⟩
    have b2 : Below w2.heap.size w2 (w2.alloc (.cells #[.slice A1 S.links.length c1, .map (some m1), .map (some m2), .map (some m3)] 73)) := (Below.refl _ _).alloc (Nat.le_refl _) _
    have q3 : (w2.alloc (.cells #[.slice A1 S.links.length c1, .map (some m1), .map (some m2), .map (some m3)] 73)).heap[sN]? = some (.cells #[.slice A1 S.links.length c1, .map (some m1), .map (some m2), .map (some m3)] 73 (0, 0)) := by rw [hsN]; exact heap_alloc_new w2 _
    have gs : w.heap.size ≤ sN ∧ sN < (w2.alloc (.cells #[.slice A1 S.links.length c1, .map (some m1), .map (some m2), .map (some m3)] 73)).heap.size := ⟨by rw [hsN]; exact SZ.out, by rw [hsN]; simp⟩
    rw [← hsN]
    obtain ⟨w2, hw2⟩ : ∃ w3, w3 = w2.alloc (.cells #[.slice A1 S.links.length c1, .map (some m1), .map (some m2), .map (some m3)] 73) := ⟨_, rfl⟩
    rw [← hw2] at b2 q3 gs ⊢
    try have R1 := Lib.hid (ownKeep R1.out (fun g hg => b2.block g (R1.out.lt g hg).2))
    try have M1 := Lib.hid (M1.out.keep (b2.block _ M1.out.lt))
    try have M2 := Lib.hid (M2.out.keep (b2.block _ M2.out.lt))
    try have M3 := Lib.hid (M3.out.keep (b2.block _ M3.out.lt))
    have SZ := Lib.hid (Nat.le_trans SZ.out b2.size)
    have BX := Lib.hid (BX.out.trans (b2.mono BX.out.size))
    have FIN := Lib.hid (And.intro q3 gs)
    clear q3 gs b2 hw2 hsN
    go_simp
    refine hK.out _ _ (KP.out _ BX.out) (fun hHeld => ?_)
    clear hK K
    try simp only [Act.put, List.setIfInBounds_toArray, List.set_cons_zero, List.set_cons_succ]
    refine takeH (i := 18) (d := 3) (oi := _) (v := .pointer (some ⟨sN, 0, none⟩)) rfl (by kernel_rfl) (by kernel_rfl) (by kernel_rfl) (by kernel_rfl) (fun _ _ _ h => h) (Or.inl ⟨by kernel_rfl, by intro u hSw; clear hSw; go_simp⟩) hHeld ?_
    try simp only [List.setIfInBounds_toArray, List.set_cons_zero, List.set_cons_succ]
    refine wpAnyH_done (by kernel_rfl) ?_ _
    refine NoPanic.normal ?_
    exact hQ _ _ _ _ _ _ _ _ _ _ _ _ _ _ _ _ _ _ _ _ ⟨sN, m1, m2, m3, .slice A1 S.links.length c1, rfl, {
      cells := FIN.out.1
      told := M1.out
      stands := M2.out
      waits := M3.out.mono (Nat.zero_le _)
      links := ownLess R1.out (Nat.zero_le _)
      rows := fun p => rfl
      apart := fun p q v v' k _ h => by cases h
      apartL := fun p v k h => by cases h
      foot := ⟨FIN.out.2, ⟨GE1.out, M1.out.lt⟩, ⟨GE2.out, M2.out.lt⟩, ⟨GE3.out, M3.out.lt⟩, fun k hk => R1.out.lt k hk⟩
      ne := ⟨NE12.out, NE13.out, NE23.out⟩
      fin := fun k hk => hk.2 }, M3.out, ((Below.refl w.heap.size w).drew).trans BX.out⟩
end Go.Proofs.Ythlbpjkopkicbaa
