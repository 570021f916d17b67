/- All that stand so at least, each once, in order. -/
import Derived.Test.YthlbpjkopkicbaaFgSorted
namespace Go.Proofs.Ythlbpjkopkicbaa
open Go.ChangeMaps Go.MapKept Go.Maps Go.WideElems Go.RowKit Go.ChangeShapes Go.WideShapes Go.ChangeAt Go.Sort Go.Shelf
set_option linter.unusedVariables false
set_option maxRecDepth 100000

/-- A range over those that stand, under way. -/
def AllRN (bs r n least : Nat) (S : FgS) (D : DataW Value) (w : World) (cnt : Nat) (v5 : Value) (u : World) : Prop :=
  ∃ (left : Lit → Bool) (Lp : List Pt), u.ranges Try.prog 29 heldR bs r n D left cnt ∧ (∀ p, p ∈ Lp ↔ least ≤ stN S.stands p ∧ left (klP p) = false) ∧ u.ownsRow (w.heap.size + 1) 29 33 v5 Lp.length (pts Lp) ∧ Below w.heap.size w u ∧ Lp.length + cnt ≤ n ∧ w.heap.size + 1 ≤ u.heap.size ∧ Lp.Nodup
set_option maxRecDepth 1000000 in
set_option maxHeartbeats 8000000 in
theorem allN_c (w : World) (s bt bs bw n least : Nat) (vl : Value) (hd : Pt → Option Value) (F : Nat → Prop) (S : FgS) (h : FgB s bt bs bw vl hd F S n w) (hl : 1 ≤ least) (hn : n ≤ 1000000000) :
    Calls Try.prog 49 #[.pointer (some ⟨s, 0, none⟩), .int .i64 (least : Int)] w fun e w' => ∃ A c Lp, e = .returned (.slice A Lp.length c) ∧ (∀ p, p ∈ Lp ↔ least ≤ stN S.stands p) ∧ w'.ownsRow (w.heap.size + 1) 29 33 (.slice A Lp.length c) Lp.length (pts Lp) ∧ Below w.heap.size w w' ∧ Lp.length ≤ n ∧ Lp.Nodup := by
  obtain ⟨i0, hi0⟩ : ∃ i0, Try.prog.info? 29 = some i0 := ⟨_, (Option.some_get (by kernel_rfl)).symm⟩
  obtain ⟨hz0, hz1, hz2⟩ := point_row hi0
  have hzp := zero_pt
  have c2 : w.cell? ⟨s, 2, none⟩ = some (.map (some bs)) := cell_of_row w s 2 _ _ (0, 0) h.cells
  have hbs := h.fin bs h.foot.2.2.1
  obtain ⟨D, hown, hD⟩ := h.stands.tight
  have hsz := h.stands.size
  have hDs : Maps.size D ≤ n := Nat.le_trans hown.size_le hsz
  have hno : ∀ p, stN S.stands p = 0 ∨ Maps.has D (klP p) = true := fun p => by
    have e := has_f keyP hD p
    cases hs : S.stands p with
    | none => exact .inl (by unfold stN; rw [hs]; rfl)
    | some v => exact .inr (by rw [e]; unfold stF; rw [hs]; rfl)
  have HNO := Lib.hid hno
  have HDD := Lib.hid hD
  have HOWN := Lib.hid hown
  clear hno hD h
  go_enter Try.func49, Try.ntmps49
  go_wp2_with (first
    | (at_range; refine wpList_range_own _ rfl (.tmp 11) 70 rfl 29 _ keyP.law Try.underlying70 heldR bs (mapSize w bs) D rfl HOWN.out ?_; intro w0 hrg0 hg0 hs0; go_frame)
    | fail)
  go_loopw [5] (fun v5 u => ∃ cnt, AllRN bs w.heap.size (mapSize w bs) least S D w cnt v5 u) (fun _ u => u.rangeLeft bs w.heap.size)
  case atStart =>
    have h0 : ∀ p, p ∈ ([] : List Pt) ↔ least ≤ stN S.stands p ∧ Maps.has D (klP p) = false := fun p => by
      constructor
      · intro h
        cases h
      · rintro ⟨h1, h2⟩
        rcases HNO.out p with e | e
        · omega
        · rw [h2] at e
          cases e
    have h1 := HOWN.out.size_le
    exact ⟨Maps.size D, Maps.has D, [], hrg0, h0, ⟨rfl, .inl ⟨rfl, rfl⟩⟩, (Below.refl _ _).grown hg0 (Nat.le_refl _) (fun k e => by cases e), by simpa using h1, by omega, List.nodup_nil⟩
  case round =>
    obtain ⟨cnt, left, Lp, q1, q2, q3, q4, q5, q6, q7⟩ := hrel
    have Q7 := Lib.hid q7
    obtain ⟨A5, c5, rfl, _, _, _⟩ := ownForm q3
    have Q1 := Lib.hid q1
    have Q2 := Lib.hid q2
    have Q3 := Lib.hid q3
    have Q4 := Lib.hid q4
    clear q1 q2 q3 q4 q7
    go_wp2_with (first
      | (at_next; refine wpList_next_ranges _ rfl (.tmp 12) rfl 29 keyP.law heldR (fun p : Pt => Value.agg (pv p)) (fun v : Value => v) key_point_inv (fun v y _ => ⟨v, rfl⟩) bs w.heap.size (mapSize w bs) D left cnt rfl Q1.out ?_ ?_)
      | fail)
    · intro h0 hl0
      go_wp2_with fail
      go_ret
      exact ⟨A5, c5, Lp, rfl, fun p => ⟨fun hp => ((Q2.out p).1 hp).1, fun hp => (Q2.out p).2 ⟨hp, hl0 _⟩⟩, Q3.out, Q4.out, by omega, Q7.out⟩
    · intro x c kl ya yb w1 cnt1 hkey hlk hv hat hrg1 hlt hg1 hs1 hen
      have ekl : kl = klP x := by
        have e := keyP.at_ x
        rw [hkey] at e
        injection e
      subst ekl
      have hvv : ∃ v, S.stands x = some v ∧ c = .int .i64 (v : Int) := by
        have e1 : ya = .held c := by
          unfold heldR at hv
          injection hv with hv
          injection hv with hv _
          exact hv.symm
        subst e1
        have e2 := hat .nil
        rw [HDD.out] at e2
        unfold stF at e2
        cases hs : S.stands x with
        | none => rw [hs] at e2; cases e2
        | some v =>
          rw [hs] at e2
          injection e2 with e2
          exact ⟨v, rfl, e2.symm⟩
      obtain ⟨v, hsv, rfl⟩ := hvv
      have hst : stN S.stands x = v := by unfold stN; rw [hsv]; rfl
      have hrs : w.heap.size + 1 ≤ wr.heap.size := q6
      have own1 : ∀ k, (Value.slice A5 Lp.length c5).ownBlock = some k → w.heap.size + 1 ≤ k := fun k e => (Q3.out.lt k e).1
      have OW1 := Lib.hid own1
      have R1 := Lib.hid hrg1
      have B1 := Lib.hid (Q4.out.grown hg1 Q4.out.size (fun k e => by injection e with e; omega))
      have O1 := Lib.hid (ownKeep Q3.out (fun g hg => hg1.block g (Q3.out.lt g hg).2 (fun e => by injection e with e; have := own1 g hg; omega)))
      obtain ⟨u1, hu1⟩ : ∃ u1, u1 = w1.alloc (.cells (pv x) 29) := ⟨_, rfl⟩
      have b1 : Below w1.heap.size w1 u1 := by rw [hu1]; exact (Below.refl _ _).alloc (Nat.le_refl _) _
      have X1 : Hid (PkB w1.heap.size x u1) := by rw [hu1]; exact PkB.new
      have R2 : Hid (u1.ranges Try.prog 29 heldR bs w.heap.size (mapSize w bs) D (fun z => left z && !z.sameKey (klP x)) cnt1) := by rw [hu1]; exact hrg1.alloc _
      have B2 := Lib.hid (B1.out.trans (b1.mono B1.out.size))
      have O2 := Lib.hid (ownKeep O1.out (fun g hg => b1.block g (O1.out.lt g hg).2))
      have HU1 := Lib.hid hu1
      have L2 := Lib.hid (show w.heap.size + 1 ≤ u1.heap.size by have := b1.size; omega)
      have LK := Lib.hid (show ∀ p, (fun z => left z && !z.sameKey (klP x)) (klP p) = false ↔ (left (klP p) = false ∨ p = x) from fun p => by
        show (left (klP p) && !(klP p).sameKey (klP x)) = false ↔ _
        rw [klP_same]
        cases left (klP p) <;> simp)
      have HST := Lib.hid hst
      have HEN := Lib.hid hlt
      have NX : Hid (x ∉ Lp) := fun hm => by
        have := ((Q2.out x).1 hm).2
        rw [hlk] at this
        cases this
      clear hkey hlk hv hat hrg1 hg1 hs1 b1 hu1 own1 hsv hst
      by_cases hle : least ≤ v
      · have d1 : decide ((v : Int) ≥ (least : Int)) = true := by simp; omega
        have d2 : decide ((least : Int) ≤ (v : Int)) = true := by simp; omega
        obtain ⟨u2, hu2⟩ : ∃ u2, u2 = u1.alloc (.cells (pv x) 29) := ⟨_, rfl⟩
        have b2 : Below u1.heap.size u1 u2 := by rw [hu2]; exact (Below.refl _ _).alloc (Nat.le_refl _) _
        have hb2 : (Instr.buildSlice 38 1 #[(0, .agg (pv x))]).run Try.prog u1 = .ok (.slice (some ⟨u1.heap.size, 0, none⟩) 1 1) u2 := by rw [hu2]; exact one_point x u1
        have N2 : Hid (u2.ownsRow 0 29 33 (.slice (some ⟨u1.heap.size, 0, none⟩) 1 1) 1 (pC x)) := by rw [hu2]; exact own_point x u1
        have R3 : Hid (u2.ranges Try.prog 29 heldR bs w.heap.size (mapSize w bs) D (fun z => left z && !z.sameKey (klP x)) cnt1) := by rw [hu2]; exact R2.out.alloc _
        have B3 := Lib.hid (B2.out.trans (b2.mono B2.out.size))
        have O3 := Lib.hid (ownKeep O2.out (fun g hg => b2.block g (O2.out.lt g hg).2))
        have L3 := Lib.hid (show w.heap.size + 1 ≤ u2.heap.size by have := b2.size; have := L2.out; omega)
        have x1 := X1.out.row
        clear b2 hu2
        go_wp2_with (first
          | (refine wpList_store_row rfl 29 (.tmp 6) (.tmp 16) rfl w1.heap.size (pv x) rfl rfl 29 (pv ptZ) (heap_alloc_new w1 _) (size_pv x) (by rw [show (pv x).size = 33 from rowV_size _ _]; exact rowV_size _ _) (rowV_one 33 _ (pf_one x)) ?_; rw [World.setRow_alloc_new]; rw [← HU1.out])
          | (refine wpList_load_row rfl 29 (.tmp 6) rfl w1.heap.size rfl 29 (pv x) (0, 0) _ x1 Try.underlying29 rfl (size_pv x) ?_)
          | (refine wpList_buildSlice_row (v := .slice (some ⟨u1.heap.size, 0, none⟩) 1 1) (w' := u2) rfl 38 1 #[(0, .tmp 22)] rfl ?hr ?_; case hr => (simp only [List.map_toArray, List.map_cons, List.map_nil]; exact hb2))
          | (at_builtin; refine wpList_append_row rfl (.tmp 21) (.tmp 23) 38 rfl (w.heap.size + 1) 29 i0 _ 33 40 Try.underlying38 hi0 hz0 hz1 hz2 (by show (pv ptZ).size = 33; exact rowV_size _ _) (by decide) (.slice A5 Lp.length c5) Lp.length (pts Lp) rfl O3.out 0 _ 1 (pC x) rfl N2.out (pC_one x) (by unfold maxLen; omega) (by omega) L3.out ?_; intro v' w3 o3 g3 b3; rw [pts_more] at o3)
          | fail)
        have hb : ∀ k, (Value.slice A5 Lp.length c5).ownBlock = some k → w.heap.size + 1 ≤ k := OW1.out
        refine ⟨⟨cnt1, _, Lp ++ [x], R3.out.kept g3 (fun e => by have := hb bs e.symm; omega) (fun e => by have := hb _ e.symm; omega), fun p => ?_, by rw [List.length_append]; exact o3, B3.out.grown g3 B3.out.size (fun k e => by have := hb k e; omega), by rw [List.length_append, List.length_singleton]; have := HEN.out; omega, by have := g3.size; have := L3.out; omega, List.nodup_append.2 ⟨Q7.out, by simp, fun y hy z hz e => by rw [List.mem_singleton.1 hz] at e; rw [e] at hy; exact NX.out hy⟩⟩, ?_⟩
        · rw [LK.out p, List.mem_append, List.mem_singleton, Q2.out p]
          constructor
          · rintro (⟨h1, h2⟩ | rfl)
            · exact ⟨h1, .inl h2⟩
            · exact ⟨by rw [HST.out]; exact hle, .inr rfl⟩
          · rintro ⟨h1, h2 | h2⟩
            · exact .inl ⟨h1, h2⟩
            · exact .inr h2
        · rw [(R3.out.kept g3 (fun e => by have := hb bs e.symm; omega) (fun e => by have := hb _ e.symm; omega)).left_eq, Q1.out.left_eq]
          exact HEN.out
      · have d1 : decide ((v : Int) ≥ (least : Int)) = false := by simp; omega
        have d2 : decide ((least : Int) ≤ (v : Int)) = false := by simp; omega
        go_wp2_with (first
          | (refine wpList_store_row rfl 29 (.tmp 6) (.tmp 16) rfl w1.heap.size (pv x) rfl rfl 29 (pv ptZ) (heap_alloc_new w1 _) (size_pv x) (by rw [show (pv x).size = 33 from rowV_size _ _]; exact rowV_size _ _) (rowV_one 33 _ (pf_one x)) ?_; rw [World.setRow_alloc_new]; rw [← HU1.out])
          | fail)
        refine ⟨⟨cnt1, _, Lp, R2.out, fun p => ?_, O2.out, B2.out, by have := HEN.out; omega, L2.out, Q7.out⟩, ?_⟩
        · rw [LK.out p, Q2.out p]
          constructor
          · rintro ⟨h1, h2⟩
            exact ⟨h1, .inl h2⟩
          · rintro ⟨h1, h2 | rfl⟩
            · exact ⟨h1, h2⟩
            · rw [HST.out] at h1
              exact absurd h1 hle
        · rw [R2.out.left_eq, Q1.out.left_eq]
          exact HEN.out
/-- Checkpoints that rise. -/
def Rise (L : List Pt) : Prop := L.Pairwise fun x y => keyN x < keyN y
theorem rise_ext : ∀ {L M : List Pt}, Rise L → Rise M → (∀ p, p ∈ L ↔ p ∈ M) → L = M
  | [], [], _, _, _ => rfl
  | [], y :: M, _, _, h => by have := (h y).2 (by simp); cases this
  | x :: L, [], _, _, h => by have := (h x).1 (by simp); cases this
  | x :: L, y :: M, h1, h2, h => by
    obtain ⟨a1, a2⟩ := List.pairwise_cons.1 h1
    obtain ⟨b1, b2⟩ := List.pairwise_cons.1 h2
    have e : x = y := by
      have hx := (h x).1 (by simp)
      have hy := (h y).2 (by simp)
      rcases List.mem_cons.1 hx with e | hx
      · exact e
      · rcases List.mem_cons.1 hy with e | hy
        · exact e.symm
        · have := a1 y hy
          have := b1 x hx
          omega
    subst e
    rw [rise_ext a2 b2 (fun p => ⟨fun hp => by
      rcases List.mem_cons.1 ((h p).1 (List.mem_cons_of_mem _ hp)) with rfl | q
      · have := a1 p hp; omega
      · exact q, fun hp => by
      rcases List.mem_cons.1 ((h p).2 (List.mem_cons_of_mem _ hp)) with rfl | q
      · have := b1 p hp; omega
      · exact q⟩)]
theorem sortP_rise (L : List Pt) (h : L.Nodup) : Rise (sortP L) := by
  have h1 : (sortP L).Pairwise (fun x y => (!(ltOf cmpP) y x) = true) := List.pairwise_mergeSort (fun a b c h1 h2 => by rw [Bool.not_eq_true', ltOf_key, decide_eq_false_iff_not] at *; omega) (fun a b => by rw [ltOf_key, ltOf_key]; by_cases h : keyN b < keyN a <;> simp [h] <;> omega) L
  have h2 : (sortP L).Nodup := (List.mergeSort_perm L _).nodup_iff.2 h
  unfold Rise
  refine (List.pairwise_and_iff.2 ⟨h1, h2⟩).imp (fun {x y} ⟨q1, q2⟩ => ?_)
  rw [Bool.not_eq_true', ltOf_key, decide_eq_false_iff_not] at q1
  rcases Nat.lt_or_ge (keyN x) (keyN y) with e | e
  · exact e
  · exact absurd (keyN_inj (show keyN x = keyN y by omega)) q2
set_option maxHeartbeats 4000000 in
theorem sortedN_c (w : World) (s bt bs bw n least : Nat) (vl : Value) (hd : Pt → Option Value) (F : Nat → Prop) (S : FgS) (h : FgB s bt bs bw vl hd F S n w) (hl : 1 ≤ least) (hn : n ≤ 1000000000) :
    Calls Try.prog 36 #[.pointer (some ⟨s, 0, none⟩), .int .i64 (least : Int)] w fun e w' => ∃ A c Lp, e = .returned (.slice A Lp.length c) ∧ (∀ p, p ∈ Lp ↔ least ≤ stN S.stands p) ∧ w'.ownsRow w.heap.size 29 33 (.slice A Lp.length c) Lp.length (pts Lp) ∧ Below w.heap.size w w' ∧ Lp.length ≤ n ∧ Rise Lp := by
  have CA := Lib.hid (allN_c w s bt bs bw n least vl hd F S h hl hn)
  clear h
  go_enter Try.func36, Try.ntmps36
  go_wp2_with fail
  refine CA.out.mono ?_
  rintro e w1 ⟨A, c, Lp, rfl, m1, o1, b1, l1, n1⟩
  have o1' : w1.ownsRow w.heap.size 29 33 (.slice A Lp.length c) Lp.length (pts Lp) := by
    refine ⟨o1.1, ?_⟩
    rcases o1.2 with h0 | ⟨g, cap, cur, hv, h1, h2⟩
    · exact .inl h0
    · exact .inr ⟨g, cap, cur, hv, by omega, h2⟩
  have CS := Lib.hid (sort_c w1 A c w.heap.size Lp.length Lp o1' rfl (by omega) b1.size)
  have M1 := Lib.hid m1
  have B1 := Lib.hid b1
  clear m1 o1 o1' b1
  go_wp2_with fail
  refine CS.out.mono ?_
  rintro e w2 ⟨rfl, b2, o2⟩
  have O2 := Lib.hid o2
  have B2 := Lib.hid (B1.out.trans b2)
  clear o2 b2 CS
  go_wp2_with fail
  go_ret
  have e1 := sortP_len Lp
  refine ⟨A, c, sortP Lp, by rw [e1]; rfl, fun p => (sortP_mem Lp p).trans (M1.out p), by rw [e1]; exact O2.out, B2.out, by omega, sortP_rise Lp n1⟩
variable {a : Pt} {g : Nat} {F : Nat → Prop} {S : FgS} {w w' : World}
/-- What is told of those that stand so at least. -/
def AllN (S : FgS) (least : Nat) (w : World) (e : Ending) (w' : World) : Prop := ∃ A c Lp, e = .returned (.slice A Lp.length c) ∧ (∀ p, p ∈ Lp ↔ least ≤ stN S.stands p) ∧ w'.ownsRow w.heap.size 29 33 (.slice A Lp.length c) Lp.length (pts Lp) ∧ Below w.heap.size w w' ∧ Lp.length ≤ 800000 ∧ Rise Lp
theorem allJustifiedN_c (h : GadG a g F S w) (hl : S.told.length ≤ 59) : Calls Try.prog 17 #[.pointer (some ⟨g, 0, none⟩)] w (AllN S 1 w) := by
  obtain ⟨_, _, p3, _⟩ := h.pre hl
  obtain ⟨s, bt, bs, bw, vl, hd, ga, hgF, hgl, hB, _, _⟩ := h.mem
  have CS := Lib.hid (sortedN_c w s bt bs bw _ 1 vl hd F S hB (Nat.le_refl _) (by omega))
  have GA := Lib.hid ga
  clear hB h ga
  go_enter Try.func17, Try.ntmps17
  go_wp2_with fail
  refine (seen_c g s w GA.out).mono ?_
  rintro e w1 ⟨rfl, rfl⟩
  go_wp2_with fail
  refine CS.out.mono ?_
  rintro e w2 ⟨A', c', Lp, rfl, m2, o2, b2, l2, r2⟩
  go_wp2_with fail
  go_ret
  exact ⟨A', c', Lp, rfl, m2, o2, b2, by omega, r2⟩
theorem allFinalN_c (h : GadG a g F S w) (hl : S.told.length ≤ 59) : Calls Try.prog 18 #[.pointer (some ⟨g, 0, none⟩)] w (AllN S 2 w) := by
  obtain ⟨_, _, p3, _⟩ := h.pre hl
  obtain ⟨s, bt, bs, bw, vl, hd, ga, hgF, hgl, hB, _, _⟩ := h.mem
  have CS := Lib.hid (sortedN_c w s bt bs bw _ 2 vl hd F S hB (by omega) (by omega))
  have GA := Lib.hid ga
  clear hB h ga
  go_enter Try.func18, Try.ntmps18
  go_wp2_with fail
  refine (seen_c g s w GA.out).mono ?_
  rintro e w1 ⟨rfl, rfl⟩
  go_wp2_with fail
  refine CS.out.mono ?_
  rintro e w2 ⟨A', c', Lp, rfl, m2, o2, b2, l2, r2⟩
  go_wp2_with fail
  go_ret
  exact ⟨A', c', Lp, rfl, m2, o2, b2, by omega, r2⟩
end Go.Proofs.Ythlbpjkopkicbaa
