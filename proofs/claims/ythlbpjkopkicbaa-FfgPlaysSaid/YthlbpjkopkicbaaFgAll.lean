/- All that stand so at least. -/
import Derived.Test.YthlbpjkopkicbaaFgStrong
import Derived.Test.YthlbpjkopkicbaaFgCmp
import Derived.Deep.WholeRow
import Derived.Great.BuildSlice
namespace Go.Proofs.Ythlbpjkopkicbaa
open Go.ChangeMaps Go.MapKept Go.Maps Go.WideElems Go.RowKit Go.ChangeShapes Go.WideShapes Go.ChangeAt
set_option linter.unusedVariables false
set_option maxRecDepth 100000

theorem mapM_all {α β : Type} {f : α → Option β} : ∀ {L : List α} {ys : List β}, L.mapM f = some ys → ∀ x ∈ L, ∃ y, f x = some y
  | [], _, _, x, h => by cases h
  | a :: L, ys, h, x, hx => by
    rw [List.mapM_cons] at h
    simp only [bind, Option.bind_eq_some_iff, pure, Option.some.injEq] at h
    obtain ⟨y, hy, ys', hys, rfl⟩ := h
    rcases List.mem_cons.1 hx with rfl | hx
    · exact ⟨y, hy⟩
    · exact mapM_all hys x hx
theorem lits_int_inv {P : Program} {t : TypeId} {q : IntKind} {d : Nat} {v : Value} {L : List Lit} (hu : P.underlying t = some (.int q)) (h : P.keyLits (d + 1) t [v] = some L) : ∃ n, v = .int q n ∧ (Lit.int q n).wf = true := by
  unfold Program.keyLits at h
  simp only [hu] at h
  cases v <;> simp only at h <;> try cases h
  next q' n =>
    split at h
    · next hw => exact ⟨n, by rw [hw.1], hw.2⟩
    · cases h
theorem key_point_inv (v : Value) (kl : Lit) (h : keyOf Try.prog 29 v = some kl) : ∃ p : Pt, v = .agg (pv p) := by
  obtain ⟨xs, L, rfl, hl, _⟩ := keyOf_top (by kernel_rfl) h
  obtain ⟨m, hm⟩ := sizes
  rw [hm] at hl
  unfold Program.keyLits at hl
  simp only [Try.underlying29] at hl
  split at hl
  · next hc =>
    have h33 : xs.toList.length = 33 := hc.1.trans cells_point
    rw [Option.map_eq_some_iff] at hl
    obtain ⟨ys, hys, _⟩ := hl
    obtain ⟨L1, hL1⟩ := mapM_all hys { name := "Epoch", type := 22, offset := 0, embedded := false, tag := "", pkgPath := "", byteOffset := 0 } (by simp)
    obtain ⟨L2, hL2⟩ := mapM_all hys { name := "Name", type := 27, offset := 1, embedded := false, tag := "", pkgPath := "", byteOffset := 8 } (by simp)
    have hL1' : Try.prog.keyLits (m + 3) 22 ((xs.toList.drop 0).take (Try.prog.cellsOf 22)) = some L1 := hL1
    have hL2' : Try.prog.keyLits (m + 3) 27 ((xs.toList.drop 1).take (Try.prog.cellsOf 27)) = some L2 := hL2
    rw [cells_u64, List.drop_eq_getElem_cons (show 0 < xs.toList.length by omega)] at hL1'
    simp only [List.take_succ_cons, List.take_zero] at hL1'
    obtain ⟨e, he, hwe⟩ := lits_int_inv Try.underlying22 hL1'
    rw [cells_hash] at hL2'
    unfold Program.keyLits at hL2'
    simp only [Try.underlying27] at hL2'
    split at hL2'
    · rw [Option.map_eq_some_iff] at hL2'
      obtain ⟨zs, hzs, _⟩ := hL2'
      have hb : ∀ i, i < 32 → ∃ y : UInt8, xs.toList[i + 1]? = some (bv y) := fun i hi => by
        obtain ⟨L3, hL3⟩ := mapM_all hzs i (List.mem_range.2 hi)
        rw [cells_u8, Nat.mul_one, List.drop_eq_getElem_cons (show i < ((xs.toList.drop 1).take 32).length by simp; simp at h33; omega)] at hL3
        simp only [List.take_succ_cons, List.take_zero, List.getElem_take, List.getElem_drop] at hL3
        obtain ⟨n, hn, hwn⟩ := lits_int_inv Try.underlying5 hL3
        simp [Lit.wf, IntKind.min, IntKind.max, IntKind.signed, IntKind.bits] at hwn
        refine ⟨UInt8.ofNat n.toNat, ?_⟩
        rw [List.getElem?_eq_getElem (show i + 1 < xs.toList.length by omega)]
        simp only [Nat.add_comm 1 i] at hn
        rw [hn]
        unfold bv
        rw [UInt8.toNat_ofNat', Nat.mod_eq_of_lt (show n.toNat < 2 ^ 8 by omega)]
        congr 2
        omega
      simp [Lit.wf, IntKind.min, IntKind.max, IntKind.signed, IntKind.bits] at hwe
      refine ⟨⟨e.toNat, (List.range 32).map (fun i => if h : i < 32 then (hb i h).choose else 0), by omega, by simp⟩, ?_⟩
      congr 1
      apply Array.ext_getElem?
      intro i
      by_cases hi : i < 33
      · rw [show (pv _)[i]? = some _ from rowV_at 33 _ i hi, ← Array.getElem?_toList]
        cases i with
        | zero =>
          rw [List.getElem?_eq_getElem (by omega), he]
          show some (Value.int .u64 e) = some (Value.int .u64 ((e.toNat : Nat) : Int))
          congr 2
          omega
        | succ i =>
          rw [(hb i (by omega)).choose_spec]
          show _ = some (bv (List.getD _ i 0))
          rw [List.getD_eq_getElem?_getD, List.getElem?_map, List.getElem?_range (show i < 32 by omega)]
          simp only [Option.map_some, Option.getD_some]
          rw [dif_pos (show i < 32 by omega)]
      · rw [Array.getElem?_eq_none (by simp at h33; omega), Array.getElem?_eq_none (by rw [show (pv _).size = 33 from rowV_size _ _]; omega)]
    · cases hL2'
  · cases hl
def pts (L : List Pt) : List Value := L.flatMap pC
theorem pts_more (a : List Pt) (x : Pt) : pts a ++ pC x = pts (a ++ [x]) := by unfold pts; rw [List.flatMap_append]; simp
theorem pC_one (x : Pt) : ∀ v ∈ pC x, v.oneCell' = true := fun v hv => by
  unfold pC at hv
  obtain ⟨j, _, rfl⟩ := List.mem_map.1 hv
  exact pf_one _ _
theorem pts_len (L : List Pt) : (pts L).length = L.length * 33 := by
  induction L with
  | nil => rfl
  | cons x r ih => unfold pts at *; rw [List.flatMap_cons, List.length_append, pC_len, ih, List.length_cons]; omega
theorem pts_at (L : List Pt) (k j : Nat) (x : Pt) (hk : L[k]? = some x) (hj : j < 33) : (pts L)[k * 33 + j]? = (pC x)[j]? := by
  induction L generalizing k with
  | nil => simp at hk
  | cons y r ih =>
    unfold pts at *
    rw [List.flatMap_cons]
    cases k with
    | zero =>
      injection hk with hk
      subst hk
      rw [Nat.zero_mul, Nat.zero_add, List.getElem?_append_left (by rw [pC_len]; exact hj)]
    | succ k => rw [List.getElem?_append_right (by rw [pC_len]; omega), pC_len, show (k + 1) * 33 + j - 33 = k * 33 + j by omega, ih k hk]
theorem point_row {i : TypeInfo} (h : (Try.prog.info? 29) = some i) : i.zero = some (.agg (pv ptZ)) ∧ i.size = 33 ∧ i.bytes = 40 := by
  have : (Try.prog.info? 29).map (fun i => (i.zero, i.size, i.bytes)) = some (some (.agg (pv ptZ)), 33, 40) := by kernel_rfl
  rw [h] at this
  injection this with this
  injection this with h1 h2
  injection h2 with h2 h3
  exact ⟨h1, h2, h3⟩
theorem zero_pt (u : World) : (zeroValue 29).run Try.prog u = .ok (.agg (pv ptZ)) u := by kernel_rfl
theorem one_point (x : Pt) (u : World) : (Instr.buildSlice 38 1 #[(0, .agg (pv x))]).run Try.prog u = .ok (.slice (some ⟨u.heap.size, 0, none⟩) 1 1) (u.alloc (.cells (pv x) 29)) := by
  have hie : Try.prog.info? 29 = some ((Try.prog.info? 29).get (by kernel_rfl)) := (Option.some_get _).symm
  refine run_buildSlice u _ 29 1 _ (pv x) _ _ Try.underlying38 hie (Option.some_get (by kernel_rfl)).symm (by decide +kernel) (by decide +kernel) ?_
  kernel_rfl
theorem own_point (x : Pt) (u : World) : (u.alloc (.cells (pv x) 29)).ownsRow 0 29 33 (.slice (some ⟨u.heap.size, 0, none⟩) 1 1) 1 (pC x) := by
  refine ⟨by rw [pC_len], .inr ⟨u.heap.size, 1, pv x, rfl, Nat.zero_le _, heap_alloc_new u _, Nat.le_refl _, by unfold maxLen; omega, by rw [show (pv x).size = 33 from rowV_size _ _], ?_⟩⟩
  show ((rowV 33 (pf x)).toList).take 33 = _
  rw [rowV_list, List.take_of_length_le (by simp)]
  rfl
theorem wpList_append_row {P : Program} {w : World} {ops : Array Oper} {rest : List Oper} {o : Oper} {a : Act} {Q : Exit → Act → World → Prop} (hgd : o.guard = none) (s x : Operand) (t : TypeId)
    (ho : o.op = .call { callee := .builtin .append, args := #[s, x], argTypes := #[t, t] })
    (base : Nat) (e : TypeId) (i : TypeInfo) (z : Value) (size bytes : Nat) (ht : P.underlying t = some (.slice e)) (hi : P.info? e = some i) (hz : i.zero = some z)
    (hsize : i.size = size) (hby : i.bytes = bytes) (hzs : z.cells.size = size) (hsz : 0 < size)
    (v : Value) (n : Nat) (xs : List Value) (hs : a.eval s = v) (hown : w.ownsRow base e size v n xs)
    (base2 : Nat) (v2 : Value) (m : Nat) (ys : List Value) (hx : a.eval x = v2) (hown2 : w.ownsRow base2 e size v2 m ys) (h1 : ∀ u ∈ ys, u.oneCell' = true)
    (h63 : n + m ≤ maxLen) (hbytes : (n + m) * bytes ≤ 140737488355328) (hbase : base ≤ w.heap.size)
    (h : ∀ v' w', w'.ownsRow base e size v' (n + m) (xs ++ ys) → w.grownBy w' v.ownBlock → (v'.ownBlock = v.ownBlock ∨ v'.ownBlock = some w.heap.size) → wpList P ops Q rest (a.put o.dst v') w') : wpList P ops Q (o :: rest) a w :=
  wpList_plain hgd fun _ hK => by
    obtain ⟨v', w', hrun, h2, h3, h5⟩ := run_append_row (P := P) w base t o.type e i z size bytes ht hi hz hsize hby hzs hsz v n xs hown base2 v2 m ys hown2 h1 h63 hbytes hbase
    unfold Oper.wp execOp
    simp only [ho, resolve, invoke, builtin, Sem.run_bind, Sem.run_pure, Result.andThen_ok, List.map_toArray, List.map_cons, List.map_nil, hs, hx, hrun]
    exact hK _ _ (h v' w' h2 h3 h5)
theorem klP_self (p : Pt) : (klP p).sameKey (klP p) = true := by
  obtain ⟨xs, L, _, _, e⟩ := keyOf_top (by kernel_rfl) (keyP.at_ p)
  rw [e]
  simp [Lit.sameKey]
theorem klP_same (p q : Pt) : (klP p).sameKey (klP q) = decide (p = q) := by
  by_cases h : p = q
  · subst h
    rw [klP_self, decide_eq_true rfl]
  · rw [decide_eq_false h]
    exact Maps.sameKey_ne (keyP.ne h)
/-- A range over those that stand, under way. -/
def AllR (bs r n least : Nat) (S : FgS) (D : DataW Value) (w : World) (cnt : Nat) (v5 : Value) (u : World) : Prop :=
  ∃ (left : Lit → Bool) (Lp : List Pt), u.ranges Try.prog 29 heldR bs r n D left cnt ∧ (∀ p, p ∈ Lp ↔ least ≤ stN S.stands p ∧ left (klP p) = false) ∧ u.ownsRow (w.heap.size + 1) 29 33 v5 Lp.length (pts Lp) ∧ Below w.heap.size w u ∧ Lp.length + cnt ≤ n ∧ w.heap.size + 1 ≤ u.heap.size
set_option maxRecDepth 1000000 in
set_option maxHeartbeats 8000000 in
theorem all_c (w : World) (s bt bs bw n least : Nat) (vl : Value) (hd : Pt → Option Value) (F : Nat → Prop) (S : FgS) (h : FgB s bt bs bw vl hd F S n w) (hl : 1 ≤ least) (hn : n ≤ 1000000000) :
    Calls Try.prog 49 #[.pointer (some ⟨s, 0, none⟩), .int .i64 (least : Int)] w fun e w' => ∃ A c Lp, e = .returned (.slice A Lp.length c) ∧ (∀ p, p ∈ Lp ↔ least ≤ stN S.stands p) ∧ w'.ownsRow (w.heap.size + 1) 29 33 (.slice A Lp.length c) Lp.length (pts Lp) ∧ Below w.heap.size w w' ∧ Lp.length ≤ n := by
  obtain ⟨i0, hi0⟩ : ∃ i0, Try.prog.info? 29 = some i0 := ⟨_, (Option.some_get (by kernel_rfl)).symm⟩
  obtain ⟨hz0, hz1, hz2⟩ := point_row hi0
  have hzp := zero_pt
  have c2 : w.cell? ⟨s, 2, none⟩ = some (.map (some bs)) := cell_of_row w s 2 _ _ (0, 0) h.cells
  have hbs := h.fin bs h.foot.2.2.1
  obtain ⟨D, hown, hD⟩ := h.stands.tight
  have hsz := h.stands.size
  have hDs : Maps.size D ≤ n := Nat.le_trans hown.size_le hsz
  have hno : ∀ p, stN S.stands p = 0 ∨ Maps.has D (klP p) = true := fun p => by
    have e := has_f keyP hD p
    cases hs : S.stands p with
    | none => exact .inl (by unfold stN; rw [hs]; rfl)
    | some v => exact .inr (by rw [e]; unfold stF; rw [hs]; rfl)
  have HNO := Lib.hid hno
  have HDD := Lib.hid hD
  have HOWN := Lib.hid hown
  clear hno hD h
  go_enter Try.func49, Try.ntmps49
  go_wp2_with (first
    | (at_range; refine wpList_range_own _ rfl (.tmp 11) 70 rfl 29 _ keyP.law Try.underlying70 heldR bs (mapSize w bs) D rfl HOWN.out ?_; intro w0 hrg0 hg0 hs0; go_frame)
    | fail)
  go_loopw [5] (fun v5 u => ∃ cnt, AllR bs w.heap.size (mapSize w bs) least S D w cnt v5 u) (fun _ u => u.rangeLeft bs w.heap.size)
  case atStart =>
    have h0 : ∀ p, p ∈ ([] : List Pt) ↔ least ≤ stN S.stands p ∧ Maps.has D (klP p) = false := fun p => by
      constructor
      · intro h
        cases h
      · rintro ⟨h1, h2⟩
        rcases HNO.out p with e | e
        · omega
        · rw [h2] at e
          cases e
    have h1 := HOWN.out.size_le
    exact ⟨Maps.size D, Maps.has D, [], hrg0, h0, ⟨rfl, .inl ⟨rfl, rfl⟩⟩, (Below.refl _ _).grown hg0 (Nat.le_refl _) (fun k e => by cases e), by simpa using h1, by omega⟩
  case round =>
    obtain ⟨cnt, left, Lp, q1, q2, q3, q4, q5, q6⟩ := hrel
    obtain ⟨A5, c5, rfl, _, _, _⟩ := ownForm q3
    have Q1 := Lib.hid q1
    have Q2 := Lib.hid q2
    have Q3 := Lib.hid q3
    have Q4 := Lib.hid q4
    clear q1 q2 q3 q4
    go_wp2_with (first
      | (at_next; refine wpList_next_ranges _ rfl (.tmp 12) rfl 29 keyP.law heldR (fun p : Pt => Value.agg (pv p)) (fun v : Value => v) key_point_inv (fun v y _ => ⟨v, rfl⟩) bs w.heap.size (mapSize w bs) D left cnt rfl Q1.out ?_ ?_)
      | fail)
    · intro h0 hl0
      go_wp2_with fail
      go_ret
      exact ⟨A5, c5, Lp, rfl, fun p => ⟨fun hp => ((Q2.out p).1 hp).1, fun hp => (Q2.out p).2 ⟨hp, hl0 _⟩⟩, Q3.out, Q4.out, by omega⟩
    · intro x c kl ya yb w1 cnt1 hkey hlk hv hat hrg1 hlt hg1 hs1 hen
      have ekl : kl = klP x := by
        have e := keyP.at_ x
        rw [hkey] at e
        injection e
      subst ekl
      have hvv : ∃ v, S.stands x = some v ∧ c = .int .i64 (v : Int) := by
        have e1 : ya = .held c := by
          unfold heldR at hv
          injection hv with hv
          injection hv with hv _
          exact hv.symm
        subst e1
        have e2 := hat .nil
        rw [HDD.out] at e2
        unfold stF at e2
        cases hs : S.stands x with
        | none => rw [hs] at e2; cases e2
        | some v =>
          rw [hs] at e2
          injection e2 with e2
          exact ⟨v, rfl, e2.symm⟩
      obtain ⟨v, hsv, rfl⟩ := hvv
      have hst : stN S.stands x = v := by unfold stN; rw [hsv]; rfl
      have hrs : w.heap.size + 1 ≤ wr.heap.size := q6
      have own1 : ∀ k, (Value.slice A5 Lp.length c5).ownBlock = some k → w.heap.size + 1 ≤ k := fun k e => (Q3.out.lt k e).1
      have OW1 := Lib.hid own1
      have R1 := Lib.hid hrg1
      have B1 := Lib.hid (Q4.out.grown hg1 Q4.out.size (fun k e => by injection e with e; omega))
      have O1 := Lib.hid (ownKeep Q3.out (fun g hg => hg1.block g (Q3.out.lt g hg).2 (fun e => by injection e with e; have := own1 g hg; omega)))
      obtain ⟨u1, hu1⟩ : ∃ u1, u1 = w1.alloc (.cells (pv x) 29) := ⟨_, rfl⟩
      have b1 : Below w1.heap.size w1 u1 := by rw [hu1]; exact (Below.refl _ _).alloc (Nat.le_refl _) _
      have X1 : Hid (PkB w1.heap.size x u1) := by rw [hu1]; exact PkB.new
      have R2 : Hid (u1.ranges Try.prog 29 heldR bs w.heap.size (mapSize w bs) D (fun z => left z && !z.sameKey (klP x)) cnt1) := by rw [hu1]; exact hrg1.alloc _
      have B2 := Lib.hid (B1.out.trans (b1.mono B1.out.size))
      have O2 := Lib.hid (ownKeep O1.out (fun g hg => b1.block g (O1.out.lt g hg).2))
      have HU1 := Lib.hid hu1
      have L2 := Lib.hid (show w.heap.size + 1 ≤ u1.heap.size by have := b1.size; omega)
      have LK := Lib.hid (show ∀ p, (fun z => left z && !z.sameKey (klP x)) (klP p) = false ↔ (left (klP p) = false ∨ p = x) from fun p => by
        show (left (klP p) && !(klP p).sameKey (klP x)) = false ↔ _
        rw [klP_same]
        cases left (klP p) <;> simp)
      have HST := Lib.hid hst
      have HEN := Lib.hid hlt
      clear hkey hlk hv hat hrg1 hg1 hs1 b1 hu1 own1 hsv hst
      by_cases hle : least ≤ v
      · have d1 : decide ((v : Int) ≥ (least : Int)) = true := by simp; omega
        have d2 : decide ((least : Int) ≤ (v : Int)) = true := by simp; omega
        obtain ⟨u2, hu2⟩ : ∃ u2, u2 = u1.alloc (.cells (pv x) 29) := ⟨_, rfl⟩
        have b2 : Below u1.heap.size u1 u2 := by rw [hu2]; exact (Below.refl _ _).alloc (Nat.le_refl _) _
        have hb2 : (Instr.buildSlice 38 1 #[(0, .agg (pv x))]).run Try.prog u1 = .ok (.slice (some ⟨u1.heap.size, 0, none⟩) 1 1) u2 := by rw [hu2]; exact one_point x u1
        have N2 : Hid (u2.ownsRow 0 29 33 (.slice (some ⟨u1.heap.size, 0, none⟩) 1 1) 1 (pC x)) := by rw [hu2]; exact own_point x u1
        have R3 : Hid (u2.ranges Try.prog 29 heldR bs w.heap.size (mapSize w bs) D (fun z => left z && !z.sameKey (klP x)) cnt1) := by rw [hu2]; exact R2.out.alloc _
        have B3 := Lib.hid (B2.out.trans (b2.mono B2.out.size))
        have O3 := Lib.hid (ownKeep O2.out (fun g hg => b2.block g (O2.out.lt g hg).2))
        have L3 := Lib.hid (show w.heap.size + 1 ≤ u2.heap.size by have := b2.size; have := L2.out; omega)
        have x1 := X1.out.row
        clear b2 hu2
        go_wp2_with (first
          | (refine wpList_store_row rfl 29 (.tmp 6) (.tmp 16) rfl w1.heap.size (pv x) rfl rfl 29 (pv ptZ) (heap_alloc_new w1 _) (size_pv x) (by rw [show (pv x).size = 33 from rowV_size _ _]; exact rowV_size _ _) (rowV_one 33 _ (pf_one x)) ?_; rw [World.setRow_alloc_new]; rw [← HU1.out])
          | (refine wpList_load_row rfl 29 (.tmp 6) rfl w1.heap.size rfl 29 (pv x) (0, 0) _ x1 Try.underlying29 rfl (size_pv x) ?_)
          | (refine wpList_buildSlice_row (v := .slice (some ⟨u1.heap.size, 0, none⟩) 1 1) (w' := u2) rfl 38 1 #[(0, .tmp 22)] rfl ?hr ?_; case hr => (simp only [List.map_toArray, List.map_cons, List.map_nil]; exact hb2))
          | (at_builtin; refine wpList_append_row rfl (.tmp 21) (.tmp 23) 38 rfl (w.heap.size + 1) 29 i0 _ 33 40 Try.underlying38 hi0 hz0 hz1 hz2 (by show (pv ptZ).size = 33; exact rowV_size _ _) (by decide) (.slice A5 Lp.length c5) Lp.length (pts Lp) rfl O3.out 0 _ 1 (pC x) rfl N2.out (pC_one x) (by unfold maxLen; omega) (by omega) L3.out ?_; intro v' w3 o3 g3 b3; rw [pts_more] at o3)
          | fail)
        have hb : ∀ k, (Value.slice A5 Lp.length c5).ownBlock = some k → w.heap.size + 1 ≤ k := OW1.out
        refine ⟨⟨cnt1, _, Lp ++ [x], R3.out.kept g3 (fun e => by have := hb bs e.symm; omega) (fun e => by have := hb _ e.symm; omega), fun p => ?_, by rw [List.length_append]; exact o3, B3.out.grown g3 B3.out.size (fun k e => by have := hb k e; omega), by rw [List.length_append, List.length_singleton]; have := HEN.out; omega, by have := g3.size; have := L3.out; omega⟩, ?_⟩
        · rw [LK.out p, List.mem_append, List.mem_singleton, Q2.out p]
          constructor
          · rintro (⟨h1, h2⟩ | rfl)
            · exact ⟨h1, .inl h2⟩
            · exact ⟨by rw [HST.out]; exact hle, .inr rfl⟩
          · rintro ⟨h1, h2 | h2⟩
            · exact .inl ⟨h1, h2⟩
            · exact .inr h2
        · rw [(R3.out.kept g3 (fun e => by have := hb bs e.symm; omega) (fun e => by have := hb _ e.symm; omega)).left_eq, Q1.out.left_eq]
          exact HEN.out
      · have d1 : decide ((v : Int) ≥ (least : Int)) = false := by simp; omega
        have d2 : decide ((least : Int) ≤ (v : Int)) = false := by simp; omega
        go_wp2_with (first
          | (refine wpList_store_row rfl 29 (.tmp 6) (.tmp 16) rfl w1.heap.size (pv x) rfl rfl 29 (pv ptZ) (heap_alloc_new w1 _) (size_pv x) (by rw [show (pv x).size = 33 from rowV_size _ _]; exact rowV_size _ _) (rowV_one 33 _ (pf_one x)) ?_; rw [World.setRow_alloc_new]; rw [← HU1.out])
          | fail)
        refine ⟨⟨cnt1, _, Lp, R2.out, fun p => ?_, O2.out, B2.out, by have := HEN.out; omega, L2.out⟩, ?_⟩
        · rw [LK.out p, Q2.out p]
          constructor
          · rintro ⟨h1, h2⟩
            exact ⟨h1, .inl h2⟩
          · rintro ⟨h1, h2 | rfl⟩
            · exact ⟨h1, h2⟩
            · rw [HST.out] at h1
              exact absurd h1 hle
        · rw [R2.out.left_eq, Q1.out.left_eq]
          exact HEN.out
end Go.Proofs.Ythlbpjkopkicbaa
