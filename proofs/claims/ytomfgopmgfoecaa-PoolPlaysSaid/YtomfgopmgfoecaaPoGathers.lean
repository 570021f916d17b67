/- Pool: For, Of and All: their closures and what they gather. -/
import Derived.Test.YtomfgopmgfoecaaPoRLinks
import Derived.Shelf.Abstract
import Derived.BigFrame
import Derived.Test.YtomfgopmgfoecaaMem
import Derived.RangeFuncNested
import Derived.RangeFuncCalls
import Derived.RangeFuncFrom
import Derived.RangeFuncWrites
import Derived.RangeFuncBound
import Derived.RangeFuncLeaves
import Derived.OwnWalkIn
import Derived.TacticsInMore
import Derived.LoopNIn
import Derived.LoopIn
import Derived.Sort.CutIn
namespace Go.Proofs.Ytomfgopmgfoecaa
open Go.ChangeMaps Go.MapKept Go.Maps Go.RowKit Go.ChangeShapes Go.WideShapes Go.ChangeAt Go.Shelf
set_option linter.unusedVariables false
set_option maxRecDepth 100000

set_option maxHeartbeats 8000000 in
theorem gather_c {w : World} (s bv nV cv : Nat) (Ay : Option Addr) (cy : Nat) (Ps : List Nat) (X : List Sv) (n : Nat) (hn : n = Ps.length) (hX : n = X.length) (hn9 : n ≤ 100000) (fid : Nat) (cb : Array Value)
    (eg : ∀ args w, (callFunc fid args).run Try.prog w = .ok (.enter fid args) w) (J : List Sv → World → Prop) (h0 : J [] w)
    (hv : ∀ (i p : Nat) v, Ps[i]? = some p → X[i]? = some v → ∀ Y u, J Y u → u.cell? ⟨s, 0, none⟩ = some (.slice (some ⟨bv, 0, none⟩) nV cv) ∧ p < nV ∧ v.s.length ≤ 140737488355328 ∧ ∃ B c, u.rangeAt bv (p * 101) (sgC (v.sg B c)) ∧ Rd u 0 u.heap.size B v.s)
    (hp : ∀ (i p : Nat), Ps[i]? = some p → ∀ Y u, J Y u → ∃ bp, Ay = some ⟨bp, 0, none⟩ ∧ u.cell? ⟨bp, i, none⟩ = some (.int .i64 (p : Int)))
    (hb : ∀ Y u u', J Y u → Below u.heap.size u u' → J Y u')
    (hf : ∀ Y u v B c, Y.length < n → J Y u → Ow u 0 B v.s → v.s.length ≤ c → Calls Try.prog fid (#[.agg (sgv (v.sg B c))] ++ cb) u fun e w' => e = .returned (.tuple #[]) ∧ J (Y ++ [v]) w') :
    Calls Try.prog 33 #[.pointer (some ⟨s, 0, none⟩), .slice Ay n cy, .func (.func fid) #[] cb] w fun e w' => e = .returned (.tuple #[]) ∧ J X w' := by
  have HV := Lib.hid hv
  have HP := Lib.hid hp
  have HB := Lib.hid hb
  have HF := Lib.hid hf
  have H0 := Lib.hid h0
  have HN := Lib.hid (And.intro hn hX)
  clear hv hp hb hf h0 hn hX
  go_enter Try.func33, Try.ntmps33
  go_wp2_with fail
  go_loopw [10] (fun v10 u => ∃ i : Nat, i ≤ n ∧ v10 = .int .i64 (i : Int) ∧ J (X.take i) u) (fun v10 _ => n - (intOf v10).toNat)
  case atStart => exact ⟨0, Nat.zero_le _, rfl, by rw [List.take_zero]; exact H0.out⟩
  case round =>
    obtain ⟨i, hi, rfl, j⟩ := hrel
    have HJ := Lib.hid j
    clear j
    by_cases hin : i < n
    · obtain ⟨p, hp⟩ : ∃ p, Ps[i]? = some p := ⟨_, List.getElem?_eq_getElem (by have := HN.out.1; omega)⟩
      obtain ⟨v, hv⟩ : ∃ v, X[i]? = some v := ⟨_, List.getElem?_eq_getElem (by have := HN.out.2; omega)⟩
      obtain ⟨bp, rfl, c1⟩ := HP.out i p hp _ _ HJ.out
      obtain ⟨c2, hpn, hl, B, c, hx, rd⟩ := HV.out i p v hp hv _ _ HJ.out
      have HX := Lib.hid (show X.take (i + 1) = X.take i ++ [v] by rw [List.take_add_one, hv]; rfl)
      have CL := Lib.hid (cloneSigned_c (v.sg B c) B c v.s wr rfl rd hl)
      have q1 : (p : Int) < (nV : Int) := by omega
      have q2 : (i : Int) < (n : Int) := by omega
      obtain ⟨x, hxe⟩ : ∃ x, x = v.sg B c := ⟨_, rfl⟩
      rw [← hxe] at hx CL
      have HXE := Lib.hid hxe
      clear hp hv rd hl hxe
      go_wp2_with (first
        | (refine wpList_load_mid rfl 42 (.tmp 20) rfl bv (p * 101) (by go_simp) (sgC x) _ hx Try.underlying42 rfl (by rw [sgC_len]; exact size_sg) ?_; rw [sgC_arr])
        | fail)
      refine CL.out.mono ?_
      rintro e w2 ⟨A', c', rfl, hcap, ow, b2⟩
      have HF2 := Lib.hid (HF.out (X.take i) w2 v A' c' (by rw [List.length_take, ← HN.out.2]; omega) (HB.out _ _ _ HJ.out b2) (ow.wide (Nat.zero_le _)) hcap)
      have HE := Lib.hid (show withSig x (.slice A' v.s.length c') = v.sg A' c' by rw [HXE.out]; rfl)
      rw [HE.out]
      clear hcap ow b2 c1 c2 hx
      go_wp2_with (first
        | (go_at_fn fid; refine HF2.out.mono ?_; rintro e w3 ⟨rfl, j3⟩)
        | fail)
      exact ⟨⟨i + 1, by omega, by go_num, by rw [HX.out]; exact j3⟩, by simp [intOf]; omega⟩
    · obtain rfl : i = n := by omega
      have HJ2 := Lib.hid (show J X wr by have := HJ.out; rwa [HN.out.2, List.take_length] at this)
      go_wp2_with fail
      exact bodyPost_end (results_none rfl _ _ _) rfl ⟨rfl, HJ2.out⟩
end Go.Proofs.Ytomfgopmgfoecaa
namespace Go.Proofs.Ytomfgopmgfoecaa
open Go.Shelf Go.ChangeMaps Go.MapKept Go.Maps Go.RowKit Go.ChangeShapes Go.WideShapes Go.ChangeAt
set_option linter.unusedVariables false
set_option maxRecDepth 100000

theorem kinds_ne {a b : Array Value} {t t' : TypeId} {m m' : Nat × Nat} (ht : t ≠ t') (h : some (Obj.cells a t m) = some (Obj.cells b t' m')) : False := by
  injection h with h
  injection h with _ h2
  exact ht h2
theorem grown_box {w w' : World} {base sz n g : Nat} {t t' : TypeId} {v : Value} {xs : List Value} {cs : Array Value} (hg : w.grownBy w' v.ownBlock) (ho : w.ownsRow base t sz v n xs) (hb : w.heap[g]? = some (.cells cs t' (0, 0))) (hl : g < w.heap.size) (ht : t' ≠ t) : w'.heap[g]? = some (.cells cs t' (0, 0)) :=
  (hg.block g hl (fun e => by
    obtain ⟨cur, hcur⟩ := ownCells ho e.symm
    exact kinds_ne ht (hb.symm.trans hcur))).trans hb
theorem Ow.other {u u' : World} {B : Option Addr} {l : List UInt8} (h : Ow u 0 B l) (hk : ∀ (b : Nat) (cur : Array Value), u.heap[b]? = some (.cells cur 5 (0, 0)) → u'.heap[b]? = u.heap[b]?) (hs : u.heap.size ≤ u'.heap.size) : Ow u' 0 B l := fun hn => by
  obtain ⟨b, cur, e, h1, h2, hh, hc⟩ := h hn
  exact ⟨b, cur, e, h1, Nat.lt_of_lt_of_le h2 hs, (hk b cur hh).trans hh, hc⟩
/-- What the closure of For has gathered: in a box, a row of its own; the signatures in memory that nobody turns. -/
def JF (gb : Nat) (W0 : World) (Y : List Sv) (u : World) : Prop :=
  Below gb W0 u ∧ gb < u.heap.size ∧ ∃ A c Xs, u.heap[gb]? = some (.cells #[.slice A Y.length c] 22 (0, 0)) ∧ u.ownsRow gb 42 101 (.slice A Y.length c) Y.length (rws sgC Xs) ∧ Xs.length = Y.length ∧ ∀ (i : Nat) v, Y[i]? = some v → ∃ B d, Xs[i]? = some (v.sg B d) ∧ Ow u 0 B v.s
theorem JF.below {gb : Nat} {W0 u u' : World} {Y : List Sv} (h : JF gb W0 Y u) (hb : Below u.heap.size u u') : JF gb W0 Y u' := by
  obtain ⟨h1, h2, A, c, Xs, h3, h4, h5, h6⟩ := h
  refine ⟨h1.trans (hb.mono (Nat.le_of_lt h2)), Nat.lt_of_lt_of_le h2 hb.size, A, c, Xs, (hb.block gb h2).trans h3, ownKeep h4 (fun g hg => hb.block g (h4.lt g hg).2), h5, fun i v hv => ?_⟩
  obtain ⟨B, d, e1, e2⟩ := h6 i v hv
  exact ⟨B, d, e1, e2.below hb (Nat.le_refl _)⟩
theorem JF.svs {gb : Nat} {W0 u : World} {Y : List Sv} (h : JF gb W0 Y u) : ∃ A c, u.cell? ⟨gb, 0, none⟩ = some (.slice A Y.length c) ∧ SvsAt u A Y := by
  obtain ⟨h1, h2, A, c, Xs, h3, h4, h5, h6⟩ := h
  refine ⟨A, c, cell_of_row u gb 0 _ _ (0, 0) h3, fun w hw i v hv => ?_⟩
  obtain ⟨B, d, e1, e2⟩ := h6 i v hv
  have hi := (List.getElem?_eq_some_iff.1 hv).1
  obtain ⟨g, rfl⟩ : ∃ g, A = some ⟨g, 0, none⟩ := by
    rcases h4.2 with ⟨e, h0⟩ | ⟨g, cap, cur, e, _⟩
    · omega
    · injection e with e1 _ _
      exact ⟨g, e1⟩
  have hr := rws_cells (n := 101) (c := sgC) (LL := Xs) (base := gb) (cap := c) sgC_len (by rw [h5]; exact h4) e1
  have hg := (h4.lt g rfl).2
  refine ⟨g, 0, B, d, rfl, fun j x hx => ?_, (e2.rd.wide (Nat.zero_le _) (Nat.le_refl _)).below hw (Nat.le_refl _) |>.wide (Nat.le_refl _) hw.size⟩
  rw [Nat.zero_add]
  exact (hw.cell (p := ⟨g, i * 101 + j, none⟩) hg).trans (hr j x hx)
set_option maxHeartbeats 8000000 in
theorem for1_c {gb : Nat} {W0 u : World} {Y : List Sv} (h : JF gb W0 Y u) (hY : Y.length < 100000) (v : Sv) (B : Option Addr) (c : Nat) (ho : Ow u 0 B v.s) : Calls Try.prog 41 #[.agg (sgv (v.sg B c)), .pointer (some ⟨gb, 0, none⟩)] u fun e w' => e = .returned (.tuple #[]) ∧ JF gb W0 (Y ++ [v]) w' := by
  obtain ⟨h1, h2, A, ca, Xs, h3, h4, h5, h6⟩ := h
  obtain ⟨i0, hi0⟩ : ∃ i0, Try.prog.info? 42 = some i0 := ⟨_, (Option.some_get (by kernel_rfl)).symm⟩
  obtain ⟨hz0, hz1, hz2⟩ := sg_row hi0
  obtain ⟨x, hx⟩ : ∃ x, x = v.sg B c := ⟨_, rfl⟩
  have HXE := Lib.hid hx
  rw [← hx]
  obtain ⟨u1, hu1⟩ : ∃ u1, u1 = u.alloc (.cells (sgv x) 42) := ⟨_, rfl⟩
  obtain ⟨u2, hu2⟩ : ∃ u2, u2 = u1.alloc (.cells (sgv x) 42) := ⟨_, rfl⟩
  have b1 : Below u.heap.size u u1 := by rw [hu1]; exact (Below.refl _ _).alloc (Nat.le_refl _) _
  have b2 : Below u1.heap.size u1 u2 := by rw [hu2]; exact (Below.refl _ _).alloc (Nat.le_refl _) _
  have b12 := b1.trans (b2.mono b1.size)
  have X1 : u1.heap[u.heap.size]? = some (.cells (sgv x) 42 (0, 0)) := by rw [hu1]; exact heap_alloc_new u _
  have c1 : u1.cell? ⟨gb, 0, none⟩ = some (.slice A Y.length ca) := cell_of_row u1 gb 0 _ _ (0, 0) ((b1.block gb h2).trans h3)
  have hsv : x.sv = .slice B v.s.length c := by rw [hx]; rfl
  have hb2 : (Instr.buildSlice 22 1 #[(0, .agg (sgv x))]).run Try.prog u1 = .ok (.slice (some ⟨u1.heap.size, 0, none⟩) 1 1) u2 := by rw [hu2]; exact one_sg x hsv u1
  have N2 : Hid (u2.ownsRow 0 42 101 (.slice (some ⟨u1.heap.size, 0, none⟩) 1 1) 1 (sgC x)) := by rw [hu2]; exact own_sg x u1
  have O2 := Lib.hid (ownKeep h4 (fun g hg => b12.block g (h4.lt g hg).2))
  have HU1 := Lib.hid hu1
  have L2 := Lib.hid (show gb ≤ u2.heap.size by have := b12.size; omega)
  have R2 := Lib.hid ((b12.block gb h2).trans h3)
  have GL := Lib.hid (show gb < u2.heap.size by have := b12.size; omega)
  have BB := Lib.hid b12
  have ONE := Lib.hid (show ∀ y ∈ sgC x, y.oneCell' = true from sgC_one x (by rw [hsv]; rfl))
  have HH := Lib.hid (And.intro h1 (And.intro h2 (And.intro h5 h6)))
  have HO := Lib.hid ho
  obtain ⟨m, hm⟩ : ∃ m, m = Y.length := ⟨_, rfl⟩
  have HM := Lib.hid hm
  rw [← hm] at c1 O2 R2
  have m9 : m < 100000 := by omega
  clear hx hu2 b1 b2 b12 h1 h2 h3 h4 h5 h6 hsv ho hm hY hu1
  go_enter Try.func41, Try.ntmps41
  go_upto_region 1 with fail
  rw [← HU1.out]
  go_wp2_with (first
    | (refine wpList_load_row rfl 42 (.tmp 2) rfl u.heap.size rfl 42 (sgv x) (0, 0) _ X1 Try.underlying42 rfl (size_sgv x) ?_)
    | (refine wpList_buildSlice_row (v := .slice (some ⟨u1.heap.size, 0, none⟩) 1 1) (w' := u2) rfl 22 1 #[(0, .tmp 4)] rfl ?hr ?_; case hr => (simp only [List.map_toArray, List.map_cons, List.map_nil]; exact hb2))
    | (at_builtin; refine wpList_append_row rfl (.tmp 3) (.tmp 5) 22 rfl gb 42 i0 _ 101 152 Try.underlying22 hi0 hz0 hz1 hz2 (by show (sgv sgZ).size = 101; exact rowV_size _ _) (by decide) (.slice A m ca) m (rws sgC Xs) rfl O2.out 0 _ 1 (sgC x) rfl N2.out ONE.out (by unfold maxLen; omega) (by omega) L2.out ?_; intro v' w3 o3 g3 b3; rw [rws_more] at o3; obtain ⟨A6, c6, rfl, _, _, _⟩ := ownForm o3; have r3 := grown_box g3 O2.out R2.out GL.out (by decide); have R3 := Lib.hid r3; have c3 : w3.cell? ⟨gb, 0, none⟩ = some (.slice A m ca) := cell_of_row w3 gb 0 _ _ (0, 0) r3; have f3 : w3.frozen? ⟨gb, 0, none⟩ = false := (by simp [World.frozen?, r3]); have O3 := Lib.hid o3; have G3 := Lib.hid g3; clear o3 g3 b3 r3)
    | fail)
  refine bodyPost_end (results_none rfl _ _ _) rfl ⟨rfl, ?_⟩
  have sz := G3.out.size
  have szu := BB.out.size
  obtain ⟨k1, k2, k5, k6⟩ := HH.out
  have off : ∀ (b : Nat) (cur : Array Value), u.heap[b]? = some (.cells cur 5 (0, 0)) → (w3.setCell ⟨gb, 0, none⟩ (.slice A6 (m + 1) c6)).heap[b]? = u.heap[b]? := fun b cur hb => by
    have hlt := Array.getElem?_eq_some_iff.1 hb |>.1
    have hu2 : u2.heap[b]? = u.heap[b]? := BB.out.block b hlt
    have n1 : b ≠ gb := fun e => by
      subst e
      have := R2.out
      rw [hu2, hb] at this
      exact kinds_ne (by decide) this
    rw [setCell_off 0 n1, G3.out.block b (by omega) (fun e => by
      obtain ⟨cur2, hcur⟩ := ownCells O2.out e.symm
      rw [hu2, hb] at hcur
      exact kinds_ne (by decide) hcur), hu2]
  have lenY : (Y ++ [v]).length = m + 1 := by rw [List.length_append, HM.out]; rfl
  refine ⟨?_, by rw [setCell_size]; omega, A6, c6, Xs ++ [x], ?_, ?_, by rw [List.length_append, List.length_append, k5]; rfl, fun i y hy => ?_⟩
  · have q1 : Below gb W0 w3 := Below.grown (k1.trans (BB.out.mono (Nat.le_of_lt k2))) G3.out L2.out (fun k e => (O2.out.lt k e).1)
    exact q1.setCell (Nat.le_refl _) _
  · rw [lenY]
    exact setCell_heap R3.out 0
  · rw [lenY]
    exact ownKeep O3.out (fun g hg => setCell_off 0 (fun e => by
      subst e
      obtain ⟨cur2, hcur⟩ := ownCells O3.out hg
      rw [R3.out] at hcur
      exact kinds_ne (by decide) hcur))
  · rcases Nat.lt_or_ge i Y.length with hi | hi
    · rw [List.getElem?_append_left hi] at hy
      obtain ⟨B1, d1, e1, e2⟩ := k6 i y hy
      exact ⟨B1, d1, by rw [List.getElem?_append_left (by omega)]; exact e1, e2.other off (by rw [setCell_size]; omega)⟩
    · have hlt := (List.getElem?_eq_some_iff.1 hy).1
      rw [List.length_append, List.length_singleton] at hlt
      obtain rfl : i = Y.length := by omega
      rw [List.getElem?_append_right (Nat.le_refl _), Nat.sub_self] at hy
      injection hy with hy
      subst hy
      refine ⟨B, c, ?_, HO.out.other off (by rw [setCell_size]; omega)⟩
      rw [List.getElem?_append_right (by omega), k5, Nat.sub_self, HXE.out]
      rfl
end Go.Proofs.Ytomfgopmgfoecaa
namespace Go.Proofs.Ytomfgopmgfoecaa
open Go.Shelf Go.ChangeMaps Go.MapKept Go.Maps Go.RowKit Go.ChangeShapes Go.WideShapes Go.ChangeAt
set_option linter.unusedVariables false
set_option maxRecDepth 100000

set_option maxRecDepth 1000000 in
set_option maxHeartbeats 8000000 in
theorem for_c {base ga : Nat} {F X : Nat → Prop} {S : PoS} {V : List Sg} {M : List Sv} {w : World} (hp : PoM ga F S w) (ht : Told base X S V M w) (hs : base ≤ w.heap.size) (l : Lk) (hM : M.length ≤ 65536) : Calls Try.prog 23 #[.pointer (some ⟨ga, 0, none⟩), .agg (lv l)] w fun e w' => ∃ A c, e = .returned (.slice A (M.filter (fun v => decide (v.k = l))).length c) ∧ SvsAt w' A (M.filter (fun v => decide (v.k = l))) ∧ Below w.heap.size w w' := by
  obtain ⟨s, bt, bk, bb, vv, vl, hd, hg, _, h, ok, hl9⟩ := hp
  obtain ⟨n, hn⟩ : ∃ n, n = 4 * S.votes.length := ⟨_, rfl⟩
  rw [← hn] at h
  obtain ⟨Xs, hXs⟩ : ∃ Xs, Xs = M.filter (fun v => decide (v.k = l)) := ⟨_, rfl⟩
  obtain ⟨Ps, hPs⟩ : ∃ Ps, Ps = (S.pl (.inl l)).getD [] := ⟨_, rfl⟩
  have hPM : Ps = pls (fun v => decide (v.k = l)) M := hPs.trans (ht.plk l)
  have hlen : Ps.length = Xs.length := by rw [hPM, pls_len, hXs]
  have hat : ∀ (i p : Nat) v, Ps[i]? = some p → Xs[i]? = some v → M[p]? = some v := fun i p v h1 h2 => pls_at (hPM ▸ h1) (hXs ▸ h2)
  obtain ⟨Ay, cy, hy, _⟩ := ownForm (h.row (.inl l)).1
  have hrow := (h.row (.inl l)).1
  rw [hy, ← hPs] at hrow
  obtain ⟨Av, cv, hvv, _, _, _⟩ := ownForm h.votes
  obtain ⟨bv, hbv⟩ : ∃ bv, 0 < S.votes.length → Av = some ⟨bv, 0, none⟩ := by
    rcases h.votes.2 with ⟨e, h0⟩ | ⟨g, cap, cur, e, _⟩
    · exact ⟨0, fun h => by omega⟩
    · rw [hvv] at e
      injection e with e1 _ _
      exact ⟨g, fun _ => e1⟩
  obtain ⟨W, hW⟩ : ∃ W, W = w.alloc (.cells (lv l) 50) := ⟨_, rfl⟩
  obtain ⟨WB, hWB⟩ : ∃ WB, WB = W.alloc (.cells #[.slice none 0 0] 22) := ⟨_, rfl⟩
  have b1 : Below w.heap.size w W := by rw [hW]; exact (Below.refl _ _).alloc (Nat.le_refl _) _
  have b2 : Below W.heap.size W WB := by rw [hWB]; exact (Below.refl _ _).alloc (Nat.le_refl _) _
  have l1 : LkB w.heap.size l W := by rw [hW]; exact LkB.new
  have z1 : W.heap.size = w.heap.size + 1 := by rw [hW]; simp
  have hF := h.below b1
  obtain ⟨gx, hgx⟩ : ∃ gx, gx = w.heap.size := ⟨_, rfl⟩
  obtain ⟨gb, hgb⟩ : ∃ gb, gb = W.heap.size := ⟨_, rfl⟩
  rw [← hgx] at l1
  have box : WB.heap[gb]? = some (.cells #[.slice none 0 0] 22 (0, 0)) := by rw [hWB, hgb]; exact heap_alloc_new W _
  have j0 : JF gb W [] WB := ⟨by rw [hgb]; exact b2, by rw [hgb, hWB]; simp, none, 0, [], box, ⟨rfl, .inl ⟨rfl, rfl⟩⟩, rfl, fun i v hv => by simp at hv⟩
  have KJ := Lib.hid (show ∀ (Y : List Sv) (u : World), JF gb W Y u → PoB s bt bk bb vv vl hd F S n u ∧ LkB gx l u from fun Y u hu => ⟨hF.below (hgb ▸ hu.1), l1.below hu.1 (by have := l1.lt; omega)⟩)
  have KB := Lib.hid (show ∀ u, Below WB.heap.size WB u → JF gb W [] u from fun u hu => j0.below hu)
  have tg := tal_getD (S := S) h l (ok.wt0 l)
  rw [hy] at tg
  obtain ⟨ny, hny⟩ : ∃ ny, ny = ((S.pl (.inl l)).getD []).length := ⟨_, rfl⟩
  have hnP : ny = Ps.length := by rw [hny, hPs]
  rw [← hny] at tg
  have TG := Lib.hid tg
  have GC := Lib.hid (show ∀ u, Below WB.heap.size WB u → Calls Try.prog 33 #[.pointer (some ⟨s, 0, none⟩), .slice Ay ny cy, .func (.func 41) #[] #[.pointer (some ⟨gb, 0, none⟩)]] u (fun e w' => e = .returned (.tuple #[]) ∧ JF gb W Xs w') from fun u hu => by
    refine gather_c s bv S.votes.length cv Ay cy Ps Xs ny hnP (hnP.trans hlen) (by rw [hnP, hPM, pls_len]; have := List.length_filter_le (fun v : Sv => decide (v.k = l)) M; omega) _ #[.pointer (some ⟨gb, 0, none⟩)] (enters_of Try.func41 (by kernel_rfl) rfl) (JF gb W) (KB.out u hu) ?_ ?_ (fun Y u u' j b => j.below b) ?_
    · intro i p v h1 h2 Y u j
      have hm := hat i p v h1 h2
      have hpl : p < M.length := (List.getElem?_eq_some_iff.1 hm).1
      obtain ⟨B, c, B', c', e1, e2, e3, lo, hi, e4, e5, e6, e7⟩ := ht.at_ p v hm
      have hpS : p < S.votes.length := (List.getElem?_eq_some_iff.1 e1).1
      have hF2 := (KJ.out _ u j).1
      have hA := hbv (by omega)
      have bu : Below w.heap.size w u := b1.trans (j.1.mono (by omega))
      have hc : u.cell? ⟨s, 0, none⟩ = some vv := cell_of_row u s 0 _ _ (0, 0) hF2.cells
      rw [hvv, hA] at hc
      have hr := rws_cells (n := 101) (c := sgC) (LL := S.votes) (base := 0) (cap := cv) sgC_len (by have := hF2.votes; rw [hvv, hA] at this; exact this) e1
      exact ⟨hc, hpS, by have := (ht.st v (List.mem_of_getElem? hm)).2.2; omega, B', c', hr, (e6.below bu e5).wide (Nat.zero_le _) (Nat.le_trans e5 bu.size)⟩
    · intro i p h1 Y u j
      have hi := (List.getElem?_eq_some_iff.1 h1).1
      obtain ⟨bp, rfl⟩ : ∃ bp, Ay = some ⟨bp, 0, none⟩ := by
        rcases hrow.2 with ⟨e, h0⟩ | ⟨g, cap, cur, e, _⟩
        · omega
        · injection e with e1 _ _
          exact ⟨g, e1⟩
      have hr := rws_cells (n := 1) (c := intC) (LL := Ps) (base := 0) (cap := cy) (fun _ => rfl) hrow h1
      have hbl := (hrow.lt bp rfl).2
      have bu : Below w.heap.size w u := b1.trans (j.1.mono (by omega))
      refine ⟨bp, rfl, ?_⟩
      have := hr 0 (.int .i64 (p : Int)) rfl
      rw [Nat.mul_one, Nat.add_zero] at this
      exact (bu.cell (p := ⟨bp, i, none⟩) hbl).trans this
    · intro Y u v B c hY j ho hc
      exact for1_c j (by have := hnP; rw [hPM, pls_len] at this; have := List.length_filter_le (fun v : Sv => decide (v.k = l)) M; omega) v B c ho)
  have hg1 : PlB ga s WB := (b2.block ga (blk_lt ((b1.block ga (blk_lt hg)).trans hg))).trans ((b1.block ga (blk_lt hg)).trans hg)
  have SC := Lib.hid (seen_c ga s WB hg1)
  have HW := Lib.hid hW
  have HWB := Lib.hid hWB
  have HB := Lib.hid (And.intro b1 (And.intro hgx (And.intro hgb z1)))
  have HX := Lib.hid hXs
  have GBE := Lib.hid (show gb = w.heap.size + 1 by omega)
  rw [← hXs]
  clear hPM hat hrow hy hvv hbv box j0 tg hF l1 h hg ok ht hs hPs hlen hny hnP hg1 b1 b2 hW hWB hgx hgb z1 hn hl9 hXs
  go_enter Try.func23, Try.ntmps23
  go_wp2_with fail
  rw [← HW.out, ← HWB.out]
  refine SC.out.mono ?_
  rintro e w3 ⟨rfl, rfl⟩
  go_wp2_with fail
  rw [← GBE.out, ← HB.out.2.1]
  obtain ⟨w2, hw2⟩ : ∃ w2, w2 = w3.drew := ⟨_, rfl⟩
  have BX : Hid (Below w3.heap.size w3 w2) := by rw [hw2]; exact (Below.refl _ _).drew
  rename_i K1 hK1
  refine wp_region_noPanic ?_
  refine wp_region_held_drew (S := (fun u => PoB s bt bk bb vv vl hd F S n u ∧ LkB gx l u)) (by kernel_rfl) (by rw [← hw2]; exact KJ.out _ _ (KB.out _ BX.out)) (fun hHeld => ?_)
  rw [← hw2]
  rw [← hw2] at hHeld
  clear hw2
  refine takeH (i := 0) (d := 9) (oi := _) (v := .pointer (some ⟨s, 0, none⟩)) rfl (by kernel_rfl) (by kernel_rfl) (by kernel_rfl) (by kernel_rfl) (fun _ _ _ h => h) (Or.inl ⟨by kernel_rfl, by intro u hSw; clear hSw; go_simp⟩) hHeld ?_
  try simp only [List.setIfInBounds_toArray, List.set_cons_zero, List.set_cons_succ]
  refine takeH (i := 1) (d := 10) (oi := _) (v := .pointer (some ⟨s, 0, none⟩)) rfl (by kernel_rfl) (by kernel_rfl) (by kernel_rfl) (by kernel_rfl) (fun _ _ _ h => h) (Or.inl ⟨by kernel_rfl, by intro u hSw; clear hSw; go_simp⟩) hHeld ?_
  try simp only [List.setIfInBounds_toArray, List.set_cons_zero, List.set_cons_succ]
  refine takeH (i := 2) (d := 11) (oi := _) (v := .pointer (some ⟨s, 0, none⟩)) rfl (by kernel_rfl) (by kernel_rfl) (by kernel_rfl) (by kernel_rfl) (fun _ _ _ h => h) (Or.inl ⟨by kernel_rfl, by intro u hSw; clear hSw; go_simp⟩) hHeld ?_
  try simp only [List.setIfInBounds_toArray, List.set_cons_zero, List.set_cons_succ]
  refine takeH (i := 3) (d := 12) (oi := _) (v := .pointer (some ⟨s, 2, none⟩)) rfl (by kernel_rfl) (by kernel_rfl) (by kernel_rfl) (by kernel_rfl) (fun _ _ _ h => h) (Or.inl ⟨by kernel_rfl, by intro u hSw; clear hSw; go_simp⟩) hHeld ?_
  try simp only [List.setIfInBounds_toArray, List.set_cons_zero, List.set_cons_succ]
  refine takeH (i := 4) (d := 13) (oi := _) (v := .map (some bt)) rfl (by kernel_rfl) (by kernel_rfl) (by kernel_rfl) (by kernel_rfl) (fun _ _ _ h => h) (Or.inl ⟨by kernel_rfl, by intro u hSw; (have hc : u.cell? ⟨s, 2, none⟩ = some (.map (some bt)) := cell_of_row u s 2 _ _ (0, 0) hSw.1.cells; clear hSw; go_simp)⟩) hHeld ?_
  try simp only [List.setIfInBounds_toArray, List.set_cons_zero, List.set_cons_succ]
  refine takeH (i := 5) (d := 14) (oi := _) (v := .agg (lv l)) rfl (by kernel_rfl) (by kernel_rfl) (by kernel_rfl) (by kernel_rfl) (fun _ _ _ h => h) (yieldsIf_load_midC (by kernel_rfl) _ _ rfl (gx) 0 rfl (lC l) (lv l) (lC_arr l) _ (fun u hSw => hSw.2.all) Try.underlying50 rfl (size_lv l)) hHeld ?_
  try simp only [List.setIfInBounds_toArray, List.set_cons_zero, List.set_cons_succ]
  refine takeH (i := 6) (d := 15) (oi := _) (v := .agg #[.int .u64 (S.wt l : Int), .slice Ay ny cy]) rfl (by kernel_rfl) (by kernel_rfl) (by kernel_rfl) (by kernel_rfl) (fun _ _ _ h => h) (Or.inl ⟨by kernel_rfl, by intro u hSw; (have hl := hSw.1.tal.look keyL Try.underlying75 (z := .agg #[.int .u64 0, .slice none 0 0]) (zero_tally u) l; rw [TG.out] at hl; clear hSw; go_simp)⟩) hHeld ?_
  try simp only [List.setIfInBounds_toArray, List.set_cons_zero, List.set_cons_succ]
  refine takeH (i := 7) (d := 16) (oi := _) (v := .slice Ay ny cy) rfl (by kernel_rfl) (by kernel_rfl) (by kernel_rfl) (by kernel_rfl) (fun _ _ _ h => h) (Or.inl ⟨by kernel_rfl, by intro u hSw; clear hSw; have hf := fld1 (S.wt l : Int) Ay ny cy u; go_simp⟩) hHeld ?_
  try simp only [List.setIfInBounds_toArray, List.set_cons_zero, List.set_cons_succ]
  refine takeH (i := 8) (d := 17) (oi := _) (v := .func (.func 41) #[] #[.pointer (some ⟨gb, 0, none⟩)]) rfl (by kernel_rfl) (by kernel_rfl) (by kernel_rfl) (by kernel_rfl) (fun _ _ _ h => h) (Or.inl ⟨by kernel_rfl, by intro u hSw; clear hSw; go_simp⟩) hHeld ?_
  try simp only [List.setIfInBounds_toArray, List.set_cons_zero, List.set_cons_succ]
  refine wpAnyH_ready (rs := [9]) (by kernel_rfl) (by simp) ?_
  refine AllReadyH.cons (o := _) rfl (fun K hK => ?_) (AllReadyH.nil)
  go_simp
  go_at_call 33
  refine (GC.out _ BX.out).mono ?_
  rintro e w3 ⟨rfl, j3⟩
  have J3 := Lib.hid j3
  go_simp
  refine hK.out _ _ (KJ.out _ _ J3.out) (fun hHeld => ?_)
  clear hK K
  try simp only [Act.put, List.setIfInBounds_toArray, List.set_cons_zero, List.set_cons_succ]
  refine wpAnyH_done (by kernel_rfl) ?_ _
  refine NoPanic.normal ?_
  first
    | apply hK1
    | apply K1
  clear hK1 K1
  obtain ⟨A, c, hc, hsv⟩ := J3.out.svs
  have SV := Lib.hid hsv
  clear hsv
  go_wp2_with fail
  go_ret
  exact ⟨A, c, rfl, SV.out, HB.out.1.trans (J3.out.1.mono (by have := HB.out; omega))⟩
end Go.Proofs.Ytomfgopmgfoecaa
namespace Go.Proofs.Ytomfgopmgfoecaa
open Go.Shelf Go.ChangeMaps Go.MapKept Go.Maps Go.RowKit Go.ChangeShapes Go.WideShapes Go.ChangeAt
set_option linter.unusedVariables false
set_option maxRecDepth 100000

/-- A signed vote's vote. -/
def vcg (x : Sg) : List Value := vtC x.n x.k x.sv
theorem vcg_len (x : Sg) : (vcg x).length = 68 := vtC_len _ _ _
theorem vcg_arr (x : Sg) : (vcg x).toArray = vtw x.n x.k x.sv := rfl
theorem vcg_one (x : Sg) (hs : x.sv.oneCell' = true) : ∀ v ∈ vcg x, v.oneCell' = true := fun v hv => by
  unfold vcg vtC at hv
  obtain ⟨j, _, rfl⟩ := List.mem_map.1 hv
  exact vtf_one _ _ _ hs _
theorem vt_size : (Try.prog.info? 40).map (·.size) = some 68 := by kernel_rfl
theorem size_vcg (x : Sg) : (Try.prog.info? 40).map (·.size) = some ((vcg x).length) := by rw [vcg_len]; exact vt_size
theorem one_vt (x : Sg) {A : Option Addr} {m c : Nat} (hx : x.sv = .slice A m c) (u : World) : (Instr.buildSlice 43 1 #[(0, .agg (vtw x.n x.k x.sv))]).run Try.prog u = .ok (.slice (some ⟨u.heap.size, 0, none⟩) 1 1) (u.alloc (.cells (vtw x.n x.k x.sv) 40)) := by
  have hie : Try.prog.info? 40 = some ((Try.prog.info? 40).get (by kernel_rfl)) := (Option.some_get _).symm
  cases x
  simp only at hx
  subst hx
  refine run_buildSlice u _ 40 1 _ (vtw _ _ _) _ _ Try.underlying43 hie (Option.some_get (by kernel_rfl)).symm (by decide +kernel) (by decide +kernel) ?_
  kernel_rfl
theorem own_vt (x : Sg) (u : World) : (u.alloc (.cells (vtw x.n x.k x.sv) 40)).ownsRow 0 40 68 (.slice (some ⟨u.heap.size, 0, none⟩) 1 1) 1 (vcg x) := by
  refine ⟨by rw [vcg_len], .inr ⟨u.heap.size, 1, vtw x.n x.k x.sv, rfl, Nat.zero_le _, heap_alloc_new u _, Nat.le_refl _, by unfold maxLen; omega, by unfold vtw; rw [rowV_size], ?_⟩⟩
  unfold vtw
  rw [rowV_list, List.take_of_length_le (by simp)]
  rfl
theorem vt_row {i : TypeInfo} (h : (Try.prog.info? 40) = some i) : i.zero = some (.agg (vtw 0 lkZ (.slice none 0 0))) ∧ i.size = 68 ∧ i.bytes = 112 := by
  have : (Try.prog.info? 40).map (fun i => (i.zero, i.size, i.bytes)) = some (some (.agg (vtw 0 lkZ (.slice none 0 0))), 68, 112) := by kernel_rfl
  rw [h] at this
  injection this with this
  injection this with h1 h2
  injection h2 with h2 h3
  exact ⟨h1, h2, h3⟩
/-- A list of votes that stays in memory. -/
def VtsAt (w : World) (A : Option Addr) (L : List Sv) : Prop := ∀ u, Below w.heap.size w u → ∀ (i : Nat) v, L[i]? = some v → ∃ g o B c, A = some ⟨g, o, none⟩ ∧ u.rangeAt g (o + i * 68) (vcg (v.sg B c)) ∧ Rd u 0 u.heap.size B v.s
/-- What the closure of Of has gathered: in a box, a row of its own; the signatures in memory that nobody turns. -/
def JO (gb : Nat) (W0 : World) (Y : List Sv) (u : World) : Prop :=
  Below gb W0 u ∧ gb < u.heap.size ∧ ∃ A c Xs, u.heap[gb]? = some (.cells #[.slice A Y.length c] 43 (0, 0)) ∧ u.ownsRow gb 40 68 (.slice A Y.length c) Y.length (rws vcg Xs) ∧ Xs.length = Y.length ∧ ∀ (i : Nat) v, Y[i]? = some v → ∃ B d, Xs[i]? = some (v.sg B d) ∧ Ow u 0 B v.s
theorem JO.below {gb : Nat} {W0 u u' : World} {Y : List Sv} (h : JO gb W0 Y u) (hb : Below u.heap.size u u') : JO gb W0 Y u' := by
  obtain ⟨h1, h2, A, c, Xs, h3, h4, h5, h6⟩ := h
  refine ⟨h1.trans (hb.mono (Nat.le_of_lt h2)), Nat.lt_of_lt_of_le h2 hb.size, A, c, Xs, (hb.block gb h2).trans h3, ownKeep h4 (fun g hg => hb.block g (h4.lt g hg).2), h5, fun i v hv => ?_⟩
  obtain ⟨B, d, e1, e2⟩ := h6 i v hv
  exact ⟨B, d, e1, e2.below hb (Nat.le_refl _)⟩
theorem JO.svs {gb : Nat} {W0 u : World} {Y : List Sv} (h : JO gb W0 Y u) : ∃ A c, u.cell? ⟨gb, 0, none⟩ = some (.slice A Y.length c) ∧ VtsAt u A Y := by
  obtain ⟨h1, h2, A, c, Xs, h3, h4, h5, h6⟩ := h
  refine ⟨A, c, cell_of_row u gb 0 _ _ (0, 0) h3, fun w hw i v hv => ?_⟩
  obtain ⟨B, d, e1, e2⟩ := h6 i v hv
  have hi := (List.getElem?_eq_some_iff.1 hv).1
  obtain ⟨g, rfl⟩ : ∃ g, A = some ⟨g, 0, none⟩ := by
    rcases h4.2 with ⟨e, h0⟩ | ⟨g, cap, cur, e, _⟩
    · omega
    · injection e with e1 _ _
      exact ⟨g, e1⟩
  have hr := rws_cells (n := 68) (c := vcg) (LL := Xs) (base := gb) (cap := c) vcg_len (by rw [h5]; exact h4) e1
  have hg := (h4.lt g rfl).2
  refine ⟨g, 0, B, d, rfl, fun j x hx => ?_, (e2.rd.wide (Nat.zero_le _) (Nat.le_refl _)).below hw (Nat.le_refl _) |>.wide (Nat.le_refl _) hw.size⟩
  rw [Nat.zero_add]
  exact (hw.cell (p := ⟨g, i * 68 + j, none⟩) hg).trans (hr j x hx)
set_option maxHeartbeats 8000000 in
theorem of1_c {gb : Nat} {W0 u : World} {Y : List Sv} (h : JO gb W0 Y u) (hY : Y.length < 100000) (v : Sv) (B : Option Addr) (c : Nat) (ho : Ow u 0 B v.s) : Calls Try.prog 34 #[.agg (sgv (v.sg B c)), .pointer (some ⟨gb, 0, none⟩)] u fun e w' => e = .returned (.tuple #[]) ∧ JO gb W0 (Y ++ [v]) w' := by
  obtain ⟨h1, h2, A, ca, Xs, h3, h4, h5, h6⟩ := h
  obtain ⟨i0, hi0⟩ : ∃ i0, Try.prog.info? 40 = some i0 := ⟨_, (Option.some_get (by kernel_rfl)).symm⟩
  obtain ⟨hz0, hz1, hz2⟩ := vt_row hi0
  obtain ⟨x, hx⟩ : ∃ x, x = v.sg B c := ⟨_, rfl⟩
  have HXE := Lib.hid hx
  rw [← hx]
  obtain ⟨u1, hu1⟩ : ∃ u1, u1 = u.alloc (.cells (sgv x) 42) := ⟨_, rfl⟩
  obtain ⟨u2, hu2⟩ : ∃ u2, u2 = u1.alloc (.cells (vtw x.n x.k x.sv) 40) := ⟨_, rfl⟩
  have b1 : Below u.heap.size u u1 := by rw [hu1]; exact (Below.refl _ _).alloc (Nat.le_refl _) _
  have b2 : Below u1.heap.size u1 u2 := by rw [hu2]; exact (Below.refl _ _).alloc (Nat.le_refl _) _
  have b12 := b1.trans (b2.mono b1.size)
  have X1 : u1.rangeAt u.heap.size 0 (vcg x) := by rw [hu1]; exact SgB.new.vote
  have c1 : u1.cell? ⟨gb, 0, none⟩ = some (.slice A Y.length ca) := cell_of_row u1 gb 0 _ _ (0, 0) ((b1.block gb h2).trans h3)
  have hsv : x.sv = .slice B v.s.length c := by rw [hx]; rfl
  have hb2 : (Instr.buildSlice 43 1 #[(0, .agg (vtw x.n x.k x.sv))]).run Try.prog u1 = .ok (.slice (some ⟨u1.heap.size, 0, none⟩) 1 1) u2 := by rw [hu2]; exact one_vt x hsv u1
  have N2 : Hid (u2.ownsRow 0 40 68 (.slice (some ⟨u1.heap.size, 0, none⟩) 1 1) 1 (vcg x)) := by rw [hu2]; exact own_vt x u1
  have O2 := Lib.hid (ownKeep h4 (fun g hg => b12.block g (h4.lt g hg).2))
  have HU1 := Lib.hid hu1
  have L2 := Lib.hid (show gb ≤ u2.heap.size by have := b12.size; omega)
  have R2 := Lib.hid ((b12.block gb h2).trans h3)
  have GL := Lib.hid (show gb < u2.heap.size by have := b12.size; omega)
  have BB := Lib.hid b12
  have ONE := Lib.hid (show ∀ y ∈ vcg x, y.oneCell' = true from vcg_one x (by rw [hsv]; rfl))
  have HH := Lib.hid (And.intro h1 (And.intro h2 (And.intro h5 h6)))
  have HO := Lib.hid ho
  obtain ⟨m, hm⟩ : ∃ m, m = Y.length := ⟨_, rfl⟩
  have HM := Lib.hid hm
  rw [← hm] at c1 O2 R2
  have m9 : m < 100000 := by omega
  clear hx hu2 b1 b2 b12 h1 h2 h3 h4 h5 h6 hsv ho hm hY hu1
  go_enter Try.func34, Try.ntmps34
  go_upto_region 1 with fail
  rw [← HU1.out]
  go_wp2_with (first
    | (refine wpList_load_mid rfl 40 (.tmp 4) rfl u.heap.size 0 (by go_simp) (vcg x) _ X1 Try.underlying40 rfl (size_vcg x) ?_; rw [vcg_arr])
    | (refine wpList_buildSlice_row (v := .slice (some ⟨u1.heap.size, 0, none⟩) 1 1) (w' := u2) rfl 43 1 #[(0, .tmp 5)] rfl ?hr ?_; case hr => (simp only [List.map_toArray, List.map_cons, List.map_nil]; exact hb2))
    | (at_builtin; refine wpList_append_row rfl (.tmp 3) (.tmp 6) 43 rfl gb 40 i0 _ 68 112 Try.underlying43 hi0 hz0 hz1 hz2 (by show (vtw 0 lkZ (.slice none 0 0)).size = 68; exact rowV_size _ _) (by decide) (.slice A m ca) m (rws vcg Xs) rfl O2.out 0 _ 1 (vcg x) rfl N2.out ONE.out (by unfold maxLen; omega) (by omega) L2.out ?_; intro v' w3 o3 g3 b3; rw [rws_more] at o3; obtain ⟨A6, c6, rfl, _, _, _⟩ := ownForm o3; have r3 := grown_box g3 O2.out R2.out GL.out (by decide); have R3 := Lib.hid r3; have c3 : w3.cell? ⟨gb, 0, none⟩ = some (.slice A m ca) := cell_of_row w3 gb 0 _ _ (0, 0) r3; have f3 : w3.frozen? ⟨gb, 0, none⟩ = false := (by simp [World.frozen?, r3]); have O3 := Lib.hid o3; have G3 := Lib.hid g3; clear o3 g3 b3 r3)
    | fail)
  refine bodyPost_end (results_none rfl _ _ _) rfl ⟨rfl, ?_⟩
  have sz := G3.out.size
  have szu := BB.out.size
  obtain ⟨k1, k2, k5, k6⟩ := HH.out
  have off : ∀ (b : Nat) (cur : Array Value), u.heap[b]? = some (.cells cur 5 (0, 0)) → (w3.setCell ⟨gb, 0, none⟩ (.slice A6 (m + 1) c6)).heap[b]? = u.heap[b]? := fun b cur hb => by
    have hlt := Array.getElem?_eq_some_iff.1 hb |>.1
    have hu2 : u2.heap[b]? = u.heap[b]? := BB.out.block b hlt
    have n1 : b ≠ gb := fun e => by
      subst e
      have := R2.out
      rw [hu2, hb] at this
      exact kinds_ne (by decide) this
    rw [setCell_off 0 n1, G3.out.block b (by omega) (fun e => by
      obtain ⟨cur2, hcur⟩ := ownCells O2.out e.symm
      rw [hu2, hb] at hcur
      exact kinds_ne (by decide) hcur), hu2]
  have lenY : (Y ++ [v]).length = m + 1 := by rw [List.length_append, HM.out]; rfl
  refine ⟨?_, by rw [setCell_size]; omega, A6, c6, Xs ++ [x], ?_, ?_, by rw [List.length_append, List.length_append, k5]; rfl, fun i y hy => ?_⟩
  · have q1 : Below gb W0 w3 := Below.grown (k1.trans (BB.out.mono (Nat.le_of_lt k2))) G3.out L2.out (fun k e => (O2.out.lt k e).1)
    exact q1.setCell (Nat.le_refl _) _
  · rw [lenY]
    exact setCell_heap R3.out 0
  · rw [lenY]
    exact ownKeep O3.out (fun g hg => setCell_off 0 (fun e => by
      subst e
      obtain ⟨cur2, hcur⟩ := ownCells O3.out hg
      rw [R3.out] at hcur
      exact kinds_ne (by decide) hcur))
  · rcases Nat.lt_or_ge i Y.length with hi | hi
    · rw [List.getElem?_append_left hi] at hy
      obtain ⟨B1, d1, e1, e2⟩ := k6 i y hy
      exact ⟨B1, d1, by rw [List.getElem?_append_left (by omega)]; exact e1, e2.other off (by rw [setCell_size]; omega)⟩
    · have hlt := (List.getElem?_eq_some_iff.1 hy).1
      rw [List.length_append, List.length_singleton] at hlt
      obtain rfl : i = Y.length := by omega
      rw [List.getElem?_append_right (Nat.le_refl _), Nat.sub_self] at hy
      injection hy with hy
      subst hy
      refine ⟨B, c, ?_, HO.out.other off (by rw [setCell_size]; omega)⟩
      rw [List.getElem?_append_right (by omega), k5, Nat.sub_self, HXE.out]
      rfl
end Go.Proofs.Ytomfgopmgfoecaa
namespace Go.Proofs.Ytomfgopmgfoecaa
open Go.Shelf Go.ChangeMaps Go.MapKept Go.Maps Go.RowKit Go.ChangeShapes Go.WideShapes Go.ChangeAt
set_option linter.unusedVariables false
set_option maxRecDepth 100000

set_option maxRecDepth 1000000 in
set_option maxHeartbeats 8000000 in
theorem of_c {base ga : Nat} {F X : Nat → Prop} {S : PoS} {V : List Sg} {M : List Sv} {w : World} (hp : PoM ga F S w) (ht : Told base X S V M w) (hs : base ≤ w.heap.size) (y : Hh) (hM : M.length ≤ 65536) : Calls Try.prog 13 #[.pointer (some ⟨ga, 0, none⟩), .agg (hhv y)] w fun e w' => ∃ A c, e = .returned (.slice A (M.filter (fun v => decide (v.h = y))).length c) ∧ VtsAt w' A (M.filter (fun v => decide (v.h = y))) ∧ Below w.heap.size w w' := by
  obtain ⟨s, bt, bk, bb, vv, vl, hd, hg, _, h, ok, hl9⟩ := hp
  obtain ⟨n, hn⟩ : ∃ n, n = 4 * S.votes.length := ⟨_, rfl⟩
  rw [← hn] at h
  obtain ⟨Xs, hXs⟩ : ∃ Xs, Xs = M.filter (fun v => decide (v.h = y)) := ⟨_, rfl⟩
  obtain ⟨Ps, hPs⟩ : ∃ Ps, Ps = (S.pl (.inr y)).getD [] := ⟨_, rfl⟩
  have hPM : Ps = pls (fun v => decide (v.h = y)) M := hPs.trans (ht.plh y)
  have hlen : Ps.length = Xs.length := by rw [hPM, pls_len, hXs]
  have hat : ∀ (i p : Nat) v, Ps[i]? = some p → Xs[i]? = some v → M[p]? = some v := fun i p v h1 h2 => pls_at (hPM ▸ h1) (hXs ▸ h2)
  obtain ⟨Ay, cy, hy, _⟩ := ownForm (h.row (.inr y)).1
  have hrow := (h.row (.inr y)).1
  rw [hy, ← hPs] at hrow
  obtain ⟨Av, cv, hvv, _, _, _⟩ := ownForm h.votes
  obtain ⟨bv, hbv⟩ : ∃ bv, 0 < S.votes.length → Av = some ⟨bv, 0, none⟩ := by
    rcases h.votes.2 with ⟨e, h0⟩ | ⟨g, cap, cur, e, _⟩
    · exact ⟨0, fun h => by omega⟩
    · rw [hvv] at e
      injection e with e1 _ _
      exact ⟨g, fun _ => e1⟩
  obtain ⟨W, hW⟩ : ∃ W, W = w.alloc (.cells (hhv y) 24) := ⟨_, rfl⟩
  obtain ⟨WB, hWB⟩ : ∃ WB, WB = W.alloc (.cells #[.slice none 0 0] 43) := ⟨_, rfl⟩
  have b1 : Below w.heap.size w W := by rw [hW]; exact (Below.refl _ _).alloc (Nat.le_refl _) _
  have b2 : Below W.heap.size W WB := by rw [hWB]; exact (Below.refl _ _).alloc (Nat.le_refl _) _
  have l1 : HhB w.heap.size y W := by rw [hW]; exact Fill.of_row (heap_alloc_new w _)
  have z1 : W.heap.size = w.heap.size + 1 := by rw [hW]; simp
  have hF := h.below b1
  obtain ⟨gx, hgx⟩ : ∃ gx, gx = w.heap.size := ⟨_, rfl⟩
  obtain ⟨gb, hgb⟩ : ∃ gb, gb = W.heap.size := ⟨_, rfl⟩
  rw [← hgx] at l1
  have box : WB.heap[gb]? = some (.cells #[.slice none 0 0] 43 (0, 0)) := by rw [hWB, hgb]; exact heap_alloc_new W _
  have j0 : JO gb W [] WB := ⟨by rw [hgb]; exact b2, by rw [hgb, hWB]; simp, none, 0, [], box, ⟨rfl, .inl ⟨rfl, rfl⟩⟩, rfl, fun i v hv => by simp at hv⟩
  have KJ := Lib.hid (show ∀ (Y : List Sv) (u : World), JO gb W Y u → PoB s bt bk bb vv vl hd F S n u ∧ HhB gx y u from fun Y u hu => ⟨hF.below (hgb ▸ hu.1), Fill.below l1 hu.1 (by have := Fill.lt l1; omega)⟩)
  have KB := Lib.hid (show ∀ u, Below WB.heap.size WB u → JO gb W [] u from fun u hu => j0.below hu)
  have tg : (kysF hd y).getD (.slice none 0 0) = (hd (.inr y)).getD (.slice none 0 0) := rfl
  rw [hy] at tg
  obtain ⟨ny, hny⟩ : ∃ ny, ny = ((S.pl (.inr y)).getD []).length := ⟨_, rfl⟩
  have hnP : ny = Ps.length := by rw [hny, hPs]
  rw [← hny] at tg
  have TG := Lib.hid tg
  have GC := Lib.hid (show ∀ u, Below WB.heap.size WB u → Calls Try.prog 33 #[.pointer (some ⟨s, 0, none⟩), .slice Ay ny cy, .func (.func 34) #[] #[.pointer (some ⟨gb, 0, none⟩)]] u (fun e w' => e = .returned (.tuple #[]) ∧ JO gb W Xs w') from fun u hu => by
    refine gather_c s bv S.votes.length cv Ay cy Ps Xs ny hnP (hnP.trans hlen) (by rw [hnP, hPM, pls_len]; have := List.length_filter_le (fun v : Sv => decide (v.h = y)) M; omega) _ #[.pointer (some ⟨gb, 0, none⟩)] (enters_of Try.func34 (by kernel_rfl) rfl) (JO gb W) (KB.out u hu) ?_ ?_ (fun Y u u' j b => j.below b) ?_
    · intro i p v h1 h2 Y u j
      have hm := hat i p v h1 h2
      have hpl : p < M.length := (List.getElem?_eq_some_iff.1 hm).1
      obtain ⟨B, c, B', c', e1, e2, e3, lo, hi, e4, e5, e6, e7⟩ := ht.at_ p v hm
      have hpS : p < S.votes.length := (List.getElem?_eq_some_iff.1 e1).1
      have hF2 := (KJ.out _ u j).1
      have hA := hbv (by omega)
      have bu : Below w.heap.size w u := b1.trans (j.1.mono (by omega))
      have hc : u.cell? ⟨s, 0, none⟩ = some vv := cell_of_row u s 0 _ _ (0, 0) hF2.cells
      rw [hvv, hA] at hc
      have hr := rws_cells (n := 101) (c := sgC) (LL := S.votes) (base := 0) (cap := cv) sgC_len (by have := hF2.votes; rw [hvv, hA] at this; exact this) e1
      exact ⟨hc, hpS, by have := (ht.st v (List.mem_of_getElem? hm)).2.2; omega, B', c', hr, (e6.below bu e5).wide (Nat.zero_le _) (Nat.le_trans e5 bu.size)⟩
    · intro i p h1 Y u j
      have hi := (List.getElem?_eq_some_iff.1 h1).1
      obtain ⟨bp, rfl⟩ : ∃ bp, Ay = some ⟨bp, 0, none⟩ := by
        rcases hrow.2 with ⟨e, h0⟩ | ⟨g, cap, cur, e, _⟩
        · omega
        · injection e with e1 _ _
          exact ⟨g, e1⟩
      have hr := rws_cells (n := 1) (c := intC) (LL := Ps) (base := 0) (cap := cy) (fun _ => rfl) hrow h1
      have hbl := (hrow.lt bp rfl).2
      have bu : Below w.heap.size w u := b1.trans (j.1.mono (by omega))
      refine ⟨bp, rfl, ?_⟩
      have := hr 0 (.int .i64 (p : Int)) rfl
      rw [Nat.mul_one, Nat.add_zero] at this
      exact (bu.cell (p := ⟨bp, i, none⟩) hbl).trans this
    · intro Y u v B c hY j ho hc
      exact of1_c j (by have := hnP; rw [hPM, pls_len] at this; have := List.length_filter_le (fun v : Sv => decide (v.h = y)) M; omega) v B c ho)
  have hg1 : PlB ga s WB := (b2.block ga (blk_lt ((b1.block ga (blk_lt hg)).trans hg))).trans ((b1.block ga (blk_lt hg)).trans hg)
  have SC := Lib.hid (seen_c ga s WB hg1)
  have HW := Lib.hid hW
  have HWB := Lib.hid hWB
  have HB := Lib.hid (And.intro b1 (And.intro hgx (And.intro hgb z1)))
  have HX := Lib.hid hXs
  have GBE := Lib.hid (show gb = w.heap.size + 1 by omega)
  rw [← hXs]
  clear hPM hat hrow hy hvv hbv box j0 tg hF l1 h hg ok ht hs hPs hlen hny hnP hg1 b1 b2 hW hWB hgx hgb z1 hn hl9 hXs
  go_enter Try.func13, Try.ntmps13
  go_wp2_with fail
  rw [← HW.out, ← HWB.out]
  refine SC.out.mono ?_
  rintro e w3 ⟨rfl, rfl⟩
  go_wp2_with fail
  rw [← GBE.out, ← HB.out.2.1]
  obtain ⟨w2, hw2⟩ : ∃ w2, w2 = w3.drew := ⟨_, rfl⟩
  have BX : Hid (Below w3.heap.size w3 w2) := by rw [hw2]; exact (Below.refl _ _).drew
  rename_i K1 hK1
  refine wp_region_noPanic ?_
  refine wp_region_held_drew (S := (fun u => PoB s bt bk bb vv vl hd F S n u ∧ HhB gx y u)) (by kernel_rfl) (by rw [← hw2]; exact KJ.out _ _ (KB.out _ BX.out)) (fun hHeld => ?_)
  rw [← hw2]
  rw [← hw2] at hHeld
  clear hw2
  refine takeH (i := 0) (d := 9) (oi := _) (v := .pointer (some ⟨s, 0, none⟩)) rfl (by kernel_rfl) (by kernel_rfl) (by kernel_rfl) (by kernel_rfl) (fun _ _ _ h => h) (Or.inl ⟨by kernel_rfl, by intro u hSw; clear hSw; go_simp⟩) hHeld ?_
  try simp only [List.setIfInBounds_toArray, List.set_cons_zero, List.set_cons_succ]
  refine takeH (i := 1) (d := 10) (oi := _) (v := .pointer (some ⟨s, 0, none⟩)) rfl (by kernel_rfl) (by kernel_rfl) (by kernel_rfl) (by kernel_rfl) (fun _ _ _ h => h) (Or.inl ⟨by kernel_rfl, by intro u hSw; clear hSw; go_simp⟩) hHeld ?_
  try simp only [List.setIfInBounds_toArray, List.set_cons_zero, List.set_cons_succ]
  refine takeH (i := 2) (d := 11) (oi := _) (v := .pointer (some ⟨s, 0, none⟩)) rfl (by kernel_rfl) (by kernel_rfl) (by kernel_rfl) (by kernel_rfl) (fun _ _ _ h => h) (Or.inl ⟨by kernel_rfl, by intro u hSw; clear hSw; go_simp⟩) hHeld ?_
  try simp only [List.setIfInBounds_toArray, List.set_cons_zero, List.set_cons_succ]
  refine takeH (i := 3) (d := 12) (oi := _) (v := .pointer (some ⟨s, 3, none⟩)) rfl (by kernel_rfl) (by kernel_rfl) (by kernel_rfl) (by kernel_rfl) (fun _ _ _ h => h) (Or.inl ⟨by kernel_rfl, by intro u hSw; clear hSw; go_simp⟩) hHeld ?_
  try simp only [List.setIfInBounds_toArray, List.set_cons_zero, List.set_cons_succ]
  refine takeH (i := 4) (d := 13) (oi := _) (v := .map (some bk)) rfl (by kernel_rfl) (by kernel_rfl) (by kernel_rfl) (by kernel_rfl) (fun _ _ _ h => h) (Or.inl ⟨by kernel_rfl, by intro u hSw; (have hc : u.cell? ⟨s, 3, none⟩ = some (.map (some bk)) := cell_of_row u s 3 _ _ (0, 0) hSw.1.cells; clear hSw; go_simp)⟩) hHeld ?_
  try simp only [List.setIfInBounds_toArray, List.set_cons_zero, List.set_cons_succ]
  refine takeH (i := 5) (d := 14) (oi := _) (v := .agg (hhv y)) rfl (by kernel_rfl) (by kernel_rfl) (by kernel_rfl) (by kernel_rfl) (fun _ _ _ h => h) (yieldsIf_load_midC (by kernel_rfl) _ _ rfl (gx) 0 rfl (hhC y) (hhv y) (hhC_arr y) _ (fun u hSw => hhB_all hSw.2) Try.underlying24 rfl (size_hhv y)) hHeld ?_
  try simp only [List.setIfInBounds_toArray, List.set_cons_zero, List.set_cons_succ]
  refine takeH (i := 6) (d := 15) (oi := _) (v := .slice Ay ny cy) rfl (by kernel_rfl) (by kernel_rfl) (by kernel_rfl) (by kernel_rfl) (fun _ _ _ h => h) (Or.inl ⟨by kernel_rfl, by intro u hSw; (have hl := hSw.1.keys.look keyH Try.underlying76 (z := .slice none 0 0) (zero_ints u) y; rw [TG.out] at hl; clear hSw; go_simp)⟩) hHeld ?_
  try simp only [List.setIfInBounds_toArray, List.set_cons_zero, List.set_cons_succ]
  refine takeH (i := 7) (d := 16) (oi := _) (v := .func (.func 34) #[] #[.pointer (some ⟨gb, 0, none⟩)]) rfl (by kernel_rfl) (by kernel_rfl) (by kernel_rfl) (by kernel_rfl) (fun _ _ _ h => h) (Or.inl ⟨by kernel_rfl, by intro u hSw; clear hSw; go_simp⟩) hHeld ?_
  try simp only [List.setIfInBounds_toArray, List.set_cons_zero, List.set_cons_succ]
  refine wpAnyH_ready (rs := [8]) (by kernel_rfl) (by simp) ?_
  refine AllReadyH.cons (o := _) rfl (fun K hK => ?_) (AllReadyH.nil)
  go_simp
  go_at_call 33
  refine (GC.out _ BX.out).mono ?_
  rintro e w3 ⟨rfl, j3⟩
  have J3 := Lib.hid j3
  go_simp
  refine hK.out _ _ (KJ.out _ _ J3.out) (fun hHeld => ?_)
  clear hK K
  try simp only [Act.put, List.setIfInBounds_toArray, List.set_cons_zero, List.set_cons_succ]
  refine wpAnyH_done (by kernel_rfl) ?_ _
  refine NoPanic.normal ?_
  first
    | apply hK1
    | apply K1
  clear hK1 K1
  obtain ⟨A, c, hc, hsv⟩ := J3.out.svs
  have SV := Lib.hid hsv
  clear hsv
  go_wp2_with fail
  go_ret
  exact ⟨A, c, rfl, SV.out, HB.out.1.trans (J3.out.1.mono (by have := HB.out; omega))⟩
end Go.Proofs.Ytomfgopmgfoecaa
namespace Go.Proofs.Ytomfgopmgfoecaa
open Go.RowKit
set_option linter.unusedVariables false

/-- What an iterator promises that goes on for N rounds; Y k args: what it knows of the arguments of the round behind k others. -/
def GoesM (F : Fence) (n : Nat) (P : Program) (gf : Nat) (lb : Array Value) (Y : Nat → Array Value → World → Prop) (Kp : World → World → Prop) (N : Nat) (w : World) : Prop :=
  ∀ (l : Nat) (J : Nat → World → Prop) (W : World), Below w.heap.size w W → AbidesFrom W.heap.size J →
    (∀ k args W1, J k W1 → Y k args W1 → k < N → YieldAt F (n - 1) P l args W1 fun e W' => e = .returned (.bool true) ∧ J (k + 1) W' ∧ Kp W1 W') → J 0 W →
    CallsIn F n P gf (#[.func (.yield l) #[] #[]] ++ lb) W fun e W' => (∃ v, e = .returned v) ∧ J N W'
/-- A body that ends. -/
def EndsM (B : Nat) (Kp : World → World → Prop) (I : World → Prop) (W : World) : Exit → Act → World → Prop
  | .normal, _, W' => KeepsFrom B W W' ∧ Kp W W' ∧ I W'
  | _, _, _ => False
section
variable {F : Fence} {n : Nat} {P : Program}
theorem wpIn_range_mem {g : Operand} {ps : Array Tmp} {assign body : Code} {Q : Exit → Act → World → Prop} {a : Act} {w : World} (hro : F.round = none) (h1 : 1 ≤ n) {gf : Nat} {lb : Array Value} (hg : a.eval g = .func (.func gf) #[] lb) (hFg : F.fn gf) (eg : ∀ args w, (callFunc gf args).run P w = .ok (.enter gf args) w)
    {Y : Nat → Array Value → World → Prop} {Kp : World → World → Prop} {N : Nat} (hseq : GoesM F (n - 1) P gf lb Y Kp N w)
    (hKt : ∀ {A B C : World}, Kp A B → Kp B C → Kp A C) (hKb : ∀ (W : World) (l : Nat) (o' : Obj), w.heap.size ≤ l → Kp W (W.putObj l o'))
    (hYs : ∀ k args W, Y k args W → args.size = ps.size) (hY : ∀ k args, OwnFrom w.heap.size (fun (_ : Unit) => Y k args))
    (I : Nat → World → Prop) (hI : OwnFrom w.heap.size I) (h0 : I 0 w) (a₁ : Array Value → Act)
    (hassign : ∀ (l : Nat) (k : Nat) (args : Array Value) (W : World) (K : Act → World → Prop), Y k args W → K (a₁ args) W →
      assign.wpIn (F.inRound l) (n - 1 - 1) P (Exit.then K (fun _ _ _ => False)) { tmps := (ps.zip args).foldl (fun t (p, v) => t.setIfInBounds p v) a.tmps, defers := [] } W)
    (hbody : ∀ (l k : Nat) (args : Array Value) (W : World), I k W → Y k args W → k < N → body.wpIn (F.inRound l) (n - 1 - 1) P (EndsM w.heap.size Kp (I (k + 1)) W) (a₁ args) W)
    (hdone : ∀ (D : Nat) (W : World), w.heap.size ≤ D → I N W → W.heap[D]? = some (.deferred (some [])) → Q .normal { a with defers := { target := .collected D, args := #[] } :: a.defers } W) :
    (Code.rangeFunc g ps assign body).wpIn F n P Q a w := by
  refine wpIn_rangeFunc fun fn hfn => ?_
  rw [hro]
  obtain ⟨d, hd⟩ : ∃ d, d = w.heap.size := ⟨_, rfl⟩
  obtain ⟨R, hR⟩ : ∃ R : LoopState → Loop, R = fun st => { state := st, pending := none, fn := fn, tmps := a.tmps, params := ps, assign := assign, body := body, defers := d } := ⟨_, rfl⟩
  have hst : ∀ st, (R st).state = st := fun st => by rw [hR]
  obtain ⟨V, hV⟩ : ∃ V, V = (w.alloc (.deferred (some []))).alloc (.loop (R .ready)) := ⟨_, rfl⟩
  have bV : Below w.heap.size w V := by rw [hV]; exact ((Below.refl _ w).alloc (Nat.le_refl _) _).alloc (by simp) _
  have vl : V.heap[d + 1]? = some (.loop (R .ready)) := by
    have := World.alloc_heap_new (w.alloc (.deferred (some []))) (.loop (R .ready))
    rw [World.size_alloc, ← hd, ← hV] at this
    exact this
  have vd : V.heap[d]? = some (.deferred (some [])) := by rw [hV, hd]; exact (Below.heap_alloc _ _ _ (by simp)).trans (World.alloc_heap_new w _)
  have vi : I 0 V := by rw [hV]; exact hI.alloc _ (hI.alloc _ h0)
  have he := run_enterLoop_outer (P := P) (w := w) fn a.tmps ps assign body
  rw [← hd] at he
  have hR0 : (R .ready : Loop) = { state := .ready, pending := none, fn := fn, tmps := a.tmps, params := ps, assign := assign, body := body, defers := d } := by rw [hR]
  rw [← hR0, ← hV] at he
  refine ⟨d + 1, _, V, { target := .fn (.func gf) lb, args := #[.func (.yield (d + 1)) #[] #[]] }, V, gf, #[.func (.yield (d + 1)) #[] #[]] ++ lb, V, he, by simp only [resolve, hg]; simp [go_sem], fun f' hf' => by simp [Target.leads] at hf'; subst hf'; exact hFg, by simp [invoke, go_sem, eg], fun _ => h1, ?_⟩
  have hVs : V.heap.size = d + 2 := by rw [hV, hd]; simp
  refine (hseq (d + 1) (fun k W => I k W ∧ W.heap[d + 1]? = some (.loop (R .ready)) ∧ W.heap[d]? = some (.deferred (some []))) V bV ?_ ?_ ⟨vi, vl, vd⟩).mono ?_
  · intro k A B row hs hgr hrow
    have hk : ∀ j (o : Obj), A.heap[j]? = some o → o.isWalk = false → B.heap[j]? = A.heap[j]? := fun j o hj ho => grownBy_keeps hgr (fun r e => (hrow r e).2) hj ho
    exact ⟨hI k A B row hs.1 hgr (fun r e => by obtain ⟨h2, o, ho, hw⟩ := hrow r e; exact ⟨by omega, o, ho, Obj.not_cells_of_walk hw⟩), (hk _ _ hs.2.1 rfl).trans hs.2.1, (hk _ _ hs.2.2 rfl).trans hs.2.2⟩
  · intro k args W ⟨hi, hl, hdd⟩ hy hk
    have hlt : d + 1 < W.heap.size := (Array.getElem?_eq_some_iff.1 hl).1
    have hyl := run_yield (P := P) (args := args) hl (by rw [hR]; exact hYs k args W hy)
    rw [hR] at hyl
    refine ⟨fn, _, assign, body, hyl, roundIn_of_wpIn hfn (hassign _ k args W _ hy ⟨_, run_beginRound hl (hst _), ?_⟩)⟩
    have hl2 : (W.putObj (d + 1) (.loop { R .ready with state := .busy })).heap[d + 1]? = some (.loop { R .ready with state := .busy }) := World.putObj_heap_same hlt
    have hd2 : (W.putObj (d + 1) (.loop { R .ready with state := .busy })).heap[d]? = some (.deferred (some [])) := (World.putObj_heap_other (by omega)).trans hdd
    refine wpIn_mono (hbody _ k args _ (hI.putObj _ hi (by omega) hl rfl) ((hY k args).putObj (s := ()) _ hy (by omega) hl rfl) hk) ?_
    intro e a3 W3 hp
    cases e with
    | normal =>
      obtain ⟨k3, kp3, i3⟩ := hp
      have hl3 := k3.same _ _ (by omega) hl2 rfl
      have hr := run_endRound (P := P) none hl3
      have hlt3 : d + 1 < W3.heap.size := (Array.getElem?_eq_some_iff.1 hl3).1
      refine ⟨_, _, hr, rfl, ⟨hI.putObj _ i3 (by omega) hl3 rfl, ?_, ?_⟩, hKt (hKt (hKb _ _ _ (by omega)) kp3) (hKb _ _ _ (by omega))⟩
      · rw [World.putObj_heap_same hlt3, hR]
        rfl
      · exact (World.putObj_heap_other (by omega)).trans (k3.same _ _ (by omega) hd2 rfl)
    | ret => exact hp.elim
    | exit id => exact hp.elim
    | goto t => exact hp.elim
    | panic c => exact hp.elim
    | outgrown => exact hp.elim
  · rintro e W ⟨⟨v, rfl⟩, hi, hl, hdd⟩
    have hen := run_endLoop (P := P) hl (by rw [hst]; simp)
    rw [show (R .ready).pending = none by rw [hR]] at hen
    refine ⟨none, _, hen, ?_⟩
    subst hd
    exact hdone _ _ (Nat.le_refl _) (hI.putObj _ hi (by omega) hl rfl) ((World.putObj_heap_other (by omega)).trans hdd)
end
end Go.Proofs.Ytomfgopmgfoecaa
namespace Go.Proofs.Ytomfgopmgfoecaa
open Go.Shelf Go.ChangeMaps Go.MapKept Go.Maps Go.RowKit Go.ChangeShapes Go.WideShapes Go.ChangeAt
attribute [local go_sem] Oper.semAt_some
set_option linter.unusedVariables false
set_option maxRecDepth 100000

section
variable {F : Fence} {n : Nat} {P : Program} {ops : Array Oper} {rest : List Oper} {o : Oper} {a : Act} {w w' : World} {Q : Exit → Act → World → Prop} {K : Act → World → Prop}
theorem wpIn_of_run {v : Value} (hnd : ∀ c, o.op ≠ .defer c) (hab : o.about P w a.eval = none) (hrun : (execOp a.eval o).run P w = .ok (.value v) w') (h : K (a.put o.dst v) w') : o.wpIn F n P a w K Q :=
  ⟨fun f hf => (by rw [hab] at hf; cases hf), by rw [Oper.semAt_eq _ _ _ hnd, hrun]; exact h⟩
theorem listIn_load_mid (hgd : o.guard = none) (ty : TypeId) (x : Operand) (ho : o.op = .load ty x) (b q : Nat) (hx : a.eval x = .pointer (some ⟨b, q, none⟩)) (cs : List Value) (C : Array Value) (hC : cs.toArray = C) (d : TypeDesc) (hc : w.rangeAt b q cs)
    (hu : P.underlying ty = some d) (hd : d.isRow = true) (hi : (P.info? ty).map (·.size) = some C.size) (h : wpListIn F n P ops Q rest (a.put o.dst (.agg C)) w) : wpListIn F n P ops Q (o :: rest) a w := by
  subst hC
  refine wpListIn_plain hgd fun K hK => wpIn_of_run (v := .agg cs.toArray) (w' := w) (by rw [ho]; intro c hc; cases hc) (by simp [Oper.about, ho]) ?_ (hK _ _ h)
  unfold execOp
  simp only [ho, hx, Instr.loadAt, Instr.sureAddr, Sem.run_bind, Sem.run_pure, Result.andThen_ok, run_loadVar_mid w b q ty cs d hc hu hd (by rw [hi]; simp)]
theorem listIn_store_row (hgd : o.guard = none) (ty : TypeId) (x y : Operand) (ho : o.op = .store ty x y) (g : Nat) (cells : Array Value) (hx : a.eval x = .pointer (some ⟨g, 0, none⟩)) (hy : a.eval y = .agg cells)
    (t : TypeId) (old : Array Value) (hg : w.heap[g]? = some (.cells old t (0, 0))) (hi : (P.info? ty).map (·.size) = some cells.size) (hold : old.size = cells.size) (h1 : cells.all (·.oneCell') = true)
    (h : wpListIn F n P ops Q rest (a.put o.dst undef) (w.setRow g cells)) : wpListIn F n P ops Q (o :: rest) a w := by
  refine wpListIn_plain hgd fun K hK => ?_
  unfold Oper.wpIn
  refine ⟨by simp [Oper.about, ho], ?_⟩
  rw [Oper.semAt_eq _ _ _ (by rw [ho]; intro c hc; cases hc)]
  unfold execOp
  simp only [ho, hx, hy, Instr.storeAt, Instr.sureAddr, Sem.run_bind, Sem.run_pure, Result.andThen_ok, run_storeVar_row w g t ty old cells hg hi hold h1]
  exact hK _ _ h
end
/-- What is known of a round's arguments. -/
def YAll (base : Nat) (M : List Sv) (k : Nat) (args : Array Value) (W : World) : Prop := ∃ v B c, M[k]? = some v ∧ args = #[.int .i64 (k : Int), .agg (sgv (v.sg B c))] ∧ Ow W base B v.s
/-- What a round keeps. -/
def KpH (hi : Nat) (W W' : World) : Prop := (∀ q : Addr, q.block < hi → W'.cell? q = W.cell? q) ∧ W.heap.size ≤ W'.heap.size
set_option maxHeartbeats 4000000 in
theorem all1_goes (w : World) (a b cv hi base : Nat) (A : Option Addr) (M : List Sv) (N : Nat) (hN : N = M.length) (hN9 : N ≤ 100000) (hhi : hi ≤ w.heap.size) (hbase : base ≤ w.heap.size) (ha : a < hi) (hc : w.cell? ⟨a, 0, none⟩ = some (.slice A N cv))
    (hv : ∀ (k : Nat) v, M[k]? = some v → v.s.length ≤ 140737488355328 ∧ ∃ b B c, A = some ⟨b, 0, none⟩ ∧ ∀ u, KpH hi w u → u.rangeAt b (k * 101) (sgC (v.sg B c)) ∧ Rd u 0 u.heap.size B v.s) :
    GoesM Fence.wide 8 Try.prog 40 #[.pointer (some ⟨a, 0, none⟩)] (YAll base M) (KpH hi) N w := by
  intro l J W hW hJ hY h0
  have hz := zero_sg
  have HV := Lib.hid hv
  have HY := Lib.hid hY
  have HN := Lib.hid hN
  have HJ := Lib.hid hJ
  have KW : KpH hi w W := ⟨fun q hq => hW.cell (by omega), hW.size⟩
  have HC := Lib.hid (show ∀ u, KpH hi w u → u.cell? ⟨a, 0, none⟩ = some (.slice A N cv) from fun u hu => (hu.1 _ ha).trans hc)
  have H0 := Lib.hid h0
  have HKW := Lib.hid KW
  have c0 := HC.out W KW
  clear hv hY hN hJ hc h0 KW
  refine callsIn_of_wp Try.func40 rfl trivial ?_ rfl
  simp only [Try.ntmps40, List.size_toArray, List.length_cons, List.length_nil, Nat.reduceAdd, Nat.reduceSub, Array.replicate_succ, Array.replicate_zero, List.push_toArray, List.append_toArray, List.nil_append, List.cons_append]
  gi_wp2
  gi_loopw [7] (fun i wr => ∃ k : Nat, k ≤ N ∧ i = .int .i64 (k : Int) ∧ J k wr ∧ KpH hi w wr ∧ W.heap.size ≤ wr.heap.size) (fun i _ => N - (intOf i).toNat)
  case atStart => exact ⟨0, Nat.zero_le _, rfl, H0.out, HKW.out, Nat.le_refl _⟩
  case round =>
    obtain ⟨k, hk, rfl, hJs, hcl, hsz⟩ := hrel
    have J1 := Lib.hid hJs
    have K1 := Lib.hid hcl
    have Z1 := Lib.hid hsz
    clear hJs hcl hsz
    by_cases hlt : k < N
    · obtain ⟨v, hv⟩ : ∃ v, M[k]? = some v := ⟨_, List.getElem?_eq_getElem (by have := HN.out; omega)⟩
      obtain ⟨hl, b, B, c, rfl, hx⟩ := HV.out k v hv
      have rx := (hx wr K1.out).1
      have q1 : (k : Int) < (N : Int) := by omega
      obtain ⟨x, hxe⟩ : ∃ x, x = v.sg B c := ⟨_, rfl⟩
      rw [← hxe] at rx
      have HXE := Lib.hid hxe
      have NW := Lib.hid (SgB.new (x := x) (w := wr))
      obtain ⟨W0, hW0⟩ : ∃ W0, W0 = wr.alloc (.cells (sgv x) 42) := ⟨_, rfl⟩
      have B0 := Lib.hid (show Below wr.heap.size wr W0 by rw [hW0]; exact (Below.refl _ _).alloc (Nat.le_refl _) _)
      have KW0 := Lib.hid (show KpH hi w W0 from ⟨fun q hq => (B0.out.cell (by have := K1.out.2; omega)).trans (K1.out.1 q hq), Nat.le_trans K1.out.2 B0.out.size⟩)
      have CL := Lib.hid (cloneSigned_c x B c v.s W0 (by rw [hxe]; rfl) (hx W0 KW0.out).2 hl)
      have L0 := Lib.hid (show W0.rangeAt wr.heap.size 0 (sgC x) by rw [hW0]; exact NW.out.all)
      have HW0 := Lib.hid hW0
      have ONE := Lib.hid (show (sgv x).all (·.oneCell') = true from by rw [hxe]; exact rowV_one 101 _ (sgf_one _ rfl))
      have HVK := Lib.hid hv
      clear hv hl hx hxe hW0 hW
      iterate 24 (first | go_values | gi_guarded | gi_step | gi_upon)
      refine listIn_load_mid rfl 42 (.tmp 10) rfl b (k * 101) (by go_simp) (sgC x) _ (sgC_arr x) _ rx Try.underlying42 rfl (size_sgv x) ?_
      iterate 6 (first | go_values | gi_guarded | gi_step | gi_upon)
      refine listIn_store_row rfl 42 (.tmp 4) (.tmp 11) rfl wr.heap.size (sgv x) rfl rfl 42 (sgv sgZ) (heap_alloc_last _ _) (size_sgv x) (by rw [show (sgv x).size = 101 from rowV_size _ _]; exact rowV_size _ _) ONE.out ?_
      rw [World.setRow_alloc_new, ← HW0.out]
      gi_wp2_with (first
        | (refine listIn_load_mid rfl 42 (.tmp 4) rfl wr.heap.size 0 rfl (sgC x) _ (sgC_arr x) _ L0.out Try.underlying42 rfl (size_sgv x) ?_)
        | (refine ⟨trivial, ?_⟩; gi_at_call 36; refine (callsIn_wide.2 CL.out).mono ?_; rintro e W1 ⟨A', c', rfl, hcap, ow, b2⟩; have HCP := Lib.hid hcap; have OW := Lib.hid ow; have B2 := Lib.hid b2; clear hcap ow b2)
        | fail)
      have B3 := Lib.hid (show Below wr.heap.size wr W1 from B0.out.trans (B2.out.mono B0.out.size))
      have HE := Lib.hid (show withSig x (.slice A' v.s.length c') = v.sg A' c' by rw [HXE.out]; rfl)
      rw [HE.out]
      obtain ⟨fn, tmps, assign, body, hy, hR⟩ := HY.out k #[.int .i64 (k : Int), .agg (sgv (v.sg A' c'))] W1 (HJ.out _ _ _ none J1.out ⟨B3.out.os, B3.out.tape, B3.out.output, B3.out.size, fun i hi _ => B3.out.block i hi⟩ (by intro r hr; cases hr)) ⟨v, A', c', HVK.out, rfl, OW.out.wide (by have := HKW.out.2; have := Z1.out; have := B0.out.size; omega)⟩ hlt
      have HR := Lib.hid hR
      clear hR
      rw [hy]
      gi_wp2
      refine HR.out.mono ?_
      rintro e W3 ⟨rfl, hJ3, hk3⟩
      have J3 := Lib.hid hJ3
      have K3 := Lib.hid hk3
      clear hJ3 hk3
      gi_wp2
      go_roundw
      case rel => exact ⟨k + 1, by omega, by simp, J3.out, ⟨fun q hq => (K3.out.1 q hq).trans ((B3.out.cell (by have := K1.out.2; omega)).trans (K1.out.1 q hq)), Nat.le_trans K1.out.2 (Nat.le_trans B3.out.size K3.out.2)⟩, Nat.le_trans Z1.out (Nat.le_trans B3.out.size K3.out.2)⟩
      case measure => simp [intOf]; omega
    · obtain rfl : k = N := by omega
      have q : ¬ (k : Int) < (k : Int) := by omega
      gi_wp2
      go_end0
      exact ⟨⟨_, rfl⟩, J1.out⟩
end Go.Proofs.Ytomfgopmgfoecaa
namespace Go.Proofs.Ytomfgopmgfoecaa
open Go.Shelf Go.ChangeMaps Go.MapKept Go.Maps Go.RowKit Go.ChangeShapes Go.WideShapes Go.ChangeAt
attribute [local go_sem] Oper.semAt_some
set_option linter.unusedVariables false
set_option maxRecDepth 100000
set_option maxHeartbeats 4000000 in
/-- All hands back an iterator, which goes over the accepted votes, wherever what lies at its making lies still. -/
theorem all_c {base ga : Nat} {F X : Nat → Prop} {S : PoS} {V : List Sg} {M : List Sv} {w : World} (hp : PoM ga F S w) (ht : Told base X S V M w) (hs : base ≤ w.heap.size) (hM : M.length ≤ 65536) :
    Calls Try.prog 22 #[.pointer (some ⟨ga, 0, none⟩)] w fun e w' => ∃ a, e = .returned (.func (.func 40) #[] #[.pointer (some ⟨a, 0, none⟩)]) ∧ Below w.heap.size w w' ∧
      ∀ u, Below w'.heap.size w' u → GoesM Fence.wide 8 Try.prog 40 #[.pointer (some ⟨a, 0, none⟩)] (YAll w'.heap.size M) (KpH w'.heap.size) M.length u := by
  obtain ⟨s, bt, bk, bb, vv, vl, hd, hg, _, h, ok, hl9⟩ := hp
  obtain ⟨Av, cv, hvv, _, _, _⟩ := ownForm h.votes
  obtain ⟨bv, hbv⟩ : ∃ bv, 0 < S.votes.length → Av = some ⟨bv, 0, none⟩ := by
    rcases h.votes.2 with ⟨e, h0⟩ | ⟨g, cap, cur, e, _⟩
    · exact ⟨0, fun h => by omega⟩
    · rw [hvv] at e
      injection e with e1 _ _
      exact ⟨g, fun _ => e1⟩
  obtain ⟨W, hW⟩ : ∃ W, W = w.alloc (.cells #[.slice none 0 0] 22) := ⟨_, rfl⟩
  obtain ⟨W1, hW1⟩ : ∃ W1, W1 = w.alloc (.cells #[.slice Av S.votes.length cv] 22) := ⟨_, rfl⟩
  have b1 : Below w.heap.size w W := by rw [hW]; exact (Below.refl _ _).alloc (Nat.le_refl _) _
  have b2 : Below w.heap.size w W1 := by rw [hW1]; exact (Below.refl _ _).alloc (Nat.le_refl _) _
  have SC := Lib.hid (seen_c ga s w hg)
  have hc : w.cell? ⟨s, 0, none⟩ = some (.slice Av S.votes.length cv) := by rw [← hvv]; exact cell_of_row w s 0 _ _ (0, 0) h.cells
  have z1 : W1.heap.size = w.heap.size + 1 := by rw [hW1]; simp
  have box : W1.heap[w.heap.size]? = some (.cells #[.slice Av S.votes.length cv] 22 (0, 0)) := by rw [hW1]; exact heap_alloc_new w _
  have hfin : ∀ u, Below W1.heap.size W1 u → GoesM Fence.wide 8 Try.prog 40 #[.pointer (some ⟨w.heap.size, 0, none⟩)] (YAll W1.heap.size M) (KpH W1.heap.size) M.length u := fun u hu => by
    refine all1_goes u w.heap.size 0 cv W1.heap.size W1.heap.size Av M M.length rfl (by omega) hu.size hu.size (by omega) ?_ ?_
    · rw [← ht.lenS, hu.cell (by show w.heap.size < _; omega)]
      exact cell_of_row W1 w.heap.size 0 _ _ (0, 0) box
    · intro k v hv
      obtain ⟨B, c, B', c', e1, e2, e3, lo, hi, e4, e5, e6, e7⟩ := ht.at_ k v hv
      have hkS : k < S.votes.length := (List.getElem?_eq_some_iff.1 e1).1
      have hA := hbv (by omega)
      refine ⟨by have := (ht.st v (List.mem_of_getElem? hv)).2.2; omega, bv, B', c', hA, fun x hx => ?_⟩
      have hcell : ∀ q : Addr, q.block < w.heap.size → x.cell? q = w.cell? q := fun q hq => (hx.1 q (by omega)).trans ((hu.cell (by omega)).trans (b2.cell hq))
      have hrow := h.votes
      rw [hvv, hA] at hrow
      have hr := rws_cells (n := 101) (c := sgC) (LL := S.votes) (base := 0) (cap := cv) sgC_len hrow e1
      have hlt : bv < w.heap.size := (hrow.lt bv rfl).2
      refine ⟨fun j y hy => (hcell _ hlt).trans (hr j y hy), fun hn => ?_⟩
      obtain ⟨b, off, r1, r2, r3, r4⟩ := e6 hn
      exact ⟨b, off, r1, Nat.zero_le _, by have := hx.2; have := hu.size; omega, fun j y hy => (hcell _ (by show b < _; omega)).trans (r4 j y hy)⟩
  have HF := Lib.hid (And.intro b2 hfin)
  have HW := Lib.hid hW
  have HW1 := Lib.hid hW1
  clear h ht hs hM hl9 hvv hbv hg b1 b2 hW hW1 z1 box hfin ok
  go_enter Try.func22, Try.ntmps22
  go_wp2_with fail
  refine SC.out.mono ?_
  rintro e w3 ⟨rfl, rfl⟩
  go_wp2_with fail
  rw [← HW1.out]
  go_ret
  exact ⟨_, rfl, HF.out.1, HF.out.2⟩
end Go.Proofs.Ytomfgopmgfoecaa
