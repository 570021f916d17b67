/- The reference's lists of what is justified, and final. -/
import Derived.Test.YthlbpjkopkicbaaFgRefB
import Derived.Deep.CutBlock
import Derived.Deep.Cut
namespace Go.Proofs.Ythlbpjkopkicbaa
open Go.ChangeMaps Go.MapKept Go.Maps Go.WideElems Go.RowKit Go.ChangeShapes Go.WideShapes Go.ChangeAt
set_option linter.unusedVariables false
set_option maxRecDepth 100000

theorem rangeSrc {w : World} {g o : Nat} {x : Lk} (h : w.rangeAt g o (lC x)) : w.rangeAt g o (pC x.s) := fun j v hv => by
  have hj : j < 33 := by rw [← pC_len x.s]; exact (List.getElem?_eq_some_iff.1 hv).1
  refine h j v ?_
  rw [← lC_src x, List.drop_zero, List.getElem?_take, if_pos hj] at hv
  exact hv
theorem rangeTgt {w : World} {g o : Nat} {x : Lk} (h : w.rangeAt g o (lC x)) : w.rangeAt g (o + 33) (pC x.t) := fun j v hv => by
  have hj : j < 33 := by rw [← pC_len x.t]; exact (List.getElem?_eq_some_iff.1 hv).1
  rw [Nat.add_assoc]
  refine h (33 + j) v ?_
  rw [← lC_tgt x, List.getElem?_take, if_pos hj, List.getElem?_drop] at hv
  exact hv
/-- A list of links that stays. -/
def LksAt (w : World) (base : Nat) (A : Option Addr) (D : List Lk) : Prop := ∀ u, Below base w u → ∀ (k : Nat) x, D[k]? = some x → ∃ g, A = some ⟨g, 0, none⟩ ∧ u.rangeAt g (k * 66) (lC x)
theorem jst_add (l : List Pt) (x : Lk) : (jst l x).length ≤ l.length + 1 := by
  unfold jst
  split
  · simp
  · omega
theorem jrd_add : ∀ (D : List Lk) (l : List Pt), (jrd D l).length ≤ l.length + D.length
  | [], _ => Nat.le_refl _
  | x :: D, l => by
    have h1 := jst_add l x
    have h2 := jrd_add D (jst l x)
    show (jrd D (jst l x)).length ≤ l.length + (D.length + 1)
    omega
theorem own_pts {w : World} {base c : Nat} {A : Option Addr} {L : List Pt} (h : w.ownsRow base 29 33 (.slice A L.length c) L.length (pts L)) : PtsAt w A L := fun u hu k p hk => by
  have hlt := (List.getElem?_eq_some_iff.1 hk).1
  obtain ⟨g, hg⟩ := own_rowS h
  obtain ⟨rfl, hgl⟩ := hg (by omega)
  exact ⟨g, rfl, rangeB hu hgl (point_cells h hk)⟩
theorem own_below0 {w u : World} {base n : Nat} {v : Value} {t : TypeId} {sz : Nat} {xs : List Value} (h : w.ownsRow base t sz v n xs) (hb : Below w.heap.size w u) : u.ownsRow base t sz v n xs := ownKeep h (fun g hg => hb.block g (h.lt g hg).2)
noncomputable def ju_b2C : Code := ((Try.f14.body.bind (blockOf 2))).getD .skip
set_option maxRecDepth 1000000 in
set_option maxHeartbeats 8000000 in
theorem ju_b2 (c0 c2 c3 c4 c6 c8 c9 c10 c11 c12 c13 c14 c15 c16 c17 c18 c19 c20 c21 c22 c23 c24 c25 c26 c27 c28 c29 c30 c31 c32 c33 c34 c35 c36 c37 c38 c39 c40 c41 c42 c43 c44 c45 c46 c47 c48 : Value) (w : World) (A1 A0 : Option Addr) (n cl m cz base : Nat) (D : List Lk) (l : List Pt) (hn : n = D.length) (hm : m = l.length) (hsz : l.length + n ≤ 1000) (hb : base ≤ w.heap.size) (hD : LksAt w base A1 D) (hO : w.ownsRow base 29 33 (.slice A0 m cz) m (pts l))
    (Q : Exit → Act → World → Prop) (hQ : ∀ (u5 u7 u16 u17 u18 u19 u20 u21 u22 u23 u24 u25 u26 u27 u28 u29 u30 u31 u32 u33 u34 u35 u36 u37 u38 u39 u40 u41 u42 u43 u44 u45 u46 : Value) (w' : World), (∃ A' c', u5 = .slice A' (jrd D l).length c' ∧ w'.ownsRow base 29 33 (.slice A' (jrd D l).length c') (jrd D l).length (pts (jrd D l)) ∧ Below base w w') → Q .normal ⟨#[c0, .slice A1 n cl, c2, c3, c4, u5, c6, u7, c8, c9, c10, c11, c12, c13, c14, c15, u16, u17, u18, u19, u20, u21, u22, u23, u24, u25, u26, u27, u28, u29, u30, u31, u32, u33, u34, u35, u36, u37, u38, u39, u40, u41, u42, u43, u44, u45, u46, c47, c48], []⟩ w') :
    Code.wp Try.prog ju_b2C Q ⟨#[c0, .slice A1 n cl, c2, c3, c4, .slice A0 m cz, c6, .int .i64 0, c8, c9, c10, c11, c12, c13, c14, c15, c16, c17, c18, c19, c20, c21, c22, c23, c24, c25, c26, c27, c28, c29, c30, c31, c32, c33, c34, c35, c36, c37, c38, c39, c40, c41, c42, c43, c44, c45, c46, c47, c48], []⟩ w := by
  conv => arg 2; whnf
  try dsimp only at hQ ⊢
  have HQ := Lib.hid hQ
  have HD := Lib.hid hD
  have HN := Lib.hid hn
  obtain ⟨i0, hi0⟩ : ∃ i0, Try.prog.info? 29 = some i0 := ⟨_, (Option.some_get (by kernel_rfl)).symm⟩
  obtain ⟨hz0, hz1, hz2⟩ := point_row hi0
  have HB := Lib.hid hb
  have HO := Lib.hid hO
  clear hQ hD hn hO
  go_wp2_with fail
  go_loopw [5, 7] (fun v5 v7 u => ∃ k A c l', k ≤ n ∧ v5 = .slice A (List.length l') c ∧ v7 = .int .i64 (k : Int) ∧ l' = jrd (D.take k) l ∧ u.ownsRow base 29 33 (.slice A l'.length c) l'.length (pts l') ∧ Below base w u) (fun _ v7 _ => n - (intOf v7).toNat)
  case atStart => exact ⟨0, A0, cz, l, Nat.zero_le _, by rw [hm], rfl, rfl, by rw [← hm]; exact HO.out, Below.refl _ _⟩
  case round =>
    clear HO
    obtain ⟨k, A5, c5, l', hk, rfl, rfl, he, q1, q2⟩ := hrel
    have O1 := Lib.hid q1
    have B1 := Lib.hid q2
    have HE := Lib.hid he
    have hl' : l'.length ≤ l.length + k := by rw [he]; exact Nat.le_trans (jrd_add _ _) (by rw [List.length_take]; omega)
    clear q1 q2 he
    by_cases hkn : k < n
    · obtain ⟨x, hx⟩ : ∃ x, D[k]? = some x := ⟨_, List.getElem?_eq_getElem (by have := HN.out; omega)⟩
      obtain ⟨gl, rfl, hgl⟩ := HD.out w (Below.refl _ _) k x hx
      have KX : Hid (∀ u, Below base w u → u.rangeAt gl (k * 66) (lC x)) := fun u hu => by
        obtain ⟨g', e', k'⟩ := HD.out u hu k x hx
        injection e' with e'
        injection e' with e'
        subst e'
        exact k'
      have HS : Hid (jrd (D.take (k + 1)) l = jst l' x) := by
        have : D.take (k + 1) = D.take k ++ [x] := by rw [List.take_add_one, hx]; rfl
        rw [this, HE.out]
        unfold jrd
        rw [List.foldl_append]
        rfl
      clear hx hgl
      have PA := Lib.hid (own_pts O1.out)
      have k1 := KX.out wr B1.out
      go_wp2_with (first
        | (refine wpList_load_mid rfl 29 (.tmp 26) rfl gl (k * 66) (by go_simp) (pC x.s) _ (rangeSrc k1) Try.underlying29 rfl (by rw [size_pv x.s]; rfl) ?_; rw [pC_arr])
        | fail)
      refine (has_ref wr A5 l'.length c5 l' x.s rfl (by omega) PA.out).mono ?_
      rintro e w2 ⟨rfl, b2⟩
      have B2 := Lib.hid (B1.out.trans (b2.mono (Nat.le_trans HB.out B1.out.size)))
      have P2 := Lib.hid (PA.out.below b2)
      have O2 := Lib.hid (own_below0 O1.out b2)
      have k2 := KX.out w2 B2.out
      clear b2 k1
      by_cases hs : x.s ∈ l'
      · have d1 : decide (x.s ∈ l') = true := decide_eq_true hs
        rw [d1]
        clear d1
        go_wp2_with (first
          | (refine BigFrame.wpList_want rfl (fun K hK => ?_); refine wp_load_midC 29 (.tmp 34) rfl gl (k * 66 + 33) (by go_simp) (pC x.t) (pv x.t) rfl _ (rangeTgt k2) Try.underlying29 rfl (size_pv x.t) ?_; refine hK _ _ ?_; clear hK K)
          | fail)
        refine (has_ref w2 A5 l'.length c5 l' x.t rfl (by omega) P2.out).mono ?_
        rintro e w3 ⟨rfl, b3⟩
        have B3 := Lib.hid (B2.out.trans (b3.mono (Nat.le_trans HB.out B2.out.size)))
        have O3 := Lib.hid (own_below0 O2.out b3)
        have k3 := KX.out w3 B3.out
        clear b3 k2
        by_cases ht : x.t ∈ l'
        · have d1 : decide (x.t ∈ l') = true := decide_eq_true ht
          have HS2 := Lib.hid (show l' = jrd (D.take (k + 1)) l from by rw [HS.out]; unfold jst; rw [if_neg (fun h => h.2 ht)])
          rw [d1]
          clear d1 hs ht
          go_wp2_with fail
          exact ⟨⟨k + 1, A5, c5, l', by omega, rfl, by go_num, HS2.out, O3.out, B3.out⟩, by simp [intOf]; omega⟩
        · have d1 : decide (x.t ∈ l') = false := decide_eq_false ht
          have HS2 := Lib.hid (show l' ++ [x.t] = jrd (D.take (k + 1)) l from by rw [HS.out]; unfold jst; rw [if_pos ⟨hs, ht⟩])
          obtain ⟨w4, hw4⟩ : ∃ w4, w4 = w3.alloc (.cells (pv x.t) 29) := ⟨_, rfl⟩
          have hb4 := one_point x.t w3
          have NV : Hid (w4.ownsRow 0 29 33 (.slice (some ⟨w3.heap.size, 0, none⟩) 1 1) 1 (pC x.t)) := by rw [hw4]; exact own_point x.t w3
          have b4 : Below w3.heap.size w3 w4 := by rw [hw4]; exact (Below.refl _ _).alloc (Nat.le_refl _) _
          rw [← hw4] at hb4
          have O5 := Lib.hid (own_below0 O3.out b4)
          have B4 := Lib.hid (B3.out.trans (b4.mono (Nat.le_trans HB.out B3.out.size)))
          have BS := Lib.hid (Nat.le_trans HB.out B4.out.size)
          rw [d1]
          clear d1 hs ht b4 hw4
          go_wp2_with (first
            | (refine wpList_load_mid rfl 29 (.tmp 43) rfl gl (k * 66 + 33) (by go_simp) (pC x.t) _ (rangeTgt k3) Try.underlying29 rfl (by rw [size_pv x.t]; rfl) ?_; rw [pC_arr])
            | (refine wpList_buildSlice_row (v := .slice (some ⟨w3.heap.size, 0, none⟩) 1 1) (w' := w4) rfl 38 1 #[(0, .tmp 44)] rfl ?hr ?_; case hr => (simp only [List.map_toArray, List.map_cons, List.map_nil]; exact hb4))
            | (at_builtin; refine wpList_append_row rfl (.tmp 39) (.tmp 45) 38 rfl base 29 i0 _ 33 40 Try.underlying38 hi0 hz0 hz1 hz2 (by show (pv ptZ).size = 33; exact rowV_size _ _) (by decide) (.slice A5 l'.length c5) l'.length (pts l') rfl O5.out 0 _ 1 (pC x.t) rfl NV.out (pC_one _) (by unfold maxLen; omega) (by omega) BS.out ?_; intro v' w5 o5 g5 b5; rw [pts_more] at o5)
            | fail)
          obtain ⟨A', c', rfl, _⟩ := ownForm o5
          have O6 := Lib.hid o5
          have B6 := Lib.hid (B4.out.grown g5 BS.out (fun k e => (O5.out.lt k e).1))
          exact ⟨⟨k + 1, A', c', l' ++ [x.t], by omega, by simp, by go_num, HS2.out, by simpa using O6.out, B6.out⟩, by simp [intOf]; omega⟩
      · have d1 : decide (x.s ∈ l') = false := decide_eq_false hs
        have HS2 := Lib.hid (show l' = jrd (D.take (k + 1)) l from by rw [HS.out]; unfold jst; rw [if_neg (fun h => hs h.1)])
        rw [d1]
        clear d1 hs
        go_wp2_with fail
        exact ⟨⟨k + 1, A5, c5, l', by omega, rfl, by go_num, HS2.out, O2.out, B2.out⟩, by simp [intOf]; omega⟩
    · obtain rfl : k = n := by omega
      have HE2 : Hid (l' = jrd D l) := HE.out.trans (by rw [List.take_of_length_le (Nat.le_of_eq HN.out.symm)])
      go_wp2_with fail
      refine HQ.out _ _ _ _ _ _ _ _ _ _ _ _ _ _ _ _ _ _ _ _ _ _ _ _ _ _ _ _ _ _ _ _ _ _ ?_
      exact ⟨A5, c5, by rw [← HE2.out], by rw [← HE2.out]; exact O1.out, B1.out⟩
end Go.Proofs.Ythlbpjkopkicbaa
namespace Go.Proofs.Ythlbpjkopkicbaa
open Go.ChangeMaps Go.MapKept Go.Maps Go.WideElems Go.RowKit Go.ChangeShapes Go.WideShapes Go.ChangeAt
set_option linter.unusedVariables false
set_option maxRecDepth 100000

theorem own_pointB (x : Pt) (u : World) (base : Nat) (hb : base ≤ u.heap.size) : (u.alloc (.cells (pv x) 29)).ownsRow base 29 33 (.slice (some ⟨u.heap.size, 0, none⟩) 1 1) 1 (pC x) := by
  obtain ⟨h1, h2⟩ := own_point x u
  refine ⟨h1, h2.imp id ?_⟩
  rintro ⟨g, cap, cur, e, _, r⟩
  have hg : u.heap.size = g := by
    injection e with e1
    injection e1 with e1
    injection e1 with e1
  exact ⟨g, cap, cur, e, by omega, r⟩
theorem jns_more (D : List Lk) : ∀ (r : Nat) (l : List Pt), jns D (r + 1) l = jrd D (jns D r l)
  | 0, _ => rfl
  | r + 1, l => jns_more D r (jrd D l)
theorem jns_len (a : Pt) (D : List Lk) (r : Nat) : (jns D r [a]).length ≤ D.length + 1 := by
  have := nodup_le ptZ (jns_nodup D r (l := [a]) (by simp)) (M := a :: D.map (·.t)) (jns_all D (fun x hx _ => List.mem_cons_of_mem _ (List.mem_map_of_mem hx)) _ (fun p hp => by rw [List.mem_singleton] at hp; rw [hp]; exact List.mem_cons_self ..))
  simpa using this
theorem LksAt.below {w u : World} {base : Nat} {A : Option Addr} {D : List Lk} (h : LksAt w base A D) (hb : Below base w u) : LksAt u base A D := fun v hv => h v (hb.trans hv)
set_option maxRecDepth 1000000 in
set_option maxHeartbeats 8000000 in
theorem justified_ref (w : World) (A : Option Addr) (n cl : Nat) (a : Pt) (D : List Lk) (hn : n = D.length) (hn2 : n ≤ 100) (hD : LksAt w w.heap.size A D) :
    Calls Try.prog 14 #[.agg (pv a), .slice A n cl] w fun e w' => ∃ A' c' L', e = .returned (.slice A' (List.length L') c') ∧ w'.ownsRow w.heap.size 29 33 (.slice A' L'.length c') L'.length (pts L') ∧ Rise L' ∧ (∀ p, p ∈ L' ↔ p ∈ jus a D) ∧ Below w.heap.size w w' ∧ L'.length ≤ n + 1 := by
  obtain ⟨W0, hW0⟩ : ∃ W0, W0 = w.alloc (.cells (pv a) 29) := ⟨_, rfl⟩
  have b0 : Below w.heap.size w W0 := by rw [hW0]; exact (Below.refl _ _).alloc (Nat.le_refl _) _
  have p0 : PkB w.heap.size a W0 := by rw [hW0]; exact PkB.new
  have g0 := p0.row
  obtain ⟨W1, hW1⟩ : ∃ W1, W1 = W0.alloc (.cells (pv a) 29) := ⟨_, rfl⟩
  have hb1 := one_point a W0
  have b1 : Below w.heap.size w W1 := by rw [hW1]; exact b0.alloc b0.size _
  have O1 : Hid (W1.ownsRow w.heap.size 29 33 (.slice (some ⟨W0.heap.size, 0, none⟩) 1 1) 1 (pts [a])) := by
    have := own_pointB a W0 w.heap.size b0.size
    rw [hW1]
    rw [show pts [a] = pC a by show pts ([] ++ [a]) = _; rw [← pts_more]; rfl]
    exact this
  have HW := Lib.hid hW0
  rw [← hW1] at hb1
  have B1 := Lib.hid b1
  have HD := Lib.hid hD
  have HN := Lib.hid hn
  clear hW0 hW1 b0 p0 b1 hD hn
  go_enter Try.func14, Try.ntmps14
  go_upto_region 1 with fail
  rw [← HW.out]
  go_wp2_with (first
    | (refine wpList_load_row rfl 29 (.tmp 2) rfl w.heap.size rfl 29 (pv a) (0, 0) _ g0 Try.underlying29 rfl (size_pv a) ?_)
    | (refine wpList_buildSlice_row (v := .slice (some ⟨W0.heap.size, 0, none⟩) 1 1) (w' := W1) rfl 38 1 #[(0, .tmp 8)] rfl ?hr ?_; case hr => (simp only [List.map_toArray, List.map_cons, List.map_nil]; exact hb1))
    | fail)
  clear g0 hb1
  go_loopw [5, 6] (fun v5 v6 u => ∃ r A c l', r ≤ n + 1 ∧ v5 = .slice A (List.length l') c ∧ v6 = .int .i64 (r : Int) ∧ l' = jns D r [a] ∧ u.ownsRow w.heap.size 29 33 (.slice A l'.length c) l'.length (pts l') ∧ Below w.heap.size w u) (fun _ v6 _ => n + 1 - (intOf v6).toNat)
  case atStart => exact ⟨0, _, _, [a], Nat.zero_le _, rfl, rfl, rfl, O1.out, B1.out⟩
  case round =>
    clear O1 B1
    obtain ⟨r, A5, c5, l', hr, rfl, rfl, he, q1, q2⟩ := hrel
    have O2 := Lib.hid q1
    have B2 := Lib.hid q2
    have HE := Lib.hid he
    have hl' : l'.length ≤ n + 1 := by rw [he, HN.out]; exact jns_len a D r
    clear q1 q2 he
    by_cases hrn : r ≤ n
    · have S2 := B2.out.size
      have HD2 := Lib.hid (HD.out.below B2.out)
      have d1 : decide ((r : Int) ≤ (n : Int)) = true := decide_eq_true (by omega)
      go_upto_block 2 with fail
      refine ju_b2 _ _ _ _ _ _ _ _ _ _ _ _ _ _ _ _ _ _ _ _ _ _ _ _ _ _ _ _ _ _ _ _ _ _ _ _ _ _ _ _ _ _ _ _ _ _ wr A A5 n cl l'.length c5 w.heap.size D l' HN.out rfl (by omega) S2 HD2.out O2.out _ ?_
      rintro t5 t7 t16 t17 t18 t19 t20 t21 t22 t23 t24 t25 t26 t27 t28 t29 t30 t31 t32 t33 t34 t35 t36 t37 t38 t39 t40 t41 t42 t43 t44 t45 t46 w3 ⟨A6, c6, rfl, o3, b3⟩
      have O3 := Lib.hid o3
      have B3 := Lib.hid (B2.out.trans b3)
      have HE3 := Lib.hid (show jrd D l' = jns D (r + 1) [a] by rw [jns_more, HE.out])
      clear o3 b3 S2
      go_wp2_with fail
      exact ⟨⟨r + 1, A6, c6, jrd D l', by omega, rfl, by go_num, HE3.out, O3.out, B3.out⟩, by simp [intOf]; omega⟩
    · obtain rfl : r = n + 1 := by omega
      have HJ := Lib.hid (show l' = jus a D by rw [HE.out, HN.out]; rfl)
      have d1 : decide (((n + 1 : Nat) : Int) ≤ (n : Int)) = false := decide_eq_false (by omega)
      obtain ⟨r2, hr2⟩ : ∃ r2, n + 1 = r2 := ⟨_, rfl⟩
      rw [hr2] at d1 hrn ⊢
      have CS := Lib.hid (sort_ref wr A5 l'.length c5 l' rfl (by omega) (own_pts O2.out) (by rw [HJ.out]; exact jus_nodup a D))
      clear hr2
      go_wp2_with fail
      refine CS.out.mono ?_
      rintro e w4 ⟨A', c', L', rfl, h1, h2, h3, h4, h5⟩
      go_wp2_with fail
      go_ret
      exact ⟨A', c', L', by rw [h1]; rfl, by rw [h1]; exact own_base h2 B2.out.size, h3, fun p => by rw [h4 p, HJ.out], B2.out.trans (h5.mono B2.out.size), by rw [h1]; omega⟩
end Go.Proofs.Ythlbpjkopkicbaa
namespace Go.Proofs.Ythlbpjkopkicbaa
open Go.ChangeMaps Go.MapKept Go.Maps Go.WideElems Go.RowKit Go.ChangeShapes Go.WideShapes Go.ChangeAt
set_option linter.unusedVariables false
set_option maxRecDepth 100000

theorem fst_add (J l : List Pt) (x : Lk) : (fst J l x).length ≤ l.length + 1 := by
  unfold fst
  split
  · simp
  · omega
theorem fis_add (J : List Pt) : ∀ (D : List Lk) (l : List Pt), (D.foldl (fst J) l).length ≤ l.length + D.length
  | [], _ => Nat.le_refl _
  | x :: D, l => by
    have h1 := fst_add J l x
    have h2 := fis_add J D (fst J l x)
    rw [List.foldl_cons, List.length_cons]
    omega
/-- The gadget finds the same final. -/
theorem fis_iff {a : Pt} {S : FgS} (h : Inv a S) {D : List Lk} (hD : ∀ y, y ∈ S.told ↔ y ∈ D) {J : List Pt} (hJ : ∀ p, p ∈ J ↔ p ∈ jus a D) (p : Pt) : p ∈ fis a J D ↔ 2 ≤ stN S.stands p := by
  have e1 : 2 ≤ stN S.stands p ↔ stN S.stands p = 2 := by have := h.pend.le2 p; omega
  rw [e1, h.final p]
  unfold fis
  rw [fis_mem, List.mem_singleton]
  constructor
  · rintro (e | ⟨y, y1, y2, y3, y4⟩)
    · exact .inl e
    · exact .inr ⟨y, (hD y).2 y1, y2, y3, (jus_iff h hD p).1 (y2 ▸ (hJ _).1 y4)⟩
  · rintro (e | ⟨y, y1, y2, y3, y4⟩)
    · exact .inl e
    · exact .inr ⟨y, (hD y).1 y1, y2, y3, by rw [y2]; exact (hJ p).2 ((jus_iff h hD p).2 y4)⟩
set_option maxRecDepth 1000000 in
set_option maxHeartbeats 8000000 in
theorem final_ref (w : World) (A : Option Addr) (n cl : Nat) (a : Pt) (D : List Lk) (hn : n = D.length) (hn2 : n ≤ 100) (hD : LksAt w w.heap.size A D) :
    Calls Try.prog 15 #[.agg (pv a), .slice A n cl] w fun e w' => ∃ A' c' L' J, e = .returned (.slice A' (List.length L') c') ∧ w'.ownsRow w.heap.size 29 33 (.slice A' L'.length c') L'.length (pts L') ∧ Rise L' ∧ (∀ p, p ∈ L' ↔ p ∈ fis a J D) ∧ (∀ p, p ∈ J ↔ p ∈ jus a D) ∧ Below w.heap.size w w' ∧ L'.length ≤ n + 1 := by
  obtain ⟨W0, hW0⟩ : ∃ W0, W0 = w.alloc (.cells (pv a) 29) := ⟨_, rfl⟩
  have b0 : Below w.heap.size w W0 := by rw [hW0]; exact (Below.refl _ _).alloc (Nat.le_refl _) _
  have p0 : PkB w.heap.size a W0 := by rw [hW0]; exact PkB.new
  have g0 := p0.row
  obtain ⟨i0, hi0⟩ : ∃ i0, Try.prog.info? 29 = some i0 := ⟨_, (Option.some_get (by kernel_rfl)).symm⟩
  obtain ⟨hz0, hz1, hz2⟩ := point_row hi0
  have hD0 : LksAt W0 W0.heap.size A D := fun u hu => hD u (b0.trans (hu.mono b0.size))
  have CJ := Lib.hid (justified_ref W0 A n cl a D hn hn2 hD0)
  have HW := Lib.hid hW0
  have HD := Lib.hid hD
  have HN := Lib.hid hn
  have B0 := Lib.hid b0
  have P0 := Lib.hid p0
  clear hW0 b0 p0 hD hn hD0
  go_enter Try.func15, Try.ntmps15
  go_upto_region 1 with fail
  rw [← HW.out]
  go_wp2_with (first
    | (refine wpList_load_row rfl 29 (.tmp 2) rfl w.heap.size rfl 29 (pv a) (0, 0) _ g0 Try.underlying29 rfl (size_pv a) ?_)
    | fail)
  refine CJ.out.mono ?_
  rintro e w1 ⟨AJ, cJ, J, rfl, oJ, rJ, mJ, b1, lJ⟩
  have B1 := Lib.hid (B0.out.trans (b1.mono B0.out.size))
  have PJ := Lib.hid (own_pts oJ)
  have MJ := Lib.hid mJ
  have g1 := (P0.out.below b1 P0.out.lt).row
  obtain ⟨mj, hmj⟩ : ∃ mj, mj = J.length := ⟨_, rfl⟩
  rw [← hmj]
  have HMJ := Lib.hid hmj
  have hmj2 : mj ≤ 1000 := by omega
  obtain ⟨W2, hW2⟩ : ∃ W2, W2 = w1.alloc (.cells (pv a) 29) := ⟨_, rfl⟩
  have hb2 := one_point a w1
  have B2 : Hid (Below w1.heap.size w1 W2) := by rw [hW2]; exact (Below.refl _ _).alloc (Nat.le_refl _) _
  have O2 : Hid (W2.ownsRow w1.heap.size 29 33 (.slice (some ⟨w1.heap.size, 0, none⟩) 1 1) 1 (pts [a])) := by
    have := own_pointB a w1 w1.heap.size (Nat.le_refl _)
    rw [hW2]
    rw [show pts [a] = pC a by show pts ([] ++ [a]) = _; rw [← pts_more]; rfl]
    exact this
  rw [← hW2] at hb2
  clear hW2 oJ rJ mJ b1 g0 hmj CJ lJ
  go_wp2_with (first
    | (refine wpList_load_row rfl 29 (.tmp 2) rfl w.heap.size rfl 29 (pv a) (0, 0) _ g1 Try.underlying29 rfl (size_pv a) ?_)
    | (refine wpList_buildSlice_row (v := .slice (some ⟨w1.heap.size, 0, none⟩) 1 1) (w' := W2) rfl 38 1 #[(0, .tmp 12)] rfl ?hr ?_; case hr => (simp only [List.map_toArray, List.map_cons, List.map_nil]; exact hb2))
    | fail)
  clear g1 hb2
  go_loopw [6, 7] (fun v6 v7 u => ∃ k A c l', k ≤ n ∧ v6 = .slice A (List.length l') c ∧ v7 = .int .i64 (k : Int) ∧ l' = (D.take k).foldl (fst J) [a] ∧ u.ownsRow w1.heap.size 29 33 (.slice A l'.length c) l'.length (pts l') ∧ Below w1.heap.size w1 u) (fun _ v7 _ => n - (intOf v7).toNat)
  case atStart => exact ⟨0, _, _, [a], Nat.zero_le _, rfl, rfl, rfl, O2.out, B2.out⟩
  case round =>
    clear O2 B2
    obtain ⟨k, A6, c6, l', hk, rfl, rfl, he, q1, q2⟩ := hrel
    have O1 := Lib.hid q1
    have BR := Lib.hid q2
    have HE := Lib.hid he
    have hl' : l'.length ≤ 1 + k := by rw [he]; exact Nat.le_trans (fis_add _ _ _) (by rw [List.length_take, List.length_singleton]; omega)
    clear q1 q2 he
    by_cases hkn : k < n
    · obtain ⟨x, hx⟩ : ∃ x, D[k]? = some x := ⟨_, List.getElem?_eq_getElem (by have := HN.out; omega)⟩
      obtain ⟨gl, rfl, hgl⟩ := HD.out w (Below.refl _ _) k x hx
      have kx : wr.rangeAt gl (k * 66) (lC x) := by
        obtain ⟨g', e', k'⟩ := HD.out wr (B1.out.trans (BR.out.mono B1.out.size)) k x hx
        injection e' with e'
        injection e' with e'
        subst e'
        exact k'
      have HS : Hid ((D.take (k + 1)).foldl (fst J) [a] = fst J l' x) := by
        have : D.take (k + 1) = D.take k ++ [x] := by rw [List.take_add_one, hx]; rfl
        rw [this, HE.out, List.foldl_append]
        rfl
      clear hx hgl
      have hzl := zero_link
      obtain ⟨u1, hu1⟩ : ∃ u1, u1 = wr.alloc (.cells (lv x) 36) := ⟨_, rfl⟩
      have b1 : Below wr.heap.size wr u1 := by rw [hu1]; exact (Below.refl _ _).alloc (Nat.le_refl _) _
      have HX1 : Hid (LkB wr.heap.size x u1) := by rw [hu1]; exact LkB.new
      have HU1 := Lib.hid hu1
      have BU := Lib.hid (BR.out.trans (b1.mono BR.out.size))
      have OU := Lib.hid (own_below0 O1.out b1)
      clear b1 hu1
      have ks := HX1.out.src
      have qn := near_test x
      go_wp2_with (first
        | (refine wpList_load_mid rfl 36 (.tmp 22) rfl gl (k * 66) (by go_simp) (lC x) _ kx Try.underlying36 rfl (by rw [size_lv x]; rfl) ?_; rw [lC_arr])
        | (refine wpList_store_row rfl 36 (.tmp 8) (.tmp 23) rfl wr.heap.size (lv x) rfl rfl 36 (lv lkZ) (heap_alloc_new wr _) (size_lv x) (by unfold lv; rw [rowV_size, rowV_size]) (rowV_one 66 _ (lkf_one x)) ?_; rw [World.setRow_alloc_new]; rw [← HU1.out])
        | (refine wpList_load_mid rfl 29 (.tmp 25) rfl wr.heap.size 0 (by go_simp) (pC x.s) _ (ks) Try.underlying29 rfl (by rw [size_pv x.s]; rfl) ?_; rw [pC_arr])
        | fail)
      refine (has_ref u1 AJ mj cJ J x.s HMJ.out (by omega) (PJ.out.below BU.out)).mono ?_
      rintro e w3 ⟨rfl, b3⟩
      have B3 := Lib.hid (BU.out.trans (b3.mono BU.out.size))
      have O3 := Lib.hid (own_below0 OU.out b3)
      have X3 := Lib.hid (HX1.out.below b3 HX1.out.lt)
      clear b3 ks kx HX1 HU1
      have c0 := X3.out.epoch
      have c33 := X3.out.epochT
      have ks := X3.out.src
      by_cases hs : x.s ∈ J
      · have d1 : decide (x.s ∈ J) = true := decide_eq_true hs
        rw [d1]
        clear d1
        cases hnr : near x
        · rw [hnr] at qn
          have HS2 := Lib.hid (show l' = (D.take (k + 1)).foldl (fst J) [a] from by rw [HS.out]; unfold fst; rw [if_neg (fun h => by rw [hnr] at h; cases h.2.1)])
          clear hnr hs
          go_wp2_with fail
          exact ⟨⟨k + 1, A6, c6, l', by omega, rfl, by go_num, HS2.out, O3.out, B3.out⟩, by simp [intOf]; omega⟩
        · rw [hnr] at qn
          have PL := Lib.hid (own_pts O3.out)
          go_wp2_with (first
            | (refine BigFrame.wpList_want rfl (fun K hK => ?_); refine wp_load_midC 29 (.tmp 40) rfl wr.heap.size 0 (by go_simp) (pC x.s) (pv x.s) rfl _ (ks) Try.underlying29 rfl (size_pv x.s) ?_; refine hK _ _ ?_; clear hK K)
            | fail)
          refine (has_ref w3 A6 l'.length c6 l' x.s rfl (by omega) PL.out).mono ?_
          rintro e w4 ⟨rfl, b4⟩
          have B4 := Lib.hid (B3.out.trans (b4.mono B3.out.size))
          have O4 := Lib.hid (own_below0 O3.out b4)
          have X4 := Lib.hid (X3.out.below b4 X3.out.lt)
          clear b4 ks c0 c33 X3
          have ks := X4.out.src
          by_cases ht : x.s ∈ l'
          · have d1 : decide (x.s ∈ l') = true := decide_eq_true ht
            have HS2 := Lib.hid (show l' = (D.take (k + 1)).foldl (fst J) [a] from by rw [HS.out]; unfold fst; rw [if_neg (fun h => h.2.2 ht)])
            rw [d1]
            clear d1 hs ht hnr
            go_wp2_with fail
            exact ⟨⟨k + 1, A6, c6, l', by omega, rfl, by go_num, HS2.out, O4.out, B4.out⟩, by simp [intOf]; omega⟩
          · have d1 : decide (x.s ∈ l') = false := decide_eq_false ht
            have HS2 := Lib.hid (show l' ++ [x.s] = (D.take (k + 1)).foldl (fst J) [a] from by rw [HS.out]; unfold fst; rw [if_pos ⟨hs, hnr, ht⟩])
            obtain ⟨w5, hw5⟩ : ∃ w5, w5 = w4.alloc (.cells (pv x.s) 29) := ⟨_, rfl⟩
            have hb5 := one_point x.s w4
            have NV : Hid (w5.ownsRow 0 29 33 (.slice (some ⟨w4.heap.size, 0, none⟩) 1 1) 1 (pC x.s)) := by rw [hw5]; exact own_point x.s w4
            have b5 : Below w4.heap.size w4 w5 := by rw [hw5]; exact (Below.refl _ _).alloc (Nat.le_refl _) _
            rw [← hw5] at hb5
            have O5 := Lib.hid (own_below0 O4.out b5)
            have B5 := Lib.hid (B4.out.trans (b5.mono B4.out.size))
            have BS := Lib.hid B5.out.size
            rw [d1]
            clear d1 hs ht hnr b5 hw5
            go_wp2_with (first
              | (refine wpList_load_mid rfl 29 (.tmp 46) rfl wr.heap.size 0 (by go_simp) (pC x.s) _ (ks) Try.underlying29 rfl (by rw [size_pv x.s]; rfl) ?_; rw [pC_arr])
              | (refine wpList_buildSlice_row (v := .slice (some ⟨w4.heap.size, 0, none⟩) 1 1) (w' := w5) rfl 38 1 #[(0, .tmp 47)] rfl ?hr ?_; case hr => (simp only [List.map_toArray, List.map_cons, List.map_nil]; exact hb5))
              | (at_builtin; refine wpList_append_row rfl (.tmp 45) (.tmp 48) 38 rfl w1.heap.size 29 i0 _ 33 40 Try.underlying38 hi0 hz0 hz1 hz2 (by show (pv ptZ).size = 33; exact rowV_size _ _) (by decide) (.slice A6 l'.length c6) l'.length (pts l') rfl O5.out 0 _ 1 (pC x.s) rfl NV.out (pC_one _) (by unfold maxLen; omega) (by omega) BS.out ?_; intro v' w6 o6 g6 b6; rw [pts_more] at o6)
              | fail)
            obtain ⟨A', c', rfl, _⟩ := ownForm o6
            have O6 := Lib.hid o6
            have B6 := Lib.hid (B5.out.grown g6 BS.out (fun k e => (O5.out.lt k e).1))
            exact ⟨⟨k + 1, A', c', l' ++ [x.s], by omega, by simp, by go_num, HS2.out, by simpa using O6.out, B6.out⟩, by simp [intOf]; omega⟩
      · have d1 : decide (x.s ∈ J) = false := decide_eq_false hs
        have HS2 := Lib.hid (show l' = (D.take (k + 1)).foldl (fst J) [a] from by rw [HS.out]; unfold fst; rw [if_neg (fun h => hs h.1)])
        rw [d1]
        clear d1 hs
        go_wp2_with fail
        exact ⟨⟨k + 1, A6, c6, l', by omega, rfl, by go_num, HS2.out, O3.out, B3.out⟩, by simp [intOf]; omega⟩
    · obtain rfl : k = n := by omega
      have HF := Lib.hid (show l' = fis a J D from HE.out.trans (by rw [List.take_of_length_le (Nat.le_of_eq HN.out.symm)]; rfl))
      have CS := Lib.hid (sort_ref wr A6 l'.length c6 l' rfl (by omega) (own_pts O1.out) (by rw [HF.out]; exact fis_nodup J D (by simp)))
      go_wp2_with fail
      refine CS.out.mono ?_
      rintro e w4 ⟨A', c', L', rfl, h1, h2, h3, h4, h5⟩
      have BB := Lib.hid (B1.out.trans (BR.out.mono B1.out.size))
      go_wp2_with fail
      go_ret
      exact ⟨A', c', L', J, by rw [h1]; rfl, by rw [h1]; exact own_base h2 BB.out.size, h3, fun p => by rw [h4 p, HF.out], MJ.out, BB.out.trans (h5.mono BB.out.size), by rw [h1]; omega⟩
end Go.Proofs.Ythlbpjkopkicbaa
namespace Go.Proofs.Ythlbpjkopkicbaa
open Go.ChangeMaps Go.MapKept Go.Maps Go.WideElems Go.RowKit Go.ChangeShapes Go.WideShapes Go.ChangeAt
set_option linter.unusedVariables false
set_option maxRecDepth 100000

section
attribute [local irreducible] keyN
/-- The last of a rising list is the last of all. -/
theorem last_rise {S : FgS} {least : Nat} {L : List Pt} {q : Pt} (hr : Rise L) (hm : ∀ p, p ∈ L ↔ least ≤ stN S.stands p) (hq : LastOf S least q) : L[L.length - 1]? = some q := by
  obtain ⟨j, hj⟩ := List.getElem?_of_mem ((hm q).2 hq.1)
  obtain ⟨l1, e1⟩ := List.getElem?_eq_some_iff.1 hj
  by_cases h : j = L.length - 1
  · exact h ▸ hj
  · have l2 : L.length - 1 < L.length := by omega
    have h2 := List.pairwise_iff_getElem.1 hr j (L.length - 1) l1 l2 (by omega)
    have h3 := hq.2 _ ((hm _).1 (List.getElem_mem l2))
    have h4 : keyN q < keyN (L[L.length - 1]'l2) := e1 ▸ h2
    exact absurd h4 (Nat.not_lt.2 h3)
/-- What a link's telling answers. -/
theorem strongs_er {S S' : FgS} {x : Lk} {er : Int} (h : Strongs S x S' er) : er = if mayL x = false then 2 else if x ∈ S.told then 11 else 0 := by
  rcases h with ⟨h1, h2, _⟩ | ⟨h1, h2, h3, _⟩ | ⟨h1, h2, h3, _⟩
  · rw [if_pos h1, h2]
  · rw [if_neg (by rw [h1]; decide), if_pos h2, h3]
  · rw [if_neg (by rw [h1]; decide), if_neg h2, h3]
end
end Go.Proofs.Ythlbpjkopkicbaa
