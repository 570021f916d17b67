/- PoolSum: its walk. -/
import Derived.Test.YtomfgopmgfoecaaPoDo
namespace Go.Proofs.Ytomfgopmgfoecaa
open Go.ChangeMaps Go.MapKept Go.Maps Go.RowKit Go.ChangeShapes Go.WideShapes Go.ChangeAt
set_option linter.unusedVariables false
set_option maxRecDepth 100000

/-- Each vote is counted under its link, and under no other one. -/
theorem sum_links (f : Sg → Nat) (L : List Lk) (hL : L.Nodup) : ∀ V : List Sg, (∀ x ∈ V, x.k ∈ L) → (L.map (fun k => ((V.filter (fun x => decide (x.k = k))).map f).sum)).sum = (V.map f).sum
  | [], _ => by
    have : L.map (fun k => ((([] : List Sg).filter (fun x => decide (x.k = k))).map f).sum) = L.map (fun _ => 0) := List.map_congr_left (fun k _ => rfl)
    rw [this]
    clear this hL
    induction L with
    | nil => rfl
    | cons a L ih => simpa using ih
  | x :: V, h => by
    have ih := sum_links f L hL V (fun y hy => h y (List.mem_cons_of_mem _ hy))
    have hx := h x List.mem_cons_self
    have e1 : L.map (fun k => (((x :: V).filter (fun x => decide (x.k = k))).map f).sum) = L.map (fun k => (if x.k = k then f x else 0) + ((V.filter (fun x => decide (x.k = k))).map f).sum) := List.map_congr_left (fun k _ => by
      by_cases e : x.k = k
      · rw [List.filter_cons_of_pos (by simp [e]), if_pos e, List.map_cons, List.sum_cons]
      · rw [List.filter_cons_of_neg (by simp [e]), if_neg e, Nat.zero_add])
    have e2 : ∀ (g h : Lk → Nat) (L : List Lk), (L.map (fun k => g k + h k)).sum = (L.map g).sum + (L.map h).sum := fun g h L => by
      induction L with
      | nil => rfl
      | cons a L ih => simp only [List.map_cons, List.sum_cons, ih]; omega
    have e3 : ∀ L : List Lk, x.k ∉ L → (L.map (fun k => if x.k = k then f x else 0)).sum = 0 := fun L hn => by
      induction L with
      | nil => rfl
      | cons a L ih =>
        rw [List.map_cons, List.sum_cons, if_neg (fun e => hn (by rw [e]; exact List.mem_cons_self)), ih (fun e => hn (List.mem_cons_of_mem _ e))]
    have e4 : ∀ L : List Lk, L.Nodup → x.k ∈ L → (L.map (fun k => if x.k = k then f x else 0)).sum = f x := fun L hn hm => by
      induction L with
      | nil => cases hm
      | cons a L ih =>
        rw [List.nodup_cons] at hn
        rw [List.map_cons, List.sum_cons]
        by_cases e : x.k = a
        · rw [if_pos e, e3 L (by rw [e]; exact hn.1), Nat.add_zero]
        · rw [if_neg e, Nat.zero_add]
          exact ih hn.2 ((List.mem_cons.1 hm).resolve_left e)
    rw [e1, e2, ih, e4 L hL hx, List.map_cons, List.sum_cons]
theorem sum_take_le (l : List Nat) (k : Nat) : (l.take k).sum ≤ l.sum := by
  conv => rhs; rw [← List.take_append_drop k l]
  rw [List.sum_append]
  omega
theorem sum_le (V : List Sg) (h : ∀ x ∈ V, x.st ≤ 4294967296) : (V.map (·.st)).sum ≤ 4294967296 * V.length := by
  induction V with
  | nil => simp
  | cons x r ih =>
    have h1 := h x (by simp)
    have h2 := ih (fun y hy => h y (by simp [hy]))
    simp only [List.map_cons, List.sum_cons, List.length_cons]
    omega
theorem sum_ones {α : Type} (V : List α) : (V.map (fun _ => 1)).sum = V.length := by
  induction V with
  | nil => rfl
  | cons x r ih => simp only [List.map_cons, List.sum_cons, List.length_cons, ih]; omega
theorem take_sum {l : List Nat} {i z : Nat} (h : l[i]? = some z) : (l.take (i + 1)).sum = (l.take i).sum + z := by
  rw [List.take_add_one, h, List.sum_append]
  simp
/-- A new reference's pool. -/
theorem rfm_new (w : World) : RfM w.heap.size (fun k => k = w.heap.size) [] (w.alloc (.cells #[.slice none 0 0] 31)) :=
  ⟨⟨.slice none 0 0, heap_alloc_new w _, ⟨rfl, .inl ⟨rfl, rfl⟩⟩, fun k e => by cases e⟩, rfl, fun k e => by rw [e]; simp⟩
theorem duo_new {base ga : Nat} {F : Nat → Prop} {w : World} (hp : PoM ga F poS0 w) (hF : ∀ k, F k → base ≤ k) (hs : base ≤ w.heap.size) : Duo base ga F poS0 w.heap.size (fun k => k = w.heap.size) [] [] (w.alloc (.cells #[.slice none 0 0] 31)) := by
  have hb : Below w.heap.size w (w.alloc (.cells #[.slice none 0 0] 31)) := (Below.refl _ _).alloc (Nat.le_refl _) _
  exact ⟨hp.below hb, rfm_new w, fun k e e2 => by have := hp.fin.2 k e; omega, fun e => by have := hp.fin.1; omega, hF, fun k e => by omega, Told.start _, Nat.le_trans hs hb.size⟩
theorem links_mm {g : Nat} {F : Nat → Prop} {S : PoS} {w : World} (h : PoM g F S w) : Calls Try.prog 20 #[.pointer (some ⟨g, 0, none⟩)] w fun e w' => ∃ A c, e = .returned (.slice A S.links.length c) ∧ w'.ownsRow w.heap.size 50 66 (.slice A S.links.length c) S.links.length (rws lC S.links) ∧ Below w.heap.size w w' := by
  obtain ⟨s, bt, bk, bb, vv, vl, hd, h1, h2, h3, h4, h5⟩ := h
  exact links_c h1 h3 (by have := h4.links; omega)
set_option maxRecDepth 1000000 in
set_option maxHeartbeats 16000000 in
theorem poolSum_any (A : Option Addr) (n c : Nat) (L : List Sv) (W : World) (hn : n = L.length) (hn2 : n ≤ 9223372036854775807) (h : SvsAt W A L) :
    Calls Try.prog 7 #[.slice A n c] W fun e w' => e = .returned (.bool true) ∧ Below W.heap.size W w' := by
  have FC := Lib.hid (few_c A n c L W hn hn2 h)
  have HA := Lib.hid h
  have HN := Lib.hid hn
  obtain ⟨fw, hfw⟩ : ∃ b, b = fewV L := ⟨_, rfl⟩
  rw [← hfw] at FC
  have HFW := Lib.hid hfw
  clear h hn hfw
  go_enter Try.func7, Try.ntmps7
  go_wp2_with fail
  refine FC.out.mono ?_
  rintro e W ⟨rfl, rfl⟩
  cases fw with
  | false =>
    go_wp2_with fail
    refine (known_c W).mono ?_
    rintro e w1 ⟨rfl, b1⟩
    go_wp2_with fail
    go_ret
    exact ⟨rfl, b1⟩
  | true =>
  have HF := Lib.hid (few_all HFW.out.symm)
  clear FC
  go_wp2_with fail
  refine (new_c _).mono ?_
  rintro e w1 ⟨ga, Fa, rfl, pa, b1, ha1, fa1⟩
  have D0 := Lib.hid (duo_new pa fa1 b1.size)
  have bA : Below w1.heap.size w1 (w1.alloc (.cells #[.slice none 0 0] 31)) := (Below.refl _ _).alloc (Nat.le_refl _) _
  have B0 := Lib.hid (b1.trans (bA.mono b1.size))
  clear pa b1 ha1 fa1 bA
  go_wp2_with fail
  obtain ⟨w2, hw2⟩ : ∃ x, x = w1.alloc (.cells #[.slice none 0 0] 31) := ⟨_, rfl⟩
  obtain ⟨gr, hgr⟩ : ∃ x, x = w1.heap.size := ⟨_, rfl⟩
  rw [← hw2] at D0 B0 ⊢
  rw [← hgr] at D0 ⊢
  clear hw2 hgr
  refine (do_c D0.out B0.out A n c L HN.out HA.out HF.out.1 (by have := HF.out.2; simp only [List.length_nil]; omega)).mono ?_
  rintro e w3 ⟨rfl, F, S, G, V, M, d, b3, f3, g3, ml⟩
  have D := Lib.hid d
  have B3 := Lib.hid (B0.out.trans b3)
  have HM : Hid (M.length ≤ 60) := Lib.hid (by have := HF.out.2; have := HN.out; simp only [List.length_nil] at ml; omega)
  clear d b3 f3 g3 ml D0 B0
  go_wp2_with fail
  obtain ⟨A2, c2, hc, hrow⟩ := D.out.r.cells
  obtain ⟨m, hm⟩ : ∃ m, m = V.length := ⟨_, rfl⟩
  have LM := Lib.hid hm
  rw [← hm] at hc
  have ROW := Lib.hid hrow
  have M60 : Hid (m ≤ 60) := Lib.hid (by have := D.out.told.lenV; have := HM.out; omega)
  have TOT := Lib.hid (show (V.map (·.st)).sum ≤ 4294967296 * 60 by
    have := sum_le V D.out.told.sts
    have := M60.out
    have h3 : V.length ≤ 60 := by omega
    have h4 := Nat.mul_le_mul_left 4294967296 h3
    omega)
  have m9 : m ≤ 60 := M60.out
  clear hm hrow
  go_loopw [5, 8] (fun v5 v8 u => ∃ i : Nat, i ≤ m ∧ v8 = .int .i64 (i : Int) ∧ v5 = .int .u64 ((((V.map (·.st)).take i).sum : Nat) : Int) ∧ u = w3) (fun _ v8 _ => m - (intOf v8).toNat)
  case atStart => exact ⟨0, Nat.zero_le _, rfl, rfl, rfl⟩
  case round =>
    obtain ⟨i, hi, rfl, rfl, rfl⟩ := hrel
    by_cases hin : i < m
    · obtain ⟨x, hx⟩ : ∃ v, V[i]? = some v := ⟨_, List.getElem?_eq_getElem (by have := LM.out; omega)⟩
      obtain ⟨b, rfl, r1⟩ := ROW.out i x hx
      have hs := sg_stake r1
      have T1 := Lib.hid (take_sum (l := V.map (·.st)) (i := i) (z := x.st) (by rw [List.getElem?_map, hx]; rfl))
      have T2 := Lib.hid (sum_take_le (V.map (·.st)) (i + 1))
      obtain ⟨y, hy⟩ : ∃ y, y = ((V.map (·.st)).take i).sum := ⟨_, rfl⟩
      obtain ⟨z, hz⟩ : ∃ z, z = x.st := ⟨_, rfl⟩
      rw [← hz] at hs
      rw [← hz, ← hy] at T1
      rw [← hy]
      have w9 : y + z < 18446744073709551616 := by have := T1.out; have := T2.out; have := TOT.out; omega
      clear hx hy hz r1
      go_wp2_with fail
      refine ⟨⟨i + 1, by omega, by go_num, ?_, trivial⟩, by simp [intOf]; omega⟩
      rw [T1.out]
      go_num
    · obtain rfl : i = m := by omega
      have E1 := Lib.hid (show ((V.map (·.st)).take i).sum = (V.map (·.st)).sum by rw [LM.out, show V.length = (V.map (·.st)).length by simp, List.take_length])
      obtain ⟨y, hy⟩ : ∃ y, y = ((V.map (·.st)).take i).sum := ⟨_, rfl⟩
      have HY := Lib.hid (hy.trans E1.out)
      rw [← hy]
      clear hy ROW
      go_wp2_with fail
      clear hc
      refine (links_mm D.out.p).mono ?_
      rintro e w4 ⟨A4, c4, rfl, o4, b4⟩
      have D4 := Lib.hid (D.out.below b4)
      have B4 := Lib.hid (B3.out.trans (b4.mono B3.out.size))
      obtain ⟨k, hk⟩ : ∃ k, k = S.links.length := ⟨_, rfl⟩
      have HK := Lib.hid hk
      rw [← hk] at o4 ⊢
      obtain ⟨bs, hbs⟩ : ∃ b, b = wr.heap.size := ⟨_, rfl⟩
      rw [← hbs] at o4
      have O4 := Lib.hid o4
      have IN := D.out.told.ok
      have k9 : k ≤ 60 := by
        obtain ⟨_, _, _, _, _, _, _, _, _, _, ok, _⟩ := D.out.p
        have := ok.links
        have := D.out.told.lenS
        have := HM.out
        omega
      have SW := Lib.hid (show (S.links.map S.wt).sum = y by
        rw [HY.out, ← D.out.told.map (·.st) (fun _ _ _ _ _ => rfl), ← sum_links (·.st) S.links IN.lnod S.votes (fun x hx => (IN.lmem x.k).2 ⟨x, hx, rfl⟩)]
        congr 1
        exact List.map_congr_left (fun l _ => IN.wt l))
      have SP := Lib.hid (show (S.links.map (fun l => ((S.pl (.inl l)).getD []).length)).sum = S.votes.length by
        rw [← sum_ones S.votes, ← sum_links (fun _ => 1) S.links IN.lnod S.votes (fun x hx => (IN.lmem x.k).2 ⟨x, hx, rfl⟩)]
        congr 1
        exact List.map_congr_left (fun l _ => by rw [IN.pl l, sum_ones]))
      have Y9 := Lib.hid (show y ≤ 4294967296 * 60 by rw [HY.out]; exact TOT.out)
      have V9 := Lib.hid (show S.votes.length ≤ 60 by have := D.out.told.lenS; have := HM.out; omega)
      clear o4 b4 hk IN D B3 hbs
      go_wp2_with fail
      go_loopw [6, 7, 10] (fun v6 v7 v10 u => ∃ j : Nat, j ≤ k ∧ v10 = .int .i64 (j : Int) ∧ v6 = .int .u64 ((((S.links.map S.wt).take j).sum : Nat) : Int) ∧ v7 = .int .i64 ((((S.links.map (fun l => ((S.pl (.inl l)).getD []).length)).take j).sum : Nat) : Int) ∧ Duo W.heap.size ga F S gr G V M u ∧ Below W.heap.size W u ∧ u.ownsRow bs 50 66 (.slice A4 k c4) k (rws lC S.links)) (fun _ _ v10 _ => k - (intOf v10).toNat)
      case atStart => exact ⟨0, Nat.zero_le _, rfl, rfl, rfl, D4.out, B4.out, O4.out⟩
      case round =>
        clear D4 B4 O4
        obtain ⟨j, hj, rfl, rfl, rfl, d, bx, ow⟩ := hrel
        have D := Lib.hid d
        have BX := Lib.hid bx
        have OW := Lib.hid ow
        clear d bx
        by_cases hjn : j < k
        · obtain ⟨l, hl⟩ : ∃ l, S.links[j]? = some l := ⟨_, List.getElem?_eq_getElem (by have := HK.out; omega)⟩
          obtain ⟨gl, rfl⟩ : ∃ gl, A4 = some ⟨gl, 0, none⟩ := by
            rcases ow.2 with ⟨e, h0⟩ | ⟨g, cap, cur, e, _⟩
            · omega
            · injection e with e1 _ _
              exact ⟨g, e1⟩
          have hx := rws_cells (n := 66) (c := lC) (LL := S.links) (base := bs) (cap := c4) lC_len (by rw [← HK.out]; exact ow) hl
          have hgl := (ow.lt gl rfl).2
          have HX := Lib.hid (show ∀ u, Below wr.heap.size wr u → u.rangeAt gl (j * 66) (lC l) from fun u hu q v hv => (hu.cell (p := ⟨gl, j * 66 + q, none⟩) hgl).trans (hx q v hv))
          have T1 := Lib.hid (take_sum (l := S.links.map S.wt) (i := j) (z := S.wt l) (by rw [List.getElem?_map, hl]; rfl))
          have T2 := Lib.hid (sum_take_le (S.links.map S.wt) (j + 1))
          have P1 := Lib.hid (take_sum (l := S.links.map (fun l => ((S.pl (.inl l)).getD []).length)) (i := j) (z := ((S.pl (.inl l)).getD []).length) (by rw [List.getElem?_map, hl]; rfl))
          have P2 := Lib.hid (sum_take_le (S.links.map (fun l => ((S.pl (.inl l)).getD []).length)) (j + 1))
          have CW := Lib.hid (weight_m D.out.p l)
          obtain ⟨a1, ha1⟩ : ∃ y, y = ((S.links.map S.wt).take j).sum := ⟨_, rfl⟩
          obtain ⟨a2, ha2⟩ : ∃ y, y = ((S.links.map (fun l => ((S.pl (.inl l)).getD []).length)).take j).sum := ⟨_, rfl⟩
          obtain ⟨z1, hz1⟩ : ∃ z, z = S.wt l := ⟨_, rfl⟩
          obtain ⟨z2, hz2⟩ : ∃ z, z = ((S.pl (.inl l)).getD []).length := ⟨_, rfl⟩
          have HZ2 := Lib.hid hz2
          rw [← hz1] at CW T1
          rw [← ha1] at T1 ⊢
          rw [← hz2, ← ha2] at P1
          rw [← ha2]
          have w9 : a1 + z1 < 18446744073709551616 := by have := T1.out; have := T2.out; have := SW.out; have := Y9.out; omega
          have w8 : a2 + z2 ≤ 60 := by have := P1.out; have := P2.out; have := SP.out; have := V9.out; omega
          clear hl ha1 ha2 hz1 hz2 hx ow
          have hx := HX.out wr (Below.refl _ _)
          go_wp2_with (first
            | (refine wpList_load_mid rfl 50 (.tmp 58) rfl gl (j * 66) (by go_simp) (lC l) _ hx Try.underlying50 rfl (by rw [size_lv l]; rfl) ?_; rw [lC_arr])
            | fail)
          refine CW.out.mono ?_
          rintro e w5 ⟨rfl, b5⟩
          have D5 := Lib.hid (D.out.below b5)
          have B5 := Lib.hid (BX.out.trans (b5.mono BX.out.size))
          have BB := Lib.hid b5
          have CV := Lib.hid (voters_m D5.out.p l)
          rw [← HZ2.out] at CV
          clear hx b5
          have hx := HX.out w5 BB.out
          go_wp2_with (first
            | (refine wpList_load_mid rfl 50 (.tmp 66) rfl gl (j * 66) (by go_simp) (lC l) _ hx Try.underlying50 rfl (by rw [size_lv l]; rfl) ?_; rw [lC_arr])
            | fail)
          refine CV.out.mono ?_
          rintro e w6 ⟨rfl, b6⟩
          have D6 := Lib.hid (D5.out.below b6)
          have B6 := Lib.hid (B5.out.trans (b6.mono B5.out.size))
          have OW6 := Lib.hid (ownKeep OW.out (fun g hg => by
            have h1 := (OW.out.lt g hg).2
            rw [b6.block g (Nat.lt_of_lt_of_le h1 BB.out.size)]
            exact BB.out.block g h1))
          clear hx b6
          go_wp2_with fail
          refine ⟨⟨j + 1, by omega, by go_num, ?_, ?_, D6.out, B6.out, OW6.out⟩, by simp [intOf]; omega⟩
          · rw [T1.out]; go_num
          · rw [P1.out]; go_num
        · obtain rfl : j = k := by omega
          have E2 := Lib.hid (show ((S.links.map S.wt).take j).sum = y by rw [HK.out, show S.links.length = (S.links.map S.wt).length by simp, List.take_length]; exact SW.out)
          have E3 := Lib.hid (show ((S.links.map (fun l => ((S.pl (.inl l)).getD []).length)).take j).sum = S.votes.length by rw [HK.out]; conv => { lhs; rw [show S.links.length = (S.links.map (fun l => ((S.pl (.inl l)).getD []).length)).length by simp, List.take_length] }; exact SP.out)
          rw [E2.out, E3.out]
          have CL := Lib.hid (len_m D.out.p)
          obtain ⟨q, hq⟩ : ∃ q, q = S.votes.length := ⟨_, rfl⟩
          rw [← hq] at CL ⊢
          clear hq ow
          go_wp2_with fail
          refine CL.out.mono ?_
          rintro e w5 ⟨rfl, rfl⟩
          go_wp2_with fail
          refine (known_c _).mono ?_
          rintro e w6 ⟨rfl, b6⟩
          go_wp2_with fail
          go_ret
          exact ⟨rfl, BX.out.trans (b6.mono BX.out.size)⟩
end Go.Proofs.Ytomfgopmgfoecaa
