/- A list of texts that is owned; the reference's texts of a climb. -/
import Derived.Test.YtoippbgnaadebaaDoorTrFour
namespace Go.Proofs.YtoippbgnaadebaaDoor
open Go.ChangeShapes Go.WideShapes Go.ChangeAt Go.RowKit
set_option linter.unusedVariables false

/-- A piece as a cell holds it. -/
def pcV (x : Pc) : Value := .slice x.1 x.2.2.length x.2.1
theorem pcV_one (L : List Pc) : ∀ u ∈ L.map pcV, u.oneCell' = true := by
  intro u hu
  obtain ⟨x, _, rfl⟩ := List.mem_map.1 hu
  rfl
/-- A list of texts that is owned, from block base on, with all its texts. -/
def OwT (w : World) (base : Nat) (v : Value) (L : List Pc) : Prop := w.ownsRow base 56 1 v L.length (L.map pcV) ∧ ∀ x ∈ L, Ow w base x.1 x.2.2 ∧ x.2.2.length ≤ x.2.1
theorem OwT.below {w w' : World} {base B : Nat} {v : Value} {L : List Pc} (h : OwT w base v L) (hb : Below B w w') (hB : w.heap.size ≤ B) : OwT w' base v L :=
  ⟨rowBelow h.1 hb hB, fun x hx => ⟨(h.2 x hx).1.below hb hB, (h.2 x hx).2⟩⟩
theorem OwT.wide {w : World} {base base' : Nat} {v : Value} {L : List Pc} (h : OwT w base v L) (hb : base' ≤ base) : OwT w base' v L :=
  ⟨rowBase h.1 hb, fun x hx => ⟨(h.2 x hx).1.wide hb, (h.2 x hx).2⟩⟩
/-- What is owned of bytes stays while a row of texts grows. -/
theorem Ow.grownT {w w' : World} {lo base : Nat} {A : Option Addr} {l : List UInt8} {v : Value} {n : Nat} {xs : List Value} (h : Ow w lo A l) (ho : w.ownsRow base 56 1 v n xs) (hg : w.grownBy w' v.ownBlock) : Ow w' lo A l := fun hn => by
  obtain ⟨b, cur, e, h1, h2, hh, hc⟩ := h hn
  refine ⟨b, cur, e, h1, Nat.lt_of_lt_of_le h2 hg.size, (hg.block b h2 (fun e => ?_)).trans hh, hc⟩
  rcases ho.2 with ⟨hv, _⟩ | ⟨g, cap, cur', hv, _, h4, _⟩
  · rw [hv] at e; cases e
  · rw [hv] at e
    have e' : b = g := by injection e
    subst e'
    rw [hh] at h4
    injection h4 with h4
    injection h4 with _ h4
    revert h4
    decide
theorem OwT.more {w w' : World} {base : Nat} {v v' : Value} {L : List Pc} {x : Pc} (h : OwT w base v L) (ho : w'.ownsRow base 56 1 v' (L.length + 1) (L.map pcV ++ [pcV x])) (hg : w.grownBy w' v.ownBlock) (hx : Ow w base x.1 x.2.2) (hc : x.2.2.length ≤ x.2.1) : OwT w' base v' (L ++ [x]) := by
  refine ⟨by rw [List.length_append, List.map_append]; exact ho, fun y hy => ?_⟩
  rcases List.mem_append.1 hy with hy | hy
  · exact ⟨(h.2 y hy).1.grownT h.1 hg, (h.2 y hy).2⟩
  · rw [List.mem_singleton.1 hy]
    exact ⟨hx.grownT h.1 hg, hc⟩
theorem OwT.nil0 (w : World) (base : Nat) : OwT w base (.slice none 0 0) [] := ⟨⟨rfl, .inl ⟨rfl, rfl⟩⟩, fun _ h => by cases h⟩
theorem OwT.form {w : World} {base : Nat} {v : Value} {L : List Pc} (h : OwT w base v L) : ∃ A c, v = .slice A L.length c ∧ L.length ≤ c := by
  obtain ⟨A, c, e, hc, _⟩ := rowForm h.1
  exact ⟨A, c, e, hc⟩
theorem OwT.rdL {w : World} {base c : Nat} {A : Option Addr} {L : List Pc} (h : OwT w base (.slice A L.length c) L) : RdL w w.heap.size A L := by
  refine ⟨fun hn => ?_, fun x hx => (h.2 x hx).1.rd.wide (by omega) (Nat.le_refl _)⟩
  have h0 : (L.map pcV)[0]? = some (pcV (L[0]'hn)) := by rw [List.getElem?_map, List.getElem?_eq_getElem hn]; rfl
  obtain ⟨g, e, h1, h2, _⟩ := rowAt h.1 h0
  refine ⟨g, 0, e, h2, fun j x hx => ?_⟩
  have hj : (L.map pcV)[j]? = some (pcV x) := by rw [List.getElem?_map, hx]; rfl
  obtain ⟨g', e', _, _, hc⟩ := rowAt h.1 hj
  rw [e] at e'
  injection e' with e'
  injection e' with e' _
  subst e'
  rw [Nat.zero_add]
  exact hc
theorem rowKeep {w w' : World} {base sz n : Nat} {t : TypeId} {v : Value} {xs : List Value} (h : w.ownsRow base t sz v n xs) (hk : ∀ g, base ≤ g → g < w.heap.size → w'.heap[g]? = w.heap[g]?) : w'.ownsRow base t sz v n xs := by
  refine ⟨h.1, ?_⟩
  rcases h.2 with h0 | ⟨g, cap, cur, hv, h1, h2, h3⟩
  · exact .inl h0
  · have hlt : g < w.heap.size := (h.lt g (by rw [hv]; rfl)).2
    exact .inr ⟨g, cap, cur, hv, h1, (hk g h1 hlt).trans h2, h3⟩
theorem OwT.setRow {w : World} {base g : Nat} {v : Value} {L : List Pc} (h : OwT w base v L) (hg : g < base) (row : Array Value) : OwT (w.setRow g row) base v L := by
  have hs : (w.setRow g row).heap.size = w.heap.size := by simp
  refine ⟨rowKeep h.1 fun b hb _ => setRow_other _ _ _ _ (by omega), fun x hx => ⟨fun hn => ?_, (h.2 x hx).2⟩⟩
  obtain ⟨b, cur, e, h1, h2, hh, hc⟩ := (h.2 x hx).1 hn
  exact ⟨b, cur, e, h1, by omega, (setRow_other _ _ _ _ (by omega)).trans hh, hc⟩
theorem one_text (A : Option Addr) (n c : Nat) (u : World) : (Instr.buildSlice 39 1 #[(0, .slice A n c)]).run Tryd.prog u = .ok (.slice (some ⟨u.heap.size, 0, none⟩) 1 1) (u.alloc (.cells #[.slice A n c] 56)) := by
  have hie : Tryd.prog.info? 56 = some ((Tryd.prog.info? 56).get (by kernel_rfl)) := (Option.some_get _).symm
  refine run_buildSlice u _ 56 1 _ #[.slice A n c] _ _ Tryd.underlying39 hie (Option.some_get (by kernel_rfl)).symm (by decide +kernel) (by decide +kernel) ?_
  kernel_rfl
theorem texts_info : (Tryd.prog.info? 56).map (fun i => (i.zero, i.size, i.bytes)) = some (some (.slice none 0 0), 1, 24) := by kernel_rfl
theorem texts_row {i : TypeInfo} {z : Value} (h : (Tryd.prog.info? 56) = some i) : i.zero = some (.slice none 0 0) ∧ i.size = 1 ∧ i.bytes = 24 := by
  have := texts_info
  rw [h] at this
  injection this with this
  injection this with h1 h2
  injection h2 with h2 h3
  exact ⟨h1, h2, h3⟩

set_option maxRecDepth 100000 in
set_option maxHeartbeats 8000000 in
theorem refTexts_c (x : List UInt8) (hx : x.length = 32) (i : Nat) (A : Option Addr) (c : Nat) (P : List (List UInt8)) (hP : ∀ p ∈ P, p.length = 32) (w : World) (hR : RdH w w.heap.size A P) (hi : i < 9223372036854775808) (hn : P.length ≤ 1000000) :
    Calls Tryd.prog 16 #[.agg (hashV x), .int .i64 (i : Int), .slice A P.length c] w fun e w' => ∃ v L, e = .returned v ∧ Below w.heap.size w w' ∧ OwT w' w.heap.size v L ∧ L.map (fun (q : Pc) => q.2.2) = textsL i x P P.length := by
  obtain ⟨i0, hi0⟩ : ∃ i0, Tryd.prog.info? 56 = some i0 := ⟨_, (Option.some_get (by kernel_rfl)).symm⟩
  obtain ⟨hz0, hz1, hz2⟩ := texts_row (z := .slice none 0 0) hi0
  obtain ⟨W, hW⟩ : ∃ W, W = w.alloc (.cells (hashV x) 25) := ⟨_, rfl⟩
  have hb : Below w.heap.size w W := by rw [hW]; exact (Below.refl _ _).alloc (Nat.le_refl _) _
  have hsz : W.heap.size = w.heap.size + 1 := by rw [hW]; simp
  have f0 : Fill w.heap.size 25 32 32 (hF x) W := by rw [hW]; exact Fill.of_row (heap_alloc_new w _)
  have HW := Lib.hid hW
  have HB := Lib.hid hb
  have H0 := Lib.hid f0
  have HSZ := Lib.hid hsz
  clear hW hb f0 hsz
  go_enter Tryd.func16, Tryd.ntmps16
  go_wp2_with fail
  rw [← HW.out]
  go_loopw [1, 7, 8] (fun u l v wr => ∃ (k : Nat) (L : List Pc), k ≤ P.length ∧ v = .int .i64 (k : Int) ∧ u = .int .i64 ((i / 2 ^ k : Nat) : Int) ∧ Fill w.heap.size 25 32 32 (hF (climbN i x P k)) wr ∧ OwT wr (w.heap.size + 1) l L ∧ L.map (fun (q : Pc) => q.2.2) = textsL i x P k ∧ Below w.heap.size w wr) (fun _ _ v _ => P.length - (intOf v).toNat)
  case atStart => exact ⟨0, [], by omega, rfl, by simp, H0.out, OwT.nil0 _ _, rfl, HB.out⟩
  case round =>
    obtain ⟨k, L, hk, rfl, rfl, g2, go, gl, gb⟩ := hrel
    obtain ⟨Av, cv, rfl, hcv⟩ := go.form
    by_cases hlt : k < P.length
    · obtain ⟨bl, off, rfl, hbl, hcell⟩ := hR.below gb (Nat.le_refl _) (by omega)
      have hy : (P.getD k []).length = 32 := by rw [List.getD_eq_getElem?_getD, List.getElem?_eq_getElem hlt]; exact hP _ (List.getElem_mem hlt)
      have hc := hcell k hlt
      have hxk := climbN_len i x P hx k
      have HN := Lib.hid (show climbN i x P (k + 1) = shaL (textN i x P k) from (textN_sum i x P k).symm)
      have HL := Lib.hid (show ∀ t, t = textN i x P k → ∀ A c, (L ++ [(A, c, t)]).map (fun (q : Pc) => q.2.2) = textsL i x P (k + 1) from fun t e A c => by rw [List.map_append, gl, e]; unfold textsL; rw [List.range_succ, List.map_append]; rfl)
      have hll : L.length = k := by have := congrArg List.length gl; simpa [textsL] using this
      have HLL := Lib.hid hll
      clear hll
      have HD := Lib.hid (show i / 2 ^ (k + 1) = i / 2 ^ k / 2 by rw [Nat.pow_succ, Nat.div_div_eq_div_mul])
      have hdl : i / 2 ^ k < 9223372036854775808 := Nat.lt_of_le_of_lt (Nat.div_le_self _ _) hi
      have HUP := Lib.hid (show textN i x P k = if (i / 2 ^ k) % 2 = 1 then [78] ++ P.getD k [] ++ climbN i x P k else [78] ++ climbN i x P k ++ P.getD k [] from rfl)
      have q2 : (k : Int) < (P.length : Int) := by omega
      generalize textN i x P k = tx at *
      generalize climbN i x P k = y at *
      generalize P.getD k [] = p at *
      generalize i / 2 ^ k = d at *
      clear hcell gl
      have k0 : wr.rangeAt bl (off + k * 32) (hC p) ∧ wr.rangeAt w.heap.size 0 (hC y) := ⟨hc, g2.whole⟩
      have HK : Hid (∀ u : World, Below (w.heap.size + 1) wr u → u.rangeAt bl (off + k * 32) (hC p) ∧ u.rangeAt w.heap.size 0 (hC y)) := fun u hu => ⟨rangeAt_below hu (by omega) hc, rangeAt_below hu (by omega) g2.whole⟩
      have hgs := g2.lt
      have G2 := Lib.hid g2
      have GO := Lib.hid go
      have GB := Lib.hid gb
      have HN0 := Lib.hid (refText_c y p hxk hy wr.drew)
      clear g2 go gb hc
      by_cases hbit : d % 2 = 1
      · have hd : ((d : Int) % 2 == 1) = true := by rw [beq_iff_eq]; omega
        have HT := Lib.hid (show [78] ++ p ++ y = tx by rw [HUP.out, if_pos hbit])
        go_wp2_with fail
        rename_i K1 hK1
        refine wp_region_noPanic ?_
        refine wp_region_held_drew (S := fun u => u.rangeAt bl (off + k * 32) (hC p) ∧ u.rangeAt w.heap.size 0 (hC y)) (by kernel_rfl) k0 (fun hHeld => ?_)
        refine wpAnyH_take (i := 0) (oi := _) (v := .agg (hC y).toArray) rfl (by kernel_rfl) (by kernel_rfl) (by kernel_rfl) (fun _ _ _ h => h) (yieldsIf_load_mid (by rfl) _ _ rfl w.heap.size 0 rfl (hC y) _ (fun w h => h.2) hash_under rfl (hash_info (hC_len y))) hHeld ?_
        refine wpAnyH_take (i := 1) (oi := _) (v := .slice (some ⟨bl, off, none⟩) P.length c) rfl (by kernel_rfl) (by kernel_rfl) (by kernel_rfl) (fun _ _ _ h => h) (Or.inl ⟨by rfl, by intro w hSw; go_simp⟩) hHeld ?_
        refine wpAnyH_take (i := 2) (oi := _) (v := .int .i64 (k : Int)) rfl (by kernel_rfl) (by kernel_rfl) (by kernel_rfl) (fun _ _ _ h => h) (Or.inl ⟨by rfl, by intro w hSw; go_simp⟩) hHeld ?_
        refine wpAnyH_take (i := 3) (oi := _) (v := .pointer (some ⟨bl, off + k * 32, none⟩)) rfl (by kernel_rfl) (by kernel_rfl) (by kernel_rfl) (fun _ _ _ h => h) (Or.inl ⟨by rfl, by intro w hSw; go_simp⟩) hHeld ?_
        refine wpAnyH_take (i := 4) (oi := _) (v := .agg (hC p).toArray) rfl (by kernel_rfl) (by kernel_rfl) (by kernel_rfl) (fun _ _ _ h => h) (yieldsIf_load_mid (by rfl) _ _ rfl bl (off + k * 32) rfl (hC p) _ (fun w h => h.1) hash_under rfl (hash_info (hC_len p))) hHeld ?_
        refine wpAnyH_ready (rs := [5]) (by kernel_rfl) (by simp) ?_
        refine AllReadyH.cons (o := _) rfl (fun K hK => ?_) AllReadyH.nil
        go_simp
        go_at_call 26
        refine (HN0.out).mono ?_
        rintro e w5 ⟨v5, rfl, b5, o5⟩
        obtain ⟨A5, c5, rfl, hc5, _⟩ := rowForm o5
        have B5 := Lib.hid ((Below.refl wr.heap.size wr).drew.trans b5)
        have O5 := Lib.hid o5
        have k5 := HK.out _ (((Below.refl wr.heap.size wr).drew.trans b5).mono hgs)
        clear b5 o5
        go_simp
        refine hK.out _ _ k5 (fun hHeld => ?_)
        clear hK K
        refine wpAnyH_ready (rs := [6]) (by kernel_rfl) (by simp) ?_
        refine AllReadyH.cons (o := _) rfl (fun K hK => ?_) AllReadyH.nil
        go_simp
        refine hK.out _ _ k5 (fun hHeld => ?_)
        clear hK K
        refine wpAnyH_done (by kernel_rfl) ?_ _
        refine NoPanic.normal ?_
        first
          | apply hK1
          | apply K1
        clear hK1 K1
        have HN1 := Lib.hid (refText_c p y hy hxk w5.drew)
        go_wp2_with fail
        rename_i K1 hK1
        refine wp_region_noPanic ?_
        refine wp_region_held_drew (S := fun u => u.rangeAt bl (off + k * 32) (hC p) ∧ u.rangeAt w.heap.size 0 (hC y)) (by kernel_rfl) k5 (fun hHeld => ?_)
        refine wpAnyH_take (i := 0) (oi := _) (v := .slice (some ⟨bl, off, none⟩) P.length c) rfl (by kernel_rfl) (by kernel_rfl) (by kernel_rfl) (fun _ _ _ h => h) (Or.inl ⟨by rfl, by intro w hSw; go_simp⟩) hHeld ?_
        refine wpAnyH_take (i := 1) (oi := _) (v := .int .i64 (k : Int)) rfl (by kernel_rfl) (by kernel_rfl) (by kernel_rfl) (fun _ _ _ h => h) (Or.inl ⟨by rfl, by intro w hSw; go_simp⟩) hHeld ?_
        refine wpAnyH_take (i := 2) (oi := _) (v := .pointer (some ⟨bl, off + k * 32, none⟩)) rfl (by kernel_rfl) (by kernel_rfl) (by kernel_rfl) (fun _ _ _ h => h) (Or.inl ⟨by rfl, by intro w hSw; go_simp⟩) hHeld ?_
        refine wpAnyH_take (i := 3) (oi := _) (v := .agg (hC p).toArray) rfl (by kernel_rfl) (by kernel_rfl) (by kernel_rfl) (fun _ _ _ h => h) (yieldsIf_load_mid (by rfl) _ _ rfl bl (off + k * 32) rfl (hC p) _ (fun w h => h.1) hash_under rfl (hash_info (hC_len p))) hHeld ?_
        refine wpAnyH_take (i := 4) (oi := _) (v := .agg (hC y).toArray) rfl (by kernel_rfl) (by kernel_rfl) (by kernel_rfl) (fun _ _ _ h => h) (yieldsIf_load_mid (by rfl) _ _ rfl w.heap.size 0 rfl (hC y) _ (fun w h => h.2) hash_under rfl (hash_info (hC_len y))) hHeld ?_
        refine wpAnyH_ready (rs := [5]) (by kernel_rfl) (by simp) ?_
        refine AllReadyH.cons (o := _) rfl (fun K hK => ?_) AllReadyH.nil
        go_simp
        go_at_call 26
        refine (HN1.out).mono ?_
        rintro e w7 ⟨v7, rfl, b7, o7⟩
        obtain ⟨A7, c7, rfl, hc7, _⟩ := rowForm o7
        have B7 := Lib.hid (B5.out.trans (((Below.refl w5.heap.size w5).drew.trans b7).mono B5.out.size))
        have O7 := Lib.hid o7
        have k7 := HK.out _ (B7.out.mono hgs)
        clear b7 o7
        go_simp
        refine hK.out _ _ k7 (fun hHeld => ?_)
        clear hK K
        refine wpAnyH_ready (rs := [6]) (by kernel_rfl) (by simp) ?_
        refine AllReadyH.cons (o := _) rfl (fun K hK => ?_) AllReadyH.nil
        go_simp
        refine hK.out _ _ k7 (fun hHeld => ?_)
        clear hK K
        refine wpAnyH_done (by kernel_rfl) ?_ _
        refine NoPanic.normal ?_
        first
          | apply hK1
          | apply K1
        clear hK1 K1
        have ht65 : (([78] ++ p ++ y) : List UInt8).length = 65 := by simp [hy, hxk]
        have OX := Ow.of_own O7.out
        rw [HT.out] at OX ht65
        have HA := Lib.hid OX.1
        clear OX
        have HT65 := Lib.hid ht65
        clear ht65
        have GO7 := Lib.hid (GO.out.below B7.out (Nat.le_refl _))
        have hmx : w.heap.size + 1 ≤ w7.heap.size := by have := B7.out.size; omega
        have hmw : w.heap.size + 1 ≤ w5.drew.heap.size := by show w.heap.size + 1 ≤ w5.heap.size; have := B5.out.size; omega
        have HM1 := Lib.hid (show L.length + 1 ≤ maxLen by have := HLL.out; unfold maxLen; omega)
        have HM2 := Lib.hid (show (L.length + 1) * 24 ≤ 140737488355328 by have := HLL.out; omega)
        have HM3 := Lib.hid (show w.heap.size + 1 ≤ (w7.alloc (.cells #[.slice A7 65 c7] 56)).heap.size by simp; omega)
        have HON := Lib.hid (show ∀ u ∈ [Value.slice A7 65 c7], u.oneCell' = true from fun u hu => by simp at hu; subst hu; rfl)
        have HNW := Lib.hid (cell_one_new w7 (.slice A7 65 c7) 56)
        have HAL := Lib.hid ((Below.refl w7.heap.size w7).alloc (Nat.le_refl _) (.cells #[.slice A7 65 c7] 56))
        have GA := Lib.hid (GO7.out.below HAL.out (Nat.le_refl _))
        go_wp2_with (first
          | (refine wpList_buildSlice_as (v := .slice (some ⟨w7.heap.size, 0, none⟩) 1 1) (w' := w7.alloc (.cells #[.slice A7 65 c7] 56)) rfl 39 1 #[(0, .tmp 32)] rfl ?hr ?_; case hr => (simp only [List.map_toArray, List.map_cons, List.map_nil]; exact one_text A7 65 c7 w7))
          | (at_builtin; refine wpList_append_own _ rfl (.tmp 31) (.tmp 33) _ rfl (w.heap.size + 1) 56 i0 _ 1 24 Tryd.underlying39 hi0 hz0 hz1 hz2 rfl (by decide) (.slice Av L.length cv) L.length (L.map pcV) rfl GA.out.1 ⟨w7.heap.size, 0, none⟩ 1 1 [.slice A7 65 c7] rfl rfl HNW.out HON.out HM1.out HM2.out HM3.out ?_; intro v8 w8 o8 g8 _; have O8 := Lib.hid o8; have G8 := Lib.hid g8; clear o8 g8)
          | fail)
        have ht65 := HT65.out
        have HA8 := (HA.out.below HAL.out (Nat.le_refl _)).grownT GA.out.1 G8.out
        have hs := refSum_any A7 c7 _ tx w8 HA8.rd (by omega)
        rw [ht65] at hs
        refine hs.mono ?_
        rintro e w9 ⟨rfl, b9⟩
        have B8 := Lib.hid (((B7.out.mono hgs).trans (HAL.out.mono hmx)).grown G8.out HM3.out (fun g hg => (GA.out.1.lt g hg).1))
        have B9 := Lib.hid (B8.out.trans (b9.mono (Nat.le_trans hgs B8.out.size)))
        have Y9 := Lib.hid (G2.out.below B9.out (Nat.lt_succ_self _)).done
        have hp65 : pcV (A7, c7, tx) = .slice A7 65 c7 := by unfold pcV; rw [ht65]
        have OT8 := GA.out.more (x := (A7, c7, tx)) (by rw [hp65]; exact O8.out) G8.out ((HA.out.below HAL.out (Nat.le_refl _)).wide hmw) (by show tx.length ≤ c7; omega)
        have OT9 := Lib.hid (OT8.below b9 (Nat.le_refl _))
        clear hs b9 HA8 OT8 ht65 hp65
        go_wp2_with (first
          | (refine wpList_store_row rfl 25 (.tmp 3) (.tmp 36) rfl w.heap.size (hashV (shaL tx)) rfl rfl 25 (hashV y) Y9.out (size_hashVW _) (by unfold hashV; rw [rowV_size, rowV_size]) (rowV_one 32 _ (fun i => rfl)) ?_)
          | fail)
        refine ⟨⟨k + 1, L ++ [(A7, c7, tx)], by omega, by go_num, by rw [HD.out]; go_num, by rw [HN.out]; exact Fill.of_row (setRow_heap _ _ _ _ _ _ Y9.out), OT9.out.setRow (Nat.lt_succ_self _) _, HL.out tx rfl A7 c7, ?_⟩, by simp [intOf]; omega⟩
        exact below_setRow (GB.out.trans (B9.out.mono (by omega))) (Nat.le_refl _) _
      · have hd : ((d : Int) % 2 == 1) = false := by rw [beq_eq_false_iff_ne]; omega
        have HT := Lib.hid (show [78] ++ y ++ p = tx by rw [HUP.out, if_neg hbit])
        go_wp2_with fail
        rename_i K1 hK1
        refine wp_region_noPanic ?_
        refine wp_region_held_drew (S := fun u => u.rangeAt bl (off + k * 32) (hC p) ∧ u.rangeAt w.heap.size 0 (hC y)) (by kernel_rfl) k0 (fun hHeld => ?_)
        refine wpAnyH_take (i := 0) (oi := _) (v := .agg (hC y).toArray) rfl (by kernel_rfl) (by kernel_rfl) (by kernel_rfl) (fun _ _ _ h => h) (yieldsIf_load_mid (by rfl) _ _ rfl w.heap.size 0 rfl (hC y) _ (fun w h => h.2) hash_under rfl (hash_info (hC_len y))) hHeld ?_
        refine wpAnyH_take (i := 1) (oi := _) (v := .slice (some ⟨bl, off, none⟩) P.length c) rfl (by kernel_rfl) (by kernel_rfl) (by kernel_rfl) (fun _ _ _ h => h) (Or.inl ⟨by rfl, by intro w hSw; go_simp⟩) hHeld ?_
        refine wpAnyH_take (i := 2) (oi := _) (v := .int .i64 (k : Int)) rfl (by kernel_rfl) (by kernel_rfl) (by kernel_rfl) (fun _ _ _ h => h) (Or.inl ⟨by rfl, by intro w hSw; go_simp⟩) hHeld ?_
        refine wpAnyH_take (i := 3) (oi := _) (v := .pointer (some ⟨bl, off + k * 32, none⟩)) rfl (by kernel_rfl) (by kernel_rfl) (by kernel_rfl) (fun _ _ _ h => h) (Or.inl ⟨by rfl, by intro w hSw; go_simp⟩) hHeld ?_
        refine wpAnyH_take (i := 4) (oi := _) (v := .agg (hC p).toArray) rfl (by kernel_rfl) (by kernel_rfl) (by kernel_rfl) (fun _ _ _ h => h) (yieldsIf_load_mid (by rfl) _ _ rfl bl (off + k * 32) rfl (hC p) _ (fun w h => h.1) hash_under rfl (hash_info (hC_len p))) hHeld ?_
        refine wpAnyH_ready (rs := [5]) (by kernel_rfl) (by simp) ?_
        refine AllReadyH.cons (o := _) rfl (fun K hK => ?_) AllReadyH.nil
        go_simp
        go_at_call 26
        refine (HN0.out).mono ?_
        rintro e w5 ⟨v5, rfl, b5, o5⟩
        obtain ⟨A5, c5, rfl, hc5, _⟩ := rowForm o5
        have B5 := Lib.hid ((Below.refl wr.heap.size wr).drew.trans b5)
        have O5 := Lib.hid o5
        have k5 := HK.out _ (((Below.refl wr.heap.size wr).drew.trans b5).mono hgs)
        clear b5 o5
        go_simp
        refine hK.out _ _ k5 (fun hHeld => ?_)
        clear hK K
        refine wpAnyH_ready (rs := [6]) (by kernel_rfl) (by simp) ?_
        refine AllReadyH.cons (o := _) rfl (fun K hK => ?_) AllReadyH.nil
        go_simp
        refine hK.out _ _ k5 (fun hHeld => ?_)
        clear hK K
        refine wpAnyH_done (by kernel_rfl) ?_ _
        refine NoPanic.normal ?_
        first
          | apply hK1
          | apply K1
        clear hK1 K1
        have ht65 : (([78] ++ y ++ p) : List UInt8).length = 65 := by simp [hy, hxk]
        have OX := Ow.of_own O5.out
        rw [HT.out] at OX ht65
        have HA := Lib.hid OX.1
        clear OX
        have HT65 := Lib.hid ht65
        clear ht65
        have GO5 := Lib.hid (GO.out.below B5.out (Nat.le_refl _))
        have hmx : w.heap.size + 1 ≤ w5.heap.size := by have := B5.out.size; omega
        have hmw : w.heap.size + 1 ≤ wr.drew.heap.size := by show w.heap.size + 1 ≤ wr.heap.size; omega
        have HM1 := Lib.hid (show L.length + 1 ≤ maxLen by have := HLL.out; unfold maxLen; omega)
        have HM2 := Lib.hid (show (L.length + 1) * 24 ≤ 140737488355328 by have := HLL.out; omega)
        have HM3 := Lib.hid (show w.heap.size + 1 ≤ (w5.alloc (.cells #[.slice A5 65 c5] 56)).heap.size by simp; omega)
        have HON := Lib.hid (show ∀ u ∈ [Value.slice A5 65 c5], u.oneCell' = true from fun u hu => by simp at hu; subst hu; rfl)
        have HNW := Lib.hid (cell_one_new w5 (.slice A5 65 c5) 56)
        have HAL := Lib.hid ((Below.refl w5.heap.size w5).alloc (Nat.le_refl _) (.cells #[.slice A5 65 c5] 56))
        have GA := Lib.hid (GO5.out.below HAL.out (Nat.le_refl _))
        go_wp2_with (first
          | (refine wpList_buildSlice_as (v := .slice (some ⟨w5.heap.size, 0, none⟩) 1 1) (w' := w5.alloc (.cells #[.slice A5 65 c5] 56)) rfl 39 1 #[(0, .tmp 32)] rfl ?hr ?_; case hr => (simp only [List.map_toArray, List.map_cons, List.map_nil]; exact one_text A5 65 c5 w5))
          | (at_builtin; refine wpList_append_own _ rfl (.tmp 31) (.tmp 33) _ rfl (w.heap.size + 1) 56 i0 _ 1 24 Tryd.underlying39 hi0 hz0 hz1 hz2 rfl (by decide) (.slice Av L.length cv) L.length (L.map pcV) rfl GA.out.1 ⟨w5.heap.size, 0, none⟩ 1 1 [.slice A5 65 c5] rfl rfl HNW.out HON.out HM1.out HM2.out HM3.out ?_; intro v8 w8 o8 g8 _; have O8 := Lib.hid o8; have G8 := Lib.hid g8; clear o8 g8)
          | fail)
        have ht65 := HT65.out
        have HA8 := (HA.out.below HAL.out (Nat.le_refl _)).grownT GA.out.1 G8.out
        have hs := refSum_any A5 c5 _ tx w8 HA8.rd (by omega)
        rw [ht65] at hs
        refine hs.mono ?_
        rintro e w9 ⟨rfl, b9⟩
        have B8 := Lib.hid (((B5.out.mono hgs).trans (HAL.out.mono hmx)).grown G8.out HM3.out (fun g hg => (GA.out.1.lt g hg).1))
        have B9 := Lib.hid (B8.out.trans (b9.mono (Nat.le_trans hgs B8.out.size)))
        have Y9 := Lib.hid (G2.out.below B9.out (Nat.lt_succ_self _)).done
        have hp65 : pcV (A5, c5, tx) = .slice A5 65 c5 := by unfold pcV; rw [ht65]
        have OT8 := GA.out.more (x := (A5, c5, tx)) (by rw [hp65]; exact O8.out) G8.out ((HA.out.below HAL.out (Nat.le_refl _)).wide hmw) (by show tx.length ≤ c5; omega)
        have OT9 := Lib.hid (OT8.below b9 (Nat.le_refl _))
        clear hs b9 HA8 OT8 ht65 hp65
        go_wp2_with (first
          | (refine wpList_store_row rfl 25 (.tmp 3) (.tmp 36) rfl w.heap.size (hashV (shaL tx)) rfl rfl 25 (hashV y) Y9.out (size_hashVW _) (by unfold hashV; rw [rowV_size, rowV_size]) (rowV_one 32 _ (fun i => rfl)) ?_)
          | fail)
        refine ⟨⟨k + 1, L ++ [(A5, c5, tx)], by omega, by go_num, by rw [HD.out]; go_num, by rw [HN.out]; exact Fill.of_row (setRow_heap _ _ _ _ _ _ Y9.out), OT9.out.setRow (Nat.lt_succ_self _) _, HL.out tx rfl A5 c5, ?_⟩, by simp [intOf]; omega⟩
        exact below_setRow (GB.out.trans (B9.out.mono (by omega))) (Nat.le_refl _) _
    · obtain rfl : k = P.length := by omega
      have GO := Lib.hid go
      have GL := Lib.hid gl
      have GB := Lib.hid gb
      clear go gl gb g2
      go_wp2_with fail
      go_ret
      exact ⟨_, L, rfl, GB.out, GO.out.wide (by omega), GL.out⟩
end Go.Proofs.YtoippbgnaadebaaDoor
