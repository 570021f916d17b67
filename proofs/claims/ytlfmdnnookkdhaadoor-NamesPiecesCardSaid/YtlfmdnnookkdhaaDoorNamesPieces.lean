/- The walk of NamesPieces. -/
import Derived.Test.YtlfmdnnookkdhaaDoorRefJoin
import Derived.Test.YtlfmdnnookkdhaaDoorText
import Derived.Deep.MidRow
namespace Go.Proofs.YtlfmdnnookkdhaaDoor
open Go.ChangeShapes Go.WideShapes Go.ChangeAt Go.RowKit
set_option linter.unusedVariables false

theorem RdL.up {w : World} {hi hi' : Nat} {A : Option Addr} {L : List Pc} (h : RdL w hi A L) (hh : hi ≤ hi') : RdL w hi' A L :=
  ⟨fun hn => by
    obtain ⟨b, off, e, h2, hc⟩ := h.1 hn
    exact ⟨b, off, e, by omega, hc⟩, fun x hx => (h.2 x hx).wide (Nat.le_refl _) hh⟩
/-- Four pieces, of which two are empty, as a call lays them. -/
theorem RdL.four (A1 A3 A4 : Option Addr) (c1 c3 c4 : Nat) (l1 l3 : List UInt8) (w : World) (t : TypeId) (r1 : Rd w 0 w.heap.size A1 l1) (r3 : Rd w 0 w.heap.size A3 l3) :
    RdL (w.alloc (.cells #[.slice A1 l1.length c1, .slice none 0 0, .slice A3 l3.length c3, .slice A4 0 c4] t)) (w.alloc (.cells #[.slice A1 l1.length c1, .slice none 0 0, .slice A3 l3.length c3, .slice A4 0 c4] t)).heap.size (some ⟨w.heap.size, 0, none⟩) [(A1, c1, l1), (none, 0, []), (A3, c3, l3), (A4, c4, [])] := by
  have hb : Below w.heap.size w (w.alloc (.cells #[.slice A1 l1.length c1, .slice none 0 0, .slice A3 l3.length c3, .slice A4 0 c4] t)) := (Below.refl _ _).alloc (Nat.le_refl _) _
  have hh : (w.alloc (.cells #[.slice A1 l1.length c1, .slice none 0 0, .slice A3 l3.length c3, .slice A4 0 c4] t)).heap[w.heap.size]? = some (.cells #[.slice A1 l1.length c1, .slice none 0 0, .slice A3 l3.length c3, .slice A4 0 c4] t (0, 0)) := heap_alloc_new w _
  have hsz : (w.alloc (.cells #[.slice A1 l1.length c1, .slice none 0 0, .slice A3 l3.length c3, .slice A4 0 c4] t)).heap.size = w.heap.size + 1 := by simp
  refine ⟨fun _ => ⟨w.heap.size, 0, rfl, by omega, fun j x hx => ?_⟩, fun x hx => ?_⟩
  · rw [Nat.zero_add, cell_of_row _ w.heap.size j _ _ (0, 0) hh]
    match j, hx with
    | 0, hx => injection hx with hx; subst hx; rfl
    | 1, hx => injection hx with hx; subst hx; rfl
    | 2, hx => injection hx with hx; subst hx; rfl
    | 3, hx => injection hx with hx; subst hx; rfl
  · simp at hx
    rcases hx with rfl | rfl | rfl | rfl
    · exact (r1.below hb (Nat.le_refl _)).wide (Nat.le_refl _) (by omega)
    · exact Rd.nil
    · exact (r3.below hb (Nat.le_refl _)).wide (Nat.le_refl _) (by omega)
    · exact Rd.nil
theorem sum4 (A1 A3 A4 : Option Addr) (c1 c3 c4 n1 n3 : Nat) (l1 l3 : List UInt8) (w : World) (e1 : n1 = l1.length) (e3 : n3 = l3.length) (r1 : Rd w 0 w.heap.size A1 l1) (r3 : Rd w 0 w.heap.size A3 l3) (h1 : n1 ≤ c1) (h3 : n3 ≤ c3) (hl : l1.length + l3.length < 1000000000) (ht : Tabs w) :
    Calls Tryd.prog 12 #[.slice (some ⟨w.heap.size, 0, none⟩) 4 4] (w.alloc (.cells #[.slice A1 n1 c1, .slice none 0 0, .slice A3 n3 c3, .slice A4 0 c4] 25)) fun e w' => e = .returned (.agg (hashV (shaL (l1 ++ l3)))) ∧ Below w.heap.size w w' := by
  subst e1
  subst e3
  have hb : Below w.heap.size w (w.alloc (.cells #[.slice A1 l1.length c1, .slice none 0 0, .slice A3 l3.length c3, .slice A4 0 c4] 25)) := (Below.refl _ _).alloc (Nat.le_refl _) _
  have hf : flat [(A1, c1, l1), (none, 0, []), (A3, c3, l3), (A4, c4, [])] = l1 ++ l3 := by simp [flat]
  refine (sum_any _ 4 [(A1, c1, l1), (none, 0, []), (A3, c3, l3), (A4, c4, [])] _ (RdL.four A1 A3 A4 c1 c3 c4 l1 l3 w 25 r1 r3) (by simp) (fun x hx => ?_) (by rw [hf, List.length_append]; exact hl) (ht.below hb ht.2.2.1 ht.2.2.2)).mono ?_
  · simp at hx
    rcases hx with rfl | rfl | rfl | rfl
    · exact h1
    · exact Nat.zero_le _
    · exact h3
    · exact Nat.zero_le _
  · rw [hf]
    rintro e w' ⟨he, hbw⟩
    exact ⟨he, hb.trans (hbw.mono hb.size)⟩
set_option maxRecDepth 100000 in
set_option maxHeartbeats 8000000 in
theorem namesPieces_any (A : Option Addr) (c : Nat) (L : List Pc) (at_ : Int) (w : World) (hR : RdL w w.heap.size A L) (hL : L.length ≤ 9223372036854775807) (hcap : ∀ x ∈ L, x.2.2.length ≤ x.2.1) (hat1 : -9223372036854775808 ≤ at_) (hat2 : at_ ≤ 9223372036854775807) (ht : Tabs w) :
    Calls Tryd.prog 3 #[.slice A L.length c, .int .i64 at_] w fun e w' => e = .returned (.bool true) ∧ Below w.heap.size w w' := by
  have hz2 := zero_hash
  have HT : Hid (∀ u : World, Below w.heap.size w u → Tabs u) := fun u hu => ht.below hu ht.2.2.1 ht.2.2.2
  have HCAP := Lib.hid hcap
  clear ht hcap
  go_enter Tryd.func3, Tryd.ntmps3
  go_wp2_with fail
  refine (much_any A c 2500 (by omega) L w hR hL).mono ?_
  rintro e w0 ⟨b, rfl, rfl, hmuch⟩
  cases b
  · have hm := hmuch rfl
    clear hmuch
    have hfl : (flat L).length ≤ 2500 := by omega
    go_wp2_with fail
    refine (refJoin_any A c L w hR hL (by omega)).mono ?_
    rintro e w1 ⟨A1, c1, rfl, hc1, ⟨g1, rfl⟩, hr1, b1⟩
    go_wp2_with fail
    refine (refSum_any (some ⟨g1, 0, none⟩) c1 w.heap.size (flat L) w1 hr1 (by omega)).mono ?_
    rintro e w2 ⟨rfl, b2⟩
    have hr2 := (hr1.below b2 (Nat.le_refl _)).wide (Nat.le_refl _) b2.size
    have hb2 := b1.trans (b2.mono b1.size)
    go_wp2_with (refine wpList_store_row rfl 28 (.tmp 6) (.tmp 13) rfl w2.heap.size (hashV (shaL (flat L))) rfl rfl 28 (rowV 32 z8) (heap_alloc_new _ _) (hash_size _) (by unfold hashV; rw [rowV_size, rowV_size]) (rowV_one 32 _ (fun i => rfl)) ?_; rw [World.setRow_alloc_new])
    obtain ⟨cs, hcs⟩ : ∃ cs, cs = (List.range 32).map (hF (shaL (flat L))) := ⟨_, rfl⟩
    have HE : Hid (hashV (shaL (flat L)) = cs.toArray) := by rw [hcs]; exact rfl
    have hi28 : (Tryd.prog.info? 28).map (·.size) = some cs.length := by rw [hcs, List.length_map, List.length_range]; exact size_hash
    have hu28 := Tryd.underlying28
    have hb3 := hb2.alloc hb2.size (.cells (hashV (shaL (flat L))) 28)
    have hr3 := hr2.alloc (Nat.le_refl _) (.cells (hashV (shaL (flat L))) 28)
    have hw3 : Fill w2.heap.size 28 32 32 (hF (shaL (flat L))) (w2.alloc (.cells (hashV (shaL (flat L))) 28)) := Fill.of_row (heap_alloc_new w2 _)
    have hr3' := hr3.wide (Nat.le_refl _) (Nat.le_of_lt hw3.lt)
    have ge : ∀ u, (Op.equalIn 10000 28 (.agg cs.toArray) (.agg cs.toArray)).run Tryd.prog u = .ok true u := fun u => by rw [← HE.out, eq_hash _ _ (shaL_length _) (shaL_length _) u]; simp
    clear hr1 hr2 hr3 b1 b2 hb2 hz2
    generalize w2.alloc (.cells (hashV (shaL (flat L))) 28) = W at *
    generalize w2.heap.size = pw at *
    have HR : Hid (∀ u : World, Below W.heap.size W u → u.rangeAt pw 0 cs) := fun u hu j v hv => by
      rw [hcs, List.getElem?_map] at hv
      rcases Nat.lt_or_ge j 32 with h | h
      · rw [List.getElem?_range h] at hv
        rw [Nat.zero_add]
        exact ((hw3.below hu hw3.lt).at_ j h).trans hv
      · rw [List.getElem?_eq_none (by simpa using h)] at hv; cases hv
    have B0 := (Below.refl W.heap.size W).drew
    have k0 := HR.out _ B0
    have HS1 : Hid (Calls Tryd.prog 12 #[.slice A L.length c] W.drew fun e w' => e = .returned (.agg cs.toArray) ∧ Below W.heap.size W w') := (sum_any A c L W.drew ((hR.below hb3.drew (Nat.le_refl _)).up hb3.size) hL HCAP.out (by omega) (HT.out _ hb3.drew)).mono fun e w' ⟨he, hb⟩ => ⟨by rw [he, HE.out], B0.trans hb⟩
    have HS2 : Hid (∀ u : World, Below W.heap.size W u → Calls Tryd.prog 12 #[.slice (some ⟨u.heap.size, 0, none⟩) 1 1] (u.alloc (.cells #[.slice (some ⟨g1, 0, none⟩) (flat L).length c1] 25)) fun e w' => e = .returned (.agg cs.toArray) ∧ Below W.heap.size W w') := fun u hu => (sum1 (some ⟨g1, 0, none⟩) c1 (flat L).length (flat L) u rfl ((hr3'.below hu (Nat.le_refl _)).wide (Nat.zero_le _) hu.size) hc1 (by omega) (HT.out _ (hb3.trans (hu.mono hb3.size)))).mono fun e w' ⟨he, hb⟩ => ⟨by rw [he, HE.out], hu.trans (hb.mono hu.size)⟩
    clear hcs
    simp only [Act.put]
    refine wp_region_noPanic ?_
    refine wp_region_held_drew (S := fun u => u.rangeAt pw 0 cs) (by kernel_rfl) k0 (fun hHeld => ?_)
    refine wpAnyH_take (i := 0) (oi := _) (v := .slice A L.length c) rfl (by kernel_rfl) (by kernel_rfl) (by kernel_rfl) (fun _ _ _ h => h) (Or.inl ⟨by rfl, by intro w hSw; go_simp⟩) hHeld ?_
    refine wpAnyH_take (i := 2) (oi := _) (v := .agg cs.toArray) rfl (by kernel_rfl) (by kernel_rfl) (by kernel_rfl) (fun _ _ _ h => h) (yieldsIf_load_mid (by rfl) _ _ rfl pw 0 rfl cs _ (fun w h => h) hu28 rfl hi28) hHeld ?_
    refine wpAnyH_ready (rs := [1]) (by kernel_rfl) (by simp) ?_
    refine AllReadyH.cons (o := _) rfl (fun K hK => ?_) AllReadyH.nil
    go_simp
    go_at_call 12
    refine HS1.out.mono ?_
    rintro e w5 ⟨rfl, b5⟩
    go_simp
    refine hK.out _ _ (HR.out _ b5) (fun hHeld => ?_)
    clear hK K
    refine wpAnyH_take (i := 3) (oi := _) (v := .bool false) rfl (by kernel_rfl) (by kernel_rfl) (by kernel_rfl) (fun _ _ _ h => h) (Or.inl ⟨by rfl, by intro w hSw; go_simp⟩) hHeld ?_
    refine wpAnyH_take (i := 4) (oi := _) (v := .bool false) rfl (by kernel_rfl) (by kernel_rfl) (by kernel_rfl) (fun _ _ _ h => h) (Or.inl ⟨by rfl, by intro w hSw; go_simp⟩) hHeld ?_
    refine wpAnyH_take (i := 5) (oi := _) (v := .slice (some ⟨g1, 0, none⟩) (flat L).length c1) rfl (by kernel_rfl) (by kernel_rfl) (by kernel_rfl) (fun _ _ _ h => h) (Or.inl ⟨by rfl, by intro w hSw; go_simp⟩) hHeld ?_
    refine wpAnyH_take (i := 8) (oi := _) (v := .agg cs.toArray) rfl (by kernel_rfl) (by kernel_rfl) (by kernel_rfl) (fun _ _ _ h => h) (yieldsIf_load_mid (by rfl) _ _ rfl pw 0 rfl cs _ (fun w h => h) hu28 rfl hi28) hHeld ?_
    refine wpAnyH_ready (rs := [6]) (by kernel_rfl) (by simp) ?_
    refine AllReadyH.cons (o := _) rfl (fun K hK => ?_) AllReadyH.nil
    go_simp
    refine hK.out _ _ (HR.out _ (b5.alloc b5.size (.cells #[.slice (some ⟨g1, 0, none⟩) (flat L).length c1] 25))) (fun hHeld => ?_)
    clear hK K
    refine wpAnyH_ready (rs := [7]) (by kernel_rfl) (by simp) ?_
    refine AllReadyH.cons (o := _) rfl (fun K hK => ?_) AllReadyH.nil
    go_simp
    go_at_call 12
    refine (HS2.out _ b5).mono ?_
    rintro e w6 ⟨rfl, b6⟩
    go_simp
    refine hK.out _ _ (HR.out _ b6) (fun hHeld => ?_)
    clear hK K
    refine wpAnyH_take (i := 9) (oi := _) (v := .bool false) rfl (by kernel_rfl) (by kernel_rfl) (by kernel_rfl) (fun _ _ _ h => h) (Or.inl ⟨by rfl, by intro w hSw; go_simp⟩) hHeld ?_
    refine wpAnyH_take (i := 10) (oi := _) (v := .bool false) rfl (by kernel_rfl) (by kernel_rfl) (by kernel_rfl) (fun _ _ _ h => h) (Or.inl ⟨by rfl, by intro w hSw; go_simp⟩) hHeld ?_
    refine wpAnyH_done (by kernel_rfl) ?_ _
    refine NoPanic.normal ?_
    clear k0 hHeld HS1 HS2 b5
    by_cases hneg : at_ < 0
    · have d0 : decide (at_ < 0) = true := by simpa using hneg
      go_wp2_with fail
      refine (known_any w6 (HT.out w6 (hb3.trans (b6.mono hb3.size)))).mono ?_
      rintro e w7 ⟨rfl, b7⟩
      go_wp2_with fail
      go_ret
      have b8 := hb3.trans (b6.mono hb3.size)
      exact ⟨rfl, b8.trans (b7.mono b8.size)⟩
    · have d0 : decide (at_ < 0) = false := by simpa using hneg
      obtain ⟨k, rfl⟩ := Int.eq_ofNat_of_zero_le (by omega : 0 ≤ at_)
      by_cases hbig : (flat L).length < k
      · have d1 : decide (((flat L).length : Int) < (k : Int)) = true := by simp; omega
        go_wp2_with fail
        refine (known_any w6 (HT.out w6 (hb3.trans (b6.mono hb3.size)))).mono ?_
        rintro e w7 ⟨rfl, b7⟩
        go_wp2_with fail
        go_ret
        have b8 := hb3.trans (b6.mono hb3.size)
        exact ⟨rfl, b8.trans (b7.mono b8.size)⟩
      · have d1 : decide (((flat L).length : Int) < (k : Int)) = false := by simp; omega
        have i1 : (k : Int) ≤ ((flat L).length : Int) := by omega
        have i2 : (k : Int) ≤ (c1 : Int) := by omega
        have i3 : ((flat L).length : Int) ≤ (c1 : Int) := by omega
        have B6 : Below W.heap.size W w6.drew := b6.drew
        have k0 := HR.out _ B6
        have B7 := B6.alloc B6.size (.cells #[] 5)
        have k1 := HR.out _ B7
        have hsz7 : (w6.drew.alloc (.cells #[] 5)).heap.size = w6.heap.size + 1 := heap_sz w6.drew _
        have hr7 := (hr3'.below B7 (Nat.le_refl _)).wide (Nat.zero_le _) B7.size
        have hadd : (Option.map (fun x : Addr => x.add k) (some ⟨g1, 0, none⟩)) = some ⟨g1, k, none⟩ := by rw [Option.map_some, addr_add]
        have hd7 := hr7.drop (k := k) hc1
        rw [hadd] at hd7
        have B8 := B7.alloc B7.size (.cells #[.slice (some ⟨g1, 0, none⟩) k c1, .slice none 0 0, .slice (if c1 = k then some ⟨g1, 0, none⟩ else some ⟨g1, k, none⟩) ((flat L).length - k) (c1 - k), .slice (some ⟨w6.heap.size, 0, none⟩) 0 0] 25)
        have HS4 := Lib.hid (sum4 (some ⟨g1, 0, none⟩) (if c1 = k then some ⟨g1, 0, none⟩ else some ⟨g1, k, none⟩) (some ⟨w6.heap.size, 0, none⟩) c1 (c1 - k) 0 k ((flat L).length - k) ((flat L).take k) ((flat L).drop k) (w6.drew.alloc (.cells #[] 5)) (by rw [List.length_take]; omega) List.length_drop.symm (hr7.take k) hd7 (by omega) (by omega) (by rw [List.length_take, List.length_drop]; omega) (HT.out _ (hb3.trans (B7.mono hb3.size))))
        rw [List.take_append_drop, hsz7, HE.out] at HS4
        have HK : Hid (∀ u : World, Below W.heap.size W u → Calls Tryd.prog 9 #[] u fun e w' => e = .returned (.bool true) ∧ Below W.heap.size W w') := fun u hu => (known_any u (HT.out u (hb3.trans (hu.mono hb3.size)))).mono fun e w' ⟨he, hb⟩ => ⟨he, hu.trans (hb.mono hu.size)⟩
        have HB7 := Lib.hid B7
        clear hsz7 hr7 hadd hd7
        go_wp2_with fail
        refine wp_region_noPanic ?_
        refine wp_region_held_drew (S := fun u => u.rangeAt pw 0 cs) (by kernel_rfl) k0 (fun hHeld => ?_)
        refine wpAnyH_take (i := 0) (oi := _) (v := .slice (some ⟨g1, 0, none⟩) (flat L).length c1) rfl (by kernel_rfl) (by kernel_rfl) (by kernel_rfl) (fun _ _ _ h => h) (Or.inl ⟨by rfl, by intro w hSw; go_simp⟩) hHeld ?_
        refine wpAnyH_take (i := 1) (oi := _) (v := .int .i64 (k : Int)) rfl (by kernel_rfl) (by kernel_rfl) (by kernel_rfl) (fun _ _ _ h => h) (Or.inl ⟨by rfl, by intro w hSw; go_simp⟩) hHeld ?_
        refine wpAnyH_take (i := 2) (oi := _) (v := .slice (some ⟨g1, 0, none⟩) k c1) rfl (by kernel_rfl) (by kernel_rfl) (by kernel_rfl) (fun _ _ _ h => h) (Or.inl ⟨by rfl, by intro w hSw; go_simp⟩) hHeld ?_
        refine wpAnyH_take (i := 3) (oi := _) (v := .slice (some ⟨g1, 0, none⟩) (flat L).length c1) rfl (by kernel_rfl) (by kernel_rfl) (by kernel_rfl) (fun _ _ _ h => h) (Or.inl ⟨by rfl, by intro w hSw; go_simp⟩) hHeld ?_
        refine wpAnyH_take (i := 4) (oi := _) (v := .int .i64 (k : Int)) rfl (by kernel_rfl) (by kernel_rfl) (by kernel_rfl) (fun _ _ _ h => h) (Or.inl ⟨by rfl, by intro w hSw; go_simp⟩) hHeld ?_
        refine wpAnyH_take (i := 5) (oi := _) (v := .slice (if c1 = k then some ⟨g1, 0, none⟩ else some ⟨g1, k, none⟩) ((flat L).length - k) (c1 - k)) rfl (by kernel_rfl) (by kernel_rfl) (by kernel_rfl) (fun _ _ _ h => h) (Or.inl ⟨by rfl, by intro w hSw; go_simp⟩) hHeld ?_
        refine wpAnyH_take (i := 9) (oi := _) (v := .agg cs.toArray) rfl (by kernel_rfl) (by kernel_rfl) (by kernel_rfl) (fun _ _ _ h => h) (yieldsIf_load_mid (by rfl) _ _ rfl pw 0 rfl cs _ (fun w h => h) hu28 rfl hi28) hHeld ?_
        refine wpAnyH_ready (rs := [6]) (by kernel_rfl) (by simp) ?_
        refine AllReadyH.cons (o := _) rfl (fun K hK => ?_) AllReadyH.nil
        go_simp
        refine hK.out _ _ k1 (fun hHeld => ?_)
        clear hK K
        refine wpAnyH_ready (rs := [7]) (by kernel_rfl) (by simp) ?_
        refine AllReadyH.cons (o := _) rfl (fun K hK => ?_) AllReadyH.nil
        go_simp
        refine hK.out _ _ (HR.out _ B8) (fun hHeld => ?_)
        clear hK K
        refine wpAnyH_ready (rs := [8]) (by kernel_rfl) (by simp) ?_
        refine AllReadyH.cons (o := _) rfl (fun K hK => ?_) AllReadyH.nil
        go_simp
        go_at_call 12
        refine HS4.out.mono ?_
        rintro e w8 ⟨rfl, b8⟩
        have B9 : Below W.heap.size W w8 := HB7.out.trans (b8.mono (by have := HB7.out.size; simp at this ⊢; omega))
        go_simp
        refine hK.out _ _ (HR.out _ B9) (fun hHeld => ?_)
        clear hK K
        refine wpAnyH_take (i := 10) (oi := _) (v := .bool true) rfl (by kernel_rfl) (by kernel_rfl) (by kernel_rfl) (fun _ _ _ h => h) (Or.inl ⟨by rfl, by intro w hSw; go_simp⟩) hHeld ?_
        refine wpAnyH_take (i := 11) (oi := _) (v := .bool true) rfl (by kernel_rfl) (by kernel_rfl) (by kernel_rfl) (fun _ _ _ h => h) (Or.inl ⟨by rfl, by intro w hSw; go_simp⟩) hHeld ?_
        refine wpAnyH_ready (rs := [12]) (by kernel_rfl) (by simp) ?_
        refine AllReadyH.cons (o := _) rfl (fun K hK => ?_) AllReadyH.nil
        go_simp
        go_at_call 9
        refine (HK.out _ B9).mono ?_
        rintro e w9 ⟨rfl, b9⟩
        go_simp
        refine hK.out _ _ (HR.out _ b9) (fun hHeld => ?_)
        clear hK K
        refine wpAnyH_take (i := 13) (oi := _) (v := .bool true) rfl (by kernel_rfl) (by kernel_rfl) (by kernel_rfl) (fun _ _ _ h => h) (Or.inl ⟨by rfl, by intro w hSw; go_simp⟩) hHeld ?_
        refine wpAnyH_ready (rs := [14]) (by kernel_rfl) (by simp) ?_
        refine AllReadyH.cons (o := _) rfl (fun K hK => ?_) AllReadyH.nil
        go_simp
        refine hK.out _ _ (HR.out _ b9) (fun hHeld => ?_)
        clear hK K
        refine wpAnyH_done (by kernel_rfl) ?_ _
        refine NoPanic.normal ?_
        go_wp2_with fail
        all_goals
          go_ret
          exact ⟨rfl, hb3.trans (b9.mono hb3.size)⟩
  · clear hmuch
    go_wp2_with fail
    refine (known_any w (HT.out w (Below.refl _ _))).mono ?_
    rintro e w6 ⟨rfl, b6⟩
    go_wp2_with fail
    go_ret
    exact ⟨rfl, b6⟩
end Go.Proofs.YtlfmdnnookkdhaaDoor
