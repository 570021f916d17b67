/- Contract: mix. -/
import Derived.Test.YthjeanjodhafjaaDoorMixR
namespace Go.Proofs.YthjeanjodhafjaaDoor
open Go.ChangeShapes Go.WideShapes Go.ChangeAt Go.RowKit
set_option linter.unusedVariables false

set_option maxRecDepth 1000000 in
set_option maxHeartbeats 20000000 in
theorem mix_any (s : St) (b : List Nat) (w : World) (hs : s.ok) (hb : b.length = 16) (hbl : ∀ j, b.getD j 0 < 4294967296) (ht : Tabs w) :
    Calls Tryd.prog 43 #[.agg (rowV 8 (eF s)), .agg (rowV 16 (bF b))] w fun e w' => e = .returned (.agg (rowV 8 (eF (mixS s b)))) ∧ Below w.heap.size w w' := by
  have hz8 := zero_8
  have hz64 := zero_64
  go_enter Tryd.func43, Tryd.ntmps43
  go_wp2_with fail
  obtain ⟨n, hn⟩ : ∃ n : Nat, n = w.heap.size := ⟨_, rfl⟩
  obtain ⟨W, hW⟩ : ∃ W : World, W = (((w.alloc (.cells (rowV 8 (eF s)) 50)).alloc (.cells (rowV 16 (bF b)) 80)).alloc (.cells (rowV 8 z32) 50)).alloc (.cells (rowV 64 z32) 51) := ⟨_, rfl⟩
  have hE : Fill n 50 8 8 (eF s) W := Fill.of_row (by rw [hW, hn]; exact (heap4 _ _ _ _ _).1)
  have hB : Fill (n + 1) 80 16 16 (bF b) W := Fill.of_row (by rw [hW, hn]; exact (heap4 _ _ _ _ _).2.1)
  have hR : Fill (n + 1 + 1) 50 8 8 z32 W := Fill.of_row (by rw [hW, hn]; exact (heap4 _ _ _ _ _).2.2.1)
  have hV : W.heap[n + 1 + 1 + 1]? = some (.cells ((List.range 64).map z32).toArray 51 (0, 0)) := by rw [hW, hn]; exact (heap4 _ _ _ _ _).2.2.2
  have hbel : Below n w W := by
    rw [hW, hn]
    exact ((((Below.refl _ _).alloc (Nat.le_refl _) _).alloc (by simp) _).alloc (by simp; omega) _).alloc (by simp; omega) _
  rw [← hW, ← hn]
  obtain ⟨hg0, hg1⟩ := ht.2.2
  rw [← hn] at hg0 hg1
  have hT := ht.below hbel hg0 hg1
  have HV := Lib.hid hV
  have HN := Lib.hid hn
  clear hW hz8 hz64 hV ht hn
  have HC : Hid (∀ j v, ((List.range 16).map (bF b))[j]? = some v → W.drew.cell? (Addr.add ⟨n + 1, 0, none⟩ j) = some v) := fun j v hv => by
    have hj : j < 16 := by
      rcases Nat.lt_or_ge j 16 with h | h
      · exact h
      · rw [List.getElem?_eq_none (by simpa using h)] at hv; cases hv
    rw [List.getElem?_map, List.getElem?_range hj] at hv
    have := hB.at_ j hj
    rw [addr_add]
    exact this.trans hv
  have HO : Hid (∀ v ∈ (List.range 16).map (bF b), v.oneCell' = true) := fun v hv => by
    obtain ⟨i, _, rfl⟩ := List.mem_map.1 hv
    rfl
  go_region_law (refine step_copy_splice rfl (.tmp 24) (.tmp 25) 86 86 rfl 49 Tryd.underlying86 size_u32 (some ⟨n + 1 + 1 + 1, 0, none⟩) (some ⟨n + 1, 0, none⟩) 64 64 16 16 (by rfl) (by rfl) (n + 1 + 1 + 1) 0 ((List.range 64).map z32) 51 HV.out ((List.range 16).map (bF b)) (by simp) (fun _ => ⟨rfl, _, rfl, fun j v hv => HC.out j v hv⟩) (by simp) HO.out (n + 1 + 1 + 1) W (Below.refl _ _).drew (Nat.le_refl _) ?_; intro w4 hg4 hb4)
  go_wp2_with fail
  have hF0 : Fill (n + 1 + 1 + 1) 51 64 16 (fun j => rv (wF b j)) w4 := by
    refine ⟨_, hg4.out, by simp [splice], fun j hj => ?_⟩
    show _ = some (rv (wF b j))
    rw [wF_old b hb j hj, List.getElem?_toArray]
    unfold splice
    rw [List.take_zero, List.nil_append, List.getElem?_append_left (by simpa using hj), List.getElem?_map, List.getElem?_range hj]
    rfl
  have q1 : n < n + 1 := by omega
  have q2 : n + 1 < n + 1 + 1 := by omega
  have q3 : n + 1 + 1 < n + 1 + 1 + 1 := by omega
  clear hg4 HV HC HO hB
  generalize n + 1 + 1 + 1 = p3 at *
  generalize n + 1 + 1 = p2 at *
  generalize n + 1 = p1 at *
  go_loopw [7] (fun i wr => ∃ t : Nat, 16 ≤ t ∧ t ≤ 64 ∧ i = .int .i64 t ∧ Fill p3 51 64 t (fun j => rv (wF b j)) wr ∧ Below p3 W wr) (fun i _ => 64 - (intOf i).toNat)
  case atStart => exact ⟨16, by omega, by omega, rfl, hF0, hb4⟩
  case round =>
    obtain ⟨t, ht1, ht2, rfl, hF, hbw⟩ := hrel
    clear hF0 hb4
    by_cases hlt : t < 64
    · have c2 := hF.at_ (t - 2) (by omega)
      have c15 := hF.at_ (t - 15) (by omega)
      have l2 := wF_lt b hb hbl (t - 2)
      have l15 := wF_lt b hb hbl (t - 15)
      unfold rv at c2 c15
      have HX := Lib.hid (wF_next b hb t ht1 hlt)
      generalize wF b (t - 2) = x2 at c2 l2 HX
      generalize wF b (t - 15) = x15 at c15 l15 HX
      have hp3 := hF.lt
      go_wp2_with fail
      go_quiet (fail)
      go_wp2_with fail
      refine (turned2 x2 17 19 (wr.drewN nq) l2 (by omega) (by omega)).mono ?_
      rintro e w1 ⟨rfl, hw1⟩
      have hF1 : Fill p3 51 64 t (fun j => rv (wF b j)) w1 := by rw [← hw1]; exact (hF.drewN nq).below ((Below.refl _ _).alloc (Nat.le_refl _) _) hp3
      have hb1 : Below p3 W w1 := by rw [← hw1]; exact (below_drewN hbw nq).alloc (Nat.le_of_lt hp3) _
      clear hw1 hF hbw c2 c15
      have e1 : bits .xor .u32 ((turns x2 [17, 19] : Nat) : Int) ((x2 : Int) / 1024) = ((xo (turns x2 [17, 19]) (x2 / 1024) : Nat) : Int) := xo_sh _ _ 1024
      generalize xo (turns x2 [17, 19]) (x2 / 1024) = a1 at e1 HX
      generalize turns x2 [17, 19] = y1 at e1 ⊢
      obtain ⟨u0, hu0, hf0⟩ := hF1.cell t hlt
      go_wp2_with fail
      have hF2 := hF1.past t (Nat.le_refl _) (.int .u32 (a1 : Int))
      have hc2 := hF1.put_at t hlt (.int .u32 (a1 : Int))
      have hb2 : Below p3 W (w1.setCell ⟨p3, t, none⟩ (.int .u32 (a1 : Int))) := hb1.setCell (by simp) _
      refine mix_r9 _ _ _ _ _ _ _ _ _ _ _ _ _ _ _ _ _ _ _ _ _ _ _ _ _ _ _ _ _ _ _ _ _ _ _ _ _ _ _ _ _ _ _ _ _ _ _ _ _ _ _ _ _ _ _ _ _ _ _ _ _ _ _ _ _ _ _ _ _ _ _ _ _ _ _ _ _ _ _ _ _ _ _ _ _ _ _ _ _ _ _ _ _ _ _ _ _ _ _ _ _ _ _ _ _ _ _ _ _ _ _ _ _ _ _ _ _ _ _ _ _ _ _ _ _ _ _ _ _ _ _ _ _ _ _ _ _ _ _ _ _ _ _ _ _ _ _ _ _ _ _ _ _ _ _ _ _ _ _ _ _ _ _ _ _ _ _ _ p3 t a1 (wF b) W _ ht1 hlt hF2 hc2 hb2 _ ?_
      intro u48 u49 u50 u51 u52 u53 u54 u55 u56 w3 _ hw3
      have hF3 : Fill p3 51 64 t (fun j => rv (wF b j)) w3 := by rw [hw3]; exact hF2.past t (Nat.le_refl _) _
      have hc3 : w3.cell? ⟨p3, t, none⟩ = some (.int .u32 (ad a1 (wF b (t - 7)) : Nat)) := by rw [hw3]; exact hF2.put_at t hlt _
      have hb3 : Below p3 W w3 := by rw [hw3]; exact (hb2.setCell (by simp) _).drew
      clear hu0 hf0 e1 hF1 hb1 hF2 hc2 hb2 hw3
      go_wp2_with fail
      refine mix_r10 _ _ _ _ _ _ _ _ _ _ _ _ _ _ _ _ _ _ _ _ _ _ _ _ _ _ _ _ _ _ _ _ _ _ _ _ _ _ _ _ _ _ _ _ _ _ _ _ _ _ _ _ _ _ _ _ _ _ _ _ _ _ _ _ _ _ _ _ _ _ _ _ _ _ _ _ _ _ _ _ _ _ _ _ _ _ _ _ _ _ _ _ _ _ _ _ _ _ _ _ _ _ _ _ _ _ _ _ _ _ _ _ _ _ _ _ _ _ _ _ _ _ _ _ _ _ _ _ _ _ _ _ _ _ _ _ _ _ _ _ _ _ _ _ _ _ _ _ _ _ _ _ _ _ _ _ _ _ _ _ _ _ _ _ _ _ p3 t _ x15 (wF b) w3 hlt l15 hF3 hc3 _ ?_
      intro u57 u58 u59 u60 u61 u62 u63 u64 u65 u66 u67 u68 w5 hw5
      have hp4 := hF3.lt
      have hF4 : Fill p3 51 64 t (fun j => rv (wF b j)) (w3.drew.alloc (.cells #[.int .i64 7, .int .i64 18] 3)) := Fill.below (wr := w3.drew) hF3 ((Below.refl _ _).alloc (Nat.le_refl _) _) hp4
      have hF5 : Fill p3 51 64 t (fun j => rv (wF b j)) w5 := by rw [hw5]; exact hF4.past t (Nat.le_refl _) _
      have hc5 : w5.cell? ⟨p3, t, none⟩ = some (.int .u32 (ad (ad a1 (wF b (t - 7))) (xo (turns x15 [7, 18]) (x15 / 8)) : Nat)) := by rw [hw5]; exact hF4.put_at t hlt _
      have hb5 : Below p3 W w5 := by rw [hw5]; exact (hb3.drew.alloc (Nat.le_of_lt hp4) _).setCell (by simp) _
      clear hF3 hc3 hb3 hw5 hF4
      go_wp2_with fail
      refine mix_r11 _ _ _ _ _ _ _ _ _ _ _ _ _ _ _ _ _ _ _ _ _ _ _ _ _ _ _ _ _ _ _ _ _ _ _ _ _ _ _ _ _ _ _ _ _ _ _ _ _ _ _ _ _ _ _ _ _ _ _ _ _ _ _ _ _ _ _ _ _ _ _ _ _ _ _ _ _ _ _ _ _ _ _ _ _ _ _ _ _ _ _ _ _ _ _ _ _ _ _ _ _ _ _ _ _ _ _ _ _ _ _ _ _ _ _ _ _ _ _ _ _ _ _ _ _ _ _ _ _ _ _ _ _ _ _ _ _ _ _ _ _ _ _ _ _ _ _ _ _ _ _ _ _ _ _ _ _ _ _ _ _ _ _ _ _ _ _ _ p3 t _ (wF b) W w5 ht1 hlt hF5 hc5 hb5 _ ?_
      intro u69 u70 u71 u72 u73 u74 u75 u76 u77 w6 _ hw6
      have hF6 : Fill p3 51 64 (t + 1) (fun j => rv (wF b j)) w6 := by rw [hw6]; exact Fill.step (wr := w5) hF5 hlt (congrArg rv HX.out).symm
      have hb6 : Below p3 W w6 := by rw [hw6]; exact (hb5.setCell (by simp) _).drew
      clear hF5 hc5 hb5 hw6
      go_wp2_with fail
      exact ⟨⟨_, _, _, _, _, _, _, _, _, _, _, _, _, _, _, _, _, _, _, _, _, _, _, _, _, _, _, _, _, _, _, _, _, _, _, _, _, _, _, _, _, _, _, _, _, _, _, _, _, _, _, _, _, _, ⟨t + 1, by omega, by omega, by go_num, hF6, hb6⟩, rfl⟩, by simp [intOf]; omega⟩
    · obtain rfl : t = 64 := by omega
      have c0 := (Fill.below hE hbw (by omega)).at_ 0 (by omega)
      have c1 := (Fill.below hE hbw (by omega)).at_ 1 (by omega)
      have c2 := (Fill.below hE hbw (by omega)).at_ 2 (by omega)
      have c3 := (Fill.below hE hbw (by omega)).at_ 3 (by omega)
      simp only [eF, rv, St.at] at c0 c1 c2 c3
      go_wp2_with fail
      go_quiet (fail)
      have hF1 := hF.drewN nq
      have hb1 := below_drewN hbw nq
      clear hF hbw c0 c1 c2 c3
      generalize wr.drewN nq = w5 at *
      have c4 := (Fill.below hE hb1 (by omega)).at_ 4 (by omega)
      have c5 := (Fill.below hE hb1 (by omega)).at_ 5 (by omega)
      have c6 := (Fill.below hE hb1 (by omega)).at_ 6 (by omega)
      have c7 := (Fill.below hE hb1 (by omega)).at_ 7 (by omega)
      simp only [eF, rv, St.at] at c4 c5 c6 c7
      go_wp2_with fail
      go_quiet (fail)
      have h1 := (hF1.drewN nq).done
      have hlt6 := (hF1.drewN nq).lt
      have hb2 := below_drewN hb1 nq
      clear hF1 hb1 c4 c5 c6 c7
      generalize w5.drewN nq = w6 at *
      go_wp2_with (refine wpList_load_row rfl 51 (.tmp 6) rfl p3 rfl 51 (rowV 64 (fun j => rv (wF b j))) (0, 0) _ h1 Tryd.underlying51 rfl (by rw [rowV_size]; exact size_64) ?_)
      clear h1
      go_loopw [10, 11, 12, 13, 14, 15, 16, 17, 95] (fun va vb vc vd ve vf vg vh i wr => ∃ t : Nat, t ≤ 64 ∧ i = .int .i64 t ∧ va = rv (rnds s (wl b 48) t).a ∧ vb = rv (rnds s (wl b 48) t).b ∧ vc = rv (rnds s (wl b 48) t).c ∧ vd = rv (rnds s (wl b 48) t).d ∧ ve = rv (rnds s (wl b 48) t).e ∧ vf = rv (rnds s (wl b 48) t).f ∧ vg = rv (rnds s (wl b 48) t).g ∧ vh = rv (rnds s (wl b 48) t).h ∧ Below p3 W wr ∧ p3 < wr.heap.size) (fun _ _ _ _ _ _ _ _ i _ => 64 - (intOf i).toNat)
      case atStart => exact ⟨0, by omega, rfl, rfl, rfl, rfl, rfl, rfl, rfl, rfl, rfl, hb2, hlt6⟩
      case round =>
        obtain ⟨t, ht, rfl, rfl, rfl, rfl, rfl, rfl, rfl, rfl, rfl, hbw, hsz⟩ := hrel
        have ho := rnds_ok hs (wl b 48) t
        clear hb2
        by_cases hlt : t < 64
        · have HR := Lib.hid (show rnds s (wl b 48) (t + 1) = rnd (rnds s (wl b 48) t) (kN t) (wF b t) from rfl)
          generalize rnds s (wl b 48) t = r at *
          unfold rv
          obtain ⟨ha, hb', hc, hd, he, hf, hg, hh⟩ := ho
          have hx := fun u => run_index_row 51 49 64 (rowV 64 (fun j => rv (wF b j))) t .u32 (wF b t : Nat) u Tryd.underlying51 size_u32 Tryd.underlying49 hlt (rowV_at 64 (fun j => rv (wF b j)) t hlt)
          unfold rv at hx
          generalize wF b t = wt at *
          go_wp2_with fail
          have gT := hT.below hbw (by omega) (by omega)
          have hk := gT.2.1 t hlt
          unfold rv at hk
          refine mix_r17 _ _ _ _ _ _ _ _ _ _ _ _ _ _ _ _ _ _ _ _ _ _ _ _ _ _ _ _ _ _ _ _ _ _ _ _ _ _ _ _ _ _ _ _ _ _ _ _ _ _ _ _ _ _ _ _ _ _ _ _ _ _ _ _ _ _ _ _ _ _ _ _ _ _ _ _ _ _ _ _ _ _ _ _ _ _ _ _ _ _ _ _ _ _ _ _ _ _ _ _ _ _ _ _ _ _ _ _ _ _ _ _ _ _ _ _ _ _ _ _ _ _ _ _ _ _ _ _ _ _ _ _ _ _ _ _ _ _ _ _ _ _ _ _ _ _ _ _ _ _ _ _ _ _ _ _ _ _ _ _ _ _ _ r t (kN t) wt wr hlt he hk gT.2.2.2 _ ?_
          intro u99 u100 u101 u102 u103 u104 u105 u106 u107 u108 u109 u110 u111 u112 u113 u114 u115 u116 u117 u118 u119 w7 hw7
          have hTA : TurnsAt (w7.alloc (.cells #[.int .i64 2, .int .i64 13, .int .i64 22] 3)) w7.heap.size [2, 13, 22] := turnsAt_new w7 [2, 13, 22] #[.int .i64 2, .int .i64 13, .int .i64 22] 3 rfl
          have HU2 := Lib.hid (show Calls Tryd.prog 45 #[.int .u32 (r.a : Int), .slice (some ⟨w7.heap.size, 0, none⟩) 3 3] (w7.alloc (.cells #[.int .i64 2, .int .i64 13, .int .i64 22] 3)) (fun e w' => e = .returned (.int .u32 (turns r.a [2, 13, 22] : Nat)) ∧ (w7.alloc (.cells #[.int .i64 2, .int .i64 13, .int .i64 22] 3)) = w') from turned_any r.a w7.heap.size 3 [2, 13, 22] _ ha hTA (by simp) (by simp))
          have hb7 : Below p3 W w7 := by rw [hw7]; exact (hbw.alloc (Nat.le_of_lt hsz) _).drew
          have hs7 : p3 < w7.heap.size := by rw [hw7]; simp; omega
          have HB := Lib.hid (show sumB r = ad (turns r.a [2, 13, 22]) (xo (xo (an r.a r.b) (an r.a r.c)) (an r.b r.c)) from rfl)
          clear hTA hw7 hbw hsz hk gT hx
          generalize turns r.a [2, 13, 22] = T2 at HU2 HB
          obtain ⟨A4, hA4⟩ : ∃ A4, A4 = sumA r (kN t) wt := ⟨_, rfl⟩
          rw [← hA4]
          have HA := Lib.hid hA4.symm
          clear hA4
          generalize kN t = kt at HR HA
          go_wp2_with fail
          (with_reducible refine HU2.out.mono ?_)
          rintro e w8 ⟨rfl, hw8⟩
          have hb8 : Below p3 W w8 := by rw [← hw8]; exact hb7.alloc (Nat.le_of_lt hs7) _
          have hs8 : p3 < w8.heap.size := by rw [← hw8]; simp; omega
          clear hw8 HU2 hb7 hs7
          have e2 := an_rule r.a r.b
          have e3 := an_rule r.a r.c
          have e4 := an_rule r.b r.c
          generalize an r.a r.b = Y1 at *
          generalize an r.a r.c = Y2 at *
          generalize an r.b r.c = Y3 at *
          have e5 := xo_rule Y1 Y2
          generalize xo Y1 Y2 = Y4 at *
          have e6 := xo_rule Y4 Y3
          generalize xo Y4 Y3 = Y5 at *
          have e7 := ad_rule T2 Y5
          generalize ad T2 Y5 = B2 at *
          have e8 := ad_rule r.d A4
          have e9 := ad_rule A4 B2
          have H8 := Lib.hid (show (rnd r kt wt).e = ad r.d A4 from congrArg (ad r.d) HA.out)
          have H9 := Lib.hid (show (rnd r kt wt).a = ad A4 B2 by show ad (sumA r kt wt) (sumB r) = _; rw [HA.out, HB.out])
          generalize ad r.d A4 = Z8 at *
          generalize ad A4 B2 = Z9 at *
          · go_wp2_with fail
            refine ⟨⟨_, _, _, _, _, _, _, _, _, _, _, _, _, _, _, _, _, _, _, _, _, _, _, _, _, _, _, _, _, _, _, _, _, _, _, _, _, _, _, _, _, _, _, _, _, _, _, _, _, _, _, _, _, _, _, _, _, _, _, _, _, _, _, _, _, _, ⟨t + 1, by omega, by go_num, ?_, ?_, ?_, ?_, ?_, ?_, ?_, ?_, hb8, hs8⟩, rfl⟩, by simp [intOf]; omega⟩
            · rw [HR.out, e9]; exact (congrArg (fun x : Nat => Value.int .u32 (x : Int)) H9.out).symm
            · rw [HR.out]; rfl
            · rw [HR.out]; rfl
            · rw [HR.out]; rfl
            · rw [HR.out, e8]; exact (congrArg (fun x : Nat => Value.int .u32 (x : Int)) H8.out).symm
            · rw [HR.out]; rfl
            · rw [HR.out]; rfl
            · rw [HR.out]; rfl
        · obtain rfl : t = 64 := by omega
          have hM := Lib.hid (show mixS s b = s.plus (rnds s (wl b 48) 64) from rfl)
          generalize rnds s (wl b 48) 64 = r at *
          unfold rv
          have hE3 : Fill n 50 8 8 (pF s r 0) wr := (Fill.below hE hbw (by omega)).same (fun j hj => by unfold pF eF; rw [if_neg (by omega)])
          have hR3 := Fill.below hR hbw q3
          have hb3 : Below n w wr := hbel.trans (hbw.mono (by omega))
          clear hbw
          go_wp2_with fail
          go_loopw [158] (fun i wr => ∃ t : Nat, t ≤ 8 ∧ i = .int .i64 t ∧ Fill n 50 8 8 (pF s r t) wr ∧ Fill p2 50 8 8 z32 wr ∧ Below n w wr) (fun i _ => 8 - (intOf i).toNat)
          case atStart => exact ⟨0, by omega, rfl, hE3, hR3, hb3⟩
          case round =>
            obtain ⟨t, ht, rfl, hE4, hR4, hb4⟩ := hrel
            clear hE3 hR3 hb3
            by_cases hlt : t < 8
            · have hx := fun u => run_index_row 50 49 8 _ t .u32 (r.at t : Nat) u Tryd.underlying50 size_u32 Tryd.underlying49 hlt (eight_at r t hlt)
              have hc := hE4.at_ t hlt
              have hf := hE4.frozen t
              have HP := Lib.hid (pF_step s r t (.int .u32 (((s.at t : Int) + (r.at t : Int)) % 4294967296)) (by rw [ad_rule]; rfl))
              unfold pF at hc
              rw [if_neg (by omega)] at hc
              unfold rv at hc
              go_wp2_with fail
              refine ⟨⟨t + 1, by omega, by go_num, hE4.put hlt HP.out, ?_, hb4.setCell (by simp) _⟩, by simp [intOf]; omega⟩
              exact hR4.keep (heap_setCell_other _ _ _ _ (by simp; omega))
            · obtain rfl : t = 8 := by omega
              have h1 := (hE4.same (pF_done s r)).done
              have h2 := hR4.done
              rw [← hM.out] at h1
              go_wp2_with (first | (refine wpList_load_row rfl 50 (.tmp 2) rfl n rfl 50 (rowV 8 (eF (mixS s b))) (0, 0) _ h1 Tryd.underlying50 rfl (by rw [rowV_size]; exact size_8) ?_) | (refine wpList_store_row rfl 50 (.tmp 4) (.tmp 169) rfl p2 (rowV 8 (eF (mixS s b))) rfl rfl 50 (rowV 8 z32) h2 (by rw [rowV_size]; exact size_8) (by rw [rowV_size, rowV_size]) (rowV_one 8 _ (fun i => rfl)) ?_))
              refine bodyPost_ret (v := .agg (rowV 8 (eF (mixS s b)))) (results_cell_row rfl _ _ p2 50 (rowV 8 (eF (mixS s b))) (0, 0) _ rfl (setRow_heap _ _ _ _ _ _ h2) Tryd.underlying50 rfl (by rw [rowV_size]; exact size_8)) rfl ⟨rfl, ?_⟩
              have := below_setRow hb4 (g := p2) (by omega) (rowV 8 (eF (mixS s b)))
              rw [HN.out] at this
              exact this
end Go.Proofs.YthjeanjodhafjaaDoor
