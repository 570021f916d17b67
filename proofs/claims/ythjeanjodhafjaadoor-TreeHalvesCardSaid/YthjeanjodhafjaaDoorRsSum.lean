/- Contract: the reference's Sum of words that were found. -/
import Derived.Test.YthjeanjodhafjaaDoorRsBlock
import Derived.Deep.WholeRow
import Derived.Deep.MidRow
import Derived.Deep.CutBlock
namespace Go.Proofs.YthjeanjodhafjaaDoor
open Go.ChangeShapes Go.WideShapes Go.ChangeAt Go.RowKit
set_option linter.unusedVariables false

theorem tail_blocks (l : List UInt8) : ∃ n, (l ++ tailL l.length).length = 64 * n ∧ n ≤ l.length + 2 := by
  refine ⟨(l ++ tailL l.length).length / 64, ?_, ?_⟩
  · rw [List.length_append, tailL_length]
    omega
  · rw [List.length_append, tailL_length]
    omega
theorem s0_eight : #[.int .u32 (hN 0 : Int), .int .u32 (hN 1 : Int), .int .u32 (hN 2 : Int), .int .u32 (hN 3 : Int), .int .u32 (hN 4 : Int), .int .u32 (hN 5 : Int), .int .u32 (hN 6 : Int), .int .u32 (hN 7 : Int)] = rowV 8 (eF s0) := rfl
theorem bgT_h (j : Nat) (h : j < 8) : bgT j = .int .u32 (hN j : Int) := if_pos h
theorem rd_next {w : World} {b off k t c' lo hi : Nat} {l : List UInt8} (hr : Rd w lo hi (some ⟨b, off, none⟩) (l.drop k)) (hc : (l.drop k).length ≤ c') :
    Rd w lo hi (if c' = t then some ⟨b, off, none⟩ else some ⟨b, off + t, none⟩) (l.drop (k + t)) := by
  have h := hr.drop (k := t) hc
  have e : (Option.map (fun x : Addr => x.add t) (some ⟨b, off, none⟩)) = some ⟨b, off + t, none⟩ := by
    show some (Addr.add ⟨b, off, none⟩ t) = _
    unfold Addr.add
    split
    · next h0 => subst h0; rfl
    · rfl
  rwa [e, List.drop_drop] at h
theorem hash_size (l : List UInt8) : (Tryd.prog.info? 25).map (·.size) = some (hashV l).size := by unfold hashV; rw [rowV_size]; exact size_hash
theorem eF_s0 (j : Nat) (h : j < 8) : eF s0 j = .int .u32 (hN j : Int) := by
  match j, h with
  | 0, _ => rfl
  | 1, _ => rfl
  | 2, _ => rfl
  | 3, _ => rfl
  | 4, _ => rfl
  | 5, _ => rfl
  | 6, _ => rfl
  | 7, _ => rfl
theorem heap3 (w : World) (o1 o2 o3 : Obj) : (((w.alloc o1).alloc o2).alloc o3).heap[w.heap.size]? = some o1 ∧ (((w.alloc o1).alloc o2).alloc o3).heap[w.heap.size + 1]? = some o2 ∧ (((w.alloc o1).alloc o2).alloc o3).heap[w.heap.size + 1 + 1]? = some o3 := by
  have s1 := heap_sz w o1
  have s2 := heap_sz (w.alloc o1) o2
  have a1 := heap_at w o1
  have a2 := heap_at (w.alloc o1) o2
  have a3 := heap_at ((w.alloc o1).alloc o2) o3
  rw [s1] at a2 s2
  rw [s2] at a3
  refine ⟨?_, ?_, a3⟩
  · rw [heap_lt _ _ (by omega), heap_lt _ _ (by omega)]; exact a1
  · rw [heap_lt _ _ (by omega)]; exact a2
set_option maxRecDepth 1000000 in
set_option maxHeartbeats 8000000 in
theorem begunSum_any (A : Option Addr) (c lo : Nat) (l : List UInt8) (w : World) (hr : Rd w lo w.heap.size A l) (hl : l.length < 1000000000) :
    Calls Tryd.prog 25 #[.agg (rowV 72 bgT), .slice A l.length c] w fun e w' => e = .returned (.agg (hashV (shaL l))) ∧ Below w.heap.size w w' := by
  have hz8 := zero_8
  have hz64 := zero_64
  have hz2 := zero_hash
  have hB0 : Fill w.heap.size 53 72 72 bgT ((w.alloc (.cells (rowV 72 bgT) 53)).alloc (.cells (rowV 32 z8) 25)) := Fill.of_row (heap_alloc2_old w _ _)
  obtain ⟨Y, hY⟩ : ∃ Y, Y = (List.range 8).map (eF s0) := ⟨_, rfl⟩
  have hYr : ((w.alloc (.cells (rowV 72 bgT) 53)).alloc (.cells (rowV 32 z8) 25)).rangeAt w.heap.size 0 Y := fun j v hv => by
    rw [hY, List.getElem?_map] at hv
    rcases Nat.lt_or_ge j 8 with h | h
    · rw [List.getElem?_range h] at hv
      rw [Nat.zero_add, hB0.at_ j (by omega), bgT_h j h, ← hv]
      exact congrArg some (eF_s0 j h).symm
    · rw [List.getElem?_eq_none (by simpa using h)] at hv; cases hv
  have hYs : Y.toArray.size = 8 := by rw [hY]; simp
  have hY1 : Y.toArray.all (·.oneCell') = true := by rw [hY]; exact rowV_one 8 _ (fun i => rfl)
  have HV : Hid ((((w.alloc (.cells (rowV 72 bgT) 53)).alloc (.cells (rowV 32 z8) 25)).alloc (.cells (rowV 8 z32) 50)).heap[w.heap.size + 1 + 1]? = some (.cells (rowV 8 z32) 50 (0, 0))) := by
    have := heap_at ((w.alloc (.cells (rowV 72 bgT) 53)).alloc (.cells (rowV 32 z8) 25)) (.cells (rowV 8 z32) 50)
    rw [heap_sz, heap_sz] at this
    exact this
  have HYr := Lib.hid hYr
  have HYs := Lib.hid hYs
  have HYL : Hid (Y.length = 8) := by rw [hY]; simp [Hid]
  have HY1 := Lib.hid hY1
  have HY := Lib.hid hY
  clear hB0 hYr hYs hY1 hY
  go_enter Tryd.func25, Tryd.ntmps25
  go_wp2_with (first | (refine wpList_load_mid rfl 50 (.tmp 26) rfl w.heap.size 0 rfl Y _ HYr.out Tryd.underlying50 rfl (by rw [HYL.out]; exact size_8) ?_) | (refine wpList_store_row rfl 50 (.tmp 5) (.tmp 27) rfl (w.heap.size + 1 + 1) Y.toArray rfl rfl 50 (rowV 8 z32) HV.out (by rw [HYs.out]; exact size_8) (by rw [HYs.out, rowV_size]) HY1.out ?_))
  obtain ⟨h1, h2, h3⟩ := heap3 w (.cells (rowV 72 bgT) 53) (.cells (rowV 32 z8) 25) (.cells (rowV 8 z32) 50)
  have bw : Below w.heap.size w (((w.alloc (.cells (rowV 72 bgT) 53)).alloc (.cells (rowV 32 z8) 25)).alloc (.cells (rowV 8 z32) 50)) := (((Below.refl _ _).alloc (Nat.le_refl _) _).alloc (by simp) _).alloc (by simp; omega) _
  clear HV HYr
  generalize ((w.alloc (.cells (rowV 72 bgT) 53)).alloc (.cells (rowV 32 z8) 25)).alloc (.cells (rowV 8 z32) 50) = W0 at *
  have gB : Fill w.heap.size 53 72 72 bgT (W0.setRow (w.heap.size + 1 + 1) Y.toArray) := Fill.of_row ((setRow_other W0 _ _ _ (by omega)).trans h1)
  have gH : Fill (w.heap.size + 1) 25 32 32 z8 (W0.setRow (w.heap.size + 1 + 1) Y.toArray) := Fill.of_row ((setRow_other W0 _ _ _ (by omega)).trans h2)
  have gE : Fill (w.heap.size + 1 + 1) 50 8 8 (eF s0) (W0.setRow (w.heap.size + 1 + 1) Y.toArray) := Fill.of_row (by rw [setRow_heap W0 _ _ _ _ _ h3, HY.out]; rfl)
  have b1 : Below w.heap.size w (W0.setRow (w.heap.size + 1 + 1) Y.toArray) := below_setRow bw (by omega) _
  clear h1 h2 h3 bw HYs HY1 HY HYL
  generalize W0.setRow (w.heap.size + 1 + 1) Y.toArray = W1 at *
  have q1 : w.heap.size < w.heap.size + 1 := by omega
  have q2 : w.heap.size + 1 < w.heap.size + 1 + 1 := by omega
  have qE := gE.lt
  generalize w.heap.size + 1 + 1 = p5 at *
  generalize w.heap.size + 1 = p4 at *
  have hr1 : Rd W1 lo W1.heap.size A l := (hr.below b1 (Nat.le_refl _)).wide (Nat.le_refl _) b1.size
  refine (followed_any A c lo l W1 hr1 hl).mono ?_
  rintro e W2 ⟨A2, c2, rfl, ho2, hb2⟩
  have gB2 := gB.below hb2 gB.lt
  have gH2 := gH.below hb2 gH.lt
  have gE2 := gE.below hb2 qE
  have b2 := b1.trans (hb2.mono b1.size)
  obtain ⟨hrd2, _, hc2⟩ := Ow.of_own ho2
  have hrd := hrd2.rd
  obtain ⟨nb, hnb, hnb2⟩ := tail_blocks l
  have HSH := Lib.hid (show shaL l = outS (goB ((l ++ tailL l.length).length / 64) s0 (l ++ tailL l.length)) from rfl)
  rw [hnb] at hc2 ⊢
  rw [show (l ++ tailL l.length).length / 64 = nb by omega] at HSH
  generalize l ++ tailL l.length = M at *
  have HNB := Lib.hid hnb
  clear hnb ho2 hrd2 gB gH gE hr1 hb2
  go_wp2_with fail
  go_loopw [6] (fun v wr => ∃ (k : Nat) (A' : Option Addr) (c' : Nat), k ≤ nb ∧ v = .slice A' (64 * (nb - k)) c' ∧ 64 * (nb - k) ≤ c' ∧ Rd W2 W1.heap.size W2.heap.size A' (M.drop (64 * k)) ∧ Fill p5 50 8 8 (eF (goB k s0 M)) wr ∧ W2.grownBy wr (some p5)) (fun v _ => (match v with | .slice _ n _ => n | _ => 0))
  case atStart => exact ⟨0, A2, c2, by omega, rfl, hc2, hrd, gE2, World.grownBy.refl _ _⟩
  case round =>
    obtain ⟨k, A', c', hk, rfl, hc', hr', hE, hg⟩ := hrel
    clear gE2 hrd hc2
    by_cases hlt : k < nb
    · have hml : (M.drop (64 * k)).length = 64 * (nb - k) := by rw [List.length_drop, HNB.out]; omega
      obtain ⟨g, o, rfl, hg1, hg2, hcell⟩ := hr' (by rw [hml]; omega)
      have hd0 : decide ((0 : Int) < 64 * ((nb - k : Nat) : Int)) = true := by simp; omega
      obtain ⟨x, hx⟩ : ∃ x, x = (M.drop (64 * k)).take 64 := ⟨_, rfl⟩
      have hxl : x.length = 64 := by rw [hx, List.length_take, hml]; omega
      have hgw : g < wr.heap.size := Nat.lt_of_lt_of_le hg2 hg.size
      have hxc : ∀ j y, x[j]? = some y → wr.cell? ⟨g, o + j, none⟩ = some (bv y) := fun j y hy => by
        rw [hx, List.getElem?_take] at hy
        split at hy
        · rw [hg.cell_far ⟨g, o + j, none⟩ hg2 (by simp; omega)]
          exact hcell j y hy
        · cases hy
      have hGS := Lib.hid (goB_snoc k s0 M)
      rw [← hx] at hGS
      have hsok := goB_ok k s0 M s0_ok
      have hBw := gB2.keep (hg.block _ gB2.lt (by simp; omega))
      have HNX := Lib.hid (rd_next (t := 64) (c' := c') (show Rd W2 W1.heap.size W2.heap.size (some ⟨g, o, none⟩) (M.drop (64 * k)) from hr') (by rw [hml]; exact hc'))
      have HX := Lib.hid hx
      have HXC := Lib.hid hxc
      clear hx hcell hxc
      generalize goB k s0 M = sk at *
      go_upto_block 1 with fail
      refine rs_b1 _ _ _ _ _ _ _ _ _ _ _ _ _ _ _ _ _ _ _ _ _ _ _ _ _ _ _ _ _ _ _ _ _ _ _ _ _ _ _ _ _ _ _ _ _ _ _ _ _ _ _ _ _ _ _ _ _ _ _ _ _ _ _ _ _ _ _ _ _ _ _ _ _ _ _ _ _ _ _ _ _ _ _ _ _ _ _ _ _ _ _ _ _ _ _ _ _ _ _ _ _ _ _ _ _ _ _ _ _ _ _ _ _ _ _ _ _ _ _ _ _ _ _ _ _ _ _ _ _ _ _ _ _ _ _ _ _ _ _ _ _ _ _ _ _ _ _ _ _ _ _ _ _ _ _ _ _ _ _ _ _ _ _ _ _ _ _ _ _ _ _ _ _ _ _ _ _ _ _ _ _ _ _ _ _ _ _ _ _ _ _ _ _ _ _ _ _ _ _ _ _ _ w.heap.size p5 g o (64 * (nb - k)) c' x sk wr hxl (by omega) hc' hgw (by omega) (by omega) HXC.out hE hBw hsok _ ?_
      intro u7 u8 u9 u10 u11 u12 u13 u14 u15 u16 u17 u18 u19 u20 u21 u22 u23 u35 u36 u37 u38 u39 u40 u41 u42 u43 u44 u45 u46 u47 u48 u49 u50 u51 u52 u53 u54 u55 u56 u57 u58 u59 u60 u61 u62 u63 u64 u65 u66 u67 u68 u69 u70 u71 u72 u73 u74 u75 u76 u77 u78 u79 u80 u81 u82 u83 u84 u85 u86 u87 u88 u89 u90 u91 u92 u93 u94 u95 u96 u97 u98 u99 u100 u101 u102 u103 u104 u105 u106 u107 u108 u109 u110 u111 u112 u113 u114 u115 u116 u117 u118 u119 u120 u121 u122 u123 u124 u125 u126 u127 u128 u129 u130 u131 u132 u133 u134 u135 u136 u137 u138 u139 u140 u141 u142 u143 u144 u145 u146 u147 u148 u149 u150 u151 u152 u153 u154 u155 u156 u157 u158 u159 u160 u161 u162 u163 u164 u165 u166 u167 u168 u169 u170 u171 u172 u173 u174 u175 u176 u177 u178 u179 u180 u181 u182 u183 u184 u185 u186 u187 u188 u189 u190 w7 hE7 hg7
      rw [← hGS.out] at hE7
      have hg8 := hg.trans hg7
      clear hE hg hg7 hBw HXC hsok
      go_wp2_with fail
      refine ⟨⟨k + 1, _, _, by omega, by rw [show 64 * (nb - (k + 1)) = 64 * (nb - k) - 64 by omega], by omega, HNX.out, hE7, hg8⟩, ?_⟩
      show 64 * (nb - k) - 64 < 64 * (nb - k)
      omega
    · obtain rfl : k = nb := by omega
      rw [Nat.sub_self, Nat.mul_zero]
      have hsok := goB_ok k s0 M s0_ok
      have hEb := hE.below ((Below.refl wr.heap.size wr).alloc (Nat.le_refl _) (.cells (rowV 32 z8) 25)) hE.lt
      have hbw : Below w.heap.size w wr := b2.grown hg (by have := b2.size; omega) (fun g hg => by injection hg with hg; omega)
      have hbx := hbw.alloc hbw.size (.cells (rowV 32 z8) 25)
      have hHw := (gH2.keep (hg.block _ gH2.lt (by simp; omega))).below ((Below.refl wr.heap.size wr).alloc (Nat.le_refl _) (.cells (rowV 32 z8) 25)) (Nat.lt_of_lt_of_le gH2.lt hg.size)
      have hO : Fill wr.heap.size 25 32 0 (hF (outS (goB k s0 M))) (wr.alloc (.cells (rowV 32 z8) 25)) := ⟨_, heap_alloc_new _ _, rowV_size 32 z8, fun j hj => absurd hj (by omega)⟩
      have h5w := hE.lt
      have h4w : p4 < wr.heap.size := Nat.lt_of_lt_of_le gH2.lt hg.size
      generalize goB k s0 M = S at *
      clear hE hg hr' hbw
      go_upto_block 8 with fail
      refine rs_b8 _ _ _ _ _ _ _ _ _ _ _ _ _ _ _ _ _ _ _ _ _ _ _ _ _ _ _ _ _ _ _ _ _ _ _ _ _ _ _ _ _ _ _ _ _ _ _ _ _ _ _ _ _ _ _ _ _ _ _ _ _ _ _ _ _ _ _ _ _ _ _ _ _ _ _ _ _ _ _ _ _ _ _ _ _ _ _ _ _ _ _ _ _ _ _ _ _ _ _ _ _ _ _ _ _ _ _ _ _ _ _ _ _ _ _ _ _ _ _ _ _ _ _ _ _ _ _ _ _ _ _ _ _ _ _ _ _ _ _ _ _ _ _ _ _ _ _ _ _ _ _ _ _ _ _ _ _ _ _ _ _ _ _ _ _ _ _ _ _ _ _ _ _ _ _ _ _ _ _ _ _ _ _ _ _ _ _ _ _ _ _ _ _ _ _ _ _ _ _ _ _ _ p5 wr.heap.size S (wr.alloc (.cells (rowV 32 z8) 25)) h5w hsok hEb hO _ ?_
      intro u25 u191 u192 u193 u194 u195 u196 u197 u198 u199 u200 u201 u202 u203 w9 hF9 hb9
      have h1 := hF9.done
      have h2 := (hHw.below hb9 h4w).done
      have hb10 := hbx.trans (hb9.mono (by have := hbx.size; have := b2.size; omega))
      change w9.heap[wr.heap.size]? = some (.cells (hashV (outS S)) 25 (0, 0)) at h1
      rw [← HSH.out] at h1
      clear hF9 hb9 hHw hO hEb hbx
      go_wp2_with (first | (refine wpList_load_row rfl 25 (.tmp 24) rfl wr.heap.size rfl 25 (hashV (shaL l)) (0, 0) _ h1 Tryd.underlying25 rfl (hash_size _) ?_) | (refine wpList_store_row rfl 25 (.tmp 4) (.tmp 204) rfl p4 (hashV (shaL l)) rfl rfl 25 (rowV 32 z8) h2 (hash_size _) (by unfold hashV; rw [rowV_size, rowV_size]) (rowV_one 32 _ (fun i => rfl)) ?_))
      exact bodyPost_ret (v := .agg (hashV (shaL l))) (results_cell_row rfl _ _ p4 25 (hashV (shaL l)) (0, 0) _ rfl (setRow_heap _ _ _ _ _ _ h2) Tryd.underlying25 rfl (hash_size _)) rfl ⟨rfl, below_setRow hb10 (by omega) _⟩
end Go.Proofs.YthjeanjodhafjaaDoor
