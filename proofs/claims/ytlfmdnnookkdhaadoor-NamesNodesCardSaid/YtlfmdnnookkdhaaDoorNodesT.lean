/- The second drawn region of NamesNodes' loop. -/
import Derived.Test.YtlfmdnnookkdhaaDoorNodesS
namespace Go.Proofs.YtlfmdnnookkdhaaDoor
open Go.ChangeShapes Go.WideShapes Go.ChangeAt Go.RowKit
set_option linter.unusedVariables false

noncomputable def nodesR9 : Code := ((Tryd.f4.body.bind (regionOf 9))).getD .skip
set_option maxRecDepth 1000000 in
set_option maxHeartbeats 4000000 in
theorem nodes_r9 (c1 c3 c4 c5 c6 c8 c11 c12 c13 c14 c15 c16 c17 c18 c19 c20 c21 c22 c23 c24 c25 c26 c27 c28 c29 c30 c31 c32 c33 c34 c35 c36 c37 c38 c39 c40 c41 c42 c43 c44 c45 c46 c47 c48 : Value) (mk : UInt8) (bl off Ln c i p9 pt : Nat) (x y : List UInt8) (w : World) (hx : x.length = 32) (hy : y.length = 32) (hi : i < Ln) (hLn : Ln ≤ 12) (hpp : pt ≠ p9) (hX : Fill p9 28 32 32 (hF x) w) (hP : Fill pt 36 72 72 bgT w) (hY : Rd w 0 w.heap.size (some ⟨bl, off + 32 * i, none⟩) y)
    (Q : Exit → Act → World → Prop) (hQ : ∀ (u33 u34 u35 u36 u37 u38 u39 u40 u41 u42 u43 : Value) (w' : World), Fill p9 28 32 32 (hF (shaL ([mk] ++ x ++ y))) w' → w.grownBy w' (some p9) → Q .normal ⟨#[.int .u8 (mk.toNat : Int), c1, .slice (some ⟨bl, off, none⟩) Ln c, c3, c4, c5, c6, .pointer (some ⟨pt, 0, none⟩), c8, .pointer (some ⟨p9, 0, none⟩), .int .i64 (i : Int), c11, c12, c13, c14, c15, c16, c17, c18, c19, c20, c21, c22, c23, c24, c25, c26, c27, c28, c29, c30, c31, c32, u33, u34, u35, u36, u37, u38, u39, u40, u41, u42, u43, c44, c45, c46, c47, c48], []⟩ w') :
    Code.wp Tryd.prog nodesR9 Q ⟨#[.int .u8 (mk.toNat : Int), c1, .slice (some ⟨bl, off, none⟩) Ln c, c3, c4, c5, c6, .pointer (some ⟨pt, 0, none⟩), c8, .pointer (some ⟨p9, 0, none⟩), .int .i64 (i : Int), c11, c12, c13, c14, c15, c16, c17, c18, c19, c20, c21, c22, c23, c24, c25, c26, c27, c28, c29, c30, c31, c32, c33, c34, c35, c36, c37, c38, c39, c40, c41, c42, c43, c44, c45, c46, c47, c48], []⟩ w := by
  conv => arg 2; whnf
  have i1 : (i : Int) < (Ln : Int) := by omega
  have b0 := (Below.refl w.heap.size w).drew
  have b1 := b0.alloc (show w.heap.size ≤ w.drew.heap.size from Nat.le_refl _) (.cells #[.int .u8 (mk.toNat : Int)] 5)
  have hr1 : Rd (w.drew.alloc (.cells #[.int .u8 (mk.toNat : Int)] 5)) 0 (w.drew.alloc (.cells #[.int .u8 (mk.toNat : Int)] 5)).heap.size (some ⟨w.heap.size, 0, none⟩) [mk] := (Rd.lit w.drew [mk] (0, 0)).wide (Nat.le_refl _) (by simp)
  have hsz1 : (w.drew.alloc (.cells #[.int .u8 (mk.toNat : Int)] 5)).heap.size = w.heap.size + 1 := heap_sz w.drew _
  obtain ⟨j0, hj0, hy0, hy1, hy2⟩ := info_parts byte_info
  obtain ⟨cs, hcs⟩ : ∃ cs, cs = (List.range 72).map bgT := ⟨_, rfl⟩
  have hu36 := Tryd.underlying36
  have hi36 : (Tryd.prog.info? 36).map (·.size) = some cs.length := by rw [hcs, List.length_map, List.length_range]; exact size_begun
  have HR : Hid (∀ u : World, Below w.heap.size w u → u.rangeAt pt 0 cs) := fun u hu j v hv => by
    rw [hcs, List.getElem?_map] at hv
    rcases Nat.lt_or_ge j 72 with h | h
    · rw [List.getElem?_range h] at hv
      rw [Nat.zero_add]
      exact ((hP.below hu hP.lt).at_ j h).trans hv
    · rw [List.getElem?_eq_none (by simpa using h)] at hv; cases hv
  have HSR : ∀ u : World, Below w.heap.size w u → ∀ C, (u.setRow p9 C).rangeAt pt 0 cs := fun u hu C j v hv => (World.cell?_of_block (setRow_other u p9 pt C hpp)).trans (HR.out u hu j v hv)
  have HCS : Hid (Value.agg cs.toArray = .agg (rowV 72 bgT)) := by rw [hcs]; exact rfl
  have k0 := HR.out _ b0
  have hx9 := rd_hash hX hx
  have hX1 := hX.lt
  have HX := Lib.hid hX
  have HXR : Hid (∀ u : World, Below w.heap.size w u → Rd u 0 w.heap.size (some ⟨p9, 0, none⟩) x) := fun u hu => hx9.below hu (Nat.le_refl _)
  have HYR : Hid (∀ u : World, Below w.heap.size w u → Rd u 0 w.heap.size (some ⟨bl, off + 32 * i, none⟩) y) := fun u hu => hY.below hu (Nat.le_refl _)
  have ho1 : (w.drew.alloc (.cells #[.int .u8 (mk.toNat : Int)] 5)).ownsRow w.heap.size 5 1 (.slice (some ⟨w.heap.size, 0, none⟩) 1 1) 1 [.int .u8 (mk.toNat : Int)] := World.ownsRow_lit w.drew #[.int .u8 (mk.toNat : Int)] 1 (Nat.le_refl _) (by simp only [maxLen]; omega) rfl
  have HO := Lib.hid ho1
  have HB1 := Lib.hid b1
  clear hX hx9 hr1 hY ho1 hP hcs
  refine wp_region_noPanic ?_
  refine wp_region_held_drew (S := fun u => u.rangeAt pt 0 cs) (by kernel_rfl) k0 (fun hHeld => ?_)
  refine wpAnyH_take (i := 1) (oi := _) (v := .int .u8 (mk.toNat : Int)) rfl (by kernel_rfl) (by kernel_rfl) (by kernel_rfl) (fun _ _ _ h => h) (Or.inl ⟨by rfl, by intro w hSw; go_simp⟩) hHeld ?_
  refine wpAnyH_take (i := 3) (oi := _) (v := .slice (some ⟨p9, 0, none⟩) 32 32) rfl (by kernel_rfl) (by kernel_rfl) (by kernel_rfl) (fun _ _ _ h => h) (Or.inl ⟨by rfl, by intro w hSw; go_simp⟩) hHeld ?_
  refine wpAnyH_take (i := 5) (oi := _) (v := .slice (some ⟨bl, off, none⟩) Ln c) rfl (by kernel_rfl) (by kernel_rfl) (by kernel_rfl) (fun _ _ _ h => h) (Or.inl ⟨by rfl, by intro w hSw; go_simp⟩) hHeld ?_
  refine wpAnyH_take (i := 6) (oi := _) (v := .int .i64 (i : Int)) rfl (by kernel_rfl) (by kernel_rfl) (by kernel_rfl) (fun _ _ _ h => h) (Or.inl ⟨by rfl, by intro w hSw; go_simp⟩) hHeld ?_
  refine wpAnyH_take (i := 7) (oi := _) (v := .pointer (some ⟨bl, off + 32 * i, none⟩)) rfl (by kernel_rfl) (by kernel_rfl) (by kernel_rfl) (fun _ _ _ h => h) (Or.inl ⟨by rfl, by intro w hSw; go_simp⟩) hHeld ?_
  refine wpAnyH_take (i := 8) (oi := _) (v := .slice (some ⟨bl, off + 32 * i, none⟩) 32 32) rfl (by kernel_rfl) (by kernel_rfl) (by kernel_rfl) (fun _ _ _ h => h) (Or.inl ⟨by rfl, by intro w hSw; go_simp⟩) hHeld ?_
  refine wpAnyH_take (i := 0) (oi := _) (v := .agg cs.toArray) rfl (by kernel_rfl) (by kernel_rfl) (by kernel_rfl) (fun _ _ _ h => h) (yieldsIf_load_mid (by rfl) _ _ rfl pt 0 rfl cs _ (fun w h => h) hu36 rfl hi36) hHeld ?_
  refine wpAnyH_ready (rs := [2]) (by kernel_rfl) (by simp) ?_
  refine AllReadyH.cons (o := _) rfl (fun K hK => ?_) AllReadyH.nil
  go_simp
  refine hK.out _ _ (HR.out _ HB1.out) (fun hHeld => ?_)
  clear hK K
  refine wpAnyH_ready (rs := [4]) (by kernel_rfl) (by simp) ?_
  refine AllReadyH.cons (o := _) rfl (fun K hK => ?_) AllReadyH.nil
  refine step_append_rd _ rfl (.tmp 35) (.tmp 36) 25 rfl w.heap.size 5 j0 (.int .u8 0) Tryd.underlying25 hj0 hy0 hy1 hy2 rfl _ 1 [.int .u8 (mk.toNat : Int)] rfl HO.out 0 w.heap.size (some ⟨p9, 0, none⟩) 32 32 x hx.symm rfl (HXR.out _ HB1.out) (by rw [hx]; omega) HB1.out.size ?_
  intro v6 w6 hown6 hg6
  obtain ⟨A6, c6, rfl, _, _⟩ := own_slice hown6
  have B6 : Below w.heap.size w w6 := HB1.out.grown hg6 HB1.out.size (fun g hg => (HO.out.lt g hg).1)
  refine hK.out _ _ (HR.out _ B6) (fun hHeld => ?_)
  clear hK K
  refine wpAnyH_ready (rs := [9]) (by kernel_rfl) (by simp) ?_
  refine AllReadyH.cons (o := _) rfl (fun K hK => ?_) AllReadyH.nil
  refine step_append_rd _ rfl (.tmp 37) (.tmp 41) 25 rfl w.heap.size 5 j0 (.int .u8 0) Tryd.underlying25 hj0 hy0 hy1 hy2 rfl _ (1 + x.length) _ rfl hown6 0 w.heap.size (some ⟨bl, off + 32 * i, none⟩) 32 32 y hy.symm rfl (HYR.out _ B6) (by rw [hx, hy]; omega) B6.size ?_
  intro v7 w7 hown7 hg7
  obtain ⟨A7, c7, rfl, _, _⟩ := own_slice hown7
  have B7 : Below w.heap.size w w7 := B6.grown hg7 B6.size (fun g hg => (hown6.lt g hg).1)
  have hl7 : 1 + x.length + y.length = ([mk] ++ x ++ y).length := by simp; omega
  have hr7 : Rd w7 w.heap.size w7.heap.size A7 ([mk] ++ x ++ y) := (Ow.of_own (l := [mk] ++ x ++ y) (by rw [List.map_append, List.map_append]; exact hown7)).1.rd
  refine hK.out _ _ (HR.out _ B7) (fun hHeld => ?_)
  clear hK K
  refine wpAnyH_ready (rs := [10]) (by kernel_rfl) (by simp) ?_
  refine AllReadyH.cons (o := _) rfl (fun K hK => ?_) AllReadyH.nil
  go_simp
  go_at_call 14
  rw [HCS.out]
  have HG := begunSum_any A7 c7 w.heap.size ([mk] ++ x ++ y) w7 hr7 (by rw [← hl7, hx, hy]; omega)
  rw [← hl7, hx, hy] at HG
  refine HG.mono ?_
  rintro e w8 ⟨rfl, b8⟩
  have B8 : Below w.heap.size w w8 := B7.trans (b8.mono B7.size)
  have h8 := (HX.out.below B8 hX1).done
  go_simp
  refine hK.out _ _ (HR.out _ B8) (fun hHeld => ?_)
  clear hK K
  refine wpAnyH_ready (rs := [11]) (by kernel_rfl) (by simp) ?_
  refine AllReadyH.cons (o := _) rfl (fun K hK => ?_) AllReadyH.nil
  refine step_store_row rfl 28 (.tmp 9) (.tmp 43) rfl p9 (hashV (shaL ([mk] ++ x ++ y))) rfl rfl 28 (rowV 32 (hF x)) h8 (hash_size _) (by unfold hashV; rw [rowV_size, rowV_size]) (rowV_one 32 _ (fun i => rfl)) none rfl ?_
  go_simp
  refine hK.out _ _ (HSR w8 B8 _) (fun hHeld => ?_)
  clear hK K
  refine wpAnyH_done (by kernel_rfl) ?_ _
  refine NoPanic.normal ?_
  exact hQ _ _ _ _ _ _ _ _ _ _ _ _ (Fill.of_row (setRow_heap _ _ _ _ _ _ h8)) ((grown_of_below B8 (some p9)).trans (grown_row w8 p9 _))
end Go.Proofs.YtlfmdnnookkdhaaDoor
