/- The two drawn regions of NamesNodes' loop. -/
import Derived.Test.YtlfmdnnookkdhaaDoorNodesR
import Derived.Test.YtlfmdnnookkdhaaDoorStep
namespace Go.Proofs.YtlfmdnnookkdhaaDoor
open Go.ChangeShapes Go.WideShapes Go.ChangeAt Go.RowKit
set_option linter.unusedVariables false

/-- Three pieces, as a call lays them. -/
theorem RdL.three (A1 A2 A3 : Option Addr) (c1 c2 c3 : Nat) (l1 l2 l3 : List UInt8) (w : World) (t : TypeId) (r1 : Rd w 0 w.heap.size A1 l1) (r2 : Rd w 0 w.heap.size A2 l2) (r3 : Rd w 0 w.heap.size A3 l3) :
    RdL (w.alloc (.cells #[.slice A1 l1.length c1, .slice A2 l2.length c2, .slice A3 l3.length c3] t)) (w.alloc (.cells #[.slice A1 l1.length c1, .slice A2 l2.length c2, .slice A3 l3.length c3] t)).heap.size (some ⟨w.heap.size, 0, none⟩) [(A1, c1, l1), (A2, c2, l2), (A3, c3, l3)] := by
  have hb : Below w.heap.size w (w.alloc (.cells #[.slice A1 l1.length c1, .slice A2 l2.length c2, .slice A3 l3.length c3] t)) := (Below.refl _ _).alloc (Nat.le_refl _) _
  have hh : (w.alloc (.cells #[.slice A1 l1.length c1, .slice A2 l2.length c2, .slice A3 l3.length c3] t)).heap[w.heap.size]? = some (.cells #[.slice A1 l1.length c1, .slice A2 l2.length c2, .slice A3 l3.length c3] t (0, 0)) := heap_alloc_new w _
  have hsz : (w.alloc (.cells #[.slice A1 l1.length c1, .slice A2 l2.length c2, .slice A3 l3.length c3] t)).heap.size = w.heap.size + 1 := by simp
  refine ⟨fun _ => ⟨w.heap.size, 0, rfl, by omega, fun j x hx => ?_⟩, fun x hx => ?_⟩
  · rw [Nat.zero_add, cell_of_row _ w.heap.size j _ _ (0, 0) hh]
    match j, hx with
    | 0, hx => injection hx with hx; subst hx; rfl
    | 1, hx => injection hx with hx; subst hx; rfl
    | 2, hx => injection hx with hx; subst hx; rfl
  · simp at hx
    rcases hx with rfl | rfl | rfl
    · exact (r1.below hb (Nat.le_refl _)).wide (Nat.le_refl _) (by omega)
    · exact (r2.below hb (Nat.le_refl _)).wide (Nat.le_refl _) (by omega)
    · exact (r3.below hb (Nat.le_refl _)).wide (Nat.le_refl _) (by omega)
theorem sum3 (A1 A2 A3 : Option Addr) (c1 c2 c3 n1 n2 n3 : Nat) (l1 l2 l3 : List UInt8) (w : World) (e1 : n1 = l1.length) (e2 : n2 = l2.length) (e3 : n3 = l3.length) (r1 : Rd w 0 w.heap.size A1 l1) (r2 : Rd w 0 w.heap.size A2 l2) (r3 : Rd w 0 w.heap.size A3 l3) (h1 : n1 ≤ c1) (h2 : n2 ≤ c2) (h3 : n3 ≤ c3) (hl : l1.length + l2.length + l3.length < 1000000000) (ht : Tabs w) :
    Calls Tryd.prog 12 #[.slice (some ⟨w.heap.size, 0, none⟩) 3 3] (w.alloc (.cells #[.slice A1 n1 c1, .slice A2 n2 c2, .slice A3 n3 c3] 25)) fun e w' => e = .returned (.agg (hashV (shaL (l1 ++ l2 ++ l3)))) ∧ Below w.heap.size w w' := by
  subst e1
  subst e2
  subst e3
  have hb : Below w.heap.size w (w.alloc (.cells #[.slice A1 l1.length c1, .slice A2 l2.length c2, .slice A3 l3.length c3] 25)) := (Below.refl _ _).alloc (Nat.le_refl _) _
  have hf : flat [(A1, c1, l1), (A2, c2, l2), (A3, c3, l3)] = l1 ++ l2 ++ l3 := by simp [flat]
  refine (sum_any _ 3 [(A1, c1, l1), (A2, c2, l2), (A3, c3, l3)] _ (RdL.three A1 A2 A3 c1 c2 c3 l1 l2 l3 w 25 r1 r2 r3) (by simp) (fun x hx => ?_) (by rw [hf, List.length_append, List.length_append]; exact hl) (ht.below hb ht.2.2.1 ht.2.2.2)).mono ?_
  · simp at hx
    rcases hx with rfl | rfl | rfl
    · exact h1
    · exact h2
    · exact h3
  · rw [hf]
    rintro e w' ⟨he, hbw⟩
    exact ⟨he, hb.trans (hbw.mono hb.size)⟩
/-- A hash that lies somewhere reads as its bytes. -/
theorem rd_hash {w : World} {g : Nat} {x : List UInt8} (h : Fill g 28 32 32 (hF x) w) (hx : x.length = 32) : Rd w 0 w.heap.size (some ⟨g, 0, none⟩) x := fun _ => ⟨g, 0, rfl, Nat.zero_le _, h.lt, fun j y hy => by
  have hj : j < 32 := by
    rcases Nat.lt_or_ge j 32 with h | h
    · exact h
    · rw [List.getElem?_eq_none (by omega)] at hy; cases hy
  rw [Nat.zero_add, h.at_ j hj]
  unfold hF
  rw [List.getD_eq_getElem?_getD, hy]
  rfl⟩

noncomputable def nodesR8 : Code := ((Tryd.f4.body.bind (regionOf 8))).getD .skip
set_option maxRecDepth 1000000 in
set_option maxHeartbeats 4000000 in
theorem nodes_r8 (c1 c3 c4 c5 c6 c7 c9 c11 c12 c13 c14 c15 c16 c17 c18 c19 c20 c21 c22 c23 c24 c25 c26 c27 c28 c29 c30 c31 c32 c33 c34 c35 c36 c37 c38 c39 c40 c41 c42 c43 c44 c45 c46 c47 c48 : Value) (mk : UInt8) (bl off Ln c i p8 : Nat) (x y : List UInt8) (w : World) (hx : x.length = 32) (hy : y.length = 32) (hi : i < Ln) (hLn : Ln ≤ 12) (hX : Fill p8 28 32 32 (hF x) w) (hY : Rd w 0 w.heap.size (some ⟨bl, off + 32 * i, none⟩) y) (hT : ∀ u, Below w.heap.size w u → Tabs u)
    (Q : Exit → Act → World → Prop) (hQ : ∀ (u24 u25 u26 u27 u28 u29 u30 u31 u32 : Value) (w' : World), Fill p8 28 32 32 (hF (shaL ([mk] ++ x ++ y))) w' → w.grownBy w' (some p8) → Q .normal ⟨#[.int .u8 (mk.toNat : Int), c1, .slice (some ⟨bl, off, none⟩) Ln c, c3, c4, c5, c6, c7, .pointer (some ⟨p8, 0, none⟩), c9, .int .i64 (i : Int), c11, c12, c13, c14, c15, c16, c17, c18, c19, c20, c21, c22, c23, u24, u25, u26, u27, u28, u29, u30, u31, u32, c33, c34, c35, c36, c37, c38, c39, c40, c41, c42, c43, c44, c45, c46, c47, c48], []⟩ w') :
    Code.wp Tryd.prog nodesR8 Q ⟨#[.int .u8 (mk.toNat : Int), c1, .slice (some ⟨bl, off, none⟩) Ln c, c3, c4, c5, c6, c7, .pointer (some ⟨p8, 0, none⟩), c9, .int .i64 (i : Int), c11, c12, c13, c14, c15, c16, c17, c18, c19, c20, c21, c22, c23, c24, c25, c26, c27, c28, c29, c30, c31, c32, c33, c34, c35, c36, c37, c38, c39, c40, c41, c42, c43, c44, c45, c46, c47, c48], []⟩ w := by
  conv => arg 2; whnf
  have i1 : (i : Int) < (Ln : Int) := by omega
  have b0 := (Below.refl w.heap.size w).drew
  have b1 := b0.alloc (show w.heap.size ≤ w.drew.heap.size from Nat.le_refl _) (.cells #[.int .u8 (mk.toNat : Int)] 5)
  have hr1 : Rd (w.drew.alloc (.cells #[.int .u8 (mk.toNat : Int)] 5)) 0 (w.drew.alloc (.cells #[.int .u8 (mk.toNat : Int)] 5)).heap.size (some ⟨w.heap.size, 0, none⟩) [mk] := (Rd.lit w.drew [mk] (0, 0)).wide (Nat.le_refl _) (by simp)
  have hsz1 : (w.drew.alloc (.cells #[.int .u8 (mk.toNat : Int)] 5)).heap.size = w.heap.size + 1 := heap_sz w.drew _
  have hx8 := (rd_hash hX hx)
  have hs := Lib.hid (sum3 (some ⟨w.heap.size, 0, none⟩) (some ⟨p8, 0, none⟩) (some ⟨bl, off + 32 * i, none⟩) 1 32 32 1 32 32 [mk] x y (w.drew.alloc (.cells #[.int .u8 (mk.toNat : Int)] 5)) rfl hx.symm hy.symm hr1 ((hx8.below b1 (Nat.le_refl _)).wide (Nat.le_refl _) b1.size) ((hY.below b1 (Nat.le_refl _)).wide (Nat.le_refl _) b1.size) (by omega) (by omega) (by omega) (by simp; omega) (hT _ b1))
  rw [hsz1] at hs
  have hX1 := hX.lt
  have HX := Lib.hid hX
  have HB1 := Lib.hid b1
  clear hX hx8 hr1 hY
  refine wp_region_noPanic ?_
  refine wp_region_held_drew (S := fun _ => True) (by kernel_rfl) trivial (fun hHeld => ?_)
  refine wpAnyH_take (i := 0) (oi := _) (v := .int .u8 (mk.toNat : Int)) rfl (by kernel_rfl) (by kernel_rfl) (by kernel_rfl) (fun _ _ _ h => h) (Or.inl ⟨by rfl, by intro w hSw; go_simp⟩) hHeld ?_
  refine wpAnyH_take (i := 2) (oi := _) (v := .slice (some ⟨p8, 0, none⟩) 32 32) rfl (by kernel_rfl) (by kernel_rfl) (by kernel_rfl) (fun _ _ _ h => h) (Or.inl ⟨by rfl, by intro w hSw; go_simp⟩) hHeld ?_
  refine wpAnyH_take (i := 3) (oi := _) (v := .slice (some ⟨bl, off, none⟩) Ln c) rfl (by kernel_rfl) (by kernel_rfl) (by kernel_rfl) (fun _ _ _ h => h) (Or.inl ⟨by rfl, by intro w hSw; go_simp⟩) hHeld ?_
  refine wpAnyH_take (i := 4) (oi := _) (v := .int .i64 (i : Int)) rfl (by kernel_rfl) (by kernel_rfl) (by kernel_rfl) (fun _ _ _ h => h) (Or.inl ⟨by rfl, by intro w hSw; go_simp⟩) hHeld ?_
  refine wpAnyH_take (i := 5) (oi := _) (v := .pointer (some ⟨bl, off + 32 * i, none⟩)) rfl (by kernel_rfl) (by kernel_rfl) (by kernel_rfl) (fun _ _ _ h => h) (Or.inl ⟨by rfl, by intro w hSw; go_simp⟩) hHeld ?_
  refine wpAnyH_take (i := 6) (oi := _) (v := .slice (some ⟨bl, off + 32 * i, none⟩) 32 32) rfl (by kernel_rfl) (by kernel_rfl) (by kernel_rfl) (fun _ _ _ h => h) (Or.inl ⟨by rfl, by intro w hSw; go_simp⟩) hHeld ?_
  refine wpAnyH_ready (rs := [1]) (by kernel_rfl) (by simp) ?_
  refine AllReadyH.cons (o := _) rfl (fun K hK => ?_) AllReadyH.nil
  go_simp
  refine hK.out _ _ trivial (fun hHeld => ?_)
  clear hK K
  refine wpAnyH_ready (rs := [7]) (by kernel_rfl) (by simp) ?_
  refine AllReadyH.cons (o := _) rfl (fun K hK => ?_) AllReadyH.nil
  go_simp
  refine hK.out _ _ trivial (fun hHeld => ?_)
  clear hK K
  refine wpAnyH_ready (rs := [8]) (by kernel_rfl) (by simp) ?_
  refine AllReadyH.cons (o := _) rfl (fun K hK => ?_) AllReadyH.nil
  go_simp
  go_at_call 12
  refine hs.out.mono ?_
  rintro e w5 ⟨rfl, b5⟩
  have B5 : Below w.heap.size w w5 := HB1.out.trans (b5.mono (by omega))
  have h5 := (HX.out.below B5 hX1).done
  go_simp
  refine hK.out _ _ trivial (fun hHeld => ?_)
  clear hK K
  refine wpAnyH_ready (rs := [9]) (by kernel_rfl) (by simp) ?_
  refine AllReadyH.cons (o := _) rfl (fun K hK => ?_) AllReadyH.nil
  refine step_store_row rfl 28 (.tmp 8) (.tmp 32) rfl p8 (hashV (shaL ([mk] ++ x ++ y))) rfl rfl 28 (rowV 32 (hF x)) h5 (hash_size _) (by unfold hashV; rw [rowV_size, rowV_size]) (rowV_one 32 _ (fun i => rfl)) none rfl ?_
  go_simp
  refine hK.out _ _ trivial (fun hHeld => ?_)
  clear hK K
  refine wpAnyH_done (by kernel_rfl) ?_ _
  refine NoPanic.normal ?_
  exact hQ _ _ _ _ _ _ _ _ _ _ (Fill.of_row (setRow_heap _ _ _ _ _ _ h5)) ((grown_of_below B5 (some p8)).trans (grown_row w5 p8 _))
end Go.Proofs.YtlfmdnnookkdhaaDoor
