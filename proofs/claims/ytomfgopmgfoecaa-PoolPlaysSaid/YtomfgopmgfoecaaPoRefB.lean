/- The reference's pool: Add. -/
import Derived.Test.YtomfgopmgfoecaaPoRefK
import Derived.Test.YtomfgopmgfoecaaPoRefA
namespace Go.Proofs.Ytomfgopmgfoecaa
open Go.ChangeMaps Go.MapKept Go.Maps Go.RowKit Go.ChangeShapes Go.WideShapes Go.ChangeAt
set_option linter.unusedVariables false
set_option maxRecDepth 100000
set_option maxHeartbeats 8000000 in
theorem refAdd_c {g : Nat} {G : Nat → Prop} {V : List Sg} {w : World} (h : RfM g G V w) (hl : V.length ≤ 99999) (hst : ∀ x ∈ V, x.st ≤ 4294967296) (hone : ∀ u ∈ rws sgC V, u.oneCell' = true) (nv : Int) (k : Lk) (A : Option Addr) (m c : Nat) (kh : Hh) (st : Nat) : Calls Try.prog 27 #[.pointer (some ⟨g, 0, none⟩), .agg (vtw nv k (.slice A m c)), .agg (hhv kh), .int .u64 (st : Int)] w fun e w' =>
    (chkR V nv k m kh st ≠ 0 ∧ e = .returned (.tuple #[.int .u64 0, .int .i64 (chkR V nv k m kh st : Nat)]) ∧ Below w.heap.size w w') ∨
    (chkR V nv k m kh st = 0 ∧ e = .returned (.tuple #[.int .u64 (wtV (V ++ [(⟨nv, k, .slice A m c, kh, st⟩ : Sg)]) k : Int), .int .i64 0]) ∧ ∃ G', RfM g G' (V ++ [(⟨nv, k, .slice A m c, kh, st⟩ : Sg)]) w' ∧ Kept (fun k => k = g) w w' ∧ ∀ k, G' k → k = g ∨ w.heap.size ≤ k) := by
  obtain ⟨W0, hW0⟩ : ∃ W0, W0 = w.alloc (.cells (vtw nv k (.slice A m c)) 40) := ⟨_, rfl⟩
  obtain ⟨W, hW⟩ : ∃ W, W = W0.alloc (.cells (hhv kh) 24) := ⟨_, rfl⟩
  have b0 : Below w.heap.size w W0 := by rw [hW0]; exact (Below.refl _ _).alloc (Nat.le_refl _) _
  have b1 : Below W0.heap.size W0 W := by rw [hW]; exact (Below.refl _ _).alloc (Nat.le_refl _) _
  have z0 : W0.heap.size = w.heap.size + 1 := by rw [hW0]; simp
  have v0 : VtK w.heap.size nv k (.slice A m c) W0 := by rw [hW0]; exact VtK.new
  have v1 := v0.below b1 v0.lt
  have h1 : HhB (w.heap.size + 1) kh W := by rw [← z0, hW]; exact Fill.of_row (heap_alloc_new W0 _)
  have bb1 := b0.trans (b1.mono b0.size)
  have hF := h.below bb1
  have KP : Hid (∀ u : World, Below W.heap.size W u → RfM g G V u ∧ VtK w.heap.size nv k (.slice A m c) u ∧ HhB (w.heap.size + 1) kh u) := fun u hu => ⟨hF.below hu, v1.below hu v1.lt, Fill.below h1 hu (Fill.lt h1)⟩
  have GL := Lib.hid (h.fin g h.at_)
  have HW0 := Lib.hid hW0
  have HW := Lib.hid hW
  have HB := Lib.hid bb1
  have k1 := v1.row
  have k2 : W.heap[w.heap.size + 1]? = some (.cells (hhv kh) 24 (0, 0)) := Fill.done h1
  have HCH := Lib.hid (refCheck_c hF (by omega) nv k A m c kh st)
  obtain ⟨q, hq⟩ : ∃ q, q = chkR V nv k m kh st := ⟨_, rfl⟩
  have HQ : Hid (q = 0 → st ≤ 4294967296) := fun e => by
    rw [hq] at e
    unfold chkR at e
    split at e
    · next hc =>
      simp at hc
      exact hc.2
    · cases e
  rw [← hq] at HCH ⊢
  have HL := Lib.hid hl
  have HST := Lib.hid hst
  have HONE := Lib.hid hone
  clear hW0 hW b0 b1 z0 v0 v1 h1 bb1 hF hq h hl hst hone
  go_enter Try.func27, Try.ntmps27
  go_upto_region 1 with fail
  rw [← HW0.out, ← HW.out]
  go_wp2_with (first
    | (refine wpList_load_row rfl 40 (.tmp 5) rfl w.heap.size rfl 40 (vtw nv k (.slice A m c)) (0, 0) _ k1 Try.underlying40 rfl (size_vtw _ _ _) ?_)
    | (refine wpList_load_row rfl 24 (.tmp 6) rfl (w.heap.size + 1) rfl 24 (hhv kh) (0, 0) _ k2 Try.underlying24 rfl (size_hhv kh) ?_)
    | fail)
  refine HCH.out.mono ?_
  rintro e w3 ⟨rfl, b3⟩
  have BX := Lib.hid b3
  clear b3 k1 k2 HCH
  rcases Nat.eq_zero_or_pos q with rfl | hpos
  · have hs1 := HQ.out rfl
    have HS := Lib.hid hs1
    clear hs1 HQ
    go_wp2_with fail
    refine ra_r4 _ _ _ _ _ _ _ _ _ _ _ _ _ _ _ _ _ _ _ _ _ _ _ _ _ _ _ _ _ _ _ _ _ _ g w.heap.size (w.heap.size + 1) G V nv k A m c kh st (KP.out _ BX.out).1 (by have := HL.out; omega) HONE.out (KP.out _ BX.out).2.1 (KP.out _ BX.out).2.2 (by have := GL.out; omega) _ ?_
    intro u19 u20 u21 u22 u23 u24 u25 u26 u27 u28 u29 u30 u31 u32 w5 hh
    obtain ⟨G', f5, kk5, a5⟩ := hh
    have F5 := Lib.hid f5
    have K5 : Hid (Kept (fun k => k = g) w w5) := (Kept.of_below (HB.out.trans (BX.out.mono HB.out.size))).trans kk5 (fun k e => .inl e)
    have A5 : Hid (∀ k, G' k → k = g ∨ w.heap.size ≤ k) := fun k e => (a5 k e).imp id (fun e2 => by have z1 := HB.out.size; have z2 := BX.out.size; omega)
    have v5 : VtK w.heap.size nv k (.slice A m c) w5 := kk5.fill (KP.out _ BX.out).2.1 (fun e => by have := GL.out; omega)
    have k5 := v5.row
    clear f5 kk5 a5 v5
    have FIN : Hid (∀ u : World, Below w5.heap.size w5 u → ∃ G', RfM g G' (V ++ [(⟨nv, k, .slice A m c, kh, st⟩ : Sg)]) u ∧ Kept (fun k => k = g) w u ∧ ∀ k, G' k → k = g ∨ w.heap.size ≤ k) := fun u hu => ⟨G', F5.out.below hu, K5.out.trans (F' := fun k => k = g) (Kept.of_below hu) (fun k e => .inl e), A5.out⟩
    go_wp2_with (first
      | (refine wpList_load_row rfl 40 (.tmp 5) rfl w.heap.size rfl 40 (vtw nv k (.slice A m c)) (0, 0) _ k5 Try.underlying40 rfl (size_vtw _ _ _) ?_)
      | fail)
    refine (refLinkOf_c nv k (.slice A m c) _).mono ?_
    rintro e w6 ⟨rfl, b6⟩
    go_wp2_with fail
    refine (refWeight_c (F5.out.below b6) k (fun x hx => ?_) (by have := HL.out; simp; omega)).mono ?_
    · rcases List.mem_append.1 hx with hx | hx
      · exact HST.out x hx
      · simp at hx
        subst hx
        exact HS.out
    rintro e w7 ⟨rfl, b7⟩
    have B7 := Lib.hid (b6.trans (b7.mono b6.size))
    go_wp2_with fail
    go_ret2
    exact ⟨rfl, FIN.out _ B7.out⟩
  · have hne : (decide ((q : Int) ≠ 0)) = true := by simp; omega
    go_wp2_with fail
    go_ret2
    exact .inl ⟨by omega, rfl, HB.out.trans (BX.out.mono HB.out.size)⟩
end Go.Proofs.Ytomfgopmgfoecaa
