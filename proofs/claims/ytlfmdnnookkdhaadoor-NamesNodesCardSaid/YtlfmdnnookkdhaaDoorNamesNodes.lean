/- The walk of NamesNodes. -/
import Derived.Test.YtlfmdnnookkdhaaDoorNodesT
namespace Go.Proofs.YtlfmdnnookkdhaaDoor
open Go.ChangeShapes Go.WideShapes Go.ChangeAt Go.RowKit
set_option linter.unusedVariables false

/-- The names, one of the other. -/
def nodeL (mk : UInt8) (b : List UInt8) (L : List (List UInt8)) : Nat → List UInt8
  | 0 => b
  | k + 1 => shaL ([mk] ++ nodeL mk b L k ++ L.getD k [])
theorem nodeL_length (mk : UInt8) (b : List UInt8) (L : List (List UInt8)) (hb : b.length = 32) : ∀ k, (nodeL mk b L k).length = 32
  | 0 => hb
  | k + 1 => shaL_length _
/-- A slice of hashes. -/
def RdH (w : World) (hi : Nat) (A : Option Addr) (L : List (List UInt8)) : Prop := 0 < L.length → ∃ bl off, A = some ⟨bl, off, none⟩ ∧ bl < hi ∧ ∀ k, k < L.length → ∀ j y, (L.getD k [])[j]? = some y → w.cell? ⟨bl, off + 32 * k + j, none⟩ = some (bv y)

set_option maxRecDepth 100000 in
set_option maxHeartbeats 8000000 in
theorem namesNodes_any (mk : UInt8) (b : List UInt8) (A : Option Addr) (c : Nat) (L : List (List UInt8)) (w : World) (hb32 : b.length = 32) (hL32 : ∀ x ∈ L, x.length = 32) (hR : RdH w w.heap.size A L) (hL : L.length ≤ 9223372036854775807) (ht : Tabs w) :
    Calls Tryd.prog 4 #[.int .u8 (mk.toNat : Int), .agg (hashV b), .slice A L.length c] w fun e w' => e = .returned (.bool true) ∧ Below w.heap.size w w' := by
  have hz := zero_begun
  have HT : Hid (∀ u : World, Below w.heap.size w u → Tabs u) := fun u hu => ht.below hu ht.2.2.1 ht.2.2.2
  clear ht
  by_cases hbig : 12 < L.length
  · have d0 : decide ((12 : Int) < (L.length : Int)) = true := by simp; omega
    have b0 : Below w.heap.size w (w.alloc (.cells (hashV b) 28)) := (Below.refl _ _).alloc (Nat.le_refl _) _
    go_enter Tryd.func4, Tryd.ntmps4
    go_wp2_with fail
    refine (known_any _ (HT.out _ b0)).mono ?_
    rintro e w6 ⟨rfl, b6⟩
    go_wp2_with fail
    go_ret
    exact ⟨rfl, b0.trans (b6.mono b0.size)⟩
  · have d0 : decide ((12 : Int) < (L.length : Int)) = false := by simp; omega
    go_enter Tryd.func4, Tryd.ntmps4
    go_wp2_with fail
    have g0 : Fill w.heap.size 28 32 32 (hF b) (w.alloc (.cells (hashV b) 28)) := Fill.of_row (heap_alloc_new w _)
    have b0 : Below w.heap.size w (w.alloc (.cells (hashV b) 28)) := (Below.refl _ _).alloc (Nat.le_refl _) _
    generalize w.alloc (.cells (hashV b) 28) = W at *
    refine (begin_any W).mono ?_
    rintro e w1 ⟨rfl, b1⟩
    have g1 := g0.below b1 g0.lt
    have hb1 := b0.trans (b1.mono b0.size)
    clear g0 b0 b1
    go_wp2_with (refine wpList_store_row rfl 36 (.tmp 7) (.tmp 15) rfl w1.heap.size (rowV 72 bgT) rfl rfl 36 (rowV 72 z32) (heap_alloc_new _ _) (begun_size _) (by rw [rowV_size, rowV_size]) (rowV_one 72 _ (fun i => by unfold bgT rv; split <;> rfl)) ?_; rw [World.setRow_alloc_new])
    have ba := (Below.refl w1.heap.size w1).alloc (Nat.le_refl _) (.cells (rowV 72 bgT) 36)
    have g2 := g1.below ba g1.lt
    have hP2 : Fill w1.heap.size 36 72 72 bgT (w1.alloc (.cells (rowV 72 bgT) 36)) := Fill.of_row (heap_alloc_new w1 _)
    have hb2 := hb1.trans (ba.mono hb1.size)
    have q0 : w.heap.size ≤ w1.heap.size := hb1.size
    clear g1 hb1 ba hz
    generalize w1.alloc (.cells (rowV 72 bgT) 36) = w2 at *
    generalize w1.heap.size = pt at *
    simp only [Act.put]
    refine nodes_r4 _ _ _ _ _ _ _ _ _ _ _ _ _ _ _ _ _ _ _ _ _ _ _ _ _ _ _ _ _ _ _ _ _ _ _ _ _ _ _ _ _ _ _ _ _ _ _ _ w.heap.size b w2 g2 _ ?_
    intro u16 u17 p8 p9 w4 hne h8 h9 F8 F9 b4
    have P4 := hP2.below b4 hP2.lt
    have hb4 := hb2.trans (b4.mono hb2.size)
    have hpt2 := hP2.lt
    have hs2 := hb2.size
    clear g2 hP2 hb2 b4
    go_wp2_with fail
    go_loopw [10] (fun v wr => ∃ k : Nat, k ≤ L.length ∧ v = .int .i64 k ∧ Fill p8 28 32 32 (hF (nodeL mk b L k)) wr ∧ Fill p9 28 32 32 (hF (nodeL mk b L k)) wr ∧ Fill pt 36 72 72 bgT wr ∧ Below w.heap.size w wr) (fun v _ => L.length - (intOf v).toNat)
    case atStart => exact ⟨0, by omega, rfl, F8, F9, P4, hb4⟩
    case round =>
      obtain ⟨k, hk, rfl, F8, F9, P4, hb⟩ := hrel
      clear hb4
      by_cases hlt : k < L.length
      · obtain ⟨bl, off, rfl, hbl, hcell⟩ := hR (by omega)
        have hy : (L.getD k []).length = 32 := by rw [List.getD_eq_getElem?_getD, List.getElem?_eq_getElem hlt]; exact hL32 _ (List.getElem_mem hlt)
        have hRd : ∀ u : World, Below w.heap.size w u → Rd u 0 u.heap.size (some ⟨bl, off + 32 * k, none⟩) (L.getD k []) := fun u hu _ => ⟨bl, off + 32 * k, rfl, Nat.zero_le _, Nat.lt_of_lt_of_le hbl hu.size, fun j y hy => (hu.cell (p := ⟨bl, off + 32 * k + j, none⟩) hbl).trans (hcell k hlt j y hy)⟩
        have hx := nodeL_length mk b L hb32 k
        have HN := Lib.hid (show nodeL mk b L (k + 1) = shaL ([mk] ++ nodeL mk b L k ++ L.getD k []) from rfl)
        have HRD := Lib.hid hRd
        have hdk : decide ((k : Int) < (L.length : Int)) = true := by simp; omega
        clear hRd hcell
        generalize nodeL mk b L k = x at *
        go_wp2_with fail
        refine nodes_r8 _ _ _ _ _ _ _ _ _ _ _ _ _ _ _ _ _ _ _ _ _ _ _ _ _ _ _ _ _ _ _ _ _ _ _ _ _ _ _ _ _ _ _ _ _ mk bl off L.length c k p8 x (L.getD k []) wr hx hy hlt (by omega) F8 (HRD.out wr hb) (fun u hu => HT.out u (hb.trans (hu.mono hb.size))) _ ?_
        intro u24 u25 u26 u27 u28 u29 u30 u31 u32 w5 F8' g5
        have F9' := F9.keep (g5.block p9 F9.lt (by simp; omega))
        have P5 := P4.keep (g5.block pt P4.lt (by simp; omega))
        have hb5 := hb.grown g5 hb.size (fun g hg => by injection hg with hg; omega)
        clear F8 F9 P4 hb g5
        go_wp2_with fail
        refine nodes_r9 _ _ _ _ _ _ _ _ _ _ _ _ _ _ _ _ _ _ _ _ _ _ _ _ _ _ _ _ _ _ _ _ _ _ _ _ _ _ _ _ _ _ _ _ mk bl off L.length c k p9 pt x (L.getD k []) w5 hx hy hlt (by omega) (by omega) F9' P5 (HRD.out w5 hb5) _ ?_
        intro u33 u34 u35 u36 u37 u38 u39 u40 u41 u42 u43 w6 F9'' g6
        have F8'' := F8'.keep (g6.block p8 F8'.lt (by simp; omega))
        have P6 := P5.keep (g6.block pt P5.lt (by simp; omega))
        have hb6 := hb5.grown g6 hb5.size (fun g hg => by injection hg with hg; omega)
        clear F8' F9' P5 hb5 g6 HRD
        rw [← HN.out] at F8'' F9''
        have hx' := nodeL_length mk b L hb32 (k + 1)
        obtain ⟨x', HX'⟩ : ∃ x', Hid (nodeL mk b L (k + 1) = x') := ⟨_, rfl⟩
        rw [HX'.out] at F8'' F9'' hx'
        have h8d := F8''.done
        have h9d := F9''.done
        change w6.heap[p8]? = some (.cells (hashV x') 28 (0, 0)) at h8d
        change w6.heap[p9]? = some (.cells (hashV x') 28 (0, 0)) at h9d
        have HEQ := Lib.hid (equal_any x' x' w6 hx' hx')
        rw [beq_self_eq_true] at HEQ
        go_wp2_with (first | (refine wpList_load_row rfl 28 (.tmp 8) rfl p8 rfl 28 (hashV x') (0, 0) _ h8d Tryd.underlying28 rfl (hash_size _) ?_) | (refine wpList_load_row rfl 28 (.tmp 9) rfl p9 rfl 28 (hashV x') (0, 0) _ h9d Tryd.underlying28 rfl (hash_size _) ?_))
        refine HEQ.out.mono ?_
        rintro e w7 ⟨rfl, b7⟩
        have F8e := F8''.below b7 F8''.lt
        have F9e := F9''.below b7 F9''.lt
        have P7 := P6.below b7 P6.lt
        have hb7 := hb6.trans (b7.mono hb6.size)
        clear h8d h9d HEQ F8'' F9'' P6 hb6 b7
        go_wp2_with fail
        exact ⟨⟨k + 1, by omega, by go_num, by rw [HX'.out]; exact F8e, by rw [HX'.out]; exact F9e, P7, hb7⟩, by simp [intOf]; omega⟩
      · obtain rfl : k = L.length := by omega
        go_wp2_with fail
        refine (known_any wr (HT.out wr hb)).mono ?_
        rintro e w6 ⟨rfl, b6⟩
        go_wp2_with fail
        go_ret
        exact ⟨rfl, hb.trans (b6.mono hb.size)⟩
end Go.Proofs.YtlfmdnnookkdhaaDoor
