/- Contracts: the reference's path. -/
import Derived.Test.YtoippbgnaadebaaDoorTrRows
namespace Go.Proofs.YtoippbgnaadebaaDoor
open Go.ChangeShapes Go.WideShapes Go.ChangeAt Go.RowKit
set_option linter.unusedVariables false

theorem take_more (Q : List (List UInt8)) (k : Nat) (h : k < Q.length) : Q.take (k + 1) = Q.take k ++ [Q.getD k []] := by
  rw [List.take_succ_eq_append_getElem h, List.getD_eq_getElem?_getD, List.getElem?_eq_getElem h]
  rfl
theorem sib_int (d : Nat) : (d : Int) + 1 - 2 * ((d : Int) % 2) = ((sib d : Nat) : Int) := by unfold sib; omega
theorem hcs_more (Q : List (List UInt8)) (y : List UInt8) : hcs (Q ++ [y]) = hcs Q ++ hC y := by unfold hcs; rw [List.flatMap_append]; simp
set_option maxRecDepth 100000 in
set_option maxHeartbeats 8000000 in
theorem refPath_c (i h : Nat) (L : List (List UInt8)) (A : Option Addr) (c : Nat) (w : World) (h8 : h ≤ 8) (hl : L.length = 2 ^ h) (hc : L.length ≤ c) (hi : i < 2 ^ h) (hx : ∀ x ∈ L, x.length = 32) (hR : RdH w w.heap.size A L) :
    Calls Tryd.prog 14 #[.slice A L.length c, .int .i64 (i : Int)] w fun e w' => ∃ A' c', e = .returned (.slice A' h c') ∧ Below w.heap.size w w' ∧ w'.ownsRow w.heap.size 25 32 (.slice A' h c') h (hcs (pathH h L i)) := by
  obtain ⟨j0, hj0⟩ : ∃ j0, Tryd.prog.info? 25 = some j0 := ⟨_, (Option.some_get (by kernel_rfl)).symm⟩
  obtain ⟨hy0, hy1, hy2⟩ := hashes_row hj0
  have hi2 : i < 256 := Nat.lt_of_lt_of_le hi (two_le h (by omega)).1
  have HC := Lib.hid (rows_c h L A c w h8 hl hc hx hR)
  have HPL := Lib.hid (pathH_length h L i)
  have HPA := Lib.hid (show ∀ k, k < h → (rowN L k).getD (sib (i / 2 ^ k)) [] = (pathH h L i).getD k [] from fun k hk => rowN_path L h i k hl hi hk)
  have HNL : Hid (∀ k, k ≤ h → (rowN L k).length = 2 ^ (h - k)) := fun k hk => by
    rw [rowN_length, hl]
    exact Nat.pow_div hk (by decide)
  have HSB : Hid (∀ k, k < h → sib (i / 2 ^ k) < 2 ^ (h - k)) := fun k hk => by
    have h1 : 2 ^ h = 2 ^ (h - k) * 2 ^ k := by rw [← Nat.pow_add]; congr 1; omega
    have h2 : 2 ^ (h - k) = 2 * 2 ^ (h - k - 1) := by
      conv => lhs; rw [show h - k = (h - k - 1) + 1 by omega, Nat.pow_succ, Nat.mul_comm]
    have h3 : i / 2 ^ k < 2 ^ (h - k) := (Nat.div_lt_iff_lt_mul (Nat.two_pow_pos k)).2 (by rw [← h1]; exact hi)
    unfold sib
    generalize 2 ^ (h - k) = a at *
    generalize 2 ^ (h - k - 1) = b at *
    generalize i / 2 ^ k = d at *
    omega
  clear hl hc hi hx hR
  generalize pathH h L i = Q at *
  generalize L.length = nl at *
  go_enter Tryd.func14, Tryd.ntmps14
  go_wp2_with fail
  refine HC.out.mono ?_
  rintro e w1 ⟨v1, R, rfl, b1, o1, hm⟩
  have hRl : R.length = h + 1 := by have := congrArg List.length hm; simpa using this
  obtain ⟨g, cg, rfl, hcg, hg1, hg2, hcell⟩ := o1.form (by omega)
  rw [hRl]
  have B1 := Lib.hid b1
  have O1 := Lib.hid o1
  have HM := Lib.hid hm
  have HCE := Lib.hid hcell
  have HRL := Lib.hid hRl
  clear b1 o1 hm hcell hRl hcg hg1
  go_wp2_with fail
  go_loopw [1, 6, 7] (fun u v kk wr => ∃ k : Nat, k ≤ h ∧ kk = .int .i64 (k : Int) ∧ u = .int .i64 ((i / 2 ^ k : Nat) : Int) ∧ wr.ownsRow w1.heap.size 25 32 v k (hcs (Q.take k)) ∧ Below w1.heap.size w1 wr) (fun _ _ kk _ => h - (intOf kk).toNat)
  case atStart => exact ⟨0, by omega, rfl, by simp, ⟨rfl, .inl ⟨rfl, rfl⟩⟩, Below.refl _ _⟩
  case round =>
    obtain ⟨k, hk, rfl, rfl, hrow, hbu⟩ := hrel
    obtain ⟨Av, cv, rfl, hcv, _⟩ := rowForm hrow
    by_cases hlt : k < h
    · obtain ⟨x, hxk⟩ : ∃ x, R[k]? = some x := ⟨_, List.getElem?_eq_getElem (by rw [HRL.out]; omega)⟩
      have hcx := (hbu.cell (p := ⟨g, k, none⟩) hg2).trans (HCE.out k x hxk)
      have hin := O1.out.2 x (List.mem_of_getElem? hxk)
      have hx3 : x.2.2 = rowN L k := by
        have := congrArg (fun l => l[k]?) HM.out
        simp only [List.getElem?_map, hxk, List.getElem?_range (show k < h + 1 by omega)] at this
        simpa using this
      have hrd := hin.rd B1.out.size
      have hsb := HSB.out k hlt
      have hnl := HNL.out k hk
      have hpa := HPA.out k hlt
      have HTK := Lib.hid (take_more Q k (by rw [HPL.out]; exact hlt))
      have HD := Lib.hid (show i / 2 ^ (k + 1) = i / 2 ^ k / 2 by rw [Nat.pow_succ, Nat.div_div_eq_div_mul])
      have hdl : i / 2 ^ k < 256 := Nat.lt_of_le_of_lt (Nat.div_le_self _ _) hi2
      have es := sib_int (i / 2 ^ k)
      rw [← hx3] at hpa hnl
      obtain ⟨x1, x2, x3⟩ := x
      dsimp only at hpa hnl hx3 hrd
      dsimp only [hrV] at hcx
      have h2k : 2 ^ (h - k) ≤ 256 := (two_le (h - k) (by omega)).1
      obtain ⟨bl, off, rfl, hbl, hcl⟩ := hrd (by rw [hnl]; exact Nat.two_pow_pos _)
      rw [← hnl] at hsb
      have rs := rangeAt_below hbu hbl (hcl _ hsb)
      rw [hpa] at rs
      generalize sib (i / 2 ^ k) = s at *
      generalize i / 2 ^ k = d at *
      generalize Q.getD k [] = y at *
      have hnn : x3.length ≤ 256 := by rw [hnl]; exact h2k
      obtain ⟨nn, hnn2⟩ : ∃ nn, nn = x3.length := ⟨_, rfl⟩
      rw [← hnn2] at hcx hsb hnn
      obtain ⟨so, hso⟩ : ∃ so, off + s * 32 = so := ⟨_, rfl⟩
      rw [hso] at rs
      obtain ⟨u1, hu1⟩ : ∃ u1, u1 = wr.alloc (.cells (hashV y) 25) := ⟨_, rfl⟩
      have HNB := Lib.hid (show Below wr.heap.size wr u1 by rw [hu1]; exact (Below.refl _ _).alloc (Nat.le_refl _) _)
      have HAL := Lib.hid (show u1.heap[wr.heap.size]? = some (.cells (hashV y) 25 (0, 0)) by rw [hu1]; exact heap_alloc_new _ _)
      have HONE := Lib.hid (one_hash y wr)
      have HU1 := Lib.hid hu1
      have R1 := Lib.hid (rowBelow hrow HNB.out (Nat.le_refl _))
      have BU1 := Lib.hid (hbu.trans (HNB.out.mono hbu.size))
      have HNW : Hid (∀ q v, (hC y)[q]? = some v → u1.cell? ((⟨wr.heap.size, 0, none⟩ : Addr).add q) = some v) := fun q v hv => by rw [addr_add, cell_of_row u1 _ q _ _ (0, 0) HAL.out]; unfold hashV rowV; rw [List.getElem?_toArray]; exact hv
      have HON : Hid (∀ v ∈ hC y, v.oneCell' = true) := fun v hv => by unfold hC at hv; obtain ⟨j, _, rfl⟩ := List.mem_map.1 hv; rfl
      have q2 : decide ((k : Int) + 1 < (h : Int) + 1) = true := by simp; omega
      clear hu1 hbu hrow hcl hrd hin hx3 hxk hpa hnl hnn2 h2k
      go_wp2_with (first
        | (refine wpList_load_mid rfl 25 (.tmp 30) rfl bl so (by go_simp) (hC y) _ rs hash_under rfl (hash_info (hC_len y)) ?_; rw [hC_arr])
        | (refine wpList_buildSlice_as (v := .slice (some ⟨wr.heap.size, 0, none⟩) 1 1) (w' := u1) rfl 22 1 #[(0, .tmp 31)] rfl ?hr ?_; case hr => (simp only [List.map_toArray, List.map_cons, List.map_nil]; rw [HU1.out]; exact HONE.out))
        | (at_builtin; refine wpList_append_own _ rfl (.tmp 24) (.tmp 32) _ rfl w1.heap.size 25 j0 _ 32 32 Tryd.underlying22 hj0 hy0 hy1 hy2 (by show (rowV 32 z8).size = 32; rw [rowV_size]) (by decide) (.slice Av k cv) k _ rfl R1.out ⟨wr.heap.size, 0, none⟩ 1 1 (hC y) rfl (by rw [hC_len]) HNW.out HON.out (by unfold maxLen; omega) (by omega) BU1.out.size ?_; intro v2 u2 o2 g2 _; have O2 := Lib.hid o2; have G2 := Lib.hid g2; clear o2 g2)
        | fail)
      refine ⟨⟨k + 1, by omega, by go_num, by rw [HD.out]; go_num, ?_, ?_⟩, by simp [intOf]; omega⟩
      · rw [HTK.out, hcs_more]; exact O2.out
      · exact BU1.out.grown G2.out BU1.out.size (fun g hg => (R1.out.lt g hg).1)
    · obtain rfl : k = h := by omega
      rw [List.take_of_length_le (by rw [HPL.out]; exact Nat.le_refl _)] at hrow
      have HROW := Lib.hid (rowBase hrow B1.out.size)
      have HB := Lib.hid (B1.out.trans (hbu.mono B1.out.size))
      clear hrow hbu
      go_wp2_with fail
      go_ret
      exact ⟨Av, cv, rfl, HB.out, HROW.out⟩
end Go.Proofs.YtoippbgnaadebaaDoor
