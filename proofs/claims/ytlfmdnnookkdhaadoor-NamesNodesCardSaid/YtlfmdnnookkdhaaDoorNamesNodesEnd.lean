/- Proved: NamesNodes answers true for every byte, every hash and every list of hashes, and leaves them as they were: names of names, one of the other, are the reference's; the two tables of the program's text are as that text lays them (tied). Conditions: none but the form's own. -/
import Derived.Test.YtlfmdnnookkdhaaDoorLiftH
import Derived.Test.YtlfmdnnookkdhaaDoorCards
import Derived.ChangeOld
import Derived.SevenTiedAt
namespace Go.Proofs.YtlfmdnnookkdhaaDoor
open Go.ChangeShapes Go.WideShapes Go.ChangeAt Go.RowKit
set_option linter.unusedVariables false

/-- A hash by value that came in. -/
theorem open_hash {H : Type} {enc : TypeId × Value → H} {W : World} {base : Nat} {v : Value} {d : DataW H} {p : List MemPlace} (hv : Value.okWide Tryd.prog W .any base 28 v) (h : DataW.Trod enc Tryd.prog W 0 (fun _ => true) true 28 v d p) :
    ∃ l : List UInt8, l.length = 32 ∧ v = .agg (hashV l) := by
  have c4 : Tryd.prog.cellsOf 28 = 32 := by kernel_rfl
  have c1 : Tryd.prog.cellsOf 5 = 1 := by kernel_rfl
  simp only [Value.okWide, Tryd.underlying28] at hv
  obtain ⟨cs, rfl, hsz, _⟩ := hv
  rw [c4] at hsz
  obtain ⟨fuel, hf⟩ := h
  obtain ⟨xs, m, _, _, _, hxl, hi⟩ := DataW.trod_array Tryd.underlying28 hf
  rw [c1] at hi
  have key : ∀ i, i < 32 → ∃ x : UInt8, cs[i]? = some (bv x) := fun i hi4 => by
    have hy := hi i hi4
    rw [List.getElem?_eq_getElem (by omega)] at hy
    obtain ⟨a, ea, _, wa⟩ := DataW.trod_int Tryd.underlying5 hy
    have hz : 0 ≤ a ∧ a ≤ 255 := by simpa [Lit.wf, IntKind.min, IntKind.max, IntKind.signed, IntKind.bits] using wa
    refine ⟨UInt8.ofNat a.toNat, ?_⟩
    have e : bv (UInt8.ofNat a.toNat) = .int .u8 a := by
      unfold bv
      rw [UInt8.toNat_ofNat']
      congr 1
      show ((a.toNat % 256 : Nat) : Int) = a
      omega
    rw [e]
    have hd : (cs.toList.drop (i * 1)).take 1 = [.int .u8 a] := ea
    have : ((cs.toList.drop (i * 1)).take 1)[0]? = some (.int .u8 a) := by rw [hd]; rfl
    rw [List.getElem?_take, if_pos (by omega), List.getElem?_drop, Nat.mul_one, Nat.add_zero] at this
    simpa using this
  have key2 : ∀ i : Nat, ∃ x : UInt8, i < 32 → cs[i]? = some (bv x) := fun i => by
    by_cases h : i < 32
    · obtain ⟨x, hx⟩ := key i h
      exact ⟨x, fun _ => hx⟩
    · exact ⟨0, fun h' => absurd h' h⟩
  refine ⟨(List.range 32).map fun i => (key2 i).choose, by simp, congrArg Value.agg ?_⟩
  apply Array.ext_getElem?
  intro i
  by_cases h : i < 32
  · rw [(key2 i).choose_spec h]
    unfold hashV
    rw [rowV_at 32 _ i h]
    unfold hF
    rw [List.getD_eq_getElem?_getD, List.getElem?_map, List.getElem?_range h]
    rfl
  · rw [Array.getElem?_eq_none (by omega), Array.getElem?_eq_none (by unfold hashV; rw [rowV_size]; omega)]

set_option maxRecDepth 100000 in
theorem namesNodes_lifted (os : Os) (started : os.Started) (H : Type) (enc : TypeId × Value → H) :
    ReturnsInHanded {} Tryd.checked os 4 .any (fun w args => (Rows.namesNodesSpec.pre enc Tryd.prog Tryd.f4 [] false w args ∧ laidMetH Tryd.prog laidL w) ∧ sizedMet enc Tryd.prog Tryd.f4 (OpenSpec.ofChange Rows.namesNodesSpec) false w args)
      (Rows.namesNodesSpec.post enc Tryd.prog Tryd.f4 false true false false) := by
  refine returnsInHanded_of_change_and (C := Tryd.checked) (X := fun w _ => laidMetH Tryd.prog laidL w) (fun _ _ _ hh h => h.of_heap hh) own_knob started (by kernel_rfl) Tryd.func4
    (ChangeSpec.witness_shaped (enc := enc) (C := Tryd.checked) (os := os) (X := fun w _ => laidMetH Tryd.prog laidL w) false (World.doorLaid Tryd.prog 19 os) #[.int .u8 0, .agg (rowV 32 z8), .slice none 0 0] 8 rfl (World.shaped_of_RefB (by kernel_rfl) (by kernel_rfl)) (by kernel_rfl) (by kernel_rfl) (by kernel_rfl) (door_met os _)) ?_
  intro W base args ds gs before hval0 hW _ _ hL _
  have hval : ∀ (j : Nat) t v, Tryd.f4.params[j]? = some t → args[j]? = some v → Value.okWide Tryd.prog W .any base t v := hval0
  have hW' := hW
  obtain ⟨p, q, hA0, hV, rfl, hfz, hnd⟩ := hW
  have hA : DataW.TrodAll enc Tryd.prog W 0 (fun _ => true) true Tryd.f4.params.toList args.toList ds p := hA0
  rw [Tryd.params4] at hA hval
  obtain ⟨v0, vs0, d0, ds0, p0, q0, hargs, rfl, rfl, h0, s0⟩ := trodAll_cons hA
  obtain ⟨v1, vs1, d1, ds1, p1, q1, rfl, rfl, rfl, h1, s1⟩ := trodAll_cons s0
  obtain ⟨v2, vs2, d2, ds2, p2, q2, rfl, rfl, rfl, h2, s2⟩ := trodAll_cons s1
  obtain ⟨rfl, rfl, rfl⟩ := trodAll_nil s2
  obtain rfl : args = #[v0, v1, v2] := by cases args; simp_all
  obtain ⟨rfl, rfl⟩ := trodVars_none hV
  obtain ⟨n0, rfl, rfl, rfl, w0⟩ := open_int Tryd.underlying5 (hval 0 5 v0 rfl rfl) h0
  have hn0 : 0 ≤ n0 ∧ n0 ≤ 255 := by simpa [Lit.wf, IntKind.min, IntKind.max, IntKind.signed, IntKind.bits] using w0
  have k1 := h1
  have lt1 : ∀ x ∈ p1, x.block < W.heap.size := by obtain ⟨m, hm⟩ := k1; exact DataW.trod_lt m _ _ _ hm
  obtain ⟨l1, hl1, rfl⟩ := open_hash (hval 1 28 v1 rfl rfl) h1
  have k2 := h2
  have lt2 : ∀ x ∈ p2, x.block < W.heap.size := by obtain ⟨m, hm⟩ := k2; exact DataW.trod_lt m _ _ _ hm
  obtain ⟨A2, L2, c2, rfl, r2, hy2, hz2⟩ := open_hashes (hval 2 31 v2 rfl rfl) h2
  have hmk : ((UInt8.ofNat n0.toNat).toNat : Int) = n0 := by
    rw [UInt8.toNat_ofNat']
    show ((n0.toNat % 256 : Nat) : Int) = n0
    omega
  clear hA0 hval0
  have HW := namesNodes_any (UInt8.ofNat n0.toNat) l1 A2 c2 L2 W hl1 hz2 r2 hy2 (tabs_of_laid hL)
  rw [hmk] at HW
  refine HW.mono fun e W' ⟨he, bel⟩ => ?_
  subst he
  exact ⟨_, rfl, _, _, _, [], _, [], hW', trodAll_mk1 (shut_bool Tryd.underlying4 _), (trodAll_cons_mk (shut_int Tryd.underlying5 w0) (trodAll_cons_mk (Below.trod laid_out (by kernel_rfl) (of_decide_eq_true (by kernel_rfl)) k1 bel lt1) (trodAll_cons_mk (Below.trod laid_out (by kernel_rfl) (of_decide_eq_true (by kernel_rfl)) k2 bel lt2) trodAll_mk0))), rfl, bel.frame _, fun h => by cases h⟩

theorem namesNodes_holds : Rows.NamesNodesSaid :=
  OpenClaim.holds_of_wide 4 Tryd.f4 rfl rfl rfl rfl rfl rfl rfl ⟨rfl, rfl, rfl, rfl, rfl⟩ rfl rfl rfl rfl rfl (by kernel_rfl) Tryd.func4 (by kernel_rfl)
    (of_decide_eq_true (by kernel_rfl)) (by unfold Func.isWrapper; first | (rw [if_pos (by decide +kernel)]; kernel_rfl) | (rw [if_neg (by decide +kernel)]; exact ⟨rfl, rfl⟩))
    (fun os started H enc _ => namesNodes_lifted os started H enc)

theorem namesNodes_proved : Rows.NamesNodesCardSaid :=
  Claim7.holds_tied_plain_at .later [] [.data, .data] true Rows.namesNodesCard.stood.harness false
    namesNodes_holds (fun _ h => by cases h) (by kernel_rfl) (fun _ h => by cases h) namesNodes_row_tie rfl ⟨rfl, rfl⟩ (by kernel_rfl) rfl
    (fun f fn hf hfn => by
      obtain rfl : f = 4 := Option.some.inj ((show Tryd.prog.funcNamed "landmark/landmarklaw03.NamesNodes" = some 4 by kernel_rfl).symm.trans hf) |>.symm
      obtain rfl : fn = Tryd.f4 := (Option.some.inj (Tryd.func4.symm.trans hfn)).symm
      exact ⟨by kernel_rfl, fun j t ht => by
        rw [Tryd.params4] at ht
        have hm : t ∈ [5, 28, 31] := by have := Array.mem_of_getElem? ht; simpa using this
        have hall : ([5, 28, 31].all fun u => !Tryd.prog.wantsStandIn u) = true := by kernel_rfl
        exact (show Tryd.prog.wantsStandIn t = false by simpa using List.all_eq_true.1 hall t hm)⟩)
    (by kernel_rfl)
end Go.Proofs.YtlfmdnnookkdhaaDoor
