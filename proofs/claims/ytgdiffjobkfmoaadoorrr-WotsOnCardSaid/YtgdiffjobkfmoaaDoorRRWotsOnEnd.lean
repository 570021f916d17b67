/- Proved: WotsOn answers true for every secret and every two hashes, and leaves them as they were; the two tables of the program's text are as that text lays them (tied). Conditions: none but the form's own. -/
import Derived.Test.YtgdiffjobkfmoaaDoorRRWotsOn
import Derived.Test.YtgdiffjobkfmoaaDoorRRWoLift
import Derived.Test.YtgdiffjobkfmoaaDoorRRLaid
import Derived.Test.YtgdiffjobkfmoaaDoorRRCards
import Derived.ChangeOld
import Derived.SevenTiedAt
namespace Go.Proofs.YtgdiffjobkfmoaaDoorRR
open Go.ChangeShapes Go.WideShapes Go.ChangeAt Go.RowKit
set_option linter.unusedVariables false

/-- Rows of noughts are rows. -/
theorem noughts_ok {W : World} {base n : Nat} {t : TypeId} {d : TypeDesc} (hu : Tryd.prog.underlying t = some d) (hd : d.isRow = true) (hc : Tryd.prog.cellTypes Tryd.prog.depth t = some (List.replicate n 5)) (hn : Tryd.prog.cellsOf t = n) (h0 : 0 < n) : Value.okWide Tryd.prog W .any base t (.agg (Array.replicate n (.int .u8 0))) := by
  have hr : Row.okWide Tryd.prog W .any base t (Array.replicate n (.int .u8 0)) := by
    refine ⟨_, hc, ⟨1, by rw [Array.size_replicate, List.length_replicate, Nat.one_mul]⟩, fun i v hv => ⟨5, ?_, ?_⟩⟩
    · rw [List.length_replicate, List.getElem?_replicate, if_pos (Nat.mod_lt _ h0)]
    · have : v = .int .u8 0 := by
        rw [Array.getElem?_replicate] at hv
        split at hv
        · injection hv with hv; exact hv.symm
        · cases hv
      subst this
      exact Cell.okWide_of_okWideB (by kernel_rfl)
  unfold Value.okWide
  cases d <;> simp [TypeDesc.isRow] at hd
  · simp only [hu]
    exact ⟨_, rfl, by rw [Array.size_replicate, hn], hr⟩
  · simp only [hu]
    exact ⟨_, rfl, by rw [Array.size_replicate, hn], hr⟩
def noughts : Array Value := #[.agg (Array.replicate 1088 (.int .u8 0)), .agg (Array.replicate 32 (.int .u8 0)), .agg (Array.replicate 32 (.int .u8 0))]
set_option maxRecDepth 100000 in
theorem noughts_pre (os : Os) {H : Type} (enc : TypeId × Value → H) : Rows.wotsOnSpec.preB enc Tryd.prog Tryd.f4 [] false ((World.doorLaid Tryd.prog 19 os).forCall (fun _ _ => 0) ⟨#[], noughts, []⟩).memory noughts 8 = true := by kernel_rfl
set_option maxRecDepth 100000 in
theorem noughts_sized (os : Os) {H : Type} (enc : TypeId × Value → H) : Rows.wotsOnSpec.sizedB enc Tryd.prog Tryd.f4 false ((World.doorLaid Tryd.prog 19 os).forCall (fun _ _ => 0) ⟨#[], noughts, []⟩).memory noughts 8 = true := by kernel_rfl
set_option maxRecDepth 100000 in
theorem noughts_wide (W : World) (base : Nat) : Input.okWide Tryd.prog W .any base 4 ⟨#[], noughts, []⟩ := by
  refine ⟨fun o ho => absurd ho (by simp), fun gv hgv => absurd hgv (by simp), by kernel_rfl, Tryd.f4, Tryd.func4, by kernel_rfl, by kernel_rfl, by kernel_rfl, by kernel_rfl, fun j t v ht hv => ?_⟩
  rw [Tryd.params4] at ht
  match j, ht, hv with
  | 0, ht, hv =>
    injection ht with ht
    injection hv with hv
    subst ht
    subst hv
    exact noughts_ok Tryd.underlying25 rfl (by kernel_rfl) (by kernel_rfl) (by omega)
  | 1, ht, hv =>
    injection ht with ht
    injection hv with hv
    subst ht
    subst hv
    exact noughts_ok Tryd.underlying27 rfl (by kernel_rfl) (by kernel_rfl) (by omega)
  | 2, ht, hv =>
    injection ht with ht
    injection hv with hv
    subst ht
    subst hv
    exact noughts_ok Tryd.underlying27 rfl (by kernel_rfl) (by kernel_rfl) (by omega)
  | j + 3, ht, hv => simp at ht
set_option maxRecDepth 100000 in
theorem wotsOn_lifted (os : Os) (started : os.Started) (H : Type) (enc : TypeId × Value → H) :
    ReturnsInHanded {} Tryd.checked os 4 .any (fun w args => (Rows.wotsOnSpec.pre enc Tryd.prog Tryd.f4 [] false w args ∧ laidMetH Tryd.prog laidL w) ∧ sizedMet enc Tryd.prog Tryd.f4 (OpenSpec.ofChange Rows.wotsOnSpec) false w args)
      (Rows.wotsOnSpec.post enc Tryd.prog Tryd.f4 false true false false) := by
  refine returnsInHanded_of_change_and (C := Tryd.checked) (X := fun w _ => laidMetH Tryd.prog laidL w) (fun _ _ _ hh h => h.of_heap hh) own_knob started (by kernel_rfl) Tryd.func4
    ⟨World.doorLaid Tryd.prog 19 os, fun _ _ => 0, ⟨#[], noughts, []⟩, rfl, World.shaped_of_RefB (by kernel_rfl) (by kernel_rfl), rfl, noughts_wide _ _, ⟨⟨ChangeSpec.pre_of_preB (noughts_pre os enc), door_met os _⟩, sizedMet_of_sizedB (noughts_sized os enc)⟩, by
      simp only [Assume.holds]
      exact ⟨by simp, by simp, fun _ => Modest.zero, by simp, by simp⟩⟩ ?_
  intro W base args ds gs before hval0 hW _ _ hL _
  have hval : ∀ (j : Nat) t v, Tryd.f4.params[j]? = some t → args[j]? = some v → Value.okWide Tryd.prog W .any base t v := hval0
  have hW' := hW
  obtain ⟨p, q, hA0, hV, rfl, hfz, hnd⟩ := hW
  have hA : DataW.TrodAll enc Tryd.prog W 0 (fun _ => true) true Tryd.f4.params.toList args.toList ds p := hA0
  rw [Tryd.params4] at hA hval
  obtain ⟨v0, vs0, d0, ds0, p0, q0, hargs, rfl, rfl, h0, s0⟩ := trodAll_cons hA
  obtain ⟨v1, vs1, d1, ds1, p1, q1, rfl, rfl, rfl, h1, s1⟩ := trodAll_cons s0
  obtain ⟨v2, vs2, d2, ds2, p2, q2, rfl, rfl, rfl, h2, s2⟩ := trodAll_cons s1
  obtain ⟨rfl, rfl, rfl⟩ := trodAll_nil s2
  obtain rfl : args = #[v0, v1, v2] := by cases args; simp_all
  obtain ⟨rfl, rfl⟩ := trodVars_none hV
  have k0 := h0
  have k1 := h1
  have k2 := h2
  have lt2 : ∀ x ∈ p2, x.block < W.heap.size := by obtain ⟨m, hm⟩ := k2; exact DataW.trod_lt m _ _ _ hm
  have lt0 : ∀ x ∈ p0, x.block < W.heap.size := by obtain ⟨m, hm⟩ := k0; exact DataW.trod_lt m _ _ _ hm
  have lt1 : ∀ x ∈ p1, x.block < W.heap.size := by obtain ⟨m, hm⟩ := k1; exact DataW.trod_lt m _ _ _ hm
  obtain ⟨l0, hl0, rfl⟩ := open_secret (hval 0 25 v0 rfl rfl) h0
  obtain ⟨l1, hl1, rfl⟩ := open_hash6 (hval 1 27 v1 rfl rfl) h1
  obtain ⟨l2, hl2, rfl⟩ := open_hash6 (hval 2 27 v2 rfl rfl) h2
  clear hA0 hval0
  refine (wotsOn_any l0 l1 l2 hl0 hl1 hl2 W (tabs_of_laid hL)).mono fun e W' ⟨he, bel⟩ => ?_
  subst he
  exact ⟨_, rfl, _, _, _, [], _, [], hW', trodAll_mk1 (shut_bool Tryd.underlying4 _), (trodAll_cons_mk (Below.trod laid_out (by kernel_rfl) (of_decide_eq_true (by kernel_rfl)) k0 bel lt0) (trodAll_cons_mk (Below.trod laid_out (by kernel_rfl) (of_decide_eq_true (by kernel_rfl)) k1 bel lt1) (trodAll_cons_mk (Below.trod laid_out (by kernel_rfl) (of_decide_eq_true (by kernel_rfl)) k2 bel lt2) trodAll_mk0))), rfl, bel.frame _, fun h => by cases h⟩

theorem wotsOn_holds : Rows.WotsOnSaid :=
  OpenClaim.holds_of_wide 4 Tryd.f4 rfl rfl rfl rfl rfl rfl rfl ⟨rfl, rfl, rfl, rfl, rfl⟩ rfl rfl rfl rfl rfl (by kernel_rfl) Tryd.func4 (by kernel_rfl)
    (of_decide_eq_true (by kernel_rfl)) (by unfold Func.isWrapper; first | (rw [if_pos (by decide +kernel)]; kernel_rfl) | (rw [if_neg (by decide +kernel)]; exact ⟨rfl, rfl⟩))
    (fun os started H enc _ => wotsOn_lifted os started H enc)

theorem wotsOn_proved : Rows.WotsOnCardSaid :=
  Claim7.holds_tied_plain_at .later [] [.data, .data] true Rows.wotsOnCard.stood.harness false
    wotsOn_holds (fun _ h => by cases h) (by kernel_rfl) (fun _ h => by cases h) wotsOn_row_tie rfl ⟨rfl, rfl⟩ (by kernel_rfl) rfl
    (fun f fn hf hfn => by
      obtain rfl : f = 4 := Option.some.inj ((show Tryd.prog.funcNamed "landmark/landmarklaw06.WotsOn" = some 4 by kernel_rfl).symm.trans hf) |>.symm
      obtain rfl : fn = Tryd.f4 := (Option.some.inj (Tryd.func4.symm.trans hfn)).symm
      exact ⟨by kernel_rfl, fun j t ht => by
        rw [Tryd.params4] at ht
        have hm : t ∈ [25, 27] := by have := Array.mem_of_getElem? ht; simpa using this
        have hall : ([25, 27].all fun u => !Tryd.prog.wantsStandIn u) = true := by kernel_rfl
        exact (show Tryd.prog.wantsStandIn t = false by simpa using List.all_eq_true.1 hall t hm)⟩)
    (by kernel_rfl)
end Go.Proofs.YtgdiffjobkfmoaaDoorRR
