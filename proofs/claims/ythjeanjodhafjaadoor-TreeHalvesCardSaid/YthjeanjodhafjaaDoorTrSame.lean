/- Contracts: two lists that read alike are the same. -/
import Derived.Test.YthjeanjodhafjaaDoorTrPathC
namespace Go.Proofs.YthjeanjodhafjaaDoor
open Go.ChangeShapes Go.WideShapes Go.ChangeAt Go.RowKit
set_option linter.unusedVariables false

theorem quiet_load_midS {P : Program} {C : World → Prop} {a : Act} {o : Oper} {K : Act → Prop} (ty : TypeId) (x : Operand) (ho : o.op = .load ty x) (b off : Nat) (hx : a.eval x = .pointer (some ⟨b, off, none⟩)) (cs : List Value) (d : TypeDesc)
    (hC : ∀ w, C w → w.rangeAt b off cs) (hu : P.underlying ty = some d) (hd : d.isRow = true) (hi : (P.info? ty).map (·.size) = some cs.length) (hk : K (a.put o.dst (.agg cs.toArray))) : o.quiet P a C K :=
  ⟨_, fun w hw => by
    unfold Oper.quietAt execOp
    simp only [ho, hx, Instr.loadAt, Instr.sureAddr, Sem.run_bind, Sem.run_pure, Result.andThen_ok, run_loadVar_mid w b off ty cs d (hC w hw) hu hd hi]
    exact ⟨rfl, rfl⟩, hk⟩
theorem eq_own (x : List UInt8) (hx : x.length = 32) (u : World) : (Op.equalIn 10000 25 (.agg (hC x).toArray) (.agg (hC x).toArray)).run Tryd.prog u = .ok true u := by
  have e := eq_row 32 25 Tryd.underlying25 x x hx hx u
  rw [beq_self_eq_true] at e
  exact e
theorem drewN_below {B : Nat} {a w : World} (h : Below B a w) (n : Nat) : Below B a (w.drewN n) := ⟨h.os, h.tape, h.output, h.size, h.block⟩
set_option maxRecDepth 100000 in
set_option maxHeartbeats 4000000 in
theorem same_c (L : List (List UInt8)) (A1 A2 : Option Addr) (c1 c2 : Nat) (w : World) (hx : ∀ x ∈ L, x.length = 32) (h1 : RdH w w.heap.size A1 L) (h2 : RdH w w.heap.size A2 L) (hn : L.length ≤ 1000000) :
    Calls Tryd.prog 13 #[.slice A1 L.length c1, .slice A2 L.length c2] w fun e w' => e = .returned (.bool true) ∧ Below w.heap.size w w' := by
  go_enter Tryd.func13, Tryd.ntmps13
  go_wp2_with fail
  go_loopw [5] (fun v u => ∃ k : Nat, k ≤ L.length ∧ v = .int .i64 (k : Int) ∧ Below w.heap.size w u) (fun v _ => L.length - (intOf v).toNat)
  case atStart => exact ⟨0, by omega, rfl, Below.refl _ _⟩
  case round =>
    obtain ⟨k, hk, rfl, hb⟩ := hrel
    by_cases hlt : k < L.length
    · obtain ⟨b1, o1, rfl, hb1, hc1⟩ := h1 (by omega)
      obtain ⟨b2, o2, rfl, hb2, hc2⟩ := h2 (by omega)
      have hy : (L.getD k []).length = 32 := by rw [List.getD_eq_getElem?_getD, List.getElem?_eq_getElem hlt]; exact hx _ (List.getElem_mem hlt)
      have k1 := rangeAt_below hb hb1 (hc1 k hlt)
      have k2 := rangeAt_below hb hb2 (hc2 k hlt)
      have q2 : (k : Int) < (L.length : Int) := by omega
      generalize L.getD k [] = y at *
      have he := eq_own y hy
      have HB := Lib.hid hb
      clear hc1 hc2 hy hb
      go_wp2_with fail
      refine wp_region_quiet_lit (by kernel_rfl) (by kernel_rfl) ?_
      iterate 3 (go_big_quiet_step (fail))
      go_big_quiet_want
      refine quiet_load_midS _ _ rfl b1 (o1 + k * 32) rfl (hC y) _ (fun w hw => by obtain ⟨n, rfl⟩ := hw; exact k1) hash_under rfl (hash_info (hC_len _)) ?_
      go_simp
      go_big_quiet_on
      iterate 3 (go_big_quiet_step (fail))
      go_big_quiet_want
      refine quiet_load_midS _ _ rfl b2 (o2 + k * 32) rfl (hC y) _ (fun w hw => by obtain ⟨n, rfl⟩ := hw; exact k2) hash_under rfl (hash_info (hC_len _)) ?_
      go_simp
      go_big_quiet_on
      repeat (go_big_quiet_step (fail))
      refine wpQuiet_nil ?_
      intro _ hw'
      obtain ⟨nq, hw''⟩ := hw'
      subst hw''
      go_wp2_with fail
      exact ⟨⟨k + 1, by omega, by go_num, drewN_below HB.out nq⟩, by simp [intOf]; omega⟩
    · obtain rfl : k = L.length := by omega
      have HB := Lib.hid hb
      clear hb
      go_wp2_with fail
      go_ret
      exact ⟨rfl, HB.out⟩
end Go.Proofs.YthjeanjodhafjaaDoor
