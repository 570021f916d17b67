/- A deposit of nothing may not be. -/
import Derived.Test.YtaoddppkijopmaaCdOp
namespace Go.Proofs.Ytaoddppkijopmaa
open Go.ChangeShapes Go.WideShapes Go.ChangeAt Go.RowKit
set_option linter.unusedVariables false
set_option maxRecDepth 100000

theorem quiet_load_midC {P : Program} {C : World → Prop} {a : Act} {o : Oper} {K : Act → Prop} (ty : TypeId) (x : Operand) (ho : o.op = .load ty x) (b off : Nat) (hx : a.eval x = .pointer (some ⟨b, off, none⟩)) (cs : List Value) (R : Array Value) (hR : cs.toArray = R) (d : TypeDesc)
    (hC : ∀ w, C w → w.rangeAt b off cs) (hu : P.underlying ty = some d) (hd : d.isRow = true) (hi : (P.info? ty).map (·.size) = some R.size) (hk : K (a.put o.dst (.agg R))) : o.quiet P a C K := by
  subst hR
  exact ⟨_, fun w hw => by
    unfold Oper.quietAt execOp
    simp only [ho, hx, Instr.loadAt, Instr.sureAddr, Sem.run_bind, Sem.run_pure, Result.andThen_ok, run_loadVar_mid w b off ty cs d (hC w hw) hu hd (by rw [hi]; simp)]
    exact ⟨rfl, rfl⟩, hk⟩
theorem quiet_build_as {P : Program} {C : World → Prop} {a : Act} {o : Oper} {K : Act → Prop} (t : TypeId) (parts : Array (Nat × Operand)) (ho : o.op = .build t parts)
    (L : List (Nat × Value)) (R : Array Value) (hB : P.built t L = some R) (hL : (parts.map fun (i, x) => (i, a.eval x)).toList = L) (hk : K (a.put o.dst (.agg R))) : o.quiet P a C K :=
  ⟨_, fun w hw => by
    unfold Oper.quietAt execOp
    simp only [ho, Sem.run_bind, run_build w t _ R (by rw [hL]; exact hB), Result.andThen_ok]
    exact ⟨rfl, rfl⟩, hk⟩
theorem built_hash0 : Try.prog.built 23 [] = some (hashV zeros) := by kernel_rfl
theorem eq_hash0 (u : World) : (Op.equalIn 10000 23 (.agg (hashV zeros)) (.agg (hashV zeros))).run Try.prog u = .ok true u := by kernel_rfl

theorem quietC {P : Program} {f : FuncId} {args : Array Value} {w : World} {n : Nat} {v : Value} (h : Calls P f args (w.drewN n) fun e w' => e = .returned v ∧ w.drewN n = w') :
    Calls P f args (w.drewN n) fun e w' => e = .returned v ∧ ∃ m, w' = w.drewN m := Calls.quiet_of_same (h.mono fun _ _ h => ⟨h.1, h.2.symm⟩)
set_option maxHeartbeats 2000000 in
theorem mayOp_dep0 (w : World) : Calls Try.prog 23 #[.agg (opV 1 zeros 0 0 (.slice none 0 0))] w fun e w' => e = .returned (.bool false) ∧ Below w.heap.size w w' := by
  have hz : ∀ u : World, (zeroValue 75).run Try.prog u = .ok (.int .u64 0) u := fun u => by kernel_rfl
  have k0 : (w.alloc (.cells (opV 1 zeros 0 0 (.slice none 0 0)) 53)).cell? ⟨w.heap.size, 0, none⟩ = some (.int .i64 1) := OpB.new.kind
  go_enter Try.func23, Try.ntmps23
  go_wp2_with (go_at_call 44; refine (named_1 _).mono ?_; rintro e w1 ⟨rfl, rfl⟩)
  have b0 : Below w.heap.size w ((w.alloc (.cells (opV 1 zeros 0 0 (.slice none 0 0)) 53)).alloc (.cells #[.int .u64 6] 75)) := ((Below.refl _ _).alloc (Nat.le_refl _) _).alloc (by simp) _
  have o0 : OpB w.heap.size 1 zeros 0 0 (.slice none 0 0) ((w.alloc (.cells (opV 1 zeros 0 0 (.slice none 0 0)) 53)).alloc (.cells #[.int .u64 6] 75)) := OpB.new.below ((Below.refl _ _).alloc (Nat.le_refl _) _) (by simp)
  have n0 : ((w.alloc (.cells (opV 1 zeros 0 0 (.slice none 0 0)) 53)).alloc (.cells #[.int .u64 6] 75)).cell? ⟨w.heap.size + 1, 0, none⟩ = some (.int .u64 6) := by
    have h := heap_alloc_new (w.alloc (.cells (opV 1 zeros 0 0 (.slice none 0 0)) 53)) (.cells #[.int .u64 6] 75)
    rw [heap_sz] at h
    rw [cell_of_row _ _ 0 _ _ (0, 0) h]
    rfl
  generalize (w.alloc (.cells (opV 1 zeros 0 0 (.slice none 0 0)) 53)).alloc (.cells #[.int .u64 6] 75) = W at *
  have hval := o0.val
  have hstk : W.cell? ⟨w.heap.size, 33, none⟩ = some (.int .u64 0) := o0.stake
  have HKY := Lib.hid o0.key
  have HB := Lib.hid b0
  have HN0 := Lib.hid n0
  obtain ⟨H, hH⟩ : ∃ H, H = hashV zeros := ⟨_, rfl⟩
  have heq : ∀ u : World, (Op.equalIn 10000 23 (.agg H) (.agg H)).run Try.prog u = .ok true u := by rw [hH]; exact eq_hash0
  have HBD : Hid (Try.prog.built 23 [] = some H) := by rw [hH]; exact built_hash0
  have HSZ : Hid ((Try.prog.info? 23).map (·.size) = some H.size) := by rw [hH]; exact size_hashVW _
  have HAR : Hid ((hsC zeros).toArray = H) := hH.symm
  clear hH
  clear o0 b0 k0 hz
  refine wp_region_quiet_lit (by kernel_rfl) (by kernel_rfl) ?_
  iterate 15 (go_big_quiet_step (first | (go_at_call 47; exact quietC (mayVal_0 _)) | (go_at_call 45; exact quietC (right_no 6 1 _ _ _ _ HN0.out has_61))))
  go_big_quiet_want
  refine quiet_load_midC _ _ rfl w.heap.size 1 rfl (hsC zeros) H HAR.out _ (fun w hw => by obtain ⟨n, rfl⟩ := hw; exact HKY.out) Try.underlying23 rfl HSZ.out ?_
  go_simp
  go_big_quiet_on
  go_big_quiet_want
  refine quiet_build_as _ _ rfl [] H HBD.out (by kernel_rfl) ?_
  go_simp
  go_big_quiet_on
  iterate 2 (go_big_quiet_step ((go_at_call 45; exact quietC (right_yes 6 2 _ _ _ _ HN0.out has_62))))
  iterate 10 (go_big_quiet_step (first | (go_at_call 48; exact quietC (mayStake_0 _)) | (go_at_call 45; exact quietC (right_yes 6 4 _ _ _ _ HN0.out has_64))))
  repeat (go_big_quiet_step (fail))
  refine wpQuiet_nil ?_
  intro _ hw'
  obtain ⟨nq, hw''⟩ := hw'
  subst hw''
  go_wp2_with fail
  go_ret
  exact ⟨rfl, below_drewN HB.out nq⟩
end Go.Proofs.Ytaoddppkijopmaa
