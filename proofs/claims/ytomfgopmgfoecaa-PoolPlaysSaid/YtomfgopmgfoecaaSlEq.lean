/- == of checkpoints and links by value, as steps. -/
import Derived.Test.YtomfgopmgfoecaaSlKit
namespace Go.Proofs.Ytomfgopmgfoecaa
open Go.ChangeShapes Go.WideShapes Go.ChangeAt Go.RowKit
set_option linter.unusedVariables false
set_option maxRecDepth 100000

theorem eq_pointD (d : Nat) (x y : Pt) (w : World) :
    (Op.equalIn (d + 3) 37 (.agg (pv x)) (.agg (pv y))).run Try.prog w = .ok (decide (x = y)) w := by
  obtain ⟨e, l, he, hl⟩ := x
  obtain ⟨e', l', he', hl'⟩ := y
  have hd : decide ((⟨e, l, he, hl⟩ : Pt) = ⟨e', l', he', hl'⟩) = (e == e' && l == l') := by
    rw [Bool.eq_iff_iff, decide_eq_true_eq, Bool.and_eq_true, beq_iff_eq, beq_iff_eq]
    constructor
    · intro h; injection h with h1 h2; exact ⟨h1, h2⟩
    · rintro ⟨rfl, rfl⟩; rfl
  rw [hd]
  clear hd
  show (Op.equalIn (d + 3) 37 (.agg (ptV e l)) (.agg (ptV e' l'))).run Try.prog w = _
  have h1' := eq_hashD d l l' hl hl' w
  have h2 := run_equalIn_int (P := Try.prog) w (d + 1) 35 .u64 .u64 (e : Int) (e' : Int) Try.underlying35
  have e2 : (((e : Int)) == ((e' : Int))) = (e == e') := by
    rw [Bool.eq_iff_iff, beq_iff_eq, beq_iff_eq]
    omega
  rw [e2] at h2
  have h2' : (Op.equalIn (d + 2) 35 (.int .u64 (e : Int)) (.int .u64 (e' : Int))).run Try.prog w = .ok (e == e') w := h2
  have h := run_equalIn_struct (P := Try.prog) w (d + 2) 37 (ptV e l) (ptV e' l') (by kernel_rfl) (by kernel_rfl)
  rw [show d + 3 = (d + 2) + 1 from rfl, h]
  clear h h2 e2
  generalize d + 2 = D at *
  have p1 := part_epoch e l w
  have p2 := part_name e l w
  have p3 := part_epoch e' l' w
  have p4 := part_name e' l' w
  generalize ptV e l = X at *
  generalize ptV e' l' = Y at *
  simp only [Program.fieldsOf, Try.underlying37, Op.eqFields]
  rw [if_pos (by decide : "Epoch" ≠ "_"), if_pos (by decide : "Name" ≠ "_")]
  generalize (e == e') = r at *
  generalize (l == l') = s at *
  simp only [Sem.run_bind, p1, p3, Result.andThen_ok, h2']
  generalize hashV l = Hl at *
  generalize hashV l' = Hm at *
  clear h2' p1 p3
  cases r
  · simp only [Bool.not_false, if_true, Sem.run_pure, Bool.false_and]
  · rw [if_neg (by decide), Sem.run_bind, p2, Result.andThen_ok, Sem.run_bind, p4, Result.andThen_ok, Sem.run_bind, h1', Result.andThen_ok, Bool.true_and]
    clear h1' p2 p4
    cases s
    · simp only [Bool.not_false, if_true, Sem.run_pure]
    · rw [if_neg (by decide), Sem.run_pure]
theorem part_src (x : Lk) (w : World) : (Go.part 37 (lv x) 0).run Try.prog w = .ok (.agg (pv x.s)) w := by
  have a3 : (isAgg 37).run Try.prog w = .ok true w := by kernel_rfl
  have hx : (lv x).extract 0 33 = pv x.s := by kernel_rfl
  simp [Go.part, a3, hx]
theorem part_tgt (x : Lk) (w : World) : (Go.part 37 (lv x) 33).run Try.prog w = .ok (.agg (pv x.t)) w := by
  have a3 : (isAgg 37).run Try.prog w = .ok true w := by kernel_rfl
  have hx : (lv x).extract 33 66 = pv x.t := by kernel_rfl
  simp [Go.part, a3, hx]
theorem eq_link (x y : Lk) (w : World) : (Op.equalIn 10000 50 (.agg (lv x)) (.agg (lv y))).run Try.prog w = .ok (decide (x = y)) w := by
  have hd : decide (x = y) = (decide (x.s = y.s) && decide (x.t = y.t)) := by
    rw [Bool.eq_iff_iff, decide_eq_true_eq, Bool.and_eq_true, decide_eq_true_eq, decide_eq_true_eq]
    constructor
    · rintro rfl; exact ⟨rfl, rfl⟩
    · rintro ⟨h1, h2⟩; cases x; cases y; simp only at h1 h2; rw [h1, h2]
  rw [hd]
  clear hd
  have h1 : (Op.equalIn 9999 37 (.agg (pv x.s)) (.agg (pv y.s))).run Try.prog w = .ok (decide (x.s = y.s)) w := eq_pointD 9996 x.s y.s w
  have h2 : (Op.equalIn 9999 37 (.agg (pv x.t)) (.agg (pv y.t))).run Try.prog w = .ok (decide (x.t = y.t)) w := eq_pointD 9996 x.t y.t w
  have h := run_equalIn_struct (P := Try.prog) w 9999 50 (lv x) (lv y) (by kernel_rfl) (by kernel_rfl)
  rw [show (10000 : Nat) = 9999 + 1 from rfl, h]
  clear h
  generalize (9999 : Nat) = d at *
  have p1 := part_src x w
  have p2 := part_tgt x w
  have p3 := part_src y w
  have p4 := part_tgt y w
  generalize lv x = X at *
  generalize lv y = Y at *
  generalize pv x.s = A1 at *
  generalize pv y.s = A2 at *
  generalize pv x.t = A3 at *
  generalize pv y.t = A4 at *
  simp only [Program.fieldsOf, Try.underlying50, Op.eqFields]
  rw [if_pos (by decide : "Source" ≠ "_"), if_pos (by decide : "Target" ≠ "_")]
  generalize decide (x.s = y.s) = r at *
  generalize decide (x.t = y.t) = s at *
  simp only [Sem.run_bind, p1, p3, Result.andThen_ok, h1]
  clear h1 p1 p3
  cases r
  · simp only [Bool.not_false, if_true, Sem.run_pure, Bool.false_and]
  · rw [if_neg (by decide), Sem.run_bind, p2, Result.andThen_ok, Sem.run_bind, p4, Result.andThen_ok, Sem.run_bind, h2, Result.andThen_ok, Bool.true_and]
    clear h2 p2 p4
    cases s
    · simp only [Bool.not_false, if_true, Sem.run_pure]
    · rw [if_neg (by decide), Sem.run_pure]
section
variable {P : Program} {op : Oper} {a : Act} {w : World} {K : Act → World → Prop} {Q : Exit → Act → World → Prop}
theorem wp_eql (t r : TypeId) (x y : Operand) (ho : op.op = .binOp .eql t x y r) (X Y : Array Value) (hx : a.eval x = .agg X) (hy : a.eval y = .agg Y) (hm : P.eqGuardType P.depth t = false) (b : Bool) (he : (Op.equalIn 10000 t (.agg X) (.agg Y)).run P w = .ok b w)
    (h : K (a.put op.dst (.bool b)) w) : op.wp P a w K Q := by
  unfold Oper.wp execOp
  simp only [ho, hx, hy, Sem.run_bind, run_eqGuard_agg (P := P) w .eql t x y X Y hm, run_eql_struct (P := P) w t X Y, he, Result.andThen_ok]
  exact h
theorem wp_neq (t r : TypeId) (x y : Operand) (ho : op.op = .binOp .neq t x y r) (X Y : Array Value) (hx : a.eval x = .agg X) (hy : a.eval y = .agg Y) (hm : P.eqGuardType P.depth t = false) (b : Bool) (he : (Op.equalIn 10000 t (.agg X) (.agg Y)).run P w = .ok b w)
    (h : K (a.put op.dst (.bool (!b))) w) : op.wp P a w K Q := by
  unfold Oper.wp execOp
  simp only [ho, hx, hy, Sem.run_bind, run_eqGuard_agg (P := P) w .neq t x y X Y hm, run_neq_struct (P := P) w t X Y, he, Result.andThen_ok]
  exact h
theorem yieldsIf_eql {ops : Array Oper} {S : World → Prop} (hw : Region.wanted op (yielded ops a.tmps) = true) (t r : TypeId) (x y : Operand) (ho : op.op = .binOp .eql t x y r) (X Y : Array Value) (hx : a.eval x = .agg X) (hy : a.eval y = .agg Y) (hm : P.eqGuardType P.depth t = false) (b : Bool) (he : ∀ w, (Op.equalIn 10000 t (.agg X) (.agg Y)).run P w = .ok b w) : YieldsIf P ops S op (.bool b) a :=
  Or.inl ⟨hw, fun w _ => by
    unfold execOp
    simp only [ho, hx, hy, Sem.run_bind, run_eqGuard_agg (P := P) w .eql t x y X Y hm, run_eql_struct (P := P) w t X Y, he, Result.andThen_ok]
    rfl⟩
theorem yieldsIf_neq {ops : Array Oper} {S : World → Prop} (hw : Region.wanted op (yielded ops a.tmps) = true) (t r : TypeId) (x y : Operand) (ho : op.op = .binOp .neq t x y r) (X Y : Array Value) (hx : a.eval x = .agg X) (hy : a.eval y = .agg Y) (hm : P.eqGuardType P.depth t = false) (b : Bool) (he : ∀ w, (Op.equalIn 10000 t (.agg X) (.agg Y)).run P w = .ok b w) : YieldsIf P ops S op (.bool (!b)) a :=
  Or.inl ⟨hw, fun w _ => by
    unfold execOp
    simp only [ho, hx, hy, Sem.run_bind, run_eqGuard_agg (P := P) w .neq t x y X Y hm, run_neq_struct (P := P) w t X Y, he, Result.andThen_ok]
    rfl⟩
end
theorem guard_point : Try.prog.eqGuardType Try.prog.depth 37 = false := by kernel_rfl
theorem guard_link : Try.prog.eqGuardType Try.prog.depth 50 = false := by kernel_rfl
theorem eq_point9 (x y : Pt) (w : World) : (Op.equalIn 10000 37 (.agg (pv x)) (.agg (pv y))).run Try.prog w = .ok (decide (x = y)) w := eq_pointD 9997 x y w
end Go.Proofs.Ytomfgopmgfoecaa
