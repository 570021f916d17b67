/- == of checkpoints by value. -/
import Derived.Test.YtaoddppkijopmaaEqRow
import Derived.Test.YtaoddppkijopmaaPtKit
namespace Go.Proofs.Ytaoddppkijopmaa
open Go.ChangeShapes Go.WideShapes Go.ChangeAt Go.RowKit
set_option linter.unusedVariables false
set_option maxRecDepth 100000

theorem eq_itemsD (d n : Nat) (a b : List UInt8) (w : World) : ∀ is : List Nat, (∀ i ∈ is, i < n) → (Op.eqItems (d + 1) 5 1 (rowV n (hF a)) (rowV n (hF b)) is).run Try.prog w = .ok (is.all fun i => a.getD i 0 == b.getD i 0) w := by
  intro is
  induction is with
  | nil => intro _; simp [Op.eqItems]
  | cons i is ih =>
    intro h
    have hi := h i (by simp)
    have ih' := ih (fun j hj => h j (by simp [hj]))
    have e := run_equalIn_int (P := Try.prog) w d 5 .u8 .u8 ((a.getD i 0).toNat : Int) ((b.getD i 0).toNat : Int) Try.underlying5
    have e2 : (((a.getD i 0).toNat : Int) == ((b.getD i 0).toNat : Int)) = (a.getD i 0 == b.getD i 0) := by
      rw [Bool.eq_iff_iff, beq_iff_eq, beq_iff_eq]
      constructor
      · intro h; exact UInt8.toNat_inj.1 (by omega)
      · intro h; rw [h]
    rw [e2] at e
    have e3 : (Op.equalIn (d + 1) 5 (bv (a.getD i 0)) (bv (b.getD i 0))).run Try.prog w = .ok (a.getD i 0 == b.getD i 0) w := e
    simp only [Op.eqItems, Sem.run_bind, part_row n a i hi, part_row n b i hi, Result.andThen_ok, e3, List.all_cons]
    cases (a.getD i 0 == b.getD i 0)
    · simp
    · simpa using ih'
theorem eq_hashD (d : Nat) (a b : List UInt8) (ha : a.length = 32) (hb : b.length = 32) (w : World) : (Op.equalIn (d + 2) 23 (.agg (hashV a)) (.agg (hashV b))).run Try.prog w = .ok (a == b) w := by
  obtain ⟨i, hi, hz⟩ := Option.map_eq_some_iff.1 size_u8e
  have h := run_equalIn_array (P := Try.prog) w (d + 1) (hashV a) (hashV b) Try.underlying23 hi
  have c1 : Try.prog.cellsOf 5 = 1 := by kernel_rfl
  unfold hashV at h ⊢
  rw [c1, eq_itemsD d 32 a b w _ (fun i hi => List.mem_range.1 hi)] at h
  rw [h]
  congr 1
  rw [Bool.eq_iff_iff, beq_iff_eq, List.all_eq_true]
  constructor
  · intro h
    apply List.ext_getElem?
    intro i
    by_cases hi : i < 32
    · have h3 := beq_iff_eq.1 (h i (List.mem_range.2 hi))
      rw [List.getD_eq_getElem?_getD, List.getD_eq_getElem?_getD, List.getElem?_eq_getElem (by omega), List.getElem?_eq_getElem (by omega)] at h3
      rw [List.getElem?_eq_getElem (by omega), List.getElem?_eq_getElem (by omega)]
      exact congrArg some h3
    · rw [List.getElem?_eq_none (by omega), List.getElem?_eq_none (by omega)]
  · intro h i _
    rw [h]
    simp
theorem part_epoch (e : Nat) (l : List UInt8) (w : World) : (Go.part 24 (ptV e l) 0).run Try.prog w = .ok (.int .u64 (e : Int)) w := by
  have h := rowV_at 33 (ptF e l) 0 (by omega)
  have a3 : (isAgg 24).run Try.prog w = .ok false w := by kernel_rfl
  unfold ptV
  simp [Go.part, a3, h, ptF]
theorem part_name (e : Nat) (l : List UInt8) (w : World) : (Go.part 23 (ptV e l) 1).run Try.prog w = .ok (.agg (hashV l)) w := by
  have a3 : (isAgg 23).run Try.prog w = .ok true w := by kernel_rfl
  have hx : (ptV e l).extract 1 33 = hashV l := by kernel_rfl
  simp [Go.part, a3, hx]
theorem eq_point (e e' : Nat) (l l' : List UInt8) (hl : l.length = 32) (hl' : l'.length = 32) (w : World) :
    (Op.equalIn 10000 29 (.agg (ptV e l)) (.agg (ptV e' l'))).run Try.prog w = .ok (e == e' && l == l') w := by
  have h1 := eq_hashD 9997 l l' hl hl' w
  have h2 := run_equalIn_int (P := Try.prog) w 9998 24 .u64 .u64 (e : Int) (e' : Int) Try.underlying24
  have e2 : (((e : Int)) == ((e' : Int))) = (e == e') := by
    rw [Bool.eq_iff_iff, beq_iff_eq, beq_iff_eq]
    omega
  rw [e2] at h2
  have h1' : (Op.equalIn 9999 23 (.agg (hashV l)) (.agg (hashV l'))).run Try.prog w = .ok (l == l') w := h1
  have h2' : (Op.equalIn 9999 24 (.int .u64 (e : Int)) (.int .u64 (e' : Int))).run Try.prog w = .ok (e == e') w := h2
  have h := run_equalIn_struct (P := Try.prog) w 9999 29 (ptV e l) (ptV e' l') (by kernel_rfl) (by kernel_rfl)
  rw [show (10000 : Nat) = 9999 + 1 from rfl, h]
  clear h h1 h2 e2
  generalize (9999 : Nat) = d at *
  have p1 := part_epoch e l w
  have p2 := part_name e l w
  have p3 := part_epoch e' l' w
  have p4 := part_name e' l' w
  generalize ptV e l = X at *
  generalize ptV e' l' = Y at *
  simp only [Program.fieldsOf, Try.underlying29, Op.eqFields]
  rw [if_pos (by decide : "Epoch" ≠ "_"), if_pos (by decide : "Name" ≠ "_")]
  generalize (e == e') = r at *
  generalize (l == l') = s at *
  simp only [Sem.run_bind, p1, p3, Result.andThen_ok, h2']
  generalize hashV l = Hl at *
  generalize hashV l' = Hm at *
  clear h2' p1 p3
  cases r
  · simp only [Bool.not_false, if_true, Sem.run_pure, Bool.false_and]
  · rw [if_neg (by decide), Sem.run_bind, p2, Result.andThen_ok, Sem.run_bind, p4, Result.andThen_ok, Sem.run_bind, h1', Result.andThen_ok, Bool.true_and]
    clear h1' p2 p4
    cases s
    · simp only [Bool.not_false, if_true, Sem.run_pure]
    · rw [if_neg (by decide), Sem.run_pure]
end Go.Proofs.Ytaoddppkijopmaa
