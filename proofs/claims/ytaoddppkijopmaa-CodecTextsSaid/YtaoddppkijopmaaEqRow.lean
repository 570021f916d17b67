/- == of two arrays of bytes by value. -/
import Derived.Test.YtaoddppkijopmaaWoFill
import Derived.ChangeKeysEq
import Derived.Laws.StructEq
namespace Go.Proofs.Ytaoddppkijopmaa
open Go.ChangeShapes Go.WideShapes Go.ChangeAt Go.RowKit
set_option linter.unusedVariables false
set_option maxRecDepth 100000

theorem size_u8e : (Try.prog.info? 5).map (·.size) = some 1 := by kernel_rfl
theorem part_row (n : Nat) (l : List UInt8) (i : Nat) (hi : i < n) (w : World) : (Go.part 5 (rowV n (hF l)) (i * 1)).run Try.prog w = .ok (bv (l.getD i 0)) w := by
  have h := rowV_at n (hF l) i hi
  have a3 : (isAgg 5).run Try.prog w = .ok false w := by kernel_rfl
  simp [Go.part, a3, h, hF]
theorem eq_itemsN (n : Nat) (a b : List UInt8) (w : World) : ∀ is : List Nat, (∀ i ∈ is, i < n) → (Op.eqItems 9999 5 1 (rowV n (hF a)) (rowV n (hF b)) is).run Try.prog w = .ok (is.all fun i => a.getD i 0 == b.getD i 0) w := by
  intro is
  induction is with
  | nil => intro _; simp [Op.eqItems]
  | cons i is ih =>
    intro h
    have hi := h i (by simp)
    have ih' := ih (fun j hj => h j (by simp [hj]))
    have e := run_equalIn_int (P := Try.prog) w 9998 5 .u8 .u8 ((a.getD i 0).toNat : Int) ((b.getD i 0).toNat : Int) Try.underlying5
    have e2 : (((a.getD i 0).toNat : Int) == ((b.getD i 0).toNat : Int)) = (a.getD i 0 == b.getD i 0) := by
      rw [Bool.eq_iff_iff, beq_iff_eq, beq_iff_eq]
      constructor
      · intro h; exact UInt8.toNat_inj.1 (by omega)
      · intro h; rw [h]
    rw [e2] at e
    have e3 : (Op.equalIn 9999 5 (bv (a.getD i 0)) (bv (b.getD i 0))).run Try.prog w = .ok (a.getD i 0 == b.getD i 0) w := e
    simp only [Op.eqItems, Sem.run_bind, part_row n a i hi, part_row n b i hi, Result.andThen_ok, e3, List.all_cons]
    cases (a.getD i 0 == b.getD i 0)
    · simp
    · simpa using ih'
theorem eq_row (n : Nat) (ty : TypeId) (hu : Try.prog.underlying ty = some (.array n 5)) (a b : List UInt8) (ha : a.length = n) (hb : b.length = n) (w : World) : (Op.equalIn 10000 ty (.agg (rowV n (hF a))) (.agg (rowV n (hF b)))).run Try.prog w = .ok (a == b) w := by
  obtain ⟨i, hi, hz⟩ := Option.map_eq_some_iff.1 size_u8e
  have h := run_equalIn_array (P := Try.prog) w 9999 (rowV n (hF a)) (rowV n (hF b)) hu hi
  have c1 : Try.prog.cellsOf 5 = 1 := by kernel_rfl
  rw [c1, eq_itemsN n a b w _ (fun i hi => List.mem_range.1 hi)] at h
  rw [show (10000 : Nat) = 9999 + 1 from rfl, h]
  congr 1
  rw [Bool.eq_iff_iff, beq_iff_eq, List.all_eq_true]
  constructor
  · intro h
    apply List.ext_getElem?
    intro i
    by_cases hi : i < n
    · have h3 := beq_iff_eq.1 (h i (List.mem_range.2 hi))
      rw [List.getD_eq_getElem?_getD, List.getD_eq_getElem?_getD, List.getElem?_eq_getElem (by omega), List.getElem?_eq_getElem (by omega)] at h3
      rw [List.getElem?_eq_getElem (by omega), List.getElem?_eq_getElem (by omega)]
      exact congrArg some h3
    · rw [List.getElem?_eq_none (by omega), List.getElem?_eq_none (by omega)]
  · intro h i _
    rw [h]
    simp
end Go.Proofs.Ytaoddppkijopmaa
