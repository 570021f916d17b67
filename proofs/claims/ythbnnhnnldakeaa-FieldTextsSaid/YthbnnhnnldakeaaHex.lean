/- Contracts: Hex. -/
import Derived.Test.YthbnnhnnldakeaaPlain
import Derived.Deep.RegionLaw
import Derived.Deep.DeepCutAuto
namespace Go.Proofs.Ythbnnhnnldakeaa
open Go.ChangeShapes Go.WideShapes Go.ChangeAt Go.RowKit
set_option linter.unusedVariables false

/-- The sign of 0 to 15. -/
def sg (k : Nat) : UInt8 := UInt8.ofNat (if k < 10 then 48 + k else 87 + k)
/-- A text of bytes. -/
def hexL (l : List UInt8) : List UInt8 := l.flatMap fun x => [sg (x.toNat / 16), sg (x.toNat % 16)]
theorem hexL_append (a b : List UInt8) : hexL (a ++ b) = hexL a ++ hexL b := by simp [hexL]
theorem hexL_length (l : List UInt8) : (hexL l).length = 2 * l.length := by
  induction l with
  | nil => rfl
  | cons x l ih => simp only [hexL, List.flatMap_cons, List.length_append, List.length_cons, List.length_nil] at ih ⊢; omega
theorem hexL_take (l : List UInt8) (k : Nat) (h : k < l.length) : hexL (l.take (k + 1)) = hexL (l.take k) ++ [sg (l[k].toNat / 16), sg (l[k].toNat % 16)] := by
  rw [List.take_succ_eq_append_getElem h, hexL_append]
  rfl

section
variable {P : Program} (w : World)
/-- The append as a step of a region that draws its order. -/
theorem step_append_rd {ops : Array Oper} {o : Oper} {a : Act} {K : Act → World → Prop} {Q : Exit → Act → World → Prop} {E : Prop} (hgd : o.guard = none) (s x : Operand) (t : TypeId)
    (ho : o.op = .call { callee := .builtin .append, args := #[s, x], argTypes := #[t, t] })
    (base : Nat) (e : TypeId) (i : TypeInfo) (z : Value) (ht : P.underlying t = some (.slice e)) (hi : P.info? e = some i) (hz : i.zero = some z)
    (hsize : i.size = 1) (hby : i.bytes = 1) (hzs : z.cells.size = 1)
    (v : Value) (n : Nat) (xs : List Value) (hs : a.eval s = v) (hown : w.ownsRow base e 1 v n xs)
    (lo hi' : Nat) (A : Option Addr) (c m : Nat) (l : List UInt8) (hm : m = l.length) (hx : a.eval x = .slice A m c) (hr : Rd w lo hi' A l) (h63 : n + l.length ≤ 140737488355328) (hbase : base ≤ w.heap.size)
    (h : ∀ v' w', w'.ownsRow base e 1 v' (n + l.length) (xs ++ l.map bv) → w.grownBy w' v.ownBlock → K (a.put o.dst v') w') :
    if Region.wanted o (yielded ops a.tmps) = true then Oper.wp P o a w K Q else E := by
  subst hm
  have hw : Region.wanted o (yielded ops a.tmps) = true := by simp [Region.wanted, hgd]
  rw [if_pos hw]
  obtain ⟨v', w', hrun, h2, h3, _⟩ := run_append_rd (P := P) w base t o.type e i z ht hi hz hsize hby hzs v n xs hown lo hi' A c l hr h63 hbase
  unfold Oper.wp execOp
  simp only [ho, resolve, invoke, builtin, Sem.run_bind, Sem.run_pure, Result.andThen_ok, List.map_toArray, List.map_cons, List.map_nil, hs, hx, hrun]
  exact h v' w' h2 h3
end

/-- The table of signs. -/
theorem idx_sg (q : Nat) (h : q < 16) (u : World) : (Instr.index 9 (.string { data := #[48, 49, 50, 51, 52, 53, 54, 55, 56, 57, 97, 98, 99, 100, 101, 102] }) (.int .u8 (q : Int))).run Try.prog u = .ok (bv (sg q)) u := by
  obtain rfl | rfl | rfl | rfl | rfl | rfl | rfl | rfl | rfl | rfl | rfl | rfl | rfl | rfl | rfl | rfl : q = 0 ∨ q = 1 ∨ q = 2 ∨ q = 3 ∨ q = 4 ∨ q = 5 ∨ q = 6 ∨ q = 7 ∨ q = 8 ∨ q = 9 ∨ q = 10 ∨ q = 11 ∨ q = 12 ∨ q = 13 ∨ q = 14 ∨ q = 15 := by omega
  all_goals kernel_rfl
theorem idx_hi (x : Nat) (h : x < 256) (u : World) : (Instr.index 9 (.string { data := #[48, 49, 50, 51, 52, 53, 54, 55, 56, 57, 97, 98, 99, 100, 101, 102] }) (.int .u8 ((x : Int) / 16))).run Try.prog u = .ok (bv (sg (x / 16))) u := by
  have := idx_sg (x / 16) (by omega) u
  rwa [show (((x / 16 : Nat)) : Int) = (x : Int) / 16 by omega] at this
theorem idx_lo (x : Nat) (h : x < 256) (u : World) : (Instr.index 9 (.string { data := #[48, 49, 50, 51, 52, 53, 54, 55, 56, 57, 97, 98, 99, 100, 101, 102] }) (.int .u8 ((x : Int) % 16))).run Try.prog u = .ok (bv (sg (x % 16))) u := by
  have := idx_sg (x % 16) (by omega) u
  rwa [show (((x % 16 : Nat)) : Int) = (x : Int) % 16 by omega] at this

theorem and15 (x : Nat) (h : x < 256) : bits .and .u8 (x : Int) 15 = (x : Int) % 16 := by
  have e := u8_and_nat x 15 (by omega) (by omega)
  rw [show ((15 : Nat) : Int) = 15 by rfl] at e
  rw [e, show (15 : Nat) = 2 ^ 4 - 1 by rfl, Nat.and_two_pow_sub_one_eq_mod]
  omega

set_option maxHeartbeats 1000000 in
theorem hex_any (A : Option Addr) (c : Nat) (l : List UInt8) (w : World) (h : Rd w 0 w.heap.size A l) (hl : 2 * l.length ≤ 140737488355328) :
    Calls Try.prog 18 #[.slice A l.length c] w fun e w' => e = .returned (strOf (hexL l)) ∧ Below w.heap.size w w' := by
  obtain ⟨i0, hi0, hz0, hz1, hz2⟩ := info_parts byte_info
  have hmk : ∀ u : World, (Instr.makeSlice 23 (.int .i64 0) (.int .i64 (2 * (l.length : Int)))).run Try.prog u = .ok (.slice (some ⟨u.heap.size, 0, none⟩) 0 (2 * l.length)) (u.alloc (.cells (madeCells #[.int .u8 0] (2 * l.length)) 5)) := fun u => by
    have h := run_make (P := Try.prog) u 23 5 i0 (.int .u8 0) Try.underlying23 hi0 hz0 .i64 .i64 0 (2 * (l.length : Int)) (by omega) (by omega) (by rw [hz2]; omega) (by omega)
    rw [show (2 * (l.length : Int)).toNat = 2 * l.length by omega] at h
    simpa [hz1, Value.cells] using h
  go_enter Try.func18, Try.ntmps18
  go_wp2
  go_loopw [3, 12] (fun v i wr => ∃ k : Nat, k ≤ l.length ∧ i = .int .i64 k ∧ wr.ownsRow w.heap.size 5 1 v (hexL (l.take k)).length ((hexL (l.take k)).map bv) ∧ Below w.heap.size w wr) (fun _ i _ => l.length - (intOf i).toNat)
  case atStart => exact ⟨0, Nat.zero_le _, rfl, World.ownsRow_made (base := w.heap.size) (e := 5) (size := 1) w _ _ (Nat.le_refl _) (by simp only [maxLen]; omega) (by simp [madeCells]), (Below.refl _ _).alloc (Nat.le_refl _) _⟩
  case round =>
    obtain ⟨k, hk, rfl, hown, hb⟩ := hrel
    by_cases hlt : k < l.length
    · obtain ⟨b, off, rfl, _, _, hc⟩ := (h.below hb (Nat.le_refl _)).at_ hlt
      unfold bv at hc
      have HT := Lib.hid (hexL_take l k hlt)
      have hx := l[k].toNat_lt
      generalize l[k].toNat = x at *
      have j1 := idx_hi x hx
      have j2 := idx_lo x hx
      have hand := and15 x hx
      unfold bv at j1 j2
      have hf : (hexL (l.take k)).length + 2 ≤ 140737488355328 := by rw [hexL_length, List.length_take]; omega
      go_wp2
      go_region_law (refine step_append_rd _ rfl (.tmp 16) (.tmp 23) _ rfl w.heap.size 5 i0 _ Try.underlying23 hi0 hz0 hz1 hz2 rfl u3 _ _ (by simp [Act.eval]) (hown.drew.alloc _) 0 (wr.heap.size + 1) (some ⟨wr.heap.size, 0, none⟩) 2 2 [sg (x / 16), sg (x % 16)] rfl (by simp [Act.eval]) (by exact Rd.lit wr.drew [sg (x / 16), sg (x % 16)] (0, 0)) (by simp; omega) (by simp; have := hb.size; omega) ?_; intro v1 w1 hown1 hg1)
      all_goals
        go_wp2
        refine ⟨⟨k + 1, by omega, by go_num, ?_, ?_⟩, by simp [intOf]; omega⟩
        · rw [HT.out, List.length_append, List.map_append]
          exact hown1
        · exact ((hb.drew).alloc hb.size _).grown hg1 (by simp; have := hb.size; omega) (fun g hg => (hown.lt g hg).1)
    · obtain rfl : k = l.length := by omega
      rw [List.take_length] at hown
      obtain ⟨A', c', e, _⟩ := own_form hown
      subst e
      obtain ⟨h1, _, h3⟩ := Ow.of_own hown
      have hs := run_str h1.rd _ c' rfl
      unfold strOf at hs
      go_wp2
      go_ret
      exact ⟨rfl, hb⟩
end Go.Proofs.Ythbnnhnnldakeaa
