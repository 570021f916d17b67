/- Contract: bytes come to a file's end: the closure. -/
import Derived.Test.YtcemfpbkaahcmaaRoom
import Derived.Deep.RegionLaw
namespace Go.Proofs.Ytcemfpbkaahcmaa
open Go.RowKit Go.Shelf
set_option linter.unusedVariables false

section
variable {P : Program} (w : World)
/-- An append of bytes inside a drawn region, with the place of what comes of it. -/
theorem step_append_at {ops : Array Oper} {o : Oper} {a : Act} {K : Act → World → Prop} {Q : Exit → Act → World → Prop} {E : Prop} (hgd : o.guard = none) (s x : Operand) (t : TypeId)
    (ho : o.op = .call { callee := .builtin .append, args := #[s, x], argTypes := #[t, t] })
    (base : Nat) (e : TypeId) (i : TypeInfo) (z : Value) (ht : P.underlying t = some (.slice e)) (hi : P.info? e = some i) (hz : i.zero = some z)
    (hsize : i.size = 1) (hby : i.bytes = 1) (hzs : z.cells.size = 1)
    (v : Value) (n : Nat) (xs : List Value) (hs : a.eval s = v) (hown : w.ownsRow base e 1 v n xs)
    (lo hi' : Nat) (A : Option Addr) (c m : Nat) (l : List UInt8) (hm : m = l.length) (hx : a.eval x = .slice A m c) (hr : Rd w lo hi' A l) (h63 : n + l.length ≤ 140737488355328) (hbase : base ≤ w.heap.size)
    (h : ∀ v' w', w'.ownsRow base e 1 v' (n + l.length) (xs ++ l.map bv) → w.grownBy w' v.ownBlock → (v'.ownBlock = v.ownBlock ∨ v'.ownBlock = some w.heap.size) → K (a.put o.dst v') w') :
    if Region.wanted o (yielded ops a.tmps) = true then Oper.wp P o a w K Q else E := by
  subst hm
  have hw : Region.wanted o (yielded ops a.tmps) = true := by simp [Region.wanted, hgd]
  rw [if_pos hw]
  obtain ⟨v', w', hrun, h2, h3, h4⟩ := run_append_rd (P := P) w base t o.type e i z ht hi hz hsize hby hzs v n xs hown lo hi' A c l hr h63 hbase
  unfold Oper.wp execOp
  simp only [ho, resolve, invoke, builtin, Sem.run_bind, Sem.run_pure, Result.andThen_ok, List.map_toArray, List.map_cons, List.map_nil, hs, hx, hrun]
  exact h v' w' h2 h3 h4
end

section
variable {w : World} {base : Nat}
/-- What the closure of Append leaves: the bytes stand in the file's row, and the file has that row. -/
def AppQ (w : World) (base k n : Nat) (v : Value) (b x : List UInt8) (w' : World) : Prop :=
  ∃ v' w1, w.grownBy w1 v.ownBlock ∧ w1.ownsRow base 5 1 v' (b ++ x).length ((b ++ x).map bv) ∧ (v'.ownBlock = v.ownBlock ∨ v'.ownBlock = some w.heap.size) ∧ FileTo w1 k v' n w'
theorem grown_undrew {w1 : World} {row : Option Nat} (h : w.drew.grownBy w1 row) : w.grownBy w1 row := ⟨h.os, h.tape, h.output, h.size, h.block⟩
theorem app_close {k n : Nat} {v : Value} {A1 : Option Addr} {b x : List UInt8} {t c1 : Nat} {w1 : World} (hg : w.grownBy w1 v.ownBlock) (hown : w1.ownsRow base 5 1 (.slice A1 (b.length + (x.take t).length) c1) (b.length + (x.take t).length) (b.map bv ++ (x.take t).map bv))
    (hat : (Value.slice A1 (b.length + (x.take t).length) c1).ownBlock = v.ownBlock ∨ (Value.slice A1 (b.length + (x.take t).length) c1).ownBlock = some w.heap.size) (hb : w1.heap[k]? = some (.cells (fileV v n) 71 (0, 0))) (ht : t = (x.take t).length) :
    AppQ w base k n v b (x.take t) (w1.setCell ⟨k, 0, none⟩ (.slice A1 (b.length + t) c1)) := by
  rw [← ht] at hown hat
  refine ⟨_, w1, hg, ?_, hat, (FileTo.refl hb).set0 _⟩
  rw [List.length_append, ← ht, List.map_append]
  exact hown
set_option maxHeartbeats 4000000 in
theorem append_do {k n bf bb lo hi c' : Nat} {v : Value} {A' : Option Addr} {b x : List UInt8} (met : Int) (hb : w.heap[k]? = some (.cells (fileV v n) 71 (0, 0))) (hown : w.ownsRow base 5 1 v b.length (b.map bv))
    (hx : w.heap[bf]? = some (.cells #[.pointer (some ⟨k, 0, none⟩)] 68 (0, 0))) (hy : w.heap[bb]? = some (.cells #[.slice A' x.length c'] 33 (0, 0)))
    (hr : Rd w lo hi A' x) (hxc : x.length ≤ c') (hcm : c' ≤ maxLen) (hsz : b.length + x.length ≤ 1073741824) (hbase : base ≤ w.heap.size) :
    Calls Try.prog 48 #[.int .i64 met, .pointer (some ⟨bb, 0, none⟩), .pointer (some ⟨bf, 0, none⟩)] w fun e w' => e = .returned (.tuple #[]) ∧ AppQ w base k n v b (x.take (if met = 9 then x.length / 2 else x.length)) w' := by
  unfold maxLen at hcm
  obtain ⟨A, c, rfl, _⟩ := row_form hown
  obtain ⟨i0, hi0, hz0, hz1, hz2⟩ := info_parts byte_info
  have HB := Lib.hid hb
  have HX := Lib.hid hx
  have HY := Lib.hid hy
  have HO := Lib.hid hown
  have HR := Lib.hid hr
  have hne : bf ≠ k := ne_types hx hb (by decide)
  have hne2 : bb ≠ k := ne_types hy hb (by decide)
  obtain ⟨c0, _⟩ := file_cells hb
  have f0 := free_block (j := 0) hb
  have cf := cell_of_one hx
  have cb := cell_of_one hy
  have hko : ∀ g, (Value.slice A b.length c).ownBlock = some g → g ≠ k ∧ g ≠ bf ∧ g ≠ bb := fun g hg => by
    rcases hown.2 with ⟨h1, _⟩ | ⟨g', cap, cur, h1, _, h2, _⟩
    · rw [h1] at hg; simp [Value.ownBlock] at hg
    · rw [h1] at hg
      simp only [Value.ownBlock, Option.some.injEq] at hg
      subst hg
      exact ⟨ne_types h2 hb (by decide), ne_types h2 hx (by decide), ne_types h2 hy (by decide)⟩
  have HKO := Lib.hid hko
  have HC := Lib.hid (fun (u : World) (hg : w.grownBy u (Value.slice A b.length c).ownBlock) => (⟨(hg.block k (lt_of_block hb) (fun e => (hko k e.symm).1 rfl)).trans hb, cell_of_one ((hg.block bf (lt_of_block hx) (fun e => (hko bf e.symm).2.1 rfl)).trans hx), cell_of_one ((hg.block bb (lt_of_block hy) (fun e => (hko bb e.symm).2.2 rfl)).trans hy)⟩ :
    u.heap[k]? = some (.cells (fileV (.slice A b.length c) n) 71 (0, 0)) ∧ u.cell? ⟨bf, 0, none⟩ = some (.pointer (some ⟨k, 0, none⟩)) ∧ u.cell? ⟨bb, 0, none⟩ = some (.slice A' x.length c')))
  have HT := Lib.hid (hr.take (if met = 9 then x.length / 2 else x.length))
  clear hb hx hy hown hr hko
  obtain ⟨t, ht⟩ : ∃ t, t = (if met = 9 then x.length / 2 else x.length) := ⟨_, rfl⟩
  have htx : t ≤ x.length := by rw [ht]; split <;> omega
  rw [← ht] at HT ⊢
  have hlt : t = (x.take t).length := by rw [List.length_take]; omega
  have HLT := Lib.hid hlt
  clear hlt
  have hd0 : w.drew.grownBy w.drew none := World.grownBy.refl _ _
  have htc : (t : Int) ≤ (c' : Int) := by omega
  have ht0 : (0 : Int) ≤ (t : Int) := by omega
  have HSZ := Lib.hid (show b.length + (x.take t).length ≤ 140737488355328 by have := HLT.out; omega)
  clear hd0
  by_cases hm : met = 9
  · have q : (met == 9) = true := by simpa using hm
    have ht2 : t = x.length / 2 := by rw [ht, if_pos hm]
    have HE := Lib.hid (show (x.length : Int) / 2 = (t : Int) by omega)
    clear ht hm ht2
    go_enter Try.func48, Try.ntmps48
    go_wp2
    rw [HE.out]
    clear HE
    go_region_law
      (refine step_append_at _ rfl (.tmp 15) (.tmp 18) _ rfl base 5 i0 _ Try.underlying33 hi0 hz0 hz1 hz2 rfl (.slice A b.length c) b.length (b.map bv) (by simp [Act.eval, Act.put]) HO.out.drew lo hi A' c' t (x.take t) HLT.out (by simp [Act.eval, Act.put]) (HT.out.keep (fun _ _ _ => rfl)) HSZ.out hbase ?_; intro v1 w1 hown1 hg1 hat1; obtain ⟨A1, c1, rfl, _⟩ := row_form hown1; have HOWN1 := Lib.hid hown1; have HG1 := Lib.hid (grown_undrew hg1); have HAT1 := Lib.hid hat1; have hcc := HC.out w1 (⟨hg1.os, hg1.tape, hg1.output, hg1.size, hg1.block⟩); have HCC := Lib.hid hcc.1; have d0 := (file_cells hcc.1).1; have e0 := free_block (j := 0) hcc.1; have df := hcc.2.1; clear hown1 hg1 hat1 hcc)
    all_goals
      go_end0
      exact ⟨rfl, app_close HG1.out HOWN1.out HAT1.out HCC.out HLT.out⟩
  · have q : (met == 9) = false := by simpa using hm
    obtain rfl : t = x.length := by rw [ht, if_neg hm]
    clear ht hm
    go_enter Try.func48, Try.ntmps48
    go_wp2
    go_region_law
      (refine step_append_at _ rfl (.tmp 15) (.tmp 18) _ rfl base 5 i0 _ Try.underlying33 hi0 hz0 hz1 hz2 rfl (.slice A b.length c) b.length (b.map bv) (by simp [Act.eval, Act.put]) HO.out.drew lo hi A' c' x.length (x.take x.length) HLT.out (by simp [Act.eval, Act.put]) (HT.out.keep (fun _ _ _ => rfl)) HSZ.out hbase ?_; intro v1 w1 hown1 hg1 hat1; obtain ⟨A1, c1, rfl, _⟩ := row_form hown1; have HOWN1 := Lib.hid hown1; have HG1 := Lib.hid (grown_undrew hg1); have HAT1 := Lib.hid hat1; have hcc := HC.out w1 (⟨hg1.os, hg1.tape, hg1.output, hg1.size, hg1.block⟩); have HCC := Lib.hid hcc.1; have d0 := (file_cells hcc.1).1; have e0 := free_block (j := 0) hcc.1; have df := hcc.2.1; clear hown1 hg1 hat1 hcc)
    all_goals
      go_end0
      exact ⟨rfl, app_close HG1.out HOWN1.out HAT1.out HCC.out HLT.out⟩
end
end Go.Proofs.Ytcemfpbkaahcmaa
