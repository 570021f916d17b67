/- SlashSteps: the regions. -/
import Derived.Test.YtildenhbcpgiiaaSlashBreaks
import Derived.Test.YtildenhbcpgiiaaRowApp
import Derived.Test.YtildenhbcpgiiaaCode
namespace Go.Proofs.Ytildenhbcpgiiaa
open Go.ChangeMaps Go.MapKept Go.Maps Go.WideElems Go.RowKit Go.ChangeShapes Go.WideShapes Go.ChangeAt
set_option linter.unusedVariables false
set_option maxRecDepth 100000

/-- The checkpoint of an epoch, however great. -/
def ptQ (e : Nat) : Pt := ptE (e % 18446744073709551616) (Nat.mod_lt _ (by omega))
/-- The link of a place. -/
def lkS (E : List Nat) (k : Nat) : Lk := ⟨ptQ (E.getD k 0), ptQ (E.getD (k + 1) 0)⟩
def rowS (E : List Nat) (n : Nat) : List Lk := (List.range n).map (lkS E)
theorem rowS_len (E : List Nat) (n : Nat) : (rowS E n).length = n := by simp [rowS]
theorem rowS_more (E : List Nat) (n : Nat) : rowS E n ++ [lkS E n] = rowS E (n + 1) := by simp [rowS, List.range_succ]
theorem rowS_at (E : List Nat) (n k : Nat) (h : k < n) : (rowS E n)[k]? = some (lkS E k) := by simp [rowS, h]
/-- A vote of that link. -/
def vc (x : Lk) : List Value := vtC 1 x noSig
theorem vc_len (x : Lk) : (vc x).length = 68 := vtC_len _ _ _
theorem vc_one (x : Lk) : ∀ v ∈ vc x, v.oneCell' = true := fun v hv => by
  unfold vc vtC at hv
  obtain ⟨j, _, rfl⟩ := List.mem_map.1 hv
  exact vtf_one 1 x noSig rfl _
theorem lkS_eq (E : List Nat) (j e0 e1 : Nat) (h0 : E[j]? = some e0) (h1 : E[j + 1]? = some e1) (a0 : e0 < 18446744073709551616) (a1 : e1 < 18446744073709551616) : lkE e0 e1 a0 a1 = lkS E j := by
  have g0 : E.getD j 0 = e0 := by rw [List.getD_eq_getElem?_getD, h0]; rfl
  have g1 : E.getD (j + 1) 0 = e1 := by rw [List.getD_eq_getElem?_getD, h1]; rfl
  unfold lkS lkE ptQ
  simp only [g0, g1, Nat.mod_eq_of_lt a0, Nat.mod_eq_of_lt a1]
theorem vote_row {i : TypeInfo} (h : (Try.prog.info? 29) = some i) : i.zero = some (.agg (vtw 0 lkZ noSig)) ∧ i.size = 68 ∧ i.bytes = 112 := by
  have : (Try.prog.info? 29).map (fun i => (i.zero, i.size, i.bytes)) = some (some (.agg (vtw 0 lkZ noSig)), 68, 112) := by kernel_rfl
  rw [h] at this
  injection this with this
  injection this with h1 h2
  injection h2 with h2 h3
  exact ⟨h1, h2, h3⟩
theorem one_vote (x : Lk) (u : World) : (Instr.buildSlice 46 1 #[(0, .agg (vtw 1 x noSig))]).run Try.prog u = .ok (.slice (some ⟨u.heap.size, 0, none⟩) 1 1) (u.alloc (.cells (vtw 1 x noSig) 29)) := by
  have hie : Try.prog.info? 29 = some ((Try.prog.info? 29).get (by kernel_rfl)) := (Option.some_get _).symm
  refine run_buildSlice u _ 29 1 _ (vtw 1 x noSig) _ _ Try.underlying46 hie (Option.some_get (by kernel_rfl)).symm (by decide +kernel) (by decide +kernel) ?_
  kernel_rfl
theorem own_vote (x : Lk) (u : World) : (u.alloc (.cells (vtw 1 x noSig) 29)).ownsRow 0 29 68 (.slice (some ⟨u.heap.size, 0, none⟩) 1 1) 1 (vc x) := by
  refine ⟨by rw [vc_len], .inr ⟨u.heap.size, 1, vtw 1 x noSig, rfl, Nat.zero_le _, heap_alloc_new u _, Nat.le_refl _, by unfold maxLen; omega, by rw [show (vtw 1 x noSig).size = 68 from rowV_size _ _], ?_⟩⟩
  show ((rowV 68 (vtf 1 x noSig)).toList).take 68 = _
  rw [rowV_list, List.take_of_length_le (by simp)]
  rfl
/-- A vote's epochs, where it stands. -/
theorem vc_s {w : World} {g o : Nat} {x : Lk} (h : w.rangeAt g o (vc x)) : w.cell? ⟨g, o + 1, none⟩ = some (.int .u64 (x.s.e : Int)) := h 1 _ rfl
theorem vc_t {w : World} {g o : Nat} {x : Lk} (h : w.rangeAt g o (vc x)) : w.cell? ⟨g, o + 34, none⟩ = some (.int .u64 (x.t.e : Int)) := h 34 _ rfl
theorem rangeBelow {u u' : World} {g o : Nat} {L : List Value} (hb : Below u.heap.size u u') (hg : g < u.heap.size) (h : u.rangeAt g o L) : u'.rangeAt g o L := fun j v hv => (hb.cell (p := ⟨g, o + j, none⟩) hg).trans (h j v hv)
theorem add_block (a : Addr) (i : Nat) : (a.add i).block = a.block := by unfold Addr.add; split <;> rfl
noncomputable def ss_r7C : Code := ((Try.f5.body.bind (regionOf 7))).getD .skip
set_option maxRecDepth 1000000 in
set_option maxHeartbeats 8000000 in
theorem ss_r7 (c1 c2 c3 c4 c5 c6 c7 c9 c10 c11 c12 c13 c14 c15 c16 c17 c18 c19 c20 c21 c22 c23 c24 c25 c26 c27 c28 c29 c30 c31 c32 c33 c34 c35 c36 c37 c38 c39 c40 c41 c42 c43 c44 c45 c46 c47 c48 c49 c50 c51 c52 c53 c54 c55 c56 c57 c58 c59 c60 c61 c62 c63 c64 c65 c66 c67 c68 c69 c70 c71 c72 c73 c74 c75 c76 c77 c78 c79 c80 c81 c82 c83 c84 c85 c86 c87 c88 c89 c90 c91 c92 c93 c94 c95 c96 c97 c98 c99 c100 c101 c102 c103 c104 c105 c106 c107 c108 c109 c110 c111 c112 c113 c114 c115 c116 c117 c118 c119 c120 c121 c122 c123 c124 c125 c126 c127 c128 c129 c130 c131 c132 c133 c134 c135 c136 c137 c138 : Value) (w : World) (xa : Addr) (nE cE e1 e0 i j : Nat) (hij : j + 1 = i) (hn : i < nE) (hnE : nE ≤ 40) (h1 : w.cell? (xa.add i) = some (.int .u64 (e1 : Int))) (h0 : w.cell? (xa.add j) = some (.int .u64 (e0 : Int)))
    (Q : Exit → Act → World → Prop) (hQ : ∀ (u27 u28 u29 u30 u31 u32 u33 u34 u35 : Value) (w' : World), Below w.heap.size w w' → Q .normal ⟨#[.slice (some xa) nE cE, c1, c2, c3, c4, c5, c6, c7, .int .i64 (i : Int), c9, c10, c11, c12, c13, c14, c15, c16, c17, c18, c19, c20, c21, c22, c23, c24, c25, c26, u27, u28, u29, u30, u31, u32, u33, u34, u35, .bool (decide (e1 ≤ e0)), c37, c38, c39, c40, c41, c42, c43, c44, c45, c46, c47, c48, c49, c50, c51, c52, c53, c54, c55, c56, c57, c58, c59, c60, c61, c62, c63, c64, c65, c66, c67, c68, c69, c70, c71, c72, c73, c74, c75, c76, c77, c78, c79, c80, c81, c82, c83, c84, c85, c86, c87, c88, c89, c90, c91, c92, c93, c94, c95, c96, c97, c98, c99, c100, c101, c102, c103, c104, c105, c106, c107, c108, c109, c110, c111, c112, c113, c114, c115, c116, c117, c118, c119, c120, c121, c122, c123, c124, c125, c126, c127, c128, c129, c130, c131, c132, c133, c134, c135, c136, c137, c138], []⟩ w') :
    Code.wp Try.prog ss_r7C Q ⟨#[.slice (some xa) nE cE, c1, c2, c3, c4, c5, c6, c7, .int .i64 (i : Int), c9, c10, c11, c12, c13, c14, c15, c16, c17, c18, c19, c20, c21, c22, c23, c24, c25, c26, c27, c28, c29, c30, c31, c32, c33, c34, c35, c36, c37, c38, c39, c40, c41, c42, c43, c44, c45, c46, c47, c48, c49, c50, c51, c52, c53, c54, c55, c56, c57, c58, c59, c60, c61, c62, c63, c64, c65, c66, c67, c68, c69, c70, c71, c72, c73, c74, c75, c76, c77, c78, c79, c80, c81, c82, c83, c84, c85, c86, c87, c88, c89, c90, c91, c92, c93, c94, c95, c96, c97, c98, c99, c100, c101, c102, c103, c104, c105, c106, c107, c108, c109, c110, c111, c112, c113, c114, c115, c116, c117, c118, c119, c120, c121, c122, c123, c124, c125, c126, c127, c128, c129, c130, c131, c132, c133, c134, c135, c136, c137, c138], []⟩ w := by
  conv => arg 2; whnf
  try dsimp only at hQ ⊢
  have RX : Hid ((w.drew.cell? (xa.add i) = some (.int .u64 (e1 : Int))) ∧ (w.drew.cell? (xa.add j) = some (.int .u64 (e0 : Int)))) := ⟨h1, h0⟩
  have q1 : (i : Int) < (nE : Int) := by omega
  have q1j : (j : Int) < (nE : Int) := by omega
  have wj : IntKind.i64.wrap ((i : Int) - 1) = (j : Int) := by simp [IntKind.wrap, IntKind.bits, IntKind.signed]; omega
  have q4 : decide ((e1 : Int) ≤ (e0 : Int)) = decide (e1 ≤ e0) := by rw [Bool.eq_iff_iff, decide_eq_true_eq, decide_eq_true_eq]; omega
  clear h1 h0
  refine wp_region_noPanic ?_
  refine wp_region_held_drew (S := (fun u => u.cell? (xa.add i) = some (.int .u64 (e1 : Int)) ∧ u.cell? (xa.add j) = some (.int .u64 (e0 : Int)))) (by kernel_rfl) (RX.out) (fun hHeld => ?_)
  refine takeH (i := 0) (d := 27) (oi := _) (v := .slice (some xa) nE cE) rfl (by kernel_rfl) (by kernel_rfl) (by kernel_rfl) (by kernel_rfl) (fun _ _ _ h => h) (Or.inl ⟨by kernel_rfl, by intro u hSw; clear hSw; go_simp⟩) hHeld ?_
  try simp only [List.setIfInBounds_toArray, List.set_cons_zero, List.set_cons_succ]
  refine takeH (i := 1) (d := 28) (oi := _) (v := .int .i64 (i : Int)) rfl (by kernel_rfl) (by kernel_rfl) (by kernel_rfl) (by kernel_rfl) (fun _ _ _ h => h) (Or.inl ⟨by kernel_rfl, by intro u hSw; clear hSw; go_simp⟩) hHeld ?_
  try simp only [List.setIfInBounds_toArray, List.set_cons_zero, List.set_cons_succ]
  refine takeH (i := 2) (d := 29) (oi := _) (v := .pointer (some (xa.add i))) rfl (by kernel_rfl) (by kernel_rfl) (by kernel_rfl) (by kernel_rfl) (fun _ _ _ h => h) (Or.inl ⟨by kernel_rfl, by intro u hSw; clear hSw; go_simp⟩) hHeld ?_
  try simp only [List.setIfInBounds_toArray, List.set_cons_zero, List.set_cons_succ]
  refine takeH (i := 3) (d := 30) (oi := _) (v := .int .u64 (e1 : Int)) rfl (by kernel_rfl) (by kernel_rfl) (by kernel_rfl) (by kernel_rfl) (fun _ _ _ h => h) (Or.inl ⟨by kernel_rfl, by intro u hSw; (have hc := hSw.1; clear hSw; go_simp)⟩) hHeld ?_
  try simp only [List.setIfInBounds_toArray, List.set_cons_zero, List.set_cons_succ]
  refine takeH (i := 4) (d := 31) (oi := _) (v := .slice (some xa) nE cE) rfl (by kernel_rfl) (by kernel_rfl) (by kernel_rfl) (by kernel_rfl) (fun _ _ _ h => h) (Or.inl ⟨by kernel_rfl, by intro u hSw; clear hSw; go_simp⟩) hHeld ?_
  try simp only [List.setIfInBounds_toArray, List.set_cons_zero, List.set_cons_succ]
  refine takeH (i := 5) (d := 32) (oi := _) (v := .int .i64 (i : Int)) rfl (by kernel_rfl) (by kernel_rfl) (by kernel_rfl) (by kernel_rfl) (fun _ _ _ h => h) (Or.inl ⟨by kernel_rfl, by intro u hSw; clear hSw; go_simp⟩) hHeld ?_
  try simp only [List.setIfInBounds_toArray, List.set_cons_zero, List.set_cons_succ]
  refine takeH (i := 6) (d := 33) (oi := _) (v := .int .i64 (j : Int)) rfl (by kernel_rfl) (by kernel_rfl) (by kernel_rfl) (by kernel_rfl) (fun _ _ _ h => h) (Or.inl ⟨by kernel_rfl, by intro u hSw; clear hSw; go_simp⟩) hHeld ?_
  try simp only [List.setIfInBounds_toArray, List.set_cons_zero, List.set_cons_succ]
  refine takeH (i := 7) (d := 34) (oi := _) (v := .pointer (some (xa.add j))) rfl (by kernel_rfl) (by kernel_rfl) (by kernel_rfl) (by kernel_rfl) (fun _ _ _ h => h) (Or.inl ⟨by kernel_rfl, by intro u hSw; clear hSw; go_simp⟩) hHeld ?_
  try simp only [List.setIfInBounds_toArray, List.set_cons_zero, List.set_cons_succ]
  refine takeH (i := 8) (d := 35) (oi := _) (v := .int .u64 (e0 : Int)) rfl (by kernel_rfl) (by kernel_rfl) (by kernel_rfl) (by kernel_rfl) (fun _ _ _ h => h) (Or.inl ⟨by kernel_rfl, by intro u hSw; (have hc := hSw.2; clear hSw; go_simp)⟩) hHeld ?_
  try simp only [List.setIfInBounds_toArray, List.set_cons_zero, List.set_cons_succ]
  refine takeH (i := 9) (d := 36) (oi := _) (v := .bool (decide (e1 ≤ e0))) rfl (by kernel_rfl) (by kernel_rfl) (by kernel_rfl) (by kernel_rfl) (fun _ _ _ h => h) (Or.inl ⟨by kernel_rfl, by intro u hSw; clear hSw; go_simp⟩) hHeld ?_
  try simp only [List.setIfInBounds_toArray, List.set_cons_zero, List.set_cons_succ]
  refine wpAnyH_done (by kernel_rfl) ?_ _
  refine NoPanic.normal ?_
  exact hQ _ _ _ _ _ _ _ _ _ _ ((Below.refl w.heap.size w).drew)
noncomputable def ss_r9C : Code := ((Try.f5.body.bind (regionOf 9))).getD .skip
set_option maxRecDepth 1000000 in
set_option maxHeartbeats 8000000 in
theorem ss_r9 (c1 c2 c3 c4 c5 c6 c9 c10 c11 c12 c13 c14 c15 c16 c17 c18 c19 c20 c21 c22 c23 c24 c25 c26 c27 c28 c29 c30 c31 c32 c33 c34 c35 c36 c37 c38 c39 c40 c41 c42 c43 c44 c45 c46 c47 c48 c49 c50 c51 c52 c53 c54 c55 c56 c57 c58 c59 c60 c61 c62 c63 c64 c65 c66 c67 c68 c69 c70 c71 c72 c73 c74 c75 c76 c77 c78 c79 c80 c81 c82 c83 c84 c85 c86 c87 c88 c89 c90 c91 c92 c93 c94 c95 c96 c97 c98 c99 c100 c101 c102 c103 c104 c105 c106 c107 c108 c109 c110 c111 c112 c113 c114 c115 c116 c117 c118 c119 c120 c121 c122 c123 c124 c125 c126 c127 c128 c129 c130 c131 c132 c133 c134 c135 c136 c137 c138 : Value) (w : World) (xa : Addr) (A : Option Addr) (nE cE c base e1 e0 i j : Nat) (E : List Nat) (hij : j + 1 = i) (hn : i < nE) (hnE : nE ≤ 40) (he1 : E[i]? = some e1) (he0 : E[j]? = some e0) (a0 : e0 < 18446744073709551616) (a1 : e1 < 18446744073709551616) (hxa : xa.block < base) (h1 : w.cell? (xa.add i) = some (.int .u64 (e1 : Int))) (h0 : w.cell? (xa.add j) = some (.int .u64 (e0 : Int))) (hbase : base ≤ w.heap.size) (hO : w.ownsRow base 29 68 (.slice A j c) j (rws vc (rowS E j)))
    (Q : Exit → Act → World → Prop) (hQ : ∀ (u7 u38 u39 u40 u41 u42 u43 u44 u45 u46 u47 u48 u49 u50 : Value) (w' : World), (∃ A' c', u7 = .slice A' (j + 1) c' ∧ w'.ownsRow base 29 68 u7 (j + 1) (rws vc (rowS E (j + 1))) ∧ Below base w w') → Q .normal ⟨#[.slice (some xa) nE cE, c1, c2, c3, c4, c5, c6, u7, .int .i64 (i : Int), c9, c10, c11, c12, c13, c14, c15, c16, c17, c18, c19, c20, c21, c22, c23, c24, c25, c26, c27, c28, c29, c30, c31, c32, c33, c34, c35, c36, c37, u38, u39, u40, u41, u42, u43, u44, u45, u46, u47, u48, u49, u50, c51, c52, c53, c54, c55, c56, c57, c58, c59, c60, c61, c62, c63, c64, c65, c66, c67, c68, c69, c70, c71, c72, c73, c74, c75, c76, c77, c78, c79, c80, c81, c82, c83, c84, c85, c86, c87, c88, c89, c90, c91, c92, c93, c94, c95, c96, c97, c98, c99, c100, c101, c102, c103, c104, c105, c106, c107, c108, c109, c110, c111, c112, c113, c114, c115, c116, c117, c118, c119, c120, c121, c122, c123, c124, c125, c126, c127, c128, c129, c130, c131, c132, c133, c134, c135, c136, c137, c138], []⟩ w') :
    Code.wp Try.prog ss_r9C Q ⟨#[.slice (some xa) nE cE, c1, c2, c3, c4, c5, c6, .slice A j c, .int .i64 (i : Int), c9, c10, c11, c12, c13, c14, c15, c16, c17, c18, c19, c20, c21, c22, c23, c24, c25, c26, c27, c28, c29, c30, c31, c32, c33, c34, c35, c36, c37, c38, c39, c40, c41, c42, c43, c44, c45, c46, c47, c48, c49, c50, c51, c52, c53, c54, c55, c56, c57, c58, c59, c60, c61, c62, c63, c64, c65, c66, c67, c68, c69, c70, c71, c72, c73, c74, c75, c76, c77, c78, c79, c80, c81, c82, c83, c84, c85, c86, c87, c88, c89, c90, c91, c92, c93, c94, c95, c96, c97, c98, c99, c100, c101, c102, c103, c104, c105, c106, c107, c108, c109, c110, c111, c112, c113, c114, c115, c116, c117, c118, c119, c120, c121, c122, c123, c124, c125, c126, c127, c128, c129, c130, c131, c132, c133, c134, c135, c136, c137, c138], []⟩ w := by
  conv => arg 2; whnf
  try dsimp only at hQ ⊢
  obtain ⟨i0, hi0⟩ : ∃ i0, Try.prog.info? 29 = some i0 := ⟨_, (Option.some_get (by kernel_rfl)).symm⟩
  obtain ⟨hz0, hz1, hz2⟩ := vote_row hi0
  have KP : Hid (∀ u : World, Below w.heap.size w.drew u → u.cell? (xa.add i) = some (.int .u64 (e1 : Int)) ∧ u.cell? (xa.add j) = some (.int .u64 (e0 : Int))) := fun u hu => ⟨(hu.cell (p := xa.add i) (by rw [add_block]; omega)).trans h1, (hu.cell (p := xa.add j) (by rw [add_block]; omega)).trans h0⟩
  have KQ : Hid (∀ u : World, Below w.heap.size w.drew u → ∀ u', u.grownBy u' (Value.slice A j c).ownBlock → u'.cell? (xa.add i) = some (.int .u64 (e1 : Int)) ∧ u'.cell? (xa.add j) = some (.int .u64 (e0 : Int))) := fun u hu u' hg => by
    have hb : Below base w.drew u' := (hu.mono hbase).grown hg (Nat.le_trans hbase hu.size) (fun k e => (hO.lt k e).1)
    exact ⟨(hb.cell (p := xa.add i) (by rw [add_block]; exact hxa)).trans h1, (hb.cell (p := xa.add j) (by rw [add_block]; exact hxa)).trans h0⟩
  have BX : Hid (Below w.heap.size w.drew w.drew) := Below.refl _ _
  have HBB : Hid (base ≤ w.drew.heap.size) := hbase
  have HO : Hid (w.drew.ownsRow base 29 68 (.slice A j c) j (rws vc (rowS E j))) := hO
  have VC := Lib.hid (fun u => vote_c e0 e1 a0 a1 u)
  have q1 : (i : Int) < (nE : Int) := by omega
  have q1j : (j : Int) < (nE : Int) := by omega
  have wj : IntKind.i64.wrap ((i : Int) - 1) = (j : Int) := by simp [IntKind.wrap, IntKind.bits, IntKind.signed]; omega
  have hE0 : lkE e0 e1 a0 a1 = lkS E j := lkS_eq E j e0 e1 he0 (by rw [hij]; exact he1) a0 a1
  rw [hE0] at VC
  clear h1 h0 hO hE0 he0 he1 hbase
  refine wp_region_noPanic ?_
  refine wp_region_held_drew (S := (fun u => u.cell? (xa.add i) = some (.int .u64 (e1 : Int)) ∧ u.cell? (xa.add j) = some (.int .u64 (e0 : Int)))) (by kernel_rfl) (KP.out _ BX.out) (fun hHeld => ?_)
  refine takeH (i := 0) (d := 38) (oi := _) (v := .slice A j c) rfl (by kernel_rfl) (by kernel_rfl) (by kernel_rfl) (by kernel_rfl) (fun _ _ _ h => h) (Or.inl ⟨by kernel_rfl, by intro u hSw; clear hSw; go_simp⟩) hHeld ?_
  try simp only [List.setIfInBounds_toArray, List.set_cons_zero, List.set_cons_succ]
  refine takeH (i := 1) (d := 39) (oi := _) (v := .slice (some xa) nE cE) rfl (by kernel_rfl) (by kernel_rfl) (by kernel_rfl) (by kernel_rfl) (fun _ _ _ h => h) (Or.inl ⟨by kernel_rfl, by intro u hSw; clear hSw; go_simp⟩) hHeld ?_
  try simp only [List.setIfInBounds_toArray, List.set_cons_zero, List.set_cons_succ]
  refine takeH (i := 2) (d := 40) (oi := _) (v := .int .i64 (i : Int)) rfl (by kernel_rfl) (by kernel_rfl) (by kernel_rfl) (by kernel_rfl) (fun _ _ _ h => h) (Or.inl ⟨by kernel_rfl, by intro u hSw; clear hSw; go_simp⟩) hHeld ?_
  try simp only [List.setIfInBounds_toArray, List.set_cons_zero, List.set_cons_succ]
  refine takeH (i := 3) (d := 41) (oi := _) (v := .int .i64 (j : Int)) rfl (by kernel_rfl) (by kernel_rfl) (by kernel_rfl) (by kernel_rfl) (fun _ _ _ h => h) (Or.inl ⟨by kernel_rfl, by intro u hSw; clear hSw; go_simp⟩) hHeld ?_
  try simp only [List.setIfInBounds_toArray, List.set_cons_zero, List.set_cons_succ]
  refine takeH (i := 4) (d := 42) (oi := _) (v := .pointer (some (xa.add j))) rfl (by kernel_rfl) (by kernel_rfl) (by kernel_rfl) (by kernel_rfl) (fun _ _ _ h => h) (Or.inl ⟨by kernel_rfl, by intro u hSw; clear hSw; go_simp⟩) hHeld ?_
  try simp only [List.setIfInBounds_toArray, List.set_cons_zero, List.set_cons_succ]
  refine takeH (i := 5) (d := 43) (oi := _) (v := .int .u64 (e0 : Int)) rfl (by kernel_rfl) (by kernel_rfl) (by kernel_rfl) (by kernel_rfl) (fun _ _ _ h => h) (Or.inl ⟨by kernel_rfl, by intro u hSw; (have hc := hSw.2; clear hSw; go_simp)⟩) hHeld ?_
  try simp only [List.setIfInBounds_toArray, List.set_cons_zero, List.set_cons_succ]
  refine takeH (i := 6) (d := 44) (oi := _) (v := .slice (some xa) nE cE) rfl (by kernel_rfl) (by kernel_rfl) (by kernel_rfl) (by kernel_rfl) (fun _ _ _ h => h) (Or.inl ⟨by kernel_rfl, by intro u hSw; clear hSw; go_simp⟩) hHeld ?_
  try simp only [List.setIfInBounds_toArray, List.set_cons_zero, List.set_cons_succ]
  refine takeH (i := 7) (d := 45) (oi := _) (v := .int .i64 (i : Int)) rfl (by kernel_rfl) (by kernel_rfl) (by kernel_rfl) (by kernel_rfl) (fun _ _ _ h => h) (Or.inl ⟨by kernel_rfl, by intro u hSw; clear hSw; go_simp⟩) hHeld ?_
  try simp only [List.setIfInBounds_toArray, List.set_cons_zero, List.set_cons_succ]
  refine takeH (i := 8) (d := 46) (oi := _) (v := .pointer (some (xa.add i))) rfl (by kernel_rfl) (by kernel_rfl) (by kernel_rfl) (by kernel_rfl) (fun _ _ _ h => h) (Or.inl ⟨by kernel_rfl, by intro u hSw; clear hSw; go_simp⟩) hHeld ?_
  try simp only [List.setIfInBounds_toArray, List.set_cons_zero, List.set_cons_succ]
  refine takeH (i := 9) (d := 47) (oi := _) (v := .int .u64 (e1 : Int)) rfl (by kernel_rfl) (by kernel_rfl) (by kernel_rfl) (by kernel_rfl) (fun _ _ _ h => h) (Or.inl ⟨by kernel_rfl, by intro u hSw; (have hc := hSw.1; clear hSw; go_simp)⟩) hHeld ?_
  try simp only [List.setIfInBounds_toArray, List.set_cons_zero, List.set_cons_succ]
  refine wpAnyH_ready (rs := [10]) (by kernel_rfl) (by simp) ?_
  refine AllReadyH.cons (o := _) rfl (fun K hK => ?_) (AllReadyH.nil)
  go_simp
  go_at_call 14
  refine (VC.out _).mono ?_
  rintro e w2 ⟨rfl, b2⟩
  have BX := Lib.hid (BX.out.trans (b2.mono BX.out.size))
  clear b2
  go_simp
  refine hK.out _ _ (KP.out _ BX.out) (fun hHeld => ?_)
  clear hK K
  try simp only [Act.put, List.setIfInBounds_toArray, List.set_cons_zero, List.set_cons_succ]
  refine wpAnyH_ready (rs := [11]) (by kernel_rfl) (by simp) ?_
  refine AllReadyH.cons (o := _) rfl (fun K hK => ?_) (AllReadyH.nil)
  refine step_buildSlice_row (w' := w2.alloc (.cells (vtw 1 (lkS E j) noSig) 29)) (by kernel_rfl) 46 1 #[(0, .tmp 48)] rfl (.slice (some ⟨w2.heap.size, 0, none⟩) 1 1) (by simp only [List.map_toArray, List.map_cons, List.map_nil]; exact one_vote (lkS E j) w2) ?_
  have OV := Lib.hid (own_vote (lkS E j) w2)
  have NB := Lib.hid ((Below.refl w2.heap.size w2).alloc (Nat.le_refl _) (.cells (vtw 1 (lkS E j) noSig) 29))
  obtain ⟨w3, hw3⟩ : ∃ w3, w3 = w2.alloc (.cells (vtw 1 (lkS E j) noSig) 29) := ⟨_, rfl⟩
  rw [← hw3] at OV NB ⊢
  clear hw3
  have BX := Lib.hid (BX.out.trans (NB.out.mono BX.out.size))
  have O3 := Lib.hid (ownKeep HO.out (fun g hg => BX.out.block g (HO.out.lt g hg).2))
  try go_simp
  refine hK.out _ _ (KP.out _ BX.out) (fun hHeld => ?_)
  clear hK K
  try simp only [Act.put, List.setIfInBounds_toArray, List.set_cons_zero, List.set_cons_succ]
  refine wpAnyH_ready (rs := [12]) (by kernel_rfl) (by simp) ?_
  refine AllReadyH.cons (o := _) rfl (fun K hK => ?_) (AllReadyH.nil)
  refine step_append_row (by kernel_rfl) (.tmp 38) (.tmp 49) 46 rfl base 29 i0 _ 68 112 Try.underlying46 hi0 hz0 hz1 hz2 (by show (vtw 0 lkZ noSig).size = 68; exact rowV_size _ _) (by decide) (.slice A j c) j (rws vc (rowS E j)) rfl O3.out 0 _ 1 (vc (lkS E j)) rfl OV.out (vc_one _) (by unfold maxLen; omega) (by omega) (Nat.le_trans HBB.out BX.out.size) ?_
  intro v4 w4 o4 g4 b4
  rw [rws_more, rowS_more] at o4
  have o4' := Lib.hid o4
  have B4 : Hid (Below base w.drew w4) := (BX.out.mono HBB.out).grown g4 (Nat.le_trans HBB.out BX.out.size) (fun k e => (HO.out.lt k e).1)
  have C4 := Lib.hid (KQ.out _ BX.out _ g4)
  clear o4 g4 b4
  try go_simp
  refine hK.out _ _ (C4.out) (fun hHeld => ?_)
  clear hK K
  try simp only [Act.put, List.setIfInBounds_toArray, List.set_cons_zero, List.set_cons_succ]
  refine takeH (i := 13) (d := 7) (oi := _) (v := v4) rfl (by kernel_rfl) (by kernel_rfl) (by kernel_rfl) (by kernel_rfl) (fun _ _ _ h => h) (Or.inl ⟨by kernel_rfl, by intro u hSw; clear hSw; go_simp⟩) hHeld ?_
  try simp only [List.setIfInBounds_toArray, List.set_cons_zero, List.set_cons_succ]
  refine wpAnyH_done (by kernel_rfl) ?_ _
  refine NoPanic.normal ?_
  obtain ⟨A', c', rfl, _⟩ := ownForm o4'.out
  exact hQ _ _ _ _ _ _ _ _ _ _ _ _ _ _ _ ⟨A', c', rfl, o4'.out, ((Below.refl w.heap.size w).drew.mono HBB.out).trans B4.out⟩
end Go.Proofs.Ytildenhbcpgiiaa
