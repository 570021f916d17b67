/- ClockPlays: one reading more behind those that there are. -/
import Derived.Test.YtkjlcfffalmgoaaCkRow
import Derived.Test.YtkjlcfffalmgoaaCode
import Derived.BigFrame
import Derived.Great.BuildSlice
namespace Go.Proofs.Ytkjlcfffalmgoaa
open Go.ChangeShapes Go.WideShapes Go.ChangeAt Go.RowKit
set_option linter.unusedVariables false
set_option maxRecDepth 100000

theorem takeH {P : Program} {ops : Array Oper} {Q : Exit → Act → World → Prop} {S : World → Prop} {md : Region.Mode} {i d : Nat} {oi : Oper} {v : Value} {fuel : Nat} {listed : Array Bool} {ts : Array Value} {ds : List Deferred} {w : World} (hi : ops[i]? = some oi)
    (hd : oi.dst = some d) (hs : Region.noSelect ops = true) (hf : Region.free md ops listed i = true) (hr : (Region.ready md ops listed).contains i = true)
    (hQ : ∀ c a w, Q (.panic c) (a.put oi.dst v) w → Q (.panic c) a w) (hy : YieldsIf P ops S oi v ⟨ts, ds⟩) (hS : S w)
    (h : wpAnyH P md ops Q S fuel (listed.setIfInBounds i true) ⟨ts.setIfInBounds d v, ds⟩ w) : wpAnyH P md ops Q S (fuel + 1) listed ⟨ts, ds⟩ w :=
  wpAnyH_take hi hs hf hr hQ hy hS (by rw [hd]; exact h)
/-- A block that reads as L from its beginning. -/
def HadB (g : Nat) (L : List Nat) (w : World) : Prop := g < w.heap.size ∧ ∀ (i z : Nat), L[i]? = some z → w.cell? ⟨g, i, none⟩ = some (.int .u64 (z : Int))
theorem add0 (g i : Nat) : (⟨g, 0, none⟩ : Addr).add i = ⟨g, i, none⟩ := by
  unfold Addr.add
  split
  · next h => subst h; rfl
  · simp
theorem HadB.ru {g : Nat} {L : List Nat} {w : World} (h : HadB g L w) : RU w (some ⟨g, 0, none⟩) L := fun i z hz => ⟨_, rfl, by rw [add0]; exact h.2 i z hz⟩
theorem HadB.keep {g : Nat} {L : List Nat} {w w' : World} (h : HadB g L w) (e : w'.heap[g]? = w.heap[g]?) (hs : w.heap.size ≤ w'.heap.size) : HadB g L w' := ⟨Nat.lt_of_lt_of_le h.1 hs, fun i z hz => (World.cell?_of_block (a := ⟨g, i, none⟩) e).trans (h.2 i z hz)⟩
theorem HadB.below {g B : Nat} {L : List Nat} {w w' : World} (h : HadB g L w) (hb : Below B w w') (hg : g < B) : HadB g L w' := h.keep (hb.block g hg) hb.size
theorem HadB.grown {g : Nat} {L : List Nat} {r : Option Nat} {w w' : World} (h : HadB g L w) (hg : w.grownBy w' r) (hr : some g ≠ r) : HadB g L w' := h.keep (hg.block g h.1 hr) hg.size
/-- append(s[:len(s):len(s)], x): a block of its own. -/
theorem run_append_clip (w : World) (ty : TypeId) (g : Nat) (L : List Nat) (m : Nat) (hm : m = L.length) (h : HadB g L w) (b z : Nat) (hb : w.cell? ⟨b, 0, none⟩ = some (.int .u64 (z : Int))) (hl : m ≤ 100000) :
    ∃ c' w', (Builtin.append_ #[23, 23] ty #[.slice (some ⟨g, 0, none⟩) m m, .slice (some ⟨b, 0, none⟩) 1 1]).run Try.prog w = .ok (.slice (some ⟨w.heap.size, 0, none⟩) (m + 1) c') w' ∧ m + 1 ≤ c' ∧ HadB w.heap.size (L ++ [z]) w' ∧ Below w.heap.size w w' := by
  obtain ⟨i, hi, hz, hs, hb8⟩ := info_parts8 u64_info
  have ht := Try.underlying23
  have hz1 : (Value.int .u64 0).cells.size = 1 := rfl
  have hap := run_append_grow (P := Try.prog) w 23 ty 22 i _ ht hi hz ⟨g, 0, none⟩ m m (L.map uv) (by rw [hs, List.length_map, hm, Nat.mul_one]) (fun j v hv => by
    rw [List.getElem?_map, Option.map_eq_some_iff] at hv
    obtain ⟨x, hx, rfl⟩ := hv
    rw [add0]
    exact h.2 j x hx) ⟨b, 0, none⟩ 1 1 [uv z] (by rw [hs]; rfl) (fun j v hv => by
    rcases j with _ | j
    · injection hv with hv
      subst hv
      exact hb
    · simp at hv) (by omega) (by omega) (by
    rw [hb8]
    exact growslice_fits (by omega) (by omega))
  have k := heap_alloc_new w.drew (.cells ((L.map uv).toArray ++ [uv z].toArray ++ Builtin.zeroCells (Value.int .u64 0).cells (grownCap w (m + 1) m 22 - (m + 1))) 22)
  refine ⟨_, _, hap, grownCap_ge w (m + 1) m _, ⟨by rw [heap_sz]; exact Nat.lt_succ_self _, fun j x hx => ?_⟩, (Below.refl _ _).drew.alloc (Nat.le_refl _) _⟩
  rw [cell_of_row _ w.heap.size j _ _ (0, 0) k]
  have hj : j < (L ++ [z]).length := (List.getElem?_eq_some_iff.1 hx).1
  have e : ((L.map uv).toArray ++ [uv z].toArray) = ((L ++ [z]).map uv).toArray := by simp
  rw [e, Array.getElem?_append_left (by simpa using hj)]
  simp only [List.getElem?_toArray, List.getElem?_map, hx]
  rfl
theorem step_append_clip {w : World} {ops : Array Oper} {o : Oper} {a : Act} {K : Act → World → Prop} {Q : Exit → Act → World → Prop} {E : Prop} (hgd : o.guard = none) (s x : Operand)
    (ho : o.op = .call { callee := .builtin .append, args := #[s, x], argTypes := #[23, 23] })
    (g : Nat) (L : List Nat) (m : Nat) (hm : m = L.length) (h : HadB g L w) (b z : Nat) (hb : w.cell? ⟨b, 0, none⟩ = some (.int .u64 (z : Int))) (hl : m ≤ 100000) (hs : a.eval s = .slice (some ⟨g, 0, none⟩) m m) (hx : a.eval x = .slice (some ⟨b, 0, none⟩) 1 1)
    (h : ∀ c' w', m + 1 ≤ c' → HadB w.heap.size (L ++ [z]) w' → Below w.heap.size w w' → K (a.put o.dst (.slice (some ⟨w.heap.size, 0, none⟩) (m + 1) c')) w') :
    if Region.wanted o (yielded ops a.tmps) = true then Oper.wp Try.prog o a w K Q else E := by
  have hw : Region.wanted o (yielded ops a.tmps) = true := by simp [Region.wanted, hgd]
  rw [if_pos hw]
  obtain ⟨c', w', hrun, h2, h3, h4⟩ := run_append_clip w o.type g L m hm ‹_› b z hb hl
  unfold Oper.wp execOp
  simp only [ho, resolve, invoke, builtin, Sem.run_bind, Sem.run_pure, Result.andThen_ok, List.map_toArray, List.map_cons, List.map_nil, hs, hx, hrun]
  exact h c' w' h2 h3 h4
noncomputable def cp_r16C : Code := ((Try.f3.body.bind (regionOf 16))).getD .skip
set_option maxRecDepth 1000000 in
set_option maxHeartbeats 8000000 in
theorem cp_r16 (c0 c2 c3 c4 c5 c8 c9 c10 c11 c12 c13 c14 c15 c16 c17 c18 c19 c20 c21 c22 c23 c24 c25 c26 c27 c28 c29 c30 c31 c32 c33 c34 c35 c36 c37 c38 c39 c40 c41 c42 c43 c44 c45 c46 c47 c48 c49 c50 c51 c52 c53 c54 c55 c56 c57 c58 c59 c60 c61 c62 c63 c64 c65 c66 c67 c68 c69 c70 c71 c72 c73 c74 c75 c76 c77 c78 c79 c80 c81 c82 c83 c84 c85 c86 c87 c88 c89 c90 c91 c92 c93 c94 c95 c96 c97 c98 c99 c100 c101 c102 c103 c104 c105 c106 c107 c108 c109 c110 c111 c112 c113 c114 c115 c116 c117 c118 c119 c120 c121 c122 c123 c124 c125 c126 c127 c128 c129 c130 c131 c132 c133 c134 c135 c136 c137 c138 c139 c140 c141 c142 c143 c144 c145 c146 c147 c148 : Value) (w : World) (xa : Addr) (gh n c m ch i z : Nat) (L : List Nat) (hi : i < n) (hm : m = L.length) (hm9 : m ≤ 1000) (hch : m ≤ ch) (h : HadB gh L w) (hz : w.cell? (xa.add i) = some (.int .u64 (z : Int)))
    (Q : Exit → Act → World → Prop) (hQ : ∀ (u109 u110 u111 u112 u113 u114 u115 u116 u117 u118 u119 u120 : Value) (w' : World) (gk c' : Nat), m + 1 ≤ c' → HadB gk (L ++ [z]) w' → w.heap.size ≤ gk → Below w.heap.size w w' → Q .normal ⟨#[c0, .slice (some xa) n c, c2, c3, c4, c5, .slice (some ⟨gk, 0, none⟩) (m + 1) c', .int .i64 (i : Int), c8, c9, c10, c11, c12, c13, c14, c15, c16, c17, c18, c19, c20, c21, c22, c23, c24, c25, c26, c27, c28, c29, c30, c31, c32, c33, c34, c35, c36, c37, c38, c39, c40, c41, c42, c43, c44, c45, c46, c47, c48, c49, c50, c51, c52, c53, c54, c55, c56, c57, c58, c59, c60, c61, c62, c63, c64, c65, c66, c67, c68, c69, c70, c71, c72, c73, c74, c75, c76, c77, c78, c79, c80, c81, c82, c83, c84, c85, c86, c87, c88, c89, c90, c91, c92, c93, c94, c95, c96, c97, c98, c99, c100, c101, c102, c103, c104, c105, c106, c107, c108, u109, u110, u111, u112, u113, u114, u115, u116, u117, u118, u119, u120, c121, c122, c123, c124, c125, c126, c127, c128, c129, c130, c131, c132, c133, c134, c135, c136, c137, c138, c139, c140, c141, c142, c143, c144, c145, c146, c147, c148], []⟩ w') :
    Code.wp Try.prog cp_r16C Q ⟨#[c0, .slice (some xa) n c, c2, c3, c4, c5, .slice (some ⟨gh, 0, none⟩) m ch, .int .i64 (i : Int), c8, c9, c10, c11, c12, c13, c14, c15, c16, c17, c18, c19, c20, c21, c22, c23, c24, c25, c26, c27, c28, c29, c30, c31, c32, c33, c34, c35, c36, c37, c38, c39, c40, c41, c42, c43, c44, c45, c46, c47, c48, c49, c50, c51, c52, c53, c54, c55, c56, c57, c58, c59, c60, c61, c62, c63, c64, c65, c66, c67, c68, c69, c70, c71, c72, c73, c74, c75, c76, c77, c78, c79, c80, c81, c82, c83, c84, c85, c86, c87, c88, c89, c90, c91, c92, c93, c94, c95, c96, c97, c98, c99, c100, c101, c102, c103, c104, c105, c106, c107, c108, c109, c110, c111, c112, c113, c114, c115, c116, c117, c118, c119, c120, c121, c122, c123, c124, c125, c126, c127, c128, c129, c130, c131, c132, c133, c134, c135, c136, c137, c138, c139, c140, c141, c142, c143, c144, c145, c146, c147, c148], []⟩ w := by
  conv => arg 2; whnf
  try dsimp only at hQ ⊢
  have KP : Hid (∀ u : World, Below w.heap.size w u → HadB gh L u ∧ u.cell? (xa.add i) = some (.int .u64 (z : Int))) := fun u hu => ⟨h.below hu h.1, (hu.cell (p := xa.add i) (World.block_lt_of_cell? w _ hz)).trans hz⟩
  obtain ⟨w2, hw2⟩ : ∃ w2, w2 = w.drew := ⟨_, rfl⟩
  have BX : Hid (Below w.heap.size w w2) := by rw [hw2]; exact (Below.refl _ _).drew
  have HM := Lib.hid hm
  have q1 : (i : Int) < (n : Int) := by omega
  have q2 : (m : Int) ≤ (ch : Int) := by omega
  clear h hz hm
  refine wp_region_noPanic ?_
  refine wp_region_held_drew (S := (fun u => HadB gh L u ∧ u.cell? (xa.add i) = some (.int .u64 (z : Int)))) (by kernel_rfl) (by rw [← hw2]; exact KP.out _ BX.out) (fun hHeld => ?_)
  rw [← hw2]
  rw [← hw2] at hHeld
  clear hw2
  refine takeH (i := 0) (d := 109) (oi := _) (v := .slice (some ⟨gh, 0, none⟩) m ch) rfl (by kernel_rfl) (by kernel_rfl) (by kernel_rfl) (by kernel_rfl) (fun _ _ _ h => h) (Or.inl ⟨by kernel_rfl, by intro u hSw; clear hSw; go_simp⟩) hHeld ?_
  try simp only [List.setIfInBounds_toArray, List.set_cons_zero, List.set_cons_succ]
  refine takeH (i := 1) (d := 110) (oi := _) (v := .slice (some ⟨gh, 0, none⟩) m ch) rfl (by kernel_rfl) (by kernel_rfl) (by kernel_rfl) (by kernel_rfl) (fun _ _ _ h => h) (Or.inl ⟨by kernel_rfl, by intro u hSw; clear hSw; go_simp⟩) hHeld ?_
  try simp only [List.setIfInBounds_toArray, List.set_cons_zero, List.set_cons_succ]
  refine takeH (i := 2) (d := 111) (oi := _) (v := .int .i64 (m : Int)) rfl (by kernel_rfl) (by kernel_rfl) (by kernel_rfl) (by kernel_rfl) (fun _ _ _ h => h) (Or.inl ⟨by kernel_rfl, by intro u hSw; clear hSw; go_simp⟩) hHeld ?_
  try simp only [List.setIfInBounds_toArray, List.set_cons_zero, List.set_cons_succ]
  refine takeH (i := 3) (d := 112) (oi := _) (v := .slice (some ⟨gh, 0, none⟩) m ch) rfl (by kernel_rfl) (by kernel_rfl) (by kernel_rfl) (by kernel_rfl) (fun _ _ _ h => h) (Or.inl ⟨by kernel_rfl, by intro u hSw; clear hSw; go_simp⟩) hHeld ?_
  try simp only [List.setIfInBounds_toArray, List.set_cons_zero, List.set_cons_succ]
  refine takeH (i := 4) (d := 113) (oi := _) (v := .int .i64 (m : Int)) rfl (by kernel_rfl) (by kernel_rfl) (by kernel_rfl) (by kernel_rfl) (fun _ _ _ h => h) (Or.inl ⟨by kernel_rfl, by intro u hSw; clear hSw; go_simp⟩) hHeld ?_
  try simp only [List.setIfInBounds_toArray, List.set_cons_zero, List.set_cons_succ]
  refine takeH (i := 5) (d := 114) (oi := _) (v := .slice (some ⟨gh, 0, none⟩) m m) rfl (by kernel_rfl) (by kernel_rfl) (by kernel_rfl) (by kernel_rfl) (fun _ _ _ h => h) (Or.inl ⟨by kernel_rfl, by intro u hSw; clear hSw; go_simp⟩) hHeld ?_
  try simp only [List.setIfInBounds_toArray, List.set_cons_zero, List.set_cons_succ]
  refine takeH (i := 6) (d := 115) (oi := _) (v := .slice (some xa) n c) rfl (by kernel_rfl) (by kernel_rfl) (by kernel_rfl) (by kernel_rfl) (fun _ _ _ h => h) (Or.inl ⟨by kernel_rfl, by intro u hSw; clear hSw; go_simp⟩) hHeld ?_
  try simp only [List.setIfInBounds_toArray, List.set_cons_zero, List.set_cons_succ]
  refine takeH (i := 7) (d := 116) (oi := _) (v := .int .i64 (i : Int)) rfl (by kernel_rfl) (by kernel_rfl) (by kernel_rfl) (by kernel_rfl) (fun _ _ _ h => h) (Or.inl ⟨by kernel_rfl, by intro u hSw; clear hSw; go_simp⟩) hHeld ?_
  try simp only [List.setIfInBounds_toArray, List.set_cons_zero, List.set_cons_succ]
  refine takeH (i := 8) (d := 117) (oi := _) (v := .pointer (some (xa.add i))) rfl (by kernel_rfl) (by kernel_rfl) (by kernel_rfl) (by kernel_rfl) (fun _ _ _ h => h) (Or.inl ⟨by kernel_rfl, by intro u hSw; clear hSw; go_simp⟩) hHeld ?_
  try simp only [List.setIfInBounds_toArray, List.set_cons_zero, List.set_cons_succ]
  refine takeH (i := 9) (d := 118) (oi := _) (v := .int .u64 (z : Int)) rfl (by kernel_rfl) (by kernel_rfl) (by kernel_rfl) (by kernel_rfl) (fun _ _ _ h => h) (Or.inl ⟨by kernel_rfl, by intro u hSw; (have hc := hSw.2; clear hSw; go_simp)⟩) hHeld ?_
  try simp only [List.setIfInBounds_toArray, List.set_cons_zero, List.set_cons_succ]
  refine wpAnyH_ready (rs := [10]) (by kernel_rfl) (by simp) ?_
  refine AllReadyH.cons (o := _) rfl (fun K hK => ?_) (AllReadyH.nil)
  go_simp
  obtain ⟨gn, hgn⟩ : ∃ g0, g0 = w2.heap.size := ⟨_, rfl⟩
  have b2 : Below w2.heap.size w2 (w2.alloc (.cells #[.int .u64 (z : Int)] 22)) := (Below.refl _ _).alloc (Nat.le_refl _) _
  have q3 : (w2.alloc (.cells #[.int .u64 (z : Int)] 22)).cell? ⟨gn, 0, none⟩ = some (.int .u64 (z : Int)) := by rw [hgn]; exact cell_of_row _ w2.heap.size 0 _ _ (0, 0) (heap_alloc_new w2 _)
  rw [← hgn]
  obtain ⟨w2, hw2⟩ : ∃ w3, w3 = w2.alloc (.cells #[.int .u64 (z : Int)] 22) := ⟨_, rfl⟩
  rw [← hw2] at b2 q3 ⊢
  have CN := Lib.hid q3
  have BX := Lib.hid (BX.out.trans (b2.mono BX.out.size))
  clear b2 q3 hw2 hgn
  try go_simp
  refine hK.out _ _ (KP.out _ BX.out) (fun hHeld => ?_)
  clear hK K
  try simp only [Act.put, List.setIfInBounds_toArray, List.set_cons_zero, List.set_cons_succ]
  refine wpAnyH_ready (rs := [11]) (by kernel_rfl) (by simp) ?_
  refine AllReadyH.cons (o := _) rfl (fun K hK => ?_) (AllReadyH.nil)
  refine step_append_clip (by kernel_rfl) (.tmp 114) (.tmp 119) rfl gh L m HM.out (KP.out _ BX.out).1 gn z CN.out (by omega) rfl rfl ?_
  intro c' w3 hc3 h3 b3
  have BY := Lib.hid (BX.out.trans (b3.mono BX.out.size))
  have H3 := Lib.hid (And.intro hc3 (And.intro h3 BX.out.size))
  obtain ⟨gk, hgk⟩ : ∃ g0, g0 = w2.heap.size := ⟨_, rfl⟩
  rw [← hgk] at H3 ⊢
  have HGK := Lib.hid hgk.symm
  clear hc3 h3 b3 hgk
  try go_simp
  try go_simp
  refine hK.out _ _ (KP.out _ BY.out) (fun hHeld => ?_)
  clear hK K
  try simp only [Act.put, List.setIfInBounds_toArray, List.set_cons_zero, List.set_cons_succ]
  refine takeH (i := 12) (d := 6) (oi := _) (v := .slice (some ⟨gk, 0, none⟩) (m + 1) c') rfl (by kernel_rfl) (by kernel_rfl) (by kernel_rfl) (by kernel_rfl) (fun _ _ _ h => h) (Or.inl ⟨by kernel_rfl, by intro u hSw; clear hSw; go_simp⟩) hHeld ?_
  try simp only [List.setIfInBounds_toArray, List.set_cons_zero, List.set_cons_succ]
  refine wpAnyH_done (by kernel_rfl) ?_ _
  refine NoPanic.normal ?_
  exact hQ _ _ _ _ _ _ _ _ _ _ _ _ _ _ _ H3.out.1 H3.out.2.1 (Nat.le_trans BX.out.size (Nat.le_of_eq HGK.out)) BY.out
end Go.Proofs.Ytkjlcfffalmgoaa
