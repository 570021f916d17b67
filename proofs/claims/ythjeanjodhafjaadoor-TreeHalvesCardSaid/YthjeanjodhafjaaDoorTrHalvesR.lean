/- The law of halves: its last region. -/
import Derived.Test.YthjeanjodhafjaaDoorTrSame
import Derived.Test.YthjeanjodhafjaaDoorTrKnown
import Derived.Deep.RegionHeld3
namespace Go.Proofs.YthjeanjodhafjaaDoor
open Go.ChangeShapes Go.WideShapes Go.ChangeAt Go.RowKit
set_option linter.unusedVariables false

theorem takeH {P : Program} {ops : Array Oper} {Q : Exit → Act → World → Prop} {S : World → Prop} {md : Region.Mode} {i d : Nat} {oi : Oper} {v : Value} {fuel : Nat} {listed : Array Bool} {ts : Array Value} {ds : List Deferred} {w : World} (hi : ops[i]? = some oi)
    (hd : oi.dst = some d) (hs : Region.noSelect ops = true) (hf : Region.free md ops listed i = true) (hr : (Region.ready md ops listed).contains i = true)
    (hQ : ∀ c a w, Q (.panic c) (a.put oi.dst v) w → Q (.panic c) a w) (hy : YieldsIf P ops S oi v ⟨ts, ds⟩) (hS : S w)
    (h : wpAnyH P md ops Q S fuel (listed.setIfInBounds i true) ⟨ts.setIfInBounds d v, ds⟩ w) : wpAnyH P md ops Q S (fuel + 1) listed ⟨ts, ds⟩ w :=
  wpAnyH_take hi hs hf hr hQ hy hS (by rw [hd]; exact h)
theorem yieldsIf_load_midC {P : Program} {ops : Array Oper} {S : World → Prop} {op : Oper} {a : Act} (hw : Region.wanted op (yielded ops a.tmps) = true) (ty : TypeId) (x : Operand) (ho : op.op = .load ty x)
    (b o : Nat) (hx : a.eval x = .pointer (some ⟨b, o, none⟩)) (cs : List Value) (R : Array Value) (hR : cs.toArray = R) (d : TypeDesc) (hS : ∀ w, S w → w.rangeAt b o cs)
    (hu : P.underlying ty = some d) (hd : d.isRow = true) (hi : (P.info? ty).map (·.size) = some R.size) : YieldsIf P ops S op (.agg R) a := by
  subst hR
  exact yieldsIf_load_mid hw ty x ho b o hx cs d hS hu hd (by rw [hi]; simp)
section
variable {P : Program}
/-- A guarded append inside a drawn region, whatever the elements. -/
theorem step_append_g {w : World} {ops : Array Oper} {o : Oper} {a : Act} {K : Act → World → Prop} {Q : Exit → Act → World → Prop} {E : Prop} (hw : Region.wanted o (yielded ops a.tmps) = true) (s x : Operand) (t : TypeId)
    (ho : o.op = .call { callee := .builtin .append, args := #[s, x], argTypes := #[t, t] })
    (base : Nat) (e : TypeId) (i : TypeInfo) (z : Value) (size bytes : Nat) (ht : P.underlying t = some (.slice e)) (hi : P.info? e = some i) (hz : i.zero = some z)
    (hsize : i.size = size) (hby : i.bytes = bytes) (hzs : z.cells.size = size) (hsz : 0 < size)
    (v : Value) (n : Nat) (xs : List Value) (hs : a.eval s = v) (hown : w.ownsRow base e size v n xs)
    (ad : Addr) (m c : Nat) (news : List Value) (hx : a.eval x = .slice (some ad) m c) (hl : news.length = m * size) (hnews : ∀ j u, news[j]? = some u → w.cell? (ad.add j) = some u) (h1 : ∀ u ∈ news, u.oneCell' = true)
    (h63 : n + m ≤ maxLen) (hbytes : (n + m) * bytes ≤ 140737488355328) (hbase : base ≤ w.heap.size)
    (h : ∀ v' w', w'.ownsRow base e size v' (n + m) (xs ++ news) → w.grownBy w' v.ownBlock → (v'.ownBlock = v.ownBlock ∨ v'.ownBlock = some w.heap.size) → K (a.put o.dst v') w') :
    if Region.wanted o (yielded ops a.tmps) = true then Oper.wp P o a w K Q else E := by
  rw [if_pos hw]
  obtain ⟨v', w', hrun, h2, h3, _, h5⟩ := run_append_own_at (P := P) w base t o.type e i z size bytes ht hi hz hsize hby hzs hsz v n xs hown ad m c news hl hnews h1 h63 hbytes hbase
  unfold Oper.wp execOp
  simp only [ho, resolve, invoke, builtin, Sem.run_bind, Sem.run_pure, Result.andThen_ok, List.map_toArray, List.map_cons, List.map_nil, hs, hx, hrun]
  exact h v' w' h2 h3 h5
theorem step_buildSlice_g {w w' : World} {ops : Array Oper} {o : Oper} {a : Act} {K : Act → World → Prop} {Q : Exit → Act → World → Prop} {E : Prop} (hw : Region.wanted o (yielded ops a.tmps) = true) (t : TypeId) (len : Nat) (parts : Array (Nat × Operand)) (ho : o.op = .buildSlice t len parts) (v : Value)
    (hrun : (Instr.buildSlice t len (parts.map fun (i, x) => (i, a.eval x))).run P w = .ok v w') (h : K (a.put o.dst v) w') : if Region.wanted o (yielded ops a.tmps) = true then Oper.wp P o a w K Q else E := by
  rw [if_pos hw]
  unfold Oper.wp execOp
  simp only [ho, Sem.run_bind, hrun, Result.andThen_ok]
  exact h
end
theorem hcs_append (a b : List (List UInt8)) : hcs (a ++ b) = hcs a ++ hcs b := by unfold hcs; exact List.flatMap_append
theorem hcs_one_more (a : List (List UInt8)) (y : List UInt8) : hcs a ++ hC y = hcs (a ++ [y]) := by rw [hcs_append]; unfold hcs; simp
theorem row_apart {w w' : World} {base sz n : Nat} {t : TypeId} {v : Value} {xs : List Value} {row : Option Nat} (h : w.ownsRow base t sz v n xs) (hg : w.grownBy w' row) (hk : ∀ k, row = some k → k < base) : w'.ownsRow base t sz v n xs := by
  refine ⟨h.1, ?_⟩
  rcases h.2 with h0 | ⟨g, cap, cur, hv, h1, h2, h3⟩
  · exact .inl h0
  · have hlt : g < w.heap.size := (h.lt g (by rw [hv]; rfl)).2
    exact .inr ⟨g, cap, cur, hv, h1, (hg.block g hlt (fun e => by have := hk g e.symm; omega)).trans h2, h3⟩
theorem fill_apart {w w' : World} {g t n k : Nat} {f : Nat → Value} {row : Option Nat} (h : Fill g t n k f w) (hg : w.grownBy w' row) (hk : ∀ k, row = some k → k ≠ g) : Fill g t n k f w' :=
  h.keep (hg.block g h.lt (fun e => hk g e.symm rfl))
/-- The three boxes. -/
def HvF (g7 g9 g12 : Nat) (x y : List UInt8) (u : World) : Prop := Fill g7 25 32 32 (hF x) u ∧ Fill g9 25 32 32 (hF y) u ∧ Fill g12 25 32 32 (hF (nd x y)) u
theorem HvF.below {g7 g9 g12 : Nat} {x y : List UInt8} {u u' : World} (h : HvF g7 g9 g12 x y u) (hb : Below u.heap.size u u') : HvF g7 g9 g12 x y u' := ⟨h.1.below hb h.1.lt, h.2.1.below hb h.2.1.lt, h.2.2.below hb h.2.2.lt⟩
/-- What lies in memory ahead of the last region. -/
def HvS (w0 : World) (g7 g9 g12 B2 B3 B4 h : Nat) (x y : List UInt8) (Aq As Au : Option Addr) (cq cs cu : Nat) (P S' : List (List UInt8)) (u : World) : Prop :=
  Below w0.heap.size w0 u ∧ Fill g7 25 32 32 (hF x) u ∧ Fill g9 25 32 32 (hF y) u ∧ Fill g12 25 32 32 (hF (nd x y)) u ∧ u.ownsRow B2 25 32 (.slice Aq (h + 1) cq) (h + 1) (hcs (P ++ [y])) ∧ u.ownsRow B3 25 32 (.slice As h cs) h (hcs S') ∧ u.ownsRow B4 25 32 (.slice Au (h + 1) cu) (h + 1) (hcs (S' ++ [x])) ∧ B4 ≤ u.heap.size
section
variable {w0 : World} {g7 g9 g12 B2 B3 B4 h : Nat} {x y : List UInt8} {Aq As Au : Option Addr} {cq cs cu : Nat} {P S' : List (List UInt8)} {u u' : World}
theorem HvS.fills (h' : HvS w0 g7 g9 g12 B2 B3 B4 h x y Aq As Au cq cs cu P S' u) : HvF g7 g9 g12 x y u := ⟨h'.2.1, h'.2.2.1, h'.2.2.2.1⟩
theorem HvS.below (h' : HvS w0 g7 g9 g12 B2 B3 B4 h x y Aq As Au cq cs cu P S' u) (hb : Below u.heap.size u u') : HvS w0 g7 g9 g12 B2 B3 B4 h x y Aq As Au cq cs cu P S' u' := by
  obtain ⟨h1, h2, h3, h4, h5, h6, h7, h8⟩ := h'
  exact ⟨h1.trans (hb.mono h1.size), h2.below hb h2.lt, h3.below hb h3.lt, h4.below hb h4.lt, rowBelow h5 hb (Nat.le_refl _), rowBelow h6 hb (Nat.le_refl _), rowBelow h7 hb (Nat.le_refl _), Nat.le_trans h8 hb.size⟩
theorem HvS.grown {row : Option Nat} {B1 : Nat} (h' : HvS w0 g7 g9 g12 B2 B3 B4 h x y Aq As Au cq cs cu P S' u) (hg : u.grownBy u' row) (hk : ∀ k, row = some k → B1 ≤ k ∧ k < B2) (hw1 : w0.heap.size ≤ B1) (h71 : g7 < B1) (h91 : g9 < B1) (h121 : g12 < B1) (h12 : B1 ≤ B2) (h23 : B2 ≤ B3) (h34 : B3 ≤ B4) : HvS w0 g7 g9 g12 B2 B3 B4 h x y Aq As Au cq cs cu P S' u' := by
  obtain ⟨h1, h2, h3, h4, h5, h6, h7, h8⟩ := h'
  refine ⟨h1.grown hg h1.size (fun k e => by have := hk k e; omega), fill_apart h2 hg (fun k e => by have := hk k e; omega), fill_apart h3 hg (fun k e => by have := hk k e; omega), fill_apart h4 hg (fun k e => by have := hk k e; omega), row_apart h5 hg (fun k e => (hk k e).2), row_apart h6 hg (fun k e => by have := hk k e; omega), row_apart h7 hg (fun k e => by have := hk k e; omega), Nat.le_trans h8 hg.size⟩
end
noncomputable def halvesR : Code := ((Tryd.f5.body.bind (regionOf 11))).getD .skip
set_option maxRecDepth 1000000 in
set_option maxHeartbeats 8000000 in
theorem halves_r11 (c0 c1 c2 c3 c4 c5 c6 c11 c22 c23 c24 c25 c26 c27 c28 c29 c30 c31 c32 c33 c34 c35 c36 c37 c38 c39 c40 c41 c42 c43 c44 c45 c46 c47 c48 c49 c50 c51 c52 c53 c54 c55 c56 c57 c58 c59 c60 c61 c62 c63 c64 c65 c66 c67 c68 c69 c70 c71 c72 c73 c74 c75 c76 c77 c78 c79 c80 c81 c82 c83 c84 c85 c86 c87 c88 c89 c90 c91 c92 c93 c94 c95 c96 c97 c98 c99 c100 c101 c102 c103 c104 c105 c106 c107 c108 c109 c110 c111 c112 c113 c114 c115 c116 c117 c118 c119 c120 c121 c122 c123 c124 c125 c126 c127 c128 c129 c130 c131 c132 c133 c134 c135 c136 c137 c138 c139 c140 c141 c142 c143 c144 c145 c146 : Value) (w w0 : World) (g7 g9 g12 B1 B2 B3 B4 h : Nat) (x y : List UInt8) (hx : x.length = 32) (hy : y.length = 32) (Ap Aq As Au : Option Addr) (cp cq cs cu : Nat) (P S' : List (List UInt8))
    (HT : Hid (∀ u : World, Below w0.heap.size w0 u → Tabs u)) (hS : HvS w0 g7 g9 g12 B2 B3 B4 h x y Aq As Au cq cs cu P S' w) (hP : w.ownsRow B1 25 32 (.slice Ap h cp) h (hcs P)) (hPk : ∀ k, (Value.slice Ap h cp).ownBlock = some k → k < B2) (hSk : ∀ k, (Value.slice As h cs).ownBlock = some k → k < B4)
    (hw1 : w0.heap.size ≤ B1) (h71 : g7 < B1) (h91 : g9 < B1) (h121 : g12 < B1) (h12 : B1 ≤ B2) (h23 : B2 ≤ B3) (h34 : B3 ≤ B4) (h8 : h ≤ 8) (hp : ∀ z ∈ P, z.length = 32) (hs : ∀ z ∈ S', z.length = 32)
    (Q : Exit → Act → World → Prop) (hQ : ∀ (u95 u96 u97 u98 u99 u100 u101 u102 u103 u104 u105 u106 u107 u108 u109 u110 u111 u112 u113 u114 u115 u116 u117 u118 u119 u120 u121 u122 u123 u124 u125 u126 u127 u128 u129 u130 u131 u132 u133 u134 u135 u136 u137 u138 u139 u140 u141 u142 u143 u144 u145 u146 : Value) (w' : World), Below w0.heap.size w0 w' → Q .normal ⟨#[c0, c1, c2, c3, c4, c5, .bool true, .pointer (some ⟨g7, 0, none⟩), .int .i64 0, .pointer (some ⟨g9, 0, none⟩), .int .i64 0, c11, .pointer (some ⟨g12, 0, none⟩), .int .i64 0, .slice Ap h cp, .int .i64 0, .slice Aq (h + 1) cq, .int .i64 0, .slice As h cs, .int .i64 0, .slice Au (h + 1) cu, .int .i64 0, c22, c23, c24, c25, c26, c27, c28, c29, c30, c31, c32, c33, c34, c35, c36, c37, c38, c39, c40, c41, c42, c43, c44, c45, c46, c47, c48, c49, c50, c51, c52, c53, c54, c55, c56, c57, c58, c59, c60, c61, c62, c63, c64, c65, c66, c67, c68, c69, c70, c71, c72, c73, c74, c75, c76, c77, c78, c79, c80, c81, c82, c83, c84, c85, c86, c87, c88, c89, c90, c91, c92, c93, c94, u95, u96, u97, u98, u99, u100, u101, u102, u103, u104, u105, u106, u107, u108, u109, u110, u111, u112, u113, u114, u115, u116, u117, u118, u119, u120, u121, u122, u123, u124, u125, u126, u127, u128, u129, u130, u131, u132, u133, u134, u135, u136, u137, u138, u139, u140, u141, u142, u143, u144, u145, u146], []⟩ w') :
    Code.wp Tryd.prog halvesR Q ⟨#[c0, c1, c2, c3, c4, c5, c6, .pointer (some ⟨g7, 0, none⟩), .int .i64 0, .pointer (some ⟨g9, 0, none⟩), .int .i64 0, c11, .pointer (some ⟨g12, 0, none⟩), .int .i64 0, .slice Ap h cp, .int .i64 0, .slice Aq (h + 1) cq, .int .i64 0, .slice As h cs, .int .i64 0, .slice Au (h + 1) cu, .int .i64 0, c22, c23, c24, c25, c26, c27, c28, c29, c30, c31, c32, c33, c34, c35, c36, c37, c38, c39, c40, c41, c42, c43, c44, c45, c46, c47, c48, c49, c50, c51, c52, c53, c54, c55, c56, c57, c58, c59, c60, c61, c62, c63, c64, c65, c66, c67, c68, c69, c70, c71, c72, c73, c74, c75, c76, c77, c78, c79, c80, c81, c82, c83, c84, c85, c86, c87, c88, c89, c90, c91, c92, c93, c94, c95, c96, c97, c98, c99, c100, c101, c102, c103, c104, c105, c106, c107, c108, c109, c110, c111, c112, c113, c114, c115, c116, c117, c118, c119, c120, c121, c122, c123, c124, c125, c126, c127, c128, c129, c130, c131, c132, c133, c134, c135, c136, c137, c138, c139, c140, c141, c142, c143, c144, c145, c146], []⟩ w := by
  conv => arg 2; whnf
  dsimp only at hQ ⊢
  obtain ⟨i0, hi0⟩ : ∃ i0, Tryd.prog.info? 25 = some i0 := ⟨_, (Option.some_get (by kernel_rfl)).symm⟩
  obtain ⟨hz0, hz1, hz2⟩ := hashes_row hi0
  have he := eq_own (nd x y) (nd_len x y)
  have he2 : ∀ u : World, (Op.equalIn 10000 25 (.agg (hashV (nd x y))) (.agg (hashV (nd x y)))).run Tryd.prog u = .ok true u := he
  have hPl : P.length = h := (own_count hP).symm
  have hSl : S'.length = h := (own_count hS.2.2.2.2.2.1).symm
  have CS1 : Hid (∀ (u : World) (A1 A2 : Option Addr) (c1 c2 : Nat), RdH u u.heap.size A1 (P ++ [y]) → RdH u u.heap.size A2 (P ++ [y]) → Calls Tryd.prog 13 #[.slice A1 (h + 1) c1, .slice A2 (h + 1) c2] u fun e w' => e = .returned (.bool true) ∧ Below u.heap.size u w') := fun u A1 A2 c1 c2 h1 h2 => by
    have := same_c (P ++ [y]) A1 A2 c1 c2 u (fun z hz => (List.mem_append.1 hz).elim (hp z) (fun hz => by rw [List.mem_singleton.1 hz]; exact hy)) h1 h2 (by rw [List.length_append, hPl]; show h + 1 ≤ _; omega)
    rw [List.length_append, hPl] at this
    exact this
  have CS2 : Hid (∀ (u : World) (A1 A2 : Option Addr) (c1 c2 : Nat), RdH u u.heap.size A1 (S' ++ [x]) → RdH u u.heap.size A2 (S' ++ [x]) → Calls Tryd.prog 13 #[.slice A1 (h + 1) c1, .slice A2 (h + 1) c2] u fun e w' => e = .returned (.bool true) ∧ Below u.heap.size u w') := fun u A1 A2 c1 c2 h1 h2 => by
    have := same_c (S' ++ [x]) A1 A2 c1 c2 u (fun z hz => (List.mem_append.1 hz).elim (hs z) (fun hz => by rw [List.mem_singleton.1 hz]; exact hx)) h1 h2 (by rw [List.length_append, hSl]; show h + 1 ≤ _; omega)
    rw [List.length_append, hSl] at this
    exact this
  have ST0 : Hid (HvS w0 g7 g9 g12 B2 B3 B4 h x y Aq As Au cq cs cu P S' w.drew) := hS.below ((Below.refl w.heap.size w).drew)
  have PX0 : Hid (w.drew.ownsRow B1 25 32 (.slice Ap h cp) h (hcs P)) := hP
  clear hS hP hp hs
  refine wp_region_noPanic ?_
  refine wp_region_held_drew (S := HvF g7 g9 g12 x y) (by kernel_rfl) ST0.out.fills (fun hHeld => ?_)
  refine takeH (i := 0) (d := 95) (oi := _) (v := .int .i64 0) rfl (by kernel_rfl) (by kernel_rfl) (by kernel_rfl) (by kernel_rfl) (fun _ _ _ h => h) (Or.inl ⟨by kernel_rfl, by intro u hSw; clear hSw; go_simp⟩) hHeld ?_
  try simp only [List.setIfInBounds_toArray, List.set_cons_zero, List.set_cons_succ]
  refine takeH (i := 1) (d := 96) (oi := _) (v := .bool true) rfl (by kernel_rfl) (by kernel_rfl) (by kernel_rfl) (by kernel_rfl) (fun _ _ _ h => h) (Or.inl ⟨by kernel_rfl, by intro u hSw; clear hSw; go_simp⟩) hHeld ?_
  try simp only [List.setIfInBounds_toArray, List.set_cons_zero, List.set_cons_succ]
  refine takeH (i := 2) (d := 97) (oi := _) (v := .bool true) rfl (by kernel_rfl) (by kernel_rfl) (by kernel_rfl) (by kernel_rfl) (fun _ _ _ h => h) (Or.inl ⟨by kernel_rfl, by intro u hSw; clear hSw; go_simp⟩) hHeld ?_
  try simp only [List.setIfInBounds_toArray, List.set_cons_zero, List.set_cons_succ]
  refine takeH (i := 3) (d := 98) (oi := _) (v := .int .i64 0) rfl (by kernel_rfl) (by kernel_rfl) (by kernel_rfl) (by kernel_rfl) (fun _ _ _ h => h) (Or.inl ⟨by kernel_rfl, by intro u hSw; clear hSw; go_simp⟩) hHeld ?_
  try simp only [List.setIfInBounds_toArray, List.set_cons_zero, List.set_cons_succ]
  refine takeH (i := 4) (d := 99) (oi := _) (v := .bool true) rfl (by kernel_rfl) (by kernel_rfl) (by kernel_rfl) (by kernel_rfl) (fun _ _ _ h => h) (Or.inl ⟨by kernel_rfl, by intro u hSw; clear hSw; go_simp⟩) hHeld ?_
  try simp only [List.setIfInBounds_toArray, List.set_cons_zero, List.set_cons_succ]
  refine takeH (i := 5) (d := 100) (oi := _) (v := .bool true) rfl (by kernel_rfl) (by kernel_rfl) (by kernel_rfl) (by kernel_rfl) (fun _ _ _ h => h) (Or.inl ⟨by kernel_rfl, by intro u hSw; clear hSw; go_simp⟩) hHeld ?_
  try simp only [List.setIfInBounds_toArray, List.set_cons_zero, List.set_cons_succ]
  refine takeH (i := 6) (d := 101) (oi := _) (v := .bool true) rfl (by kernel_rfl) (by kernel_rfl) (by kernel_rfl) (by kernel_rfl) (fun _ _ _ h => h) (Or.inl ⟨by kernel_rfl, by intro u hSw; clear hSw; go_simp⟩) hHeld ?_
  try simp only [List.setIfInBounds_toArray, List.set_cons_zero, List.set_cons_succ]
  refine takeH (i := 7) (d := 102) (oi := _) (v := .int .i64 0) rfl (by kernel_rfl) (by kernel_rfl) (by kernel_rfl) (by kernel_rfl) (fun _ _ _ h => h) (Or.inl ⟨by kernel_rfl, by intro u hSw; clear hSw; go_simp⟩) hHeld ?_
  try simp only [List.setIfInBounds_toArray, List.set_cons_zero, List.set_cons_succ]
  refine takeH (i := 8) (d := 103) (oi := _) (v := .bool true) rfl (by kernel_rfl) (by kernel_rfl) (by kernel_rfl) (by kernel_rfl) (fun _ _ _ h => h) (Or.inl ⟨by kernel_rfl, by intro u hSw; clear hSw; go_simp⟩) hHeld ?_
  try simp only [List.setIfInBounds_toArray, List.set_cons_zero, List.set_cons_succ]
  refine takeH (i := 9) (d := 104) (oi := _) (v := .bool true) rfl (by kernel_rfl) (by kernel_rfl) (by kernel_rfl) (by kernel_rfl) (fun _ _ _ h => h) (Or.inl ⟨by kernel_rfl, by intro u hSw; clear hSw; go_simp⟩) hHeld ?_
  try simp only [List.setIfInBounds_toArray, List.set_cons_zero, List.set_cons_succ]
  refine takeH (i := 10) (d := 105) (oi := _) (v := .bool true) rfl (by kernel_rfl) (by kernel_rfl) (by kernel_rfl) (by kernel_rfl) (fun _ _ _ h => h) (Or.inl ⟨by kernel_rfl, by intro u hSw; clear hSw; go_simp⟩) hHeld ?_
  try simp only [List.setIfInBounds_toArray, List.set_cons_zero, List.set_cons_succ]
  refine takeH (i := 11) (d := 106) (oi := _) (v := .int .i64 0) rfl (by kernel_rfl) (by kernel_rfl) (by kernel_rfl) (by kernel_rfl) (fun _ _ _ h => h) (Or.inl ⟨by kernel_rfl, by intro u hSw; clear hSw; go_simp⟩) hHeld ?_
  try simp only [List.setIfInBounds_toArray, List.set_cons_zero, List.set_cons_succ]
  refine takeH (i := 12) (d := 107) (oi := _) (v := .bool true) rfl (by kernel_rfl) (by kernel_rfl) (by kernel_rfl) (by kernel_rfl) (fun _ _ _ h => h) (Or.inl ⟨by kernel_rfl, by intro u hSw; clear hSw; go_simp⟩) hHeld ?_
  try simp only [List.setIfInBounds_toArray, List.set_cons_zero, List.set_cons_succ]
  refine takeH (i := 13) (d := 108) (oi := _) (v := .bool true) rfl (by kernel_rfl) (by kernel_rfl) (by kernel_rfl) (by kernel_rfl) (fun _ _ _ h => h) (Or.inl ⟨by kernel_rfl, by intro u hSw; clear hSw; go_simp⟩) hHeld ?_
  try simp only [List.setIfInBounds_toArray, List.set_cons_zero, List.set_cons_succ]
  refine takeH (i := 14) (d := 109) (oi := _) (v := .bool true) rfl (by kernel_rfl) (by kernel_rfl) (by kernel_rfl) (by kernel_rfl) (fun _ _ _ h => h) (Or.inl ⟨by kernel_rfl, by intro u hSw; clear hSw; go_simp⟩) hHeld ?_
  try simp only [List.setIfInBounds_toArray, List.set_cons_zero, List.set_cons_succ]
  refine takeH (i := 15) (d := 110) (oi := _) (v := .int .i64 0) rfl (by kernel_rfl) (by kernel_rfl) (by kernel_rfl) (by kernel_rfl) (fun _ _ _ h => h) (Or.inl ⟨by kernel_rfl, by intro u hSw; clear hSw; go_simp⟩) hHeld ?_
  try simp only [List.setIfInBounds_toArray, List.set_cons_zero, List.set_cons_succ]
  refine takeH (i := 16) (d := 111) (oi := _) (v := .bool true) rfl (by kernel_rfl) (by kernel_rfl) (by kernel_rfl) (by kernel_rfl) (fun _ _ _ h => h) (Or.inl ⟨by kernel_rfl, by intro u hSw; clear hSw; go_simp⟩) hHeld ?_
  try simp only [List.setIfInBounds_toArray, List.set_cons_zero, List.set_cons_succ]
  refine takeH (i := 17) (d := 112) (oi := _) (v := .bool true) rfl (by kernel_rfl) (by kernel_rfl) (by kernel_rfl) (by kernel_rfl) (fun _ _ _ h => h) (Or.inl ⟨by kernel_rfl, by intro u hSw; clear hSw; go_simp⟩) hHeld ?_
  try simp only [List.setIfInBounds_toArray, List.set_cons_zero, List.set_cons_succ]
  refine takeH (i := 18) (d := 113) (oi := _) (v := .bool true) rfl (by kernel_rfl) (by kernel_rfl) (by kernel_rfl) (by kernel_rfl) (fun _ _ _ h => h) (Or.inl ⟨by kernel_rfl, by intro u hSw; clear hSw; go_simp⟩) hHeld ?_
  try simp only [List.setIfInBounds_toArray, List.set_cons_zero, List.set_cons_succ]
  refine takeH (i := 19) (d := 114) (oi := _) (v := .int .i64 0) rfl (by kernel_rfl) (by kernel_rfl) (by kernel_rfl) (by kernel_rfl) (fun _ _ _ h => h) (Or.inl ⟨by kernel_rfl, by intro u hSw; clear hSw; go_simp⟩) hHeld ?_
  try simp only [List.setIfInBounds_toArray, List.set_cons_zero, List.set_cons_succ]
  refine takeH (i := 20) (d := 115) (oi := _) (v := .bool true) rfl (by kernel_rfl) (by kernel_rfl) (by kernel_rfl) (by kernel_rfl) (fun _ _ _ h => h) (Or.inl ⟨by kernel_rfl, by intro u hSw; clear hSw; go_simp⟩) hHeld ?_
  try simp only [List.setIfInBounds_toArray, List.set_cons_zero, List.set_cons_succ]
  refine takeH (i := 21) (d := 116) (oi := _) (v := .bool true) rfl (by kernel_rfl) (by kernel_rfl) (by kernel_rfl) (by kernel_rfl) (fun _ _ _ h => h) (Or.inl ⟨by kernel_rfl, by intro u hSw; clear hSw; go_simp⟩) hHeld ?_
  try simp only [List.setIfInBounds_toArray, List.set_cons_zero, List.set_cons_succ]
  refine takeH (i := 22) (d := 117) (oi := _) (v := .bool true) rfl (by kernel_rfl) (by kernel_rfl) (by kernel_rfl) (by kernel_rfl) (fun _ _ _ h => h) (Or.inl ⟨by kernel_rfl, by intro u hSw; clear hSw; go_simp⟩) hHeld ?_
  try simp only [List.setIfInBounds_toArray, List.set_cons_zero, List.set_cons_succ]
  refine takeH (i := 23) (d := 118) (oi := _) (v := .int .i64 0) rfl (by kernel_rfl) (by kernel_rfl) (by kernel_rfl) (by kernel_rfl) (fun _ _ _ h => h) (Or.inl ⟨by kernel_rfl, by intro u hSw; clear hSw; go_simp⟩) hHeld ?_
  try simp only [List.setIfInBounds_toArray, List.set_cons_zero, List.set_cons_succ]
  refine takeH (i := 24) (d := 119) (oi := _) (v := .bool true) rfl (by kernel_rfl) (by kernel_rfl) (by kernel_rfl) (by kernel_rfl) (fun _ _ _ h => h) (Or.inl ⟨by kernel_rfl, by intro u hSw; clear hSw; go_simp⟩) hHeld ?_
  try simp only [List.setIfInBounds_toArray, List.set_cons_zero, List.set_cons_succ]
  refine takeH (i := 25) (d := 120) (oi := _) (v := .bool true) rfl (by kernel_rfl) (by kernel_rfl) (by kernel_rfl) (by kernel_rfl) (fun _ _ _ h => h) (Or.inl ⟨by kernel_rfl, by intro u hSw; clear hSw; go_simp⟩) hHeld ?_
  try simp only [List.setIfInBounds_toArray, List.set_cons_zero, List.set_cons_succ]
  refine takeH (i := 26) (d := 121) (oi := _) (v := .bool true) rfl (by kernel_rfl) (by kernel_rfl) (by kernel_rfl) (by kernel_rfl) (fun _ _ _ h => h) (Or.inl ⟨by kernel_rfl, by intro u hSw; clear hSw; go_simp⟩) hHeld ?_
  try simp only [List.setIfInBounds_toArray, List.set_cons_zero, List.set_cons_succ]
  refine takeH (i := 27) (d := 122) (oi := _) (v := .agg (hashV (nd x y))) rfl (by kernel_rfl) (by kernel_rfl) (by kernel_rfl) (by kernel_rfl) (fun _ _ _ h => h) (yieldsIf_load_midC (by kernel_rfl) _ _ rfl g12 0 rfl (hC (nd x y)) (hashV (nd x y)) (hC_arr (nd x y)) _ (fun w h => h.2.2.whole) hash_under rfl (size_hashVW _)) hHeld ?_
  try simp only [List.setIfInBounds_toArray, List.set_cons_zero, List.set_cons_succ]
  refine takeH (i := 28) (d := 123) (oi := _) (v := .agg (hashV x)) rfl (by kernel_rfl) (by kernel_rfl) (by kernel_rfl) (by kernel_rfl) (fun _ _ _ h => h) (yieldsIf_load_midC (by kernel_rfl) _ _ rfl g7 0 rfl (hC x) (hashV x) (hC_arr x) _ (fun w h => h.1.whole) hash_under rfl (size_hashVW _)) hHeld ?_
  try simp only [List.setIfInBounds_toArray, List.set_cons_zero, List.set_cons_succ]
  refine takeH (i := 29) (d := 124) (oi := _) (v := .agg (hashV y)) rfl (by kernel_rfl) (by kernel_rfl) (by kernel_rfl) (by kernel_rfl) (fun _ _ _ h => h) (yieldsIf_load_midC (by kernel_rfl) _ _ rfl g9 0 rfl (hC y) (hashV y) (hC_arr y) _ (fun w h => h.2.1.whole) hash_under rfl (size_hashVW _)) hHeld ?_
  try simp only [List.setIfInBounds_toArray, List.set_cons_zero, List.set_cons_succ]
  refine wpAnyH_ready (rs := [30]) (by kernel_rfl) (by simp) ?_
  refine AllReadyH.cons (o := _) rfl (fun K hK => ?_) AllReadyH.nil
  go_simp
  go_at_call 17
  refine (node_c x y hx hy _ (HT.out _ ST0.out.1)).mono ?_
  rintro e w1 ⟨rfl, b1⟩
  have ST1 := Lib.hid (ST0.out.below b1)
  have PX1 := Lib.hid (rowBelow PX0.out b1 (Nat.le_refl _))
  clear b1
  go_simp
  refine hK.out _ _ ST1.out.fills (fun hHeld => ?_)
  clear hK K
  try simp only [Act.put, List.setIfInBounds_toArray, List.set_cons_zero, List.set_cons_succ]
  refine takeH (i := 31) (d := 126) (oi := _) (v := .bool true) rfl (by kernel_rfl) (by kernel_rfl) (by kernel_rfl) (by kernel_rfl) (fun _ _ _ h => h) (Or.inl ⟨by kernel_rfl, by intro u hSw; clear hSw; go_simp⟩) hHeld ?_
  try simp only [List.setIfInBounds_toArray, List.set_cons_zero, List.set_cons_succ]
  refine takeH (i := 32) (d := 127) (oi := _) (v := .bool true) rfl (by kernel_rfl) (by kernel_rfl) (by kernel_rfl) (by kernel_rfl) (fun _ _ _ h => h) (Or.inl ⟨by kernel_rfl, by intro u hSw; clear hSw; go_simp⟩) hHeld ?_
  try simp only [List.setIfInBounds_toArray, List.set_cons_zero, List.set_cons_succ]
  refine takeH (i := 33) (d := 128) (oi := _) (v := .bool true) rfl (by kernel_rfl) (by kernel_rfl) (by kernel_rfl) (by kernel_rfl) (fun _ _ _ h => h) (Or.inl ⟨by kernel_rfl, by intro u hSw; clear hSw; go_simp⟩) hHeld ?_
  try simp only [List.setIfInBounds_toArray, List.set_cons_zero, List.set_cons_succ]
  refine takeH (i := 34) (d := 129) (oi := _) (v := .slice Aq (h + 1) cq) rfl (by kernel_rfl) (by kernel_rfl) (by kernel_rfl) (by kernel_rfl) (fun _ _ _ h => h) (Or.inl ⟨by kernel_rfl, by intro u hSw; clear hSw; go_simp⟩) hHeld ?_
  try simp only [List.setIfInBounds_toArray, List.set_cons_zero, List.set_cons_succ]
  refine takeH (i := 35) (d := 130) (oi := _) (v := .slice Ap h cp) rfl (by kernel_rfl) (by kernel_rfl) (by kernel_rfl) (by kernel_rfl) (fun _ _ _ h => h) (Or.inl ⟨by kernel_rfl, by intro u hSw; clear hSw; go_simp⟩) hHeld ?_
  try simp only [List.setIfInBounds_toArray, List.set_cons_zero, List.set_cons_succ]
  refine takeH (i := 36) (d := 131) (oi := _) (v := .agg (hashV y)) rfl (by kernel_rfl) (by kernel_rfl) (by kernel_rfl) (by kernel_rfl) (fun _ _ _ h => h) (yieldsIf_load_midC (by kernel_rfl) _ _ rfl g9 0 rfl (hC y) (hashV y) (hC_arr y) _ (fun w h => h.2.1.whole) hash_under rfl (size_hashVW _)) hHeld ?_
  try simp only [List.setIfInBounds_toArray, List.set_cons_zero, List.set_cons_succ]
  refine wpAnyH_ready (rs := [37]) (by kernel_rfl) (by simp) ?_
  refine AllReadyH.cons (o := _) rfl (fun K hK => ?_) AllReadyH.nil
  refine step_buildSlice_g (w' := w1.alloc (.cells (hashV y) 25)) (by kernel_rfl) 22 1 #[(0, .tmp 131)] rfl (.slice (some ⟨w1.heap.size, 0, none⟩) 1 1) (by simp only [List.map_toArray, List.map_cons, List.map_nil]; exact one_hash y w1) ?_
  have HALa := Lib.hid (heap_alloc_new w1 (.cells (hashV y) 25))
  have NBa := Lib.hid ((Below.refl w1.heap.size w1).alloc (Nat.le_refl _) (.cells (hashV y) 25))
  obtain ⟨w2, hw2⟩ : ∃ w2, w2 = w1.alloc (.cells (hashV y) 25) := ⟨_, rfl⟩
  rw [← hw2] at HALa NBa ⊢
  clear hw2
  have ST2 := Lib.hid (ST1.out.below NBa.out)
  have PX2 := Lib.hid (rowBelow PX1.out NBa.out (Nat.le_refl _))
  try go_simp
  refine hK.out _ _ ST2.out.fills (fun hHeld => ?_)
  clear hK K
  try simp only [Act.put, List.setIfInBounds_toArray, List.set_cons_zero, List.set_cons_succ]
  refine wpAnyH_ready (rs := [38]) (by kernel_rfl) (by simp) ?_
  refine AllReadyH.cons (o := _) rfl (fun K hK => ?_) AllReadyH.nil
  refine step_append_g (by kernel_rfl) (.tmp 130) (.tmp 132) 22 rfl B1 25 i0 _ 32 32 Tryd.underlying22 hi0 hz0 hz1 hz2 (by show (rowV 32 z8).size = 32; rw [rowV_size]) (by decide) (.slice Ap h cp) h (hcs P) rfl PX2.out ⟨w1.heap.size, 0, none⟩ 1 1 (hC y) rfl (by rw [hC_len]) (fun j v hv => by rw [addr_add, cell_of_row w2 _ j _ _ (0, 0) HALa.out]; unfold hashV rowV; rw [List.getElem?_toArray]; exact hv) (fun v hv => by unfold hC at hv; obtain ⟨j, _, rfl⟩ := List.mem_map.1 hv; rfl) (by unfold maxLen; omega) (by omega) ?hb ?_
  case hb => have := ST2.out.2.2.2.2.2.2.2; omega
  intro v3 w3 o3 g3 _
  obtain ⟨A3, c3, rfl, _, _⟩ := rowForm o3
  have ST3 := Lib.hid (ST2.out.grown g3 (fun k e => ⟨(PX2.out.lt k e).1, hPk k e⟩) hw1 h71 h91 h121 h12 h23 h34)
  rw [hcs_one_more P y] at o3
  have RX3 := Lib.hid (RdH.of_own o3)
  clear o3 g3
  try go_simp
  refine hK.out _ _ ST3.out.fills (fun hHeld => ?_)
  clear hK K
  try simp only [Act.put, List.setIfInBounds_toArray, List.set_cons_zero, List.set_cons_succ]
  refine wpAnyH_ready (rs := [39]) (by kernel_rfl) (by simp) ?_
  refine AllReadyH.cons (o := _) rfl (fun K hK => ?_) AllReadyH.nil
  go_simp
  go_at_call 13
  refine (CS1.out w3 Aq A3 cq c3 (RdH.of_own ST3.out.2.2.2.2.1) RX3.out).mono ?_
  rintro e w4 ⟨rfl, b4⟩
  have ST4 := Lib.hid (ST3.out.below b4)
  clear b4
  go_simp
  refine hK.out _ _ ST4.out.fills (fun hHeld => ?_)
  clear hK K
  try simp only [Act.put, List.setIfInBounds_toArray, List.set_cons_zero, List.set_cons_succ]
  refine takeH (i := 40) (d := 135) (oi := _) (v := .bool true) rfl (by kernel_rfl) (by kernel_rfl) (by kernel_rfl) (by kernel_rfl) (fun _ _ _ h => h) (Or.inl ⟨by kernel_rfl, by intro u hSw; clear hSw; go_simp⟩) hHeld ?_
  try simp only [List.setIfInBounds_toArray, List.set_cons_zero, List.set_cons_succ]
  refine takeH (i := 41) (d := 136) (oi := _) (v := .bool true) rfl (by kernel_rfl) (by kernel_rfl) (by kernel_rfl) (by kernel_rfl) (fun _ _ _ h => h) (Or.inl ⟨by kernel_rfl, by intro u hSw; clear hSw; go_simp⟩) hHeld ?_
  try simp only [List.setIfInBounds_toArray, List.set_cons_zero, List.set_cons_succ]
  refine takeH (i := 42) (d := 137) (oi := _) (v := .slice Au (h + 1) cu) rfl (by kernel_rfl) (by kernel_rfl) (by kernel_rfl) (by kernel_rfl) (fun _ _ _ h => h) (Or.inl ⟨by kernel_rfl, by intro u hSw; clear hSw; go_simp⟩) hHeld ?_
  try simp only [List.setIfInBounds_toArray, List.set_cons_zero, List.set_cons_succ]
  refine takeH (i := 43) (d := 138) (oi := _) (v := .slice As h cs) rfl (by kernel_rfl) (by kernel_rfl) (by kernel_rfl) (by kernel_rfl) (fun _ _ _ h => h) (Or.inl ⟨by kernel_rfl, by intro u hSw; clear hSw; go_simp⟩) hHeld ?_
  try simp only [List.setIfInBounds_toArray, List.set_cons_zero, List.set_cons_succ]
  refine takeH (i := 44) (d := 139) (oi := _) (v := .agg (hashV x)) rfl (by kernel_rfl) (by kernel_rfl) (by kernel_rfl) (by kernel_rfl) (fun _ _ _ h => h) (yieldsIf_load_midC (by kernel_rfl) _ _ rfl g7 0 rfl (hC x) (hashV x) (hC_arr x) _ (fun w h => h.1.whole) hash_under rfl (size_hashVW _)) hHeld ?_
  try simp only [List.setIfInBounds_toArray, List.set_cons_zero, List.set_cons_succ]
  refine wpAnyH_ready (rs := [45]) (by kernel_rfl) (by simp) ?_
  refine AllReadyH.cons (o := _) rfl (fun K hK => ?_) AllReadyH.nil
  refine step_buildSlice_g (w' := w4.alloc (.cells (hashV x) 25)) (by kernel_rfl) 22 1 #[(0, .tmp 139)] rfl (.slice (some ⟨w4.heap.size, 0, none⟩) 1 1) (by simp only [List.map_toArray, List.map_cons, List.map_nil]; exact one_hash x w4) ?_
  have HALb := Lib.hid (heap_alloc_new w4 (.cells (hashV x) 25))
  have NBb := Lib.hid ((Below.refl w4.heap.size w4).alloc (Nat.le_refl _) (.cells (hashV x) 25))
  obtain ⟨w5, hw2⟩ : ∃ w5, w5 = w4.alloc (.cells (hashV x) 25) := ⟨_, rfl⟩
  rw [← hw2] at HALb NBb ⊢
  clear hw2
  have ST5 := Lib.hid (ST4.out.below NBb.out)
  try go_simp
  refine hK.out _ _ ST5.out.fills (fun hHeld => ?_)
  clear hK K
  try simp only [Act.put, List.setIfInBounds_toArray, List.set_cons_zero, List.set_cons_succ]
  refine wpAnyH_ready (rs := [46]) (by kernel_rfl) (by simp) ?_
  refine AllReadyH.cons (o := _) rfl (fun K hK => ?_) AllReadyH.nil
  refine step_append_g (by kernel_rfl) (.tmp 138) (.tmp 140) 22 rfl B3 25 i0 _ 32 32 Tryd.underlying22 hi0 hz0 hz1 hz2 (by show (rowV 32 z8).size = 32; rw [rowV_size]) (by decide) (.slice As h cs) h (hcs S') rfl ST5.out.2.2.2.2.2.1 ⟨w4.heap.size, 0, none⟩ 1 1 (hC x) rfl (by rw [hC_len]) (fun j v hv => by rw [addr_add, cell_of_row w5 _ j _ _ (0, 0) HALb.out]; unfold hashV rowV; rw [List.getElem?_toArray]; exact hv) (fun v hv => by unfold hC at hv; obtain ⟨j, _, rfl⟩ := List.mem_map.1 hv; rfl) (by unfold maxLen; omega) (by omega) ?hb ?_
  case hb => have := ST5.out.2.2.2.2.2.2.2; omega
  intro v6 w6 o6 g6 _
  obtain ⟨A6, c6, rfl, _, _⟩ := rowForm o6
  have FX6 : Hid (HvF g7 g9 g12 x y w6) := ⟨fill_apart ST5.out.2.1 g6 (fun k e => by have := (ST5.out.2.2.2.2.2.1.lt k e).1; omega), fill_apart ST5.out.2.2.1 g6 (fun k e => by have := (ST5.out.2.2.2.2.2.1.lt k e).1; omega), fill_apart ST5.out.2.2.2.1 g6 (fun k e => by have := (ST5.out.2.2.2.2.2.1.lt k e).1; omega)⟩
  have BX6 := Lib.hid (ST5.out.1.grown g6 ST5.out.1.size (fun k e => by have := (ST5.out.2.2.2.2.2.1.lt k e).1; omega))
  have UX6 := Lib.hid (RdH.of_own (row_apart ST5.out.2.2.2.2.2.2.1 g6 (fun k e => hSk k e)))
  rw [hcs_one_more S' x] at o6
  have RX6 := Lib.hid (RdH.of_own o6)
  clear o6 g6
  try go_simp
  refine hK.out _ _ FX6.out (fun hHeld => ?_)
  clear hK K
  try simp only [Act.put, List.setIfInBounds_toArray, List.set_cons_zero, List.set_cons_succ]
  refine wpAnyH_ready (rs := [47]) (by kernel_rfl) (by simp) ?_
  refine AllReadyH.cons (o := _) rfl (fun K hK => ?_) AllReadyH.nil
  go_simp
  go_at_call 13
  refine (CS2.out w6 Au A6 cu c6 UX6.out RX6.out).mono ?_
  rintro e w7 ⟨rfl, b7⟩
  have BX7 := Lib.hid (BX6.out.trans (b7.mono BX6.out.size))
  have FX7 : Hid (HvF g7 g9 g12 x y w7) := FX6.out.below b7
  clear b7
  go_simp
  refine hK.out _ _ FX7.out (fun hHeld => ?_)
  clear hK K
  try simp only [Act.put, List.setIfInBounds_toArray, List.set_cons_zero, List.set_cons_succ]
  refine takeH (i := 48) (d := 143) (oi := _) (v := .bool true) rfl (by kernel_rfl) (by kernel_rfl) (by kernel_rfl) (by kernel_rfl) (fun _ _ _ h => h) (Or.inl ⟨by kernel_rfl, by intro u hSw; clear hSw; go_simp⟩) hHeld ?_
  try simp only [List.setIfInBounds_toArray, List.set_cons_zero, List.set_cons_succ]
  refine takeH (i := 49) (d := 144) (oi := _) (v := .bool true) rfl (by kernel_rfl) (by kernel_rfl) (by kernel_rfl) (by kernel_rfl) (fun _ _ _ h => h) (Or.inl ⟨by kernel_rfl, by intro u hSw; clear hSw; go_simp⟩) hHeld ?_
  try simp only [List.setIfInBounds_toArray, List.set_cons_zero, List.set_cons_succ]
  refine wpAnyH_ready (rs := [50]) (by kernel_rfl) (by simp) ?_
  refine AllReadyH.cons (o := _) rfl (fun K hK => ?_) AllReadyH.nil
  go_simp
  go_at_call 6
  refine (known7 w7 (HT.out _ BX7.out)).mono ?_
  rintro e w8 ⟨rfl, b8⟩
  have BX8 := Lib.hid (BX7.out.trans (b8.mono BX7.out.size))
  have FX8 : Hid (HvF g7 g9 g12 x y w8) := FX7.out.below b8
  clear b8
  go_simp
  refine hK.out _ _ FX8.out (fun hHeld => ?_)
  clear hK K
  try simp only [Act.put, List.setIfInBounds_toArray, List.set_cons_zero, List.set_cons_succ]
  refine takeH (i := 51) (d := 146) (oi := _) (v := .bool true) rfl (by kernel_rfl) (by kernel_rfl) (by kernel_rfl) (by kernel_rfl) (fun _ _ _ h => h) (Or.inl ⟨by kernel_rfl, by intro u hSw; clear hSw; go_simp⟩) hHeld ?_
  try simp only [List.setIfInBounds_toArray, List.set_cons_zero, List.set_cons_succ]
  refine takeH (i := 52) (d := 6) (oi := _) (v := .bool true) rfl (by kernel_rfl) (by kernel_rfl) (by kernel_rfl) (by kernel_rfl) (fun _ _ _ h => h) (Or.inl ⟨by kernel_rfl, by intro u hSw; clear hSw; go_simp⟩) hHeld ?_
  try simp only [List.setIfInBounds_toArray, List.set_cons_zero, List.set_cons_succ]
  refine wpAnyH_done (by kernel_rfl) ?_ _
  refine NoPanic.normal ?_
  exact hQ _ _ _ _ _ _ _ _ _ _ _ _ _ _ _ _ _ _ _ _ _ _ _ _ _ _ _ _ _ _ _ _ _ _ _ _ _ _ _ _ _ _ _ _ _ _ _ _ _ _ _ _ w8 BX8.out
end Go.Proofs.YthjeanjodhafjaaDoor
