/- The reference's sort. -/
import Derived.Test.YthlbpjkopkicbaaFgRefA
import Derived.Deep.CutBlock
import Derived.Deep.Cut
namespace Go.Proofs.Ythlbpjkopkicbaa
open Go.ChangeMaps Go.MapKept Go.Maps Go.WideElems Go.RowKit Go.ChangeShapes Go.WideShapes Go.ChangeAt
set_option linter.unusedVariables false
set_option maxRecDepth 100000

theorem rangeB {u u' : World} {g o : Nat} {L : List Value} (hb : Below u.heap.size u u') (hg : g < u.heap.size) (h : u.rangeAt g o L) : u'.rangeAt g o L := fun j v hv => (hb.cell (p := ⟨g, o + j, none⟩) hg).trans (h j v hv)
noncomputable def so_r6C : Code := ((Try.f34.body.bind (regionOf 6))).getD .skip
set_option maxRecDepth 1000000 in
set_option maxHeartbeats 8000000 in
theorem so_r6 (c1 c2 c6 c7 c8 c9 c10 c11 c12 c13 c14 c15 c16 c17 c18 c19 c20 c21 c22 c23 c24 c25 c26 c27 c28 c29 c30 c31 c32 c33 c34 c35 c36 c37 c38 c39 c40 c41 c42 c43 : Value) (w : World) (gl go n cl m co i k : Nat) (p q : Pt) (hk : k < m) (hi : i < n) (hm : m ≤ 1000000) (hn : n ≤ 1000000) (hgo : go < w.heap.size) (hgl : gl < w.heap.size) (hx : w.rangeAt go (k * 33) (pC q)) (hy : w.rangeAt gl (i * 33) (pC p))
    (Q : Exit → Act → World → Prop) (hQ : ∀ (u12 u13 u14 u15 u16 u17 u18 u19 u20 u21 u22 u23 u24 u25 : Value) (w' : World), Below w.heap.size w w' → Q .normal ⟨#[.slice (some ⟨gl, 0, none⟩) n cl, c1, c2, .slice (some ⟨go, 0, none⟩) m co, .int .i64 (i : Int), .int .i64 (k : Int), c6, c7, c8, c9, c10, c11, u12, u13, u14, u15, u16, u17, u18, u19, u20, u21, u22, u23, u24, u25, .bool (decide (keyN q < keyN p)), c27, c28, c29, c30, c31, c32, c33, c34, c35, c36, c37, c38, c39, c40, c41, c42, c43], []⟩ w') :
    Code.wp Try.prog so_r6C Q ⟨#[.slice (some ⟨gl, 0, none⟩) n cl, c1, c2, .slice (some ⟨go, 0, none⟩) m co, .int .i64 (i : Int), .int .i64 (k : Int), c6, c7, c8, c9, c10, c11, c12, c13, c14, c15, c16, c17, c18, c19, c20, c21, c22, c23, c24, c25, c26, c27, c28, c29, c30, c31, c32, c33, c34, c35, c36, c37, c38, c39, c40, c41, c42, c43], []⟩ w := by
  conv => arg 2; whnf
  try dsimp only at hQ ⊢
  have KP : Hid (∀ u : World, Below w.heap.size w.drew u → u.rangeAt go (k * 33) (pC q) ∧ u.rangeAt gl (i * 33) (pC p)) := fun u hu => ⟨rangeB (u := w.drew) hu hgo hx, rangeB (u := w.drew) hu hgl hy⟩
  have BX : Hid (Below w.heap.size w.drew w.drew) := Below.refl _ _
  have q1 : (k : Int) < (m : Int) := by omega
  have q2 : (i : Int) < (n : Int) := by omega
  clear hx hy
  refine wp_region_noPanic ?_
  refine wp_region_held_drew (S := (fun u => u.rangeAt go (k * 33) (pC q) ∧ u.rangeAt gl (i * 33) (pC p))) (by kernel_rfl) (KP.out _ BX.out) (fun hHeld => ?_)
  refine takeH (i := 0) (d := 12) (oi := _) (v := .int .i64 (k : Int)) rfl (by kernel_rfl) (by kernel_rfl) (by kernel_rfl) (by kernel_rfl) (fun _ _ _ h => h) (Or.inl ⟨by kernel_rfl, by intro u hSw; clear hSw; go_simp⟩) hHeld ?_
  try simp only [List.setIfInBounds_toArray, List.set_cons_zero, List.set_cons_succ]
  refine takeH (i := 1) (d := 13) (oi := _) (v := .slice (some ⟨go, 0, none⟩) m co) rfl (by kernel_rfl) (by kernel_rfl) (by kernel_rfl) (by kernel_rfl) (fun _ _ _ h => h) (Or.inl ⟨by kernel_rfl, by intro u hSw; clear hSw; go_simp⟩) hHeld ?_
  try simp only [List.setIfInBounds_toArray, List.set_cons_zero, List.set_cons_succ]
  refine takeH (i := 2) (d := 14) (oi := _) (v := .int .i64 (m : Int)) rfl (by kernel_rfl) (by kernel_rfl) (by kernel_rfl) (by kernel_rfl) (fun _ _ _ h => h) (Or.inl ⟨by kernel_rfl, by intro u hSw; clear hSw; go_simp⟩) hHeld ?_
  try simp only [List.setIfInBounds_toArray, List.set_cons_zero, List.set_cons_succ]
  refine takeH (i := 3) (d := 15) (oi := _) (v := .bool true) rfl (by kernel_rfl) (by kernel_rfl) (by kernel_rfl) (by kernel_rfl) (fun _ _ _ h => h) (Or.inl ⟨by kernel_rfl, by intro u hSw; clear hSw; go_simp⟩) hHeld ?_
  try simp only [List.setIfInBounds_toArray, List.set_cons_zero, List.set_cons_succ]
  refine takeH (i := 4) (d := 16) (oi := _) (v := .bool true) rfl (by kernel_rfl) (by kernel_rfl) (by kernel_rfl) (by kernel_rfl) (fun _ _ _ h => h) (Or.inl ⟨by kernel_rfl, by intro u hSw; clear hSw; go_simp⟩) hHeld ?_
  try simp only [List.setIfInBounds_toArray, List.set_cons_zero, List.set_cons_succ]
  refine takeH (i := 5) (d := 17) (oi := _) (v := .slice (some ⟨go, 0, none⟩) m co) rfl (by kernel_rfl) (by kernel_rfl) (by kernel_rfl) (by kernel_rfl) (fun _ _ _ h => h) (Or.inl ⟨by kernel_rfl, by intro u hSw; clear hSw; go_simp⟩) hHeld ?_
  try simp only [List.setIfInBounds_toArray, List.set_cons_zero, List.set_cons_succ]
  refine takeH (i := 6) (d := 18) (oi := _) (v := .int .i64 (k : Int)) rfl (by kernel_rfl) (by kernel_rfl) (by kernel_rfl) (by kernel_rfl) (fun _ _ _ h => h) (Or.inl ⟨by kernel_rfl, by intro u hSw; clear hSw; go_simp⟩) hHeld ?_
  try simp only [List.setIfInBounds_toArray, List.set_cons_zero, List.set_cons_succ]
  refine takeH (i := 7) (d := 19) (oi := _) (v := .pointer (some ⟨go, (k * 33), none⟩)) rfl (by kernel_rfl) (by kernel_rfl) (by kernel_rfl) (by kernel_rfl) (fun _ _ _ h => h) (Or.inl ⟨by kernel_rfl, by intro u hSw; clear hSw; go_simp⟩) hHeld ?_
  try simp only [List.setIfInBounds_toArray, List.set_cons_zero, List.set_cons_succ]
  refine takeH (i := 8) (d := 20) (oi := _) (v := .agg (pv q)) rfl (by kernel_rfl) (by kernel_rfl) (by kernel_rfl) (by kernel_rfl) (fun _ _ _ h => h) (yieldsIf_load_midC (by kernel_rfl) _ _ rfl (go) (k * 33) rfl (pC q) (pv q) (pC_arr q) _ (fun u hSw => hSw.1) Try.underlying29 rfl (size_pv q)) hHeld ?_
  try simp only [List.setIfInBounds_toArray, List.set_cons_zero, List.set_cons_succ]
  refine takeH (i := 9) (d := 21) (oi := _) (v := .slice (some ⟨gl, 0, none⟩) n cl) rfl (by kernel_rfl) (by kernel_rfl) (by kernel_rfl) (by kernel_rfl) (fun _ _ _ h => h) (Or.inl ⟨by kernel_rfl, by intro u hSw; clear hSw; go_simp⟩) hHeld ?_
  try simp only [List.setIfInBounds_toArray, List.set_cons_zero, List.set_cons_succ]
  refine takeH (i := 10) (d := 22) (oi := _) (v := .int .i64 (i : Int)) rfl (by kernel_rfl) (by kernel_rfl) (by kernel_rfl) (by kernel_rfl) (fun _ _ _ h => h) (Or.inl ⟨by kernel_rfl, by intro u hSw; clear hSw; go_simp⟩) hHeld ?_
  try simp only [List.setIfInBounds_toArray, List.set_cons_zero, List.set_cons_succ]
  refine takeH (i := 11) (d := 23) (oi := _) (v := .pointer (some ⟨gl, (i * 33), none⟩)) rfl (by kernel_rfl) (by kernel_rfl) (by kernel_rfl) (by kernel_rfl) (fun _ _ _ h => h) (Or.inl ⟨by kernel_rfl, by intro u hSw; clear hSw; go_simp⟩) hHeld ?_
  try simp only [List.setIfInBounds_toArray, List.set_cons_zero, List.set_cons_succ]
  refine takeH (i := 12) (d := 24) (oi := _) (v := .agg (pv p)) rfl (by kernel_rfl) (by kernel_rfl) (by kernel_rfl) (by kernel_rfl) (fun _ _ _ h => h) (yieldsIf_load_midC (by kernel_rfl) _ _ rfl (gl) (i * 33) rfl (pC p) (pv p) (pC_arr p) _ (fun u hSw => hSw.2) Try.underlying29 rfl (size_pv p)) hHeld ?_
  try simp only [List.setIfInBounds_toArray, List.set_cons_zero, List.set_cons_succ]
  refine wpAnyH_ready (rs := [13]) (by kernel_rfl) (by simp) ?_
  refine AllReadyH.cons (o := _) rfl (fun K hK => ?_) (AllReadyH.nil)
  go_simp
  go_at_call 48
  refine (less_ref q p _).mono ?_
  rintro e w2 ⟨rfl, b2⟩
  have BX := Lib.hid (BX.out.trans (b2.mono BX.out.size))
  clear b2
  go_simp
  refine hK.out _ _ (KP.out _ BX.out) (fun hHeld => ?_)
  clear hK K
  try simp only [Act.put, List.setIfInBounds_toArray, List.set_cons_zero, List.set_cons_succ]
  refine takeH (i := 14) (d := 26) (oi := _) (v := .bool (decide (keyN q < keyN p))) rfl (by kernel_rfl) (by kernel_rfl) (by kernel_rfl) (by kernel_rfl) (fun _ _ _ h => h) (Or.inl ⟨by kernel_rfl, by intro u hSw; clear hSw; go_simp⟩) hHeld ?_
  try simp only [List.setIfInBounds_toArray, List.set_cons_zero, List.set_cons_succ]
  refine wpAnyH_done (by kernel_rfl) ?_ _
  refine NoPanic.normal ?_
  exact hQ _ _ _ _ _ _ _ _ _ _ _ _ _ _ _ ((Below.refl w.heap.size w).drew.trans BX.out)
end Go.Proofs.Ythlbpjkopkicbaa
namespace Go.Proofs.Ythlbpjkopkicbaa
open Go.ChangeMaps Go.MapKept Go.Maps Go.WideElems Go.RowKit Go.ChangeShapes Go.WideShapes Go.ChangeAt
set_option linter.unusedVariables false
set_option maxRecDepth 100000

section
variable {P : Program} {w w' : World}
/-- An append in a drawn region, of what lies at a place. -/
theorem step_append_at {ops : Array Oper} {o : Oper} {a : Act} {K : Act → World → Prop} {Q : Exit → Act → World → Prop} {E : Prop} (hw : Region.wanted o (yielded ops a.tmps) = true) (s x : Operand) (t : TypeId)
    (ho : o.op = .call { callee := .builtin .append, args := #[s, x], argTypes := #[t, t] })
    (base : Nat) (e : TypeId) (i : TypeInfo) (z : Value) (size bytes : Nat) (ht : P.underlying t = some (.slice e)) (hi : P.info? e = some i) (hz : i.zero = some z)
    (hsize : i.size = size) (hby : i.bytes = bytes) (hzs : z.cells.size = size) (hsz : 0 < size)
    (v : Value) (n : Nat) (xs : List Value) (hs : a.eval s = v) (hown : w.ownsRow base e size v n xs)
    (ad : Addr) (m c : Nat) (ys : List Value) (hx : a.eval x = .slice (some ad) m c) (hl : ys.length = m * size) (hnews : ∀ j u, ys[j]? = some u → w.cell? (ad.add j) = some u) (h1 : ∀ u ∈ ys, u.oneCell' = true)
    (h63 : n + m ≤ maxLen) (hbytes : (n + m) * bytes ≤ 140737488355328) (hbase : base ≤ w.heap.size)
    (h : ∀ v' w', w'.ownsRow base e size v' (n + m) (xs ++ ys) → w.grownBy w' v.ownBlock → (v'.ownBlock = v.ownBlock ∨ v'.ownBlock = some w.heap.size) → K (a.put o.dst v') w') :
    if Region.wanted o (yielded ops a.tmps) = true then Oper.wp P o a w K Q else E := by
  rw [if_pos hw]
  obtain ⟨v', w', hrun, h2, h3, _, h5⟩ := run_append_own_at (P := P) w base t o.type e i z size bytes ht hi hz hsize hby hzs hsz v n xs hown ad m c ys hl hnews h1 h63 hbytes hbase
  unfold Oper.wp execOp
  simp only [ho, resolve, invoke, builtin, Sem.run_bind, Sem.run_pure, Result.andThen_ok, List.map_toArray, List.map_cons, List.map_nil, hs, hx, hrun]
  exact h v' w' h2 h3 h5
end
theorem pts_one (L : List Pt) : ∀ v ∈ pts L, v.oneCell' = true := fun v hv => by
  unfold pts at hv
  obtain ⟨x, _, h⟩ := List.mem_flatMap.1 hv
  exact pC_one x v h
theorem pts_app (a b : List Pt) : pts a ++ pts b = pts (a ++ b) := by unfold pts; rw [List.flatMap_append]
theorem add_off (g o i : Nat) : (⟨g, o, none⟩ : Addr).add i = ⟨g, o + i, none⟩ := by unfold Addr.add; split <;> simp_all
theorem cells_take {u : World} {go : Nat} {L : List Pt} (k : Nat) (h : u.rangeAt go 0 (pts L)) {j : Nat} {v : Value} (hv : (pts (L.take k))[j]? = some v) : u.cell? ((⟨go, 0, none⟩ : Addr).add j) = some v := by
  rw [add_off]
  refine h j v ?_
  rw [← List.take_append_drop k L, ← pts_app, List.getElem?_append_left (List.getElem?_eq_some_iff.1 hv).1]
  exact hv
theorem cells_drop {u : World} {go : Nat} {L : List Pt} (k co : Nat) (hk : L.length ≤ co) (h : u.rangeAt go 0 (pts L)) (j : Nat) (v : Value) (hv : (pts (L.drop k))[j]? = some v) : u.cell? ((if co = k then (⟨go, 0, none⟩ : Addr) else (⟨go, 0, none⟩ : Addr).add (k * 33)).add j) = some v := by
  have hl := (List.getElem?_eq_some_iff.1 hv).1
  rw [pts_len, List.length_drop] at hl
  rw [if_neg (by omega), add_off, add_off, Nat.zero_add]
  have := h (k * 33 + j) v (by
    rw [← List.take_append_drop k L, ← pts_app, List.getElem?_append_right (by rw [pts_len, List.length_take]; omega), pts_len, List.length_take, Nat.min_eq_left (by omega), Nat.add_sub_cancel_left]
    exact hv)
  rwa [Nat.zero_add] at this
noncomputable def so_r8C : Code := ((Try.f34.body.bind (regionOf 8))).getD .skip
set_option maxRecDepth 1000000 in
set_option maxHeartbeats 8000000 in
theorem so_r8 (c1 c2 c6 c7 c8 c9 c10 c11 c12 c13 c14 c15 c16 c17 c18 c19 c20 c21 c22 c23 c24 c25 c26 c27 c28 c29 c30 c31 c32 c33 c34 c35 c36 c37 c38 c39 c40 c41 c42 c43 : Value) (w : World) (gl n cl i : Nat) (p : Pt) (hi : i < n) (hn : n ≤ 1000000) (hgl : gl < w.heap.size) (hy : w.rangeAt gl (i * 33) (pC p)) (go m co k : Nat) (L : List Pt) (hm : L.length = m) (hkm : k ≤ m) (hmn : m ≤ 1000000) (hco : m ≤ co) (hgo : go < w.heap.size) (hx : w.rangeAt go 0 (pts L))
    (Q : Exit → Act → World → Prop) (hQ : ∀ (u3 u29 u30 u31 u32 u33 u34 u35 u36 u37 u38 u39 u40 u41 u42 : Value) (w' : World), (∃ A' c', u3 = .slice A' (m + 1) c' ∧ w'.ownsRow w.heap.size 29 33 u3 (m + 1) (pts (L.take k ++ p :: L.drop k)) ∧ Below w.heap.size w w') → Q .normal ⟨#[.slice (some ⟨gl, 0, none⟩) n cl, c1, c2, u3, .int .i64 (i : Int), .int .i64 (k : Int), c6, c7, c8, c9, c10, c11, c12, c13, c14, c15, c16, c17, c18, c19, c20, c21, c22, c23, c24, c25, c26, c27, c28, u29, u30, u31, u32, u33, u34, u35, u36, u37, u38, u39, u40, u41, u42, c43], []⟩ w') :
    Code.wp Try.prog so_r8C Q ⟨#[.slice (some ⟨gl, 0, none⟩) n cl, c1, c2, .slice (some ⟨go, 0, none⟩) m co, .int .i64 (i : Int), .int .i64 (k : Int), c6, c7, c8, c9, c10, c11, c12, c13, c14, c15, c16, c17, c18, c19, c20, c21, c22, c23, c24, c25, c26, c27, c28, c29, c30, c31, c32, c33, c34, c35, c36, c37, c38, c39, c40, c41, c42, c43], []⟩ w := by
  conv => arg 2; whnf
  try dsimp only at hQ ⊢
  have EQ := Lib.hid (show pts (L.take k) ++ pC p ++ pts (L.drop k) = pts (L.take k ++ p :: L.drop k) from by rw [pts_more, pts_app, List.append_assoc]; rfl)
  obtain ⟨i0, hi0⟩ : ∃ i0, Try.prog.info? 29 = some i0 := ⟨_, (Option.some_get (by kernel_rfl)).symm⟩
  obtain ⟨hz0, hz1, hz2⟩ := point_row hi0
  obtain ⟨a3, ha3⟩ : ∃ a3, a3 = (if co = k then (⟨go, 0, none⟩ : Addr) else (⟨go, 0, none⟩ : Addr).add (k * 33)) := ⟨_, rfl⟩
  have H3 : Hid (∀ u : World, u.rangeAt go 0 (pts L) → ∀ j v, (pts (L.drop k))[j]? = some v → u.cell? (a3.add j) = some v) := fun u hu => by rw [ha3]; exact cells_drop k co (by omega) hu
  have E3 : (if co = k then some (⟨go, 0, none⟩ : Addr) else some (⟨go, k * 33, none⟩ : Addr)) = some a3 := by rw [ha3, add_off, Nat.zero_add]; split <;> rfl
  clear ha3
  have KP : Hid (∀ u : World, Below w.heap.size w.drew u → u.rangeAt gl (i * 33) (pC p) ∧ u.rangeAt go 0 (pts L)) := fun u hu => ⟨rangeB (u := w.drew) hu hgl hy, rangeB (u := w.drew) hu hgo hx⟩
  have BX : Hid (Below w.heap.size w.drew w.drew) := Below.refl _ _
  have q2 : (i : Int) < (n : Int) := by omega
  have HM : Hid (L.length = m) := hm
  clear hx hy hm
  have q1 : (k : Int) ≤ (m : Int) := by omega
  have q3 : (m : Int) ≤ (co : Int) := by omega
  have q4 : (k : Int) ≤ (co : Int) := by omega
  refine wp_region_noPanic ?_
  refine wp_region_held_drew (S := (fun u => u.rangeAt gl (i * 33) (pC p) ∧ u.rangeAt go 0 (pts L))) (by kernel_rfl) (KP.out _ BX.out) (fun hHeld => ?_)
  refine takeH (i := 0) (d := 29) (oi := _) (v := .slice (some ⟨go, 0, none⟩) m co) rfl (by kernel_rfl) (by kernel_rfl) (by kernel_rfl) (by kernel_rfl) (fun _ _ _ h => h) (Or.inl ⟨by kernel_rfl, by intro u hSw; clear hSw; go_simp⟩) hHeld ?_
  try simp only [List.setIfInBounds_toArray, List.set_cons_zero, List.set_cons_succ]
  refine takeH (i := 1) (d := 30) (oi := _) (v := .int .i64 (k : Int)) rfl (by kernel_rfl) (by kernel_rfl) (by kernel_rfl) (by kernel_rfl) (fun _ _ _ h => h) (Or.inl ⟨by kernel_rfl, by intro u hSw; clear hSw; go_simp⟩) hHeld ?_
  try simp only [List.setIfInBounds_toArray, List.set_cons_zero, List.set_cons_succ]
  refine takeH (i := 2) (d := 31) (oi := _) (v := .slice (some ⟨go, 0, none⟩) k co) rfl (by kernel_rfl) (by kernel_rfl) (by kernel_rfl) (by kernel_rfl) (fun _ _ _ h => h) (Or.inl ⟨by kernel_rfl, by intro u hSw; clear hSw; go_simp⟩) hHeld ?_
  try simp only [List.setIfInBounds_toArray, List.set_cons_zero, List.set_cons_succ]
  refine takeH (i := 4) (d := 33) (oi := _) (v := .slice (some ⟨gl, 0, none⟩) n cl) rfl (by kernel_rfl) (by kernel_rfl) (by kernel_rfl) (by kernel_rfl) (fun _ _ _ h => h) (Or.inl ⟨by kernel_rfl, by intro u hSw; clear hSw; go_simp⟩) hHeld ?_
  try simp only [List.setIfInBounds_toArray, List.set_cons_zero, List.set_cons_succ]
  refine takeH (i := 5) (d := 34) (oi := _) (v := .int .i64 (i : Int)) rfl (by kernel_rfl) (by kernel_rfl) (by kernel_rfl) (by kernel_rfl) (fun _ _ _ h => h) (Or.inl ⟨by kernel_rfl, by intro u hSw; clear hSw; go_simp⟩) hHeld ?_
  try simp only [List.setIfInBounds_toArray, List.set_cons_zero, List.set_cons_succ]
  refine takeH (i := 6) (d := 35) (oi := _) (v := .pointer (some ⟨gl, (i * 33), none⟩)) rfl (by kernel_rfl) (by kernel_rfl) (by kernel_rfl) (by kernel_rfl) (fun _ _ _ h => h) (Or.inl ⟨by kernel_rfl, by intro u hSw; clear hSw; go_simp⟩) hHeld ?_
  try simp only [List.setIfInBounds_toArray, List.set_cons_zero, List.set_cons_succ]
  refine takeH (i := 7) (d := 36) (oi := _) (v := .agg (pv p)) rfl (by kernel_rfl) (by kernel_rfl) (by kernel_rfl) (by kernel_rfl) (fun _ _ _ h => h) (yieldsIf_load_midC (by kernel_rfl) _ _ rfl (gl) (i * 33) rfl (pC p) (pv p) (pC_arr p) _ (fun u hSw => hSw.1) Try.underlying29 rfl (size_pv p)) hHeld ?_
  try simp only [List.setIfInBounds_toArray, List.set_cons_zero, List.set_cons_succ]
  refine takeH (i := 10) (d := 39) (oi := _) (v := .slice (some ⟨go, 0, none⟩) m co) rfl (by kernel_rfl) (by kernel_rfl) (by kernel_rfl) (by kernel_rfl) (fun _ _ _ h => h) (Or.inl ⟨by kernel_rfl, by intro u hSw; clear hSw; go_simp⟩) hHeld ?_
  try simp only [List.setIfInBounds_toArray, List.set_cons_zero, List.set_cons_succ]
  refine takeH (i := 11) (d := 40) (oi := _) (v := .int .i64 (k : Int)) rfl (by kernel_rfl) (by kernel_rfl) (by kernel_rfl) (by kernel_rfl) (fun _ _ _ h => h) (Or.inl ⟨by kernel_rfl, by intro u hSw; clear hSw; go_simp⟩) hHeld ?_
  try simp only [List.setIfInBounds_toArray, List.set_cons_zero, List.set_cons_succ]
  refine takeH (i := 12) (d := 41) (oi := _) (v := .slice (some a3) (m - k) (co - k)) rfl (by kernel_rfl) (by kernel_rfl) (by kernel_rfl) (by kernel_rfl) (fun _ _ _ h => h) (Or.inl ⟨by kernel_rfl, by intro u hSw; clear hSw; go_simp⟩) hHeld ?_
  try simp only [List.setIfInBounds_toArray, List.set_cons_zero, List.set_cons_succ]
  refine wpAnyH_ready (rs := [3, 8]) (by kernel_rfl) (by simp) ?_
  refine AllReadyH.cons (o := _) rfl (fun K hK => ?_) (AllReadyH.cons (o := _) rfl (fun K hK => ?_) (AllReadyH.nil))
  · refine step_append_at (by kernel_rfl) (.const (.slice none 0 0)) (.tmp 31) 38 rfl w.heap.size 29 i0 _ 33 40 Try.underlying38 hi0 hz0 hz1 hz2 (by show (pv ptZ).size = 33; exact rowV_size _ _) (by decide) (.slice none 0 0) 0 [] rfl (World.ownsRow_nil _ _ _ _) ⟨go, 0, none⟩ k co (pts (L.take k)) rfl (by rw [pts_len, List.length_take, HM.out, Nat.min_eq_left hkm]) (fun j v hv => cells_take k (KP.out _ BX.out).2 hv) (pts_one _) (by unfold maxLen; omega) (by omega) BX.out.size ?_
    intro v3 w3 o3 g3 b3
    rw [Nat.zero_add, List.nil_append] at o3
    have O3 := Lib.hid o3
    have BX := Lib.hid (BX.out.grown g3 BX.out.size (fun k e => by cases e))
    try replace OV := Lib.hid (OV.out.kept g3 (.inr (fun e => by cases e)))
    clear o3 g3 b3
    try go_simp
    refine hK.out _ _ (KP.out _ BX.out) (fun hHeld => ?_)
    clear hK K
    try simp only [Act.put, List.setIfInBounds_toArray, List.set_cons_zero, List.set_cons_succ]
    refine wpAnyH_ready (rs := [8]) (by kernel_rfl) (by simp) ?_
    refine AllReadyH.cons (o := _) rfl (fun K hK => ?_) (AllReadyH.nil)
    first
      | (refine step_buildSlice_row (w' := w3.alloc (.cells (pv p) 29)) (by kernel_rfl) 38 1 #[(0, .tmp 36)] rfl (.slice (some ⟨w3.heap.size, 0, none⟩) 1 1) (by simp only [List.map_toArray, List.map_cons, List.map_nil]; exact one_point p w3) ?_; have OV := Lib.hid (own_point p w3); have NB := Lib.hid ((Below.refl w3.heap.size w3).alloc (Nat.le_refl _) (.cells (pv p) 29)); obtain ⟨w2, hw2⟩ : ∃ w2, w2 = w3.alloc (.cells (pv p) 29) := ⟨_, rfl⟩; rw [← hw2] at OV NB ⊢; clear hw2; (try replace O3 := Lib.hid (ownKeep O3.out (fun g hg => NB.out.block g (O3.out.lt g hg).2))); have BX := Lib.hid (BX.out.trans (NB.out.mono BX.out.size)))
      | (refine step_buildSlice_row (w' := w.drew.alloc (.cells (pv p) 29)) (by kernel_rfl) 38 1 #[(0, .tmp 36)] rfl (.slice (some ⟨w.drew.heap.size, 0, none⟩) 1 1) (by simp only [List.map_toArray, List.map_cons, List.map_nil]; exact one_point p w.drew) ?_; have OV := Lib.hid (own_point p w.drew); have NB := Lib.hid ((Below.refl w.drew.heap.size w.drew).alloc (Nat.le_refl _) (.cells (pv p) 29)); obtain ⟨w2, hw2⟩ : ∃ w2, w2 = w.drew.alloc (.cells (pv p) 29) := ⟨_, rfl⟩; rw [← hw2] at OV NB ⊢; clear hw2; (try replace O3 := Lib.hid (ownKeep O3.out (fun g hg => NB.out.block g (O3.out.lt g hg).2))); have BX := Lib.hid (BX.out.trans (NB.out.mono BX.out.size)))
    try go_simp
    refine hK.out _ _ (KP.out _ BX.out) (fun hHeld => ?_)
    clear hK K
    try simp only [Act.put, List.setIfInBounds_toArray, List.set_cons_zero, List.set_cons_succ]
    refine wpAnyH_ready (rs := [9]) (by kernel_rfl) (by simp) ?_
    refine AllReadyH.cons (o := _) rfl (fun K hK => ?_) (AllReadyH.nil)
    refine step_append_row (by kernel_rfl) (.tmp 32) (.tmp 37) 38 rfl w.heap.size 29 i0 _ 33 40 Try.underlying38 hi0 hz0 hz1 hz2 (by show (pv ptZ).size = 33; exact rowV_size _ _) (by decide) v3 k (pts (L.take k)) rfl O3.out 0 _ 1 (pC p) rfl OV.out (pC_one p) (by unfold maxLen; omega) (by omega) BX.out.size ?_
    intro v4 w4 o4 g4 b4
    have O4 := Lib.hid o4
    have BX := Lib.hid (BX.out.grown g4 BX.out.size (fun k e => (O3.out.lt k e).1))
    clear o4 g4 b4
    try go_simp
    refine hK.out _ _ (KP.out _ BX.out) (fun hHeld => ?_)
    clear hK K
    try simp only [Act.put, List.setIfInBounds_toArray, List.set_cons_zero, List.set_cons_succ]
    refine wpAnyH_ready (rs := [13]) (by kernel_rfl) (by simp) ?_
    refine AllReadyH.cons (o := _) rfl (fun K hK => ?_) (AllReadyH.nil)
    refine step_append_at (by kernel_rfl) (.tmp 38) (.tmp 41) 38 rfl w.heap.size 29 i0 _ 33 40 Try.underlying38 hi0 hz0 hz1 hz2 (by show (pv ptZ).size = 33; exact rowV_size _ _) (by decide) v4 (k + 1) ((pts (L.take k)) ++ pC p) rfl O4.out a3 (m - k) (co - k) (pts (L.drop k)) rfl (by rw [pts_len, List.length_drop, HM.out]) (H3.out _ (KP.out _ BX.out).2) (pts_one _) (by unfold maxLen; omega) (by omega) BX.out.size ?_
    intro v5 w5 o5 g5 b5
    have O5 := Lib.hid o5
    have BX := Lib.hid (BX.out.grown g5 BX.out.size (fun k e => (O4.out.lt k e).1))
    have C5 := Lib.hid (KP.out _ BX.out)
    clear o5 g5 b5
    try go_simp
    refine hK.out _ _ (C5.out) (fun hHeld => ?_)
    clear hK K
    try simp only [Act.put, List.setIfInBounds_toArray, List.set_cons_zero, List.set_cons_succ]
    refine takeH (i := 14) (d := 3) (oi := _) (v := v5) rfl (by kernel_rfl) (by kernel_rfl) (by kernel_rfl) (by kernel_rfl) (fun _ _ _ h => h) (Or.inl ⟨by kernel_rfl, by intro u hSw; clear hSw; go_simp⟩) hHeld ?_
    try simp only [List.setIfInBounds_toArray, List.set_cons_zero, List.set_cons_succ]
    refine wpAnyH_done (by kernel_rfl) ?_ _
    refine NoPanic.normal ?_
    have O5x := O5.out
    rw [show k + 1 + (m - k) = m + 1 from by omega, EQ.out] at O5x
    obtain ⟨A', c', rfl, _⟩ := ownForm O5x
    exact hQ _ _ _ _ _ _ _ _ _ _ _ _ _ _ _ _ ⟨A', c', rfl, O5x, (Below.refl w.heap.size w).drew.trans BX.out⟩
  · first
      | (refine step_buildSlice_row (w' := w3.alloc (.cells (pv p) 29)) (by kernel_rfl) 38 1 #[(0, .tmp 36)] rfl (.slice (some ⟨w3.heap.size, 0, none⟩) 1 1) (by simp only [List.map_toArray, List.map_cons, List.map_nil]; exact one_point p w3) ?_; have OV := Lib.hid (own_point p w3); have NB := Lib.hid ((Below.refl w3.heap.size w3).alloc (Nat.le_refl _) (.cells (pv p) 29)); obtain ⟨w2, hw2⟩ : ∃ w2, w2 = w3.alloc (.cells (pv p) 29) := ⟨_, rfl⟩; rw [← hw2] at OV NB ⊢; clear hw2; (try replace O3 := Lib.hid (ownKeep O3.out (fun g hg => NB.out.block g (O3.out.lt g hg).2))); have BX := Lib.hid (BX.out.trans (NB.out.mono BX.out.size)))
      | (refine step_buildSlice_row (w' := w.drew.alloc (.cells (pv p) 29)) (by kernel_rfl) 38 1 #[(0, .tmp 36)] rfl (.slice (some ⟨w.drew.heap.size, 0, none⟩) 1 1) (by simp only [List.map_toArray, List.map_cons, List.map_nil]; exact one_point p w.drew) ?_; have OV := Lib.hid (own_point p w.drew); have NB := Lib.hid ((Below.refl w.drew.heap.size w.drew).alloc (Nat.le_refl _) (.cells (pv p) 29)); obtain ⟨w2, hw2⟩ : ∃ w2, w2 = w.drew.alloc (.cells (pv p) 29) := ⟨_, rfl⟩; rw [← hw2] at OV NB ⊢; clear hw2; (try replace O3 := Lib.hid (ownKeep O3.out (fun g hg => NB.out.block g (O3.out.lt g hg).2))); have BX := Lib.hid (BX.out.trans (NB.out.mono BX.out.size)))
    try go_simp
    refine hK.out _ _ (KP.out _ BX.out) (fun hHeld => ?_)
    clear hK K
    try simp only [Act.put, List.setIfInBounds_toArray, List.set_cons_zero, List.set_cons_succ]
    refine wpAnyH_ready (rs := [3]) (by kernel_rfl) (by simp) ?_
    refine AllReadyH.cons (o := _) rfl (fun K hK => ?_) (AllReadyH.nil)
    refine step_append_at (by kernel_rfl) (.const (.slice none 0 0)) (.tmp 31) 38 rfl w.heap.size 29 i0 _ 33 40 Try.underlying38 hi0 hz0 hz1 hz2 (by show (pv ptZ).size = 33; exact rowV_size _ _) (by decide) (.slice none 0 0) 0 [] rfl (World.ownsRow_nil _ _ _ _) ⟨go, 0, none⟩ k co (pts (L.take k)) rfl (by rw [pts_len, List.length_take, HM.out, Nat.min_eq_left hkm]) (fun j v hv => cells_take k (KP.out _ BX.out).2 hv) (pts_one _) (by unfold maxLen; omega) (by omega) BX.out.size ?_
    intro v3 w3 o3 g3 b3
    rw [Nat.zero_add, List.nil_append] at o3
    have O3 := Lib.hid o3
    have BX := Lib.hid (BX.out.grown g3 BX.out.size (fun k e => by cases e))
    try replace OV := Lib.hid (OV.out.kept g3 (.inr (fun e => by cases e)))
    clear o3 g3 b3
    try go_simp
    refine hK.out _ _ (KP.out _ BX.out) (fun hHeld => ?_)
    clear hK K
    try simp only [Act.put, List.setIfInBounds_toArray, List.set_cons_zero, List.set_cons_succ]
    refine wpAnyH_ready (rs := [9]) (by kernel_rfl) (by simp) ?_
    refine AllReadyH.cons (o := _) rfl (fun K hK => ?_) (AllReadyH.nil)
    refine step_append_row (by kernel_rfl) (.tmp 32) (.tmp 37) 38 rfl w.heap.size 29 i0 _ 33 40 Try.underlying38 hi0 hz0 hz1 hz2 (by show (pv ptZ).size = 33; exact rowV_size _ _) (by decide) v3 k (pts (L.take k)) rfl O3.out 0 _ 1 (pC p) rfl OV.out (pC_one p) (by unfold maxLen; omega) (by omega) BX.out.size ?_
    intro v4 w4 o4 g4 b4
    have O4 := Lib.hid o4
    have BX := Lib.hid (BX.out.grown g4 BX.out.size (fun k e => (O3.out.lt k e).1))
    clear o4 g4 b4
    try go_simp
    refine hK.out _ _ (KP.out _ BX.out) (fun hHeld => ?_)
    clear hK K
    try simp only [Act.put, List.setIfInBounds_toArray, List.set_cons_zero, List.set_cons_succ]
    refine wpAnyH_ready (rs := [13]) (by kernel_rfl) (by simp) ?_
    refine AllReadyH.cons (o := _) rfl (fun K hK => ?_) (AllReadyH.nil)
    refine step_append_at (by kernel_rfl) (.tmp 38) (.tmp 41) 38 rfl w.heap.size 29 i0 _ 33 40 Try.underlying38 hi0 hz0 hz1 hz2 (by show (pv ptZ).size = 33; exact rowV_size _ _) (by decide) v4 (k + 1) ((pts (L.take k)) ++ pC p) rfl O4.out a3 (m - k) (co - k) (pts (L.drop k)) rfl (by rw [pts_len, List.length_drop, HM.out]) (H3.out _ (KP.out _ BX.out).2) (pts_one _) (by unfold maxLen; omega) (by omega) BX.out.size ?_
    intro v5 w5 o5 g5 b5
    have O5 := Lib.hid o5
    have BX := Lib.hid (BX.out.grown g5 BX.out.size (fun k e => (O4.out.lt k e).1))
    have C5 := Lib.hid (KP.out _ BX.out)
    clear o5 g5 b5
    try go_simp
    refine hK.out _ _ (C5.out) (fun hHeld => ?_)
    clear hK K
    try simp only [Act.put, List.setIfInBounds_toArray, List.set_cons_zero, List.set_cons_succ]
    refine takeH (i := 14) (d := 3) (oi := _) (v := v5) rfl (by kernel_rfl) (by kernel_rfl) (by kernel_rfl) (by kernel_rfl) (fun _ _ _ h => h) (Or.inl ⟨by kernel_rfl, by intro u hSw; clear hSw; go_simp⟩) hHeld ?_
    try simp only [List.setIfInBounds_toArray, List.set_cons_zero, List.set_cons_succ]
    refine wpAnyH_done (by kernel_rfl) ?_ _
    refine NoPanic.normal ?_
    have O5x := O5.out
    rw [show k + 1 + (m - k) = m + 1 from by omega, EQ.out] at O5x
    obtain ⟨A', c', rfl, _⟩ := ownForm O5x
    exact hQ _ _ _ _ _ _ _ _ _ _ _ _ _ _ _ _ ⟨A', c', rfl, O5x, (Below.refl w.heap.size w).drew.trans BX.out⟩
noncomputable def so_r8nC : Code := ((Try.f34.body.bind (regionOf 8))).getD .skip
set_option maxRecDepth 1000000 in
set_option maxHeartbeats 8000000 in
theorem so_r8n (c1 c2 c6 c7 c8 c9 c10 c11 c12 c13 c14 c15 c16 c17 c18 c19 c20 c21 c22 c23 c24 c25 c26 c27 c28 c29 c30 c31 c32 c33 c34 c35 c36 c37 c38 c39 c40 c41 c42 c43 : Value) (w : World) (gl n cl i : Nat) (p : Pt) (hi : i < n) (hn : n ≤ 1000000) (hgl : gl < w.heap.size) (hy : w.rangeAt gl (i * 33) (pC p))
    (Q : Exit → Act → World → Prop) (hQ : ∀ (u3 u29 u30 u31 u32 u33 u34 u35 u36 u37 u38 u39 u40 u41 u42 : Value) (w' : World), (∃ A' c', u3 = .slice A' (0 + 1) c' ∧ w'.ownsRow w.heap.size 29 33 u3 (0 + 1) (pts [p]) ∧ Below w.heap.size w w') → Q .normal ⟨#[.slice (some ⟨gl, 0, none⟩) n cl, c1, c2, u3, .int .i64 (i : Int), .int .i64 0, c6, c7, c8, c9, c10, c11, c12, c13, c14, c15, c16, c17, c18, c19, c20, c21, c22, c23, c24, c25, c26, c27, c28, u29, u30, u31, u32, u33, u34, u35, u36, u37, u38, u39, u40, u41, u42, c43], []⟩ w') :
    Code.wp Try.prog so_r8nC Q ⟨#[.slice (some ⟨gl, 0, none⟩) n cl, c1, c2, .slice none 0 0, .int .i64 (i : Int), .int .i64 0, c6, c7, c8, c9, c10, c11, c12, c13, c14, c15, c16, c17, c18, c19, c20, c21, c22, c23, c24, c25, c26, c27, c28, c29, c30, c31, c32, c33, c34, c35, c36, c37, c38, c39, c40, c41, c42, c43], []⟩ w := by
  conv => arg 2; whnf
  try dsimp only at hQ ⊢
  have EQ := Lib.hid (show ([] : List Value) ++ pC p ++ [] = pts [p] from by rw [List.nil_append, List.append_nil]; show _ = pts ([] ++ [p]); rw [← pts_more]; rfl)
  obtain ⟨i0, hi0⟩ : ∃ i0, Try.prog.info? 29 = some i0 := ⟨_, (Option.some_get (by kernel_rfl)).symm⟩
  obtain ⟨hz0, hz1, hz2⟩ := point_row hi0
  have KP : Hid (∀ u : World, Below w.heap.size w.drew u → u.rangeAt gl (i * 33) (pC p)) := fun u hu => rangeB (u := w.drew) hu hgl hy
  have BX : Hid (Below w.heap.size w.drew w.drew) := Below.refl _ _
  have q2 : (i : Int) < (n : Int) := by omega
  clear hy
  refine wp_region_noPanic ?_
  refine wp_region_held_drew (S := (fun u => u.rangeAt gl (i * 33) (pC p))) (by kernel_rfl) (KP.out _ BX.out) (fun hHeld => ?_)
  refine takeH (i := 0) (d := 29) (oi := _) (v := .slice none 0 0) rfl (by kernel_rfl) (by kernel_rfl) (by kernel_rfl) (by kernel_rfl) (fun _ _ _ h => h) (Or.inl ⟨by kernel_rfl, by intro u hSw; clear hSw; go_simp⟩) hHeld ?_
  try simp only [List.setIfInBounds_toArray, List.set_cons_zero, List.set_cons_succ]
  refine takeH (i := 1) (d := 30) (oi := _) (v := .int .i64 0) rfl (by kernel_rfl) (by kernel_rfl) (by kernel_rfl) (by kernel_rfl) (fun _ _ _ h => h) (Or.inl ⟨by kernel_rfl, by intro u hSw; clear hSw; go_simp⟩) hHeld ?_
  try simp only [List.setIfInBounds_toArray, List.set_cons_zero, List.set_cons_succ]
  refine takeH (i := 2) (d := 31) (oi := _) (v := .slice none 0 0) rfl (by kernel_rfl) (by kernel_rfl) (by kernel_rfl) (by kernel_rfl) (fun _ _ _ h => h) (Or.inl ⟨by kernel_rfl, by intro u hSw; clear hSw; go_simp⟩) hHeld ?_
  try simp only [List.setIfInBounds_toArray, List.set_cons_zero, List.set_cons_succ]
  refine takeH (i := 4) (d := 33) (oi := _) (v := .slice (some ⟨gl, 0, none⟩) n cl) rfl (by kernel_rfl) (by kernel_rfl) (by kernel_rfl) (by kernel_rfl) (fun _ _ _ h => h) (Or.inl ⟨by kernel_rfl, by intro u hSw; clear hSw; go_simp⟩) hHeld ?_
  try simp only [List.setIfInBounds_toArray, List.set_cons_zero, List.set_cons_succ]
  refine takeH (i := 5) (d := 34) (oi := _) (v := .int .i64 (i : Int)) rfl (by kernel_rfl) (by kernel_rfl) (by kernel_rfl) (by kernel_rfl) (fun _ _ _ h => h) (Or.inl ⟨by kernel_rfl, by intro u hSw; clear hSw; go_simp⟩) hHeld ?_
  try simp only [List.setIfInBounds_toArray, List.set_cons_zero, List.set_cons_succ]
  refine takeH (i := 6) (d := 35) (oi := _) (v := .pointer (some ⟨gl, (i * 33), none⟩)) rfl (by kernel_rfl) (by kernel_rfl) (by kernel_rfl) (by kernel_rfl) (fun _ _ _ h => h) (Or.inl ⟨by kernel_rfl, by intro u hSw; clear hSw; go_simp⟩) hHeld ?_
  try simp only [List.setIfInBounds_toArray, List.set_cons_zero, List.set_cons_succ]
  refine takeH (i := 7) (d := 36) (oi := _) (v := .agg (pv p)) rfl (by kernel_rfl) (by kernel_rfl) (by kernel_rfl) (by kernel_rfl) (fun _ _ _ h => h) (yieldsIf_load_midC (by kernel_rfl) _ _ rfl (gl) (i * 33) rfl (pC p) (pv p) (pC_arr p) _ (fun u hSw => hSw) Try.underlying29 rfl (size_pv p)) hHeld ?_
  try simp only [List.setIfInBounds_toArray, List.set_cons_zero, List.set_cons_succ]
  refine takeH (i := 10) (d := 39) (oi := _) (v := .slice none 0 0) rfl (by kernel_rfl) (by kernel_rfl) (by kernel_rfl) (by kernel_rfl) (fun _ _ _ h => h) (Or.inl ⟨by kernel_rfl, by intro u hSw; clear hSw; go_simp⟩) hHeld ?_
  try simp only [List.setIfInBounds_toArray, List.set_cons_zero, List.set_cons_succ]
  refine takeH (i := 11) (d := 40) (oi := _) (v := .int .i64 0) rfl (by kernel_rfl) (by kernel_rfl) (by kernel_rfl) (by kernel_rfl) (fun _ _ _ h => h) (Or.inl ⟨by kernel_rfl, by intro u hSw; clear hSw; go_simp⟩) hHeld ?_
  try simp only [List.setIfInBounds_toArray, List.set_cons_zero, List.set_cons_succ]
  refine takeH (i := 12) (d := 41) (oi := _) (v := .slice none 0 0) rfl (by kernel_rfl) (by kernel_rfl) (by kernel_rfl) (by kernel_rfl) (fun _ _ _ h => h) (Or.inl ⟨by kernel_rfl, by intro u hSw; clear hSw; go_simp⟩) hHeld ?_
  try simp only [List.setIfInBounds_toArray, List.set_cons_zero, List.set_cons_succ]
  refine wpAnyH_ready (rs := [3, 8]) (by kernel_rfl) (by simp) ?_
  refine AllReadyH.cons (o := _) rfl (fun K hK => ?_) (AllReadyH.cons (o := _) rfl (fun K hK => ?_) (AllReadyH.nil))
  · refine step_append_row (by kernel_rfl) (.const (.slice none 0 0)) (.tmp 31) 38 rfl w.heap.size 29 i0 _ 33 40 Try.underlying38 hi0 hz0 hz1 hz2 (by show (pv ptZ).size = 33; exact rowV_size _ _) (by decide) (.slice none 0 0) 0 [] rfl (World.ownsRow_nil _ _ _ _) 0 (.slice none 0 0) 0 [] rfl (World.ownsRow_nil _ _ _ _) (fun u hu => by cases hu) (by unfold maxLen; omega) (by omega) BX.out.size ?_
    intro v3 w3 o3 g3 b3
    rw [Nat.zero_add, List.nil_append] at o3
    have O3 := Lib.hid o3
    have BX := Lib.hid (BX.out.grown g3 BX.out.size (fun k e => by cases e))
    try replace OV := Lib.hid (OV.out.kept g3 (.inr (fun e => by cases e)))
    clear o3 g3 b3
    try go_simp
    refine hK.out _ _ (KP.out _ BX.out) (fun hHeld => ?_)
    clear hK K
    try simp only [Act.put, List.setIfInBounds_toArray, List.set_cons_zero, List.set_cons_succ]
    refine wpAnyH_ready (rs := [8]) (by kernel_rfl) (by simp) ?_
    refine AllReadyH.cons (o := _) rfl (fun K hK => ?_) (AllReadyH.nil)
    first
      | (refine step_buildSlice_row (w' := w3.alloc (.cells (pv p) 29)) (by kernel_rfl) 38 1 #[(0, .tmp 36)] rfl (.slice (some ⟨w3.heap.size, 0, none⟩) 1 1) (by simp only [List.map_toArray, List.map_cons, List.map_nil]; exact one_point p w3) ?_; have OV := Lib.hid (own_point p w3); have NB := Lib.hid ((Below.refl w3.heap.size w3).alloc (Nat.le_refl _) (.cells (pv p) 29)); obtain ⟨w2, hw2⟩ : ∃ w2, w2 = w3.alloc (.cells (pv p) 29) := ⟨_, rfl⟩; rw [← hw2] at OV NB ⊢; clear hw2; (try replace O3 := Lib.hid (ownKeep O3.out (fun g hg => NB.out.block g (O3.out.lt g hg).2))); have BX := Lib.hid (BX.out.trans (NB.out.mono BX.out.size)))
      | (refine step_buildSlice_row (w' := w.drew.alloc (.cells (pv p) 29)) (by kernel_rfl) 38 1 #[(0, .tmp 36)] rfl (.slice (some ⟨w.drew.heap.size, 0, none⟩) 1 1) (by simp only [List.map_toArray, List.map_cons, List.map_nil]; exact one_point p w.drew) ?_; have OV := Lib.hid (own_point p w.drew); have NB := Lib.hid ((Below.refl w.drew.heap.size w.drew).alloc (Nat.le_refl _) (.cells (pv p) 29)); obtain ⟨w2, hw2⟩ : ∃ w2, w2 = w.drew.alloc (.cells (pv p) 29) := ⟨_, rfl⟩; rw [← hw2] at OV NB ⊢; clear hw2; (try replace O3 := Lib.hid (ownKeep O3.out (fun g hg => NB.out.block g (O3.out.lt g hg).2))); have BX := Lib.hid (BX.out.trans (NB.out.mono BX.out.size)))
    try go_simp
    refine hK.out _ _ (KP.out _ BX.out) (fun hHeld => ?_)
    clear hK K
    try simp only [Act.put, List.setIfInBounds_toArray, List.set_cons_zero, List.set_cons_succ]
    refine wpAnyH_ready (rs := [9]) (by kernel_rfl) (by simp) ?_
    refine AllReadyH.cons (o := _) rfl (fun K hK => ?_) (AllReadyH.nil)
    refine step_append_row (by kernel_rfl) (.tmp 32) (.tmp 37) 38 rfl w.heap.size 29 i0 _ 33 40 Try.underlying38 hi0 hz0 hz1 hz2 (by show (pv ptZ).size = 33; exact rowV_size _ _) (by decide) v3 0 ([] : List Value) rfl O3.out 0 _ 1 (pC p) rfl OV.out (pC_one p) (by unfold maxLen; omega) (by omega) BX.out.size ?_
    intro v4 w4 o4 g4 b4
    have O4 := Lib.hid o4
    have BX := Lib.hid (BX.out.grown g4 BX.out.size (fun k e => (O3.out.lt k e).1))
    clear o4 g4 b4
    try go_simp
    refine hK.out _ _ (KP.out _ BX.out) (fun hHeld => ?_)
    clear hK K
    try simp only [Act.put, List.setIfInBounds_toArray, List.set_cons_zero, List.set_cons_succ]
    refine wpAnyH_ready (rs := [13]) (by kernel_rfl) (by simp) ?_
    refine AllReadyH.cons (o := _) rfl (fun K hK => ?_) (AllReadyH.nil)
    refine step_append_row (by kernel_rfl) (.tmp 38) (.tmp 41) 38 rfl w.heap.size 29 i0 _ 33 40 Try.underlying38 hi0 hz0 hz1 hz2 (by show (pv ptZ).size = 33; exact rowV_size _ _) (by decide) v4 (0 + 1) (([] : List Value) ++ pC p) rfl O4.out 0 (.slice none 0 0) 0 [] rfl (World.ownsRow_nil _ _ _ _) (fun u hu => by cases hu) (by unfold maxLen; omega) (by omega) BX.out.size ?_
    intro v5 w5 o5 g5 b5
    have O5 := Lib.hid o5
    have BX := Lib.hid (BX.out.grown g5 BX.out.size (fun k e => (O4.out.lt k e).1))
    have C5 := Lib.hid (KP.out _ BX.out)
    clear o5 g5 b5
    try go_simp
    refine hK.out _ _ (C5.out) (fun hHeld => ?_)
    clear hK K
    try simp only [Act.put, List.setIfInBounds_toArray, List.set_cons_zero, List.set_cons_succ]
    refine takeH (i := 14) (d := 3) (oi := _) (v := v5) rfl (by kernel_rfl) (by kernel_rfl) (by kernel_rfl) (by kernel_rfl) (fun _ _ _ h => h) (Or.inl ⟨by kernel_rfl, by intro u hSw; clear hSw; go_simp⟩) hHeld ?_
    try simp only [List.setIfInBounds_toArray, List.set_cons_zero, List.set_cons_succ]
    refine wpAnyH_done (by kernel_rfl) ?_ _
    refine NoPanic.normal ?_
    have O5x := O5.out
    rw [show 0 + 1 + 0 = 0 + 1 from by omega, EQ.out] at O5x
    obtain ⟨A', c', rfl, _⟩ := ownForm O5x
    exact hQ _ _ _ _ _ _ _ _ _ _ _ _ _ _ _ _ ⟨A', c', rfl, O5x, (Below.refl w.heap.size w).drew.trans BX.out⟩
  · first
      | (refine step_buildSlice_row (w' := w3.alloc (.cells (pv p) 29)) (by kernel_rfl) 38 1 #[(0, .tmp 36)] rfl (.slice (some ⟨w3.heap.size, 0, none⟩) 1 1) (by simp only [List.map_toArray, List.map_cons, List.map_nil]; exact one_point p w3) ?_; have OV := Lib.hid (own_point p w3); have NB := Lib.hid ((Below.refl w3.heap.size w3).alloc (Nat.le_refl _) (.cells (pv p) 29)); obtain ⟨w2, hw2⟩ : ∃ w2, w2 = w3.alloc (.cells (pv p) 29) := ⟨_, rfl⟩; rw [← hw2] at OV NB ⊢; clear hw2; (try replace O3 := Lib.hid (ownKeep O3.out (fun g hg => NB.out.block g (O3.out.lt g hg).2))); have BX := Lib.hid (BX.out.trans (NB.out.mono BX.out.size)))
      | (refine step_buildSlice_row (w' := w.drew.alloc (.cells (pv p) 29)) (by kernel_rfl) 38 1 #[(0, .tmp 36)] rfl (.slice (some ⟨w.drew.heap.size, 0, none⟩) 1 1) (by simp only [List.map_toArray, List.map_cons, List.map_nil]; exact one_point p w.drew) ?_; have OV := Lib.hid (own_point p w.drew); have NB := Lib.hid ((Below.refl w.drew.heap.size w.drew).alloc (Nat.le_refl _) (.cells (pv p) 29)); obtain ⟨w2, hw2⟩ : ∃ w2, w2 = w.drew.alloc (.cells (pv p) 29) := ⟨_, rfl⟩; rw [← hw2] at OV NB ⊢; clear hw2; (try replace O3 := Lib.hid (ownKeep O3.out (fun g hg => NB.out.block g (O3.out.lt g hg).2))); have BX := Lib.hid (BX.out.trans (NB.out.mono BX.out.size)))
    try go_simp
    refine hK.out _ _ (KP.out _ BX.out) (fun hHeld => ?_)
    clear hK K
    try simp only [Act.put, List.setIfInBounds_toArray, List.set_cons_zero, List.set_cons_succ]
    refine wpAnyH_ready (rs := [3]) (by kernel_rfl) (by simp) ?_
    refine AllReadyH.cons (o := _) rfl (fun K hK => ?_) (AllReadyH.nil)
    refine step_append_row (by kernel_rfl) (.const (.slice none 0 0)) (.tmp 31) 38 rfl w.heap.size 29 i0 _ 33 40 Try.underlying38 hi0 hz0 hz1 hz2 (by show (pv ptZ).size = 33; exact rowV_size _ _) (by decide) (.slice none 0 0) 0 [] rfl (World.ownsRow_nil _ _ _ _) 0 (.slice none 0 0) 0 [] rfl (World.ownsRow_nil _ _ _ _) (fun u hu => by cases hu) (by unfold maxLen; omega) (by omega) BX.out.size ?_
    intro v3 w3 o3 g3 b3
    rw [Nat.zero_add, List.nil_append] at o3
    have O3 := Lib.hid o3
    have BX := Lib.hid (BX.out.grown g3 BX.out.size (fun k e => by cases e))
    try replace OV := Lib.hid (OV.out.kept g3 (.inr (fun e => by cases e)))
    clear o3 g3 b3
    try go_simp
    refine hK.out _ _ (KP.out _ BX.out) (fun hHeld => ?_)
    clear hK K
    try simp only [Act.put, List.setIfInBounds_toArray, List.set_cons_zero, List.set_cons_succ]
    refine wpAnyH_ready (rs := [9]) (by kernel_rfl) (by simp) ?_
    refine AllReadyH.cons (o := _) rfl (fun K hK => ?_) (AllReadyH.nil)
    refine step_append_row (by kernel_rfl) (.tmp 32) (.tmp 37) 38 rfl w.heap.size 29 i0 _ 33 40 Try.underlying38 hi0 hz0 hz1 hz2 (by show (pv ptZ).size = 33; exact rowV_size _ _) (by decide) v3 0 ([] : List Value) rfl O3.out 0 _ 1 (pC p) rfl OV.out (pC_one p) (by unfold maxLen; omega) (by omega) BX.out.size ?_
    intro v4 w4 o4 g4 b4
    have O4 := Lib.hid o4
    have BX := Lib.hid (BX.out.grown g4 BX.out.size (fun k e => (O3.out.lt k e).1))
    clear o4 g4 b4
    try go_simp
    refine hK.out _ _ (KP.out _ BX.out) (fun hHeld => ?_)
    clear hK K
    try simp only [Act.put, List.setIfInBounds_toArray, List.set_cons_zero, List.set_cons_succ]
    refine wpAnyH_ready (rs := [13]) (by kernel_rfl) (by simp) ?_
    refine AllReadyH.cons (o := _) rfl (fun K hK => ?_) (AllReadyH.nil)
    refine step_append_row (by kernel_rfl) (.tmp 38) (.tmp 41) 38 rfl w.heap.size 29 i0 _ 33 40 Try.underlying38 hi0 hz0 hz1 hz2 (by show (pv ptZ).size = 33; exact rowV_size _ _) (by decide) v4 (0 + 1) (([] : List Value) ++ pC p) rfl O4.out 0 (.slice none 0 0) 0 [] rfl (World.ownsRow_nil _ _ _ _) (fun u hu => by cases hu) (by unfold maxLen; omega) (by omega) BX.out.size ?_
    intro v5 w5 o5 g5 b5
    have O5 := Lib.hid o5
    have BX := Lib.hid (BX.out.grown g5 BX.out.size (fun k e => (O4.out.lt k e).1))
    have C5 := Lib.hid (KP.out _ BX.out)
    clear o5 g5 b5
    try go_simp
    refine hK.out _ _ (C5.out) (fun hHeld => ?_)
    clear hK K
    try simp only [Act.put, List.setIfInBounds_toArray, List.set_cons_zero, List.set_cons_succ]
    refine takeH (i := 14) (d := 3) (oi := _) (v := v5) rfl (by kernel_rfl) (by kernel_rfl) (by kernel_rfl) (by kernel_rfl) (fun _ _ _ h => h) (Or.inl ⟨by kernel_rfl, by intro u hSw; clear hSw; go_simp⟩) hHeld ?_
    try simp only [List.setIfInBounds_toArray, List.set_cons_zero, List.set_cons_succ]
    refine wpAnyH_done (by kernel_rfl) ?_ _
    refine NoPanic.normal ?_
    have O5x := O5.out
    rw [show 0 + 1 + 0 = 0 + 1 from by omega, EQ.out] at O5x
    obtain ⟨A', c', rfl, _⟩ := ownForm O5x
    exact hQ _ _ _ _ _ _ _ _ _ _ _ _ _ _ _ _ ⟨A', c', rfl, O5x, (Below.refl w.heap.size w).drew.trans BX.out⟩
end Go.Proofs.Ythlbpjkopkicbaa
namespace Go.Proofs.Ythlbpjkopkicbaa
open Go.ChangeMaps Go.MapKept Go.Maps Go.WideElems Go.RowKit Go.ChangeShapes Go.WideShapes Go.ChangeAt
set_option linter.unusedVariables false
set_option maxRecDepth 100000

noncomputable def so_r6nC : Code := ((Try.f34.body.bind (regionOf 6))).getD .skip
set_option maxRecDepth 1000000 in
set_option maxHeartbeats 8000000 in
theorem so_r6n (c1 c2 c6 c7 c8 c9 c10 c11 c12 c13 c14 c15 c16 c17 c18 c19 c20 c21 c22 c23 c24 c25 c26 c27 c28 c29 c30 c31 c32 c33 c34 c35 c36 c37 c38 c39 c40 c41 c42 c43 : Value) (w : World) (AO : Option Addr) (gl n cl m co i : Nat)
    (Q : Exit → Act → World → Prop) (hQ : ∀ (u12 u13 u14 u15 u16 u17 u18 u19 u20 u21 u22 u23 u24 u25 : Value) (w' : World), Below w.heap.size w w' → Q .normal ⟨#[.slice (some ⟨gl, 0, none⟩) n cl, c1, c2, .slice AO m co, .int .i64 (i : Int), .int .i64 (m : Int), c6, c7, c8, c9, c10, c11, u12, u13, u14, u15, u16, u17, u18, u19, u20, u21, u22, u23, u24, u25, .bool false, c27, c28, c29, c30, c31, c32, c33, c34, c35, c36, c37, c38, c39, c40, c41, c42, c43], []⟩ w') :
    Code.wp Try.prog so_r6nC Q ⟨#[.slice (some ⟨gl, 0, none⟩) n cl, c1, c2, .slice AO m co, .int .i64 (i : Int), .int .i64 (m : Int), c6, c7, c8, c9, c10, c11, c12, c13, c14, c15, c16, c17, c18, c19, c20, c21, c22, c23, c24, c25, c26, c27, c28, c29, c30, c31, c32, c33, c34, c35, c36, c37, c38, c39, c40, c41, c42, c43], []⟩ w := by
  conv => arg 2; whnf
  try dsimp only at hQ ⊢
  have q1 : decide ((m : Int) < (m : Int)) = false := by simp
  refine wp_region_noPanic ?_
  refine wp_region_held_drew (S := (fun _ => True)) (by kernel_rfl) (trivial) (fun hHeld => ?_)
  refine takeH (i := 0) (d := 12) (oi := _) (v := .int .i64 (m : Int)) rfl (by kernel_rfl) (by kernel_rfl) (by kernel_rfl) (by kernel_rfl) (fun _ _ _ h => h) (Or.inl ⟨by kernel_rfl, by intro u hSw; clear hSw; go_simp⟩) hHeld ?_
  try simp only [List.setIfInBounds_toArray, List.set_cons_zero, List.set_cons_succ]
  refine takeH (i := 1) (d := 13) (oi := _) (v := .slice AO m co) rfl (by kernel_rfl) (by kernel_rfl) (by kernel_rfl) (by kernel_rfl) (fun _ _ _ h => h) (Or.inl ⟨by kernel_rfl, by intro u hSw; clear hSw; go_simp⟩) hHeld ?_
  try simp only [List.setIfInBounds_toArray, List.set_cons_zero, List.set_cons_succ]
  refine takeH (i := 2) (d := 14) (oi := _) (v := .int .i64 (m : Int)) rfl (by kernel_rfl) (by kernel_rfl) (by kernel_rfl) (by kernel_rfl) (fun _ _ _ h => h) (Or.inl ⟨by kernel_rfl, by intro u hSw; clear hSw; go_simp⟩) hHeld ?_
  try simp only [List.setIfInBounds_toArray, List.set_cons_zero, List.set_cons_succ]
  refine takeH (i := 3) (d := 15) (oi := _) (v := .bool false) rfl (by kernel_rfl) (by kernel_rfl) (by kernel_rfl) (by kernel_rfl) (fun _ _ _ h => h) (Or.inl ⟨by kernel_rfl, by intro u hSw; clear hSw; go_simp⟩) hHeld ?_
  try simp only [List.setIfInBounds_toArray, List.set_cons_zero, List.set_cons_succ]
  refine takeH (i := 4) (d := 16) (oi := _) (v := .bool false) rfl (by kernel_rfl) (by kernel_rfl) (by kernel_rfl) (by kernel_rfl) (fun _ _ _ h => h) (Or.inl ⟨by kernel_rfl, by intro u hSw; clear hSw; go_simp⟩) hHeld ?_
  try simp only [List.setIfInBounds_toArray, List.set_cons_zero, List.set_cons_succ]
  refine takeH (i := 5) (d := 17) (oi := _) (v := undef) rfl (by kernel_rfl) (by kernel_rfl) (by kernel_rfl) (by kernel_rfl) (fun _ _ _ h => h) (Or.inr ⟨by kernel_rfl, rfl⟩) hHeld ?_
  try simp only [List.setIfInBounds_toArray, List.set_cons_zero, List.set_cons_succ]
  refine takeH (i := 6) (d := 18) (oi := _) (v := undef) rfl (by kernel_rfl) (by kernel_rfl) (by kernel_rfl) (by kernel_rfl) (fun _ _ _ h => h) (Or.inr ⟨by kernel_rfl, rfl⟩) hHeld ?_
  try simp only [List.setIfInBounds_toArray, List.set_cons_zero, List.set_cons_succ]
  refine takeH (i := 7) (d := 19) (oi := _) (v := undef) rfl (by kernel_rfl) (by kernel_rfl) (by kernel_rfl) (by kernel_rfl) (fun _ _ _ h => h) (Or.inr ⟨by kernel_rfl, rfl⟩) hHeld ?_
  try simp only [List.setIfInBounds_toArray, List.set_cons_zero, List.set_cons_succ]
  refine takeH (i := 8) (d := 20) (oi := _) (v := undef) rfl (by kernel_rfl) (by kernel_rfl) (by kernel_rfl) (by kernel_rfl) (fun _ _ _ h => h) (Or.inr ⟨by kernel_rfl, rfl⟩) hHeld ?_
  try simp only [List.setIfInBounds_toArray, List.set_cons_zero, List.set_cons_succ]
  refine takeH (i := 9) (d := 21) (oi := _) (v := undef) rfl (by kernel_rfl) (by kernel_rfl) (by kernel_rfl) (by kernel_rfl) (fun _ _ _ h => h) (Or.inr ⟨by kernel_rfl, rfl⟩) hHeld ?_
  try simp only [List.setIfInBounds_toArray, List.set_cons_zero, List.set_cons_succ]
  refine takeH (i := 10) (d := 22) (oi := _) (v := undef) rfl (by kernel_rfl) (by kernel_rfl) (by kernel_rfl) (by kernel_rfl) (fun _ _ _ h => h) (Or.inr ⟨by kernel_rfl, rfl⟩) hHeld ?_
  try simp only [List.setIfInBounds_toArray, List.set_cons_zero, List.set_cons_succ]
  refine takeH (i := 11) (d := 23) (oi := _) (v := undef) rfl (by kernel_rfl) (by kernel_rfl) (by kernel_rfl) (by kernel_rfl) (fun _ _ _ h => h) (Or.inr ⟨by kernel_rfl, rfl⟩) hHeld ?_
  try simp only [List.setIfInBounds_toArray, List.set_cons_zero, List.set_cons_succ]
  refine takeH (i := 12) (d := 24) (oi := _) (v := undef) rfl (by kernel_rfl) (by kernel_rfl) (by kernel_rfl) (by kernel_rfl) (fun _ _ _ h => h) (Or.inr ⟨by kernel_rfl, rfl⟩) hHeld ?_
  try simp only [List.setIfInBounds_toArray, List.set_cons_zero, List.set_cons_succ]
  refine takeH (i := 13) (d := 25) (oi := _) (v := undef) rfl (by kernel_rfl) (by kernel_rfl) (by kernel_rfl) (by kernel_rfl) (fun _ _ _ h => h) (Or.inr ⟨by kernel_rfl, rfl⟩) hHeld ?_
  try simp only [List.setIfInBounds_toArray, List.set_cons_zero, List.set_cons_succ]
  refine takeH (i := 14) (d := 26) (oi := _) (v := .bool false) rfl (by kernel_rfl) (by kernel_rfl) (by kernel_rfl) (by kernel_rfl) (fun _ _ _ h => h) (Or.inl ⟨by kernel_rfl, by intro u hSw; clear hSw; go_simp⟩) hHeld ?_
  try simp only [List.setIfInBounds_toArray, List.set_cons_zero, List.set_cons_succ]
  refine wpAnyH_done (by kernel_rfl) ?_ _
  refine NoPanic.normal ?_
  exact hQ _ _ _ _ _ _ _ _ _ _ _ _ _ _ _ (Below.refl w.heap.size w).drew
noncomputable def so_b2C : Code := ((Try.f34.body.bind (blockOf 2))).getD .skip
set_option maxRecDepth 1000000 in
set_option maxHeartbeats 8000000 in
theorem so_b2 (c1 c2 c6 c7 c8 c9 c10 c11 c12 c13 c14 c15 c16 c17 c18 c19 c20 c21 c22 c23 c24 c25 c26 c27 c28 c29 c30 c31 c32 c33 c34 c35 c36 c37 c38 c39 c40 c41 c42 c43 : Value) (w : World) (AO : Option Addr) (gl go n cl m co i : Nat) (p : Pt) (L : List Pt) (hL : L.length = m) (hi : i < n) (hm : m ≤ 1000000) (hn : n ≤ 1000000) (hgl : gl < w.heap.size) (hP : ∀ u, Below w.heap.size w u → u.rangeAt gl (i * 33) (pC p)) (hAO : 0 < m → AO = some ⟨go, 0, none⟩ ∧ go < w.heap.size) (hx : ∀ u, Below w.heap.size w u → ∀ (k : Nat) q, L[k]? = some q → u.rangeAt go (k * 33) (pC q))
    (Q : Exit → Act → World → Prop) (hQ : ∀ (u5 u12 u13 u14 u15 u16 u17 u18 u19 u20 u21 u22 u23 u24 u25 u26 u27 u28 : Value) (w' : World), (∃ k, k ≤ m ∧ u5 = .int .i64 (k : Int) ∧ Below w.heap.size w w' ∧ (∀ j q, j < k → L[j]? = some q → keyN q < keyN p) ∧ ∀ q, L[k]? = some q → ¬ keyN q < keyN p) → Q .normal ⟨#[.slice (some ⟨gl, 0, none⟩) n cl, c1, c2, .slice AO m co, .int .i64 (i : Int), u5, c6, c7, c8, c9, c10, c11, u12, u13, u14, u15, u16, u17, u18, u19, u20, u21, u22, u23, u24, u25, u26, u27, u28, c29, c30, c31, c32, c33, c34, c35, c36, c37, c38, c39, c40, c41, c42, c43], []⟩ w') :
    Code.wp Try.prog so_b2C Q ⟨#[.slice (some ⟨gl, 0, none⟩) n cl, c1, c2, .slice AO m co, .int .i64 (i : Int), .int .i64 0, c6, c7, c8, c9, c10, c11, c12, c13, c14, c15, c16, c17, c18, c19, c20, c21, c22, c23, c24, c25, c26, c27, c28, c29, c30, c31, c32, c33, c34, c35, c36, c37, c38, c39, c40, c41, c42, c43], []⟩ w := by
  conv => arg 2; whnf
  try dsimp only at hQ ⊢
  have HQ := Lib.hid hQ
  have HL := Lib.hid hL
  have HP := Lib.hid hP
  have HX := Lib.hid hx
  have HAO := Lib.hid hAO
  clear hQ hL hP hx hAO
  go_wp2_with fail
  go_loopw [5] (fun v5 u => ∃ k, k ≤ m ∧ v5 = .int .i64 (k : Int) ∧ Below w.heap.size w u ∧ ∀ j q, j < k → L[j]? = some q → keyN q < keyN p) (fun v5 _ => m - (intOf v5).toNat)
  case atStart => exact ⟨0, Nat.zero_le _, rfl, Below.refl _ _, fun j q h => absurd h (Nat.not_lt_zero _)⟩
  case round =>
    obtain ⟨k, hk, rfl, q1, q2⟩ := hrel
    have B1 := Lib.hid q1
    have C1 := Lib.hid q2
    clear q1 q2
    by_cases hkm : k < m
    · obtain ⟨rfl, hgo⟩ := HAO.out (by omega)
      obtain ⟨q, hq⟩ : ∃ q, L[k]? = some q := ⟨_, List.getElem?_eq_getElem (by have := HL.out; omega)⟩
      have kx := HX.out wr B1.out k q hq
      have kp := HP.out wr B1.out
      have HQ2 := Lib.hid hq
      have SZ := B1.out.size
      clear hq
      go_wp2_with fail
      refine so_r6 _ _ _ _ _ _ _ _ _ _ _ _ _ _ _ _ _ _ _ _ _ _ _ _ _ _ _ _ _ _ _ _ _ _ _ _ _ _ _ _ wr gl go n cl m co i k p q hkm hi hm hn (by omega) (by omega) kx kp _ ?_
      intro t12 t13 t14 t15 t16 t17 t18 t19 t20 t21 t22 t23 t24 t25 w2 b2
      have B2 := Lib.hid (B1.out.trans (b2.mono B1.out.size))
      clear b2 kx kp SZ
      by_cases he : keyN q < keyN p
      · have d1 : decide (keyN q < keyN p) = true := decide_eq_true he
        have C2 : Hid (∀ j q, j < k + 1 → L[j]? = some q → keyN q < keyN p) := fun j z hj hz => by
          by_cases e : j = k
          · have hz2 : some q = some z := HQ2.out.symm.trans (e ▸ hz)
            exact (Option.some.inj hz2) ▸ he
          · exact C1.out j z (by omega) hz
        clear he
        rw [d1]
        clear d1
        go_wp2_with fail
        exact ⟨⟨k + 1, by omega, by go_num, B2.out, C2.out⟩, by simp [intOf]; omega⟩
      · have d1 : decide (keyN q < keyN p) = false := decide_eq_false he
        have C2 : Hid (∀ z, L[k]? = some z → ¬ keyN z < keyN p) := fun z hz => by
          have hz2 : some q = some z := HQ2.out.symm.trans hz
          exact (Option.some.inj hz2) ▸ he
        clear he
        rw [d1]
        clear d1
        go_wp2_with fail
        refine HQ.out _ _ _ _ _ _ _ _ _ _ _ _ _ _ _ _ _ _ _ ?_
        exact ⟨k, hk, rfl, B2.out, C1.out, C2.out⟩
    · obtain rfl : k = m := by omega
      go_wp2_with fail
      refine so_r6n _ _ _ _ _ _ _ _ _ _ _ _ _ _ _ _ _ _ _ _ _ _ _ _ _ _ _ _ _ _ _ _ _ _ _ _ _ _ _ _ wr AO gl n cl k co i _ ?_
      intro t12 t13 t14 t15 t16 t17 t18 t19 t20 t21 t22 t23 t24 t25 w2 b2
      have B2 := Lib.hid (B1.out.trans (b2.mono B1.out.size))
      have C2 : Hid (∀ z, L[k]? = some z → ¬ keyN z < keyN p) := fun z hz => by
        have := (List.getElem?_eq_some_iff.1 hz).1
        have := HL.out
        omega
      clear b2
      go_wp2_with fail
      refine HQ.out _ _ _ _ _ _ _ _ _ _ _ _ _ _ _ _ _ _ _ ?_
      exact ⟨k, hk, rfl, B2.out, C1.out, C2.out⟩
end Go.Proofs.Ythlbpjkopkicbaa
namespace Go.Proofs.Ythlbpjkopkicbaa
open Go.ChangeMaps Go.MapKept Go.Maps Go.WideElems Go.RowKit Go.ChangeShapes Go.WideShapes Go.ChangeAt
set_option linter.unusedVariables false
set_option maxRecDepth 100000

attribute [local irreducible] keyN
theorem own_rowS {w : World} {base n : Nat} {A : Option Addr} {c : Nat} {t : TypeId} {sz : Nat} {xs : List Value} (h : w.ownsRow base t sz (.slice A n c) n xs) : ∃ gl, 0 < n → A = some ⟨gl, 0, none⟩ ∧ gl < w.heap.size := by
  rcases h.2 with ⟨e, h0⟩ | ⟨g, cap, cur, e, _⟩
  · exact ⟨0, fun h => by omega⟩
  · injection e with e1 e2 e3
    exact ⟨g, fun _ => ⟨e1, (h.lt g (by rw [e1]; rfl)).2⟩⟩
theorem own_cap {w : World} {base n : Nat} {A : Option Addr} {c : Nat} {t : TypeId} {sz : Nat} {xs : List Value} (h : w.ownsRow base t sz (.slice A n c) n xs) : n ≤ c := by
  obtain ⟨A', c', e, hc, _⟩ := ownForm h
  injection e with e1 e2 e3
  omega
theorem own_base {w : World} {base base' n : Nat} {v : Value} {t : TypeId} {sz : Nat} {xs : List Value} (h : w.ownsRow base t sz v n xs) (hb : base' ≤ base) : w.ownsRow base' t sz v n xs := ⟨h.1, h.2.imp id (fun ⟨g, cap, cur, e, hg, r⟩ => ⟨g, cap, cur, e, Nat.le_trans hb hg, r⟩)⟩
theorem own_range {w : World} {base n g c : Nat} {L : List Pt} (h : w.ownsRow base 29 33 (.slice (some ⟨g, 0, none⟩) n c) n (pts L)) : w.rangeAt g 0 (pts L) := fun j v hv => by
  have := h.cells rfl j v hv
  rwa [add_off] at this
theorem ins_mem (L : List Pt) (k : Nat) (p z : Pt) : z ∈ L.take k ++ p :: L.drop k ↔ z ∈ L ∨ z = p := by
  rw [List.mem_append, List.mem_cons]
  have : z ∈ L ↔ z ∈ L.take k ∨ z ∈ L.drop k := by rw [← List.mem_append, List.take_append_drop]
  rw [this]
  constructor
  · rintro (e | e | e)
    · exact .inl (.inl e)
    · exact .inr e
    · exact .inl (.inr e)
  · rintro ((e | e) | e)
    · exact .inl e
    · exact .inr (.inr e)
    · exact .inr (.inl e)
theorem ins_rise {L : List Pt} {k : Nat} {p : Pt} (h : Rise L) (h1 : ∀ j q, j < k → L[j]? = some q → keyN q < keyN p) (h2 : ∀ q, L[k]? = some q → keyN p < keyN q) : Rise (L.take k ++ p :: L.drop k) := by
  have hs : (L.take k ++ L.drop k).Pairwise fun x y => keyN x < keyN y := by rw [List.take_append_drop]; exact h
  obtain ⟨a1, a2, a3⟩ := List.pairwise_append.1 hs
  have hd : ∀ q ∈ L.drop k, keyN p < keyN q := by
    intro q hq
    obtain ⟨j, hj⟩ := List.getElem?_of_mem hq
    rw [List.getElem?_drop] at hj
    obtain ⟨z, hz⟩ : ∃ z, L[k]? = some z := ⟨_, List.getElem?_eq_getElem (by have := (List.getElem?_eq_some_iff.1 hj).1; omega)⟩
    have hpz := h2 z hz
    rcases j with _ | j
    · have e : some z = some q := hz.symm.trans hj
      exact (Option.some.inj e) ▸ hpz
    · have hzq : keyN z < keyN q := by
        obtain ⟨l1, e1⟩ := List.getElem?_eq_some_iff.1 hz
        obtain ⟨l2, e2⟩ := List.getElem?_eq_some_iff.1 hj
        have := List.pairwise_iff_getElem.1 h k (k + (j + 1)) l1 l2 (by omega)
        rw [e1, e2] at this
        exact this
      exact Nat.lt_trans hpz hzq
  have ht : ∀ q ∈ L.take k, keyN q < keyN p := by
    intro q hq
    obtain ⟨j, hj⟩ := List.getElem?_of_mem hq
    have hl := (List.getElem?_eq_some_iff.1 hj).1
    rw [List.length_take] at hl
    rw [List.getElem?_take_of_lt (by omega)] at hj
    exact h1 j q (by omega) hj
  refine List.pairwise_append.2 ⟨a1, List.pairwise_cons.2 ⟨hd, a2⟩, fun x hx y hy => ?_⟩
  rcases List.mem_cons.1 hy with rfl | hy
  · exact ht x hx
  · exact a3 x hx y hy
set_option maxRecDepth 1000000 in
set_option maxHeartbeats 8000000 in
theorem sort_ref (w : World) (A : Option Addr) (n cl : Nat) (Lp : List Pt) (hn : n = Lp.length) (hn2 : n ≤ 1000) (hA : PtsAt w A Lp) (hnd : Lp.Nodup) :
    Calls Try.prog 34 #[.slice A n cl] w fun e w' => ∃ A' c' L', e = .returned (.slice A' n c') ∧ L'.length = n ∧ w'.ownsRow w.heap.size 29 33 (.slice A' n c') n (pts L') ∧ Rise L' ∧ (∀ p, p ∈ L' ↔ p ∈ Lp) ∧ Below w.heap.size w w' := by
  have HA := Lib.hid hA
  have HN := Lib.hid hn
  have HD := Lib.hid hnd
  clear hA hn hnd
  go_enter Try.func34, Try.ntmps34
  go_wp2_with fail
  go_loopw [3, 4] (fun v3 v4 u => ∃ i Ao c L, i ≤ n ∧ v3 = .slice Ao i c ∧ L.length = i ∧ v4 = .int .i64 (i : Int) ∧ u.ownsRow w.heap.size 29 33 (.slice Ao i c) i (pts L) ∧ Rise L ∧ (∀ p, p ∈ L ↔ ∃ j, j < i ∧ Lp[j]? = some p) ∧ Below w.heap.size w u ∧ (i = 0 → Ao = none ∧ c = 0)) (fun _ v4 _ => n - (intOf v4).toNat)
  case atStart => exact ⟨0, none, 0, [], Nat.zero_le _, rfl, rfl, rfl, World.ownsRow_nil _ _ _ _, List.Pairwise.nil, fun p => ⟨fun h => (by cases h), fun ⟨j, hj, _⟩ => absurd hj (Nat.not_lt_zero _)⟩, Below.refl _ _, fun _ => ⟨rfl, rfl⟩⟩
  case round =>
    obtain ⟨i, Ao, c, L, hi, rfl, e1, rfl, q1, q2, q3, q4, q5⟩ := hrel
    have O1 := Lib.hid q1
    have R1 := Lib.hid q2
    have M1 := Lib.hid q3
    have B1 := Lib.hid q4
    have Z1 := Lib.hid q5
    have HL := Lib.hid e1
    clear q1 q2 q3 q4 q5 e1
    by_cases hin : i < n
    · obtain ⟨p, hp⟩ : ∃ p, Lp[i]? = some p := ⟨_, List.getElem?_eq_getElem (by have := HN.out; omega)⟩
      obtain ⟨gl, rfl, k0⟩ := HA.out w (Below.refl _ _) i p hp
      have hglw : gl < w.heap.size := World.block_lt_of_cell? w _ (k0 0 _ rfl)
      have hgl : gl < wr.heap.size := Nat.lt_of_lt_of_le hglw B1.out.size
      have KP : Hid (∀ u, Below w.heap.size w u → u.rangeAt gl (i * 33) (pC p)) := fun u hu => by
        obtain ⟨g', e', k'⟩ := HA.out u hu i p hp
        injection e' with e'
        injection e' with e'
        subst e'
        exact k'
      have PN : Hid (∀ q, q ∈ L → q ≠ p) := fun q hq e => by
        obtain ⟨j, hj, h2⟩ := (M1.out q).1 hq
        rw [e] at h2
        have := (List.getElem?_inj (List.getElem?_eq_some_iff.1 h2).1 HD.out).1 (h2.trans hp.symm)
        omega
      have HPP := Lib.hid hp
      obtain ⟨go, hgo⟩ := own_rowS O1.out
      have hco := own_cap O1.out
      have HG := Lib.hid hgo
      have HX : Hid (∀ u, Below wr.heap.size wr u → ∀ (k : Nat) q, L[k]? = some q → u.rangeAt go (k * 33) (pC q)) := fun u hu k q hk => by
        have hlt := (List.getElem?_eq_some_iff.1 hk).1
        have hl := HL.out
        obtain ⟨rfl, hg⟩ := hgo (by omega)
        subst hl
        exact rangeB hu hg (point_cells O1.out hk)
      clear hp k0 hgo
      go_upto_block 2 with fail
      refine so_b2 _ _ _ _ _ _ _ _ _ _ _ _ _ _ _ _ _ _ _ _ _ _ _ _ _ _ _ _ _ _ _ _ _ _ _ _ _ _ _ _ wr Ao gl go n cl i c i p L HL.out hin (by omega) (by omega) hgl (fun u hu => KP.out u (B1.out.trans (hu.mono B1.out.size))) HG.out HX.out _ ?_
      rintro t5 t12 t13 t14 t15 t16 t17 t18 t19 t20 t21 t22 t23 t24 t25 t26 t27 t28 w2 ⟨k, hk, rfl, b2, c2, d2⟩
      have B2 := Lib.hid (B1.out.trans (b2.mono B1.out.size))
      have BB := Lib.hid b2
      have R2 : Hid (Rise (L.take k ++ p :: L.drop k)) := ins_rise R1.out c2 (fun q hq => Nat.lt_of_le_of_ne (Nat.le_of_not_lt (d2 q hq)) (fun e => PN.out q (List.mem_of_getElem? hq) (keyN_inj e.symm)))
      have M2 : Hid (∀ z, z ∈ L.take k ++ p :: L.drop k ↔ ∃ j, j < i + 1 ∧ Lp[j]? = some z) := fun z => by
        rw [ins_mem, M1.out z]
        constructor
        · rintro (⟨j, hj, e⟩ | rfl)
          · exact ⟨j, by omega, e⟩
          · exact ⟨i, by omega, HPP.out⟩
        · rintro ⟨j, hj, e⟩
          by_cases h : j = i
          · subst h
            exact .inr (Option.some.inj (e.symm.trans HPP.out))
          · exact .inl ⟨j, by omega, e⟩
      have hgl2 : gl < w2.heap.size := Nat.lt_of_lt_of_le hglw B2.out.size
      have S2 := B2.out.size
      have HK := Lib.hid hk
      clear b2 c2 d2 hk
      by_cases h0 : 0 < i
      · obtain ⟨rfl, hgo⟩ := HG.out h0
        have k8 : w2.rangeAt go 0 (pts L) := rangeB BB.out hgo (own_range O1.out)
        have kp := KP.out w2 B2.out
        have hgo2 : go < w2.heap.size := Nat.lt_of_lt_of_le hgo BB.out.size
        go_wp2_with fail
        refine so_r8 _ _ _ _ _ _ _ _ _ _ _ _ _ _ _ _ _ _ _ _ _ _ _ _ _ _ _ _ _ _ _ _ _ _ _ _ _ _ _ _ w2 gl n cl i p hin (by omega) hgl2 kp go i c k L HL.out HK.out (by omega) hco hgo2 k8 _ ?_
        rintro t3 t29 t30 t31 t32 t33 t34 t35 t36 t37 t38 t39 t40 t41 t42 w3 ⟨A3, c3, rfl, o3, b3⟩
        have O3 := Lib.hid (own_base o3 S2)
        have B3 := Lib.hid (B2.out.trans (b3.mono S2))
        clear o3 b3 k8 kp S2 hgo hgo2
        go_wp2_with fail
        exact ⟨⟨i + 1, A3, c3, _, by omega, rfl, by have := HL.out; have := HK.out; simp; omega, by go_num, O3.out, R2.out, M2.out, B3.out, fun h => by omega⟩, by simp [intOf]; omega⟩
      · obtain rfl : i = 0 := by omega
        obtain ⟨rfl, rfl⟩ := Z1.out rfl
        obtain rfl : L = [] := List.eq_nil_of_length_eq_zero HL.out
        obtain rfl : k = 0 := by have := HK.out; omega
        have kp := KP.out w2 B2.out
        go_wp2_with fail
        refine so_r8n _ _ _ _ _ _ _ _ _ _ _ _ _ _ _ _ _ _ _ _ _ _ _ _ _ _ _ _ _ _ _ _ _ _ _ _ _ _ _ _ w2 gl n cl 0 p hin (by omega) hgl2 kp _ ?_
        rintro t3 t29 t30 t31 t32 t33 t34 t35 t36 t37 t38 t39 t40 t41 t42 w3 ⟨A3, c3, rfl, o3, b3⟩
        have O3 := Lib.hid (own_base o3 S2)
        have B3 := Lib.hid (B2.out.trans (b3.mono S2))
        clear o3 b3 kp S2
        go_wp2_with fail
        exact ⟨⟨0 + 1, A3, c3, _, by omega, rfl, rfl, by go_num, O3.out, R2.out, M2.out, B3.out, fun h => by omega⟩, by simp [intOf]; omega⟩
    · obtain rfl : i = n := by omega
      go_wp2_with fail
      go_ret
      exact ⟨Ao, c, L, rfl, HL.out, O1.out, R1.out, fun p => (M1.out p).trans ⟨fun ⟨j, _, h⟩ => List.mem_of_getElem? h, fun h => by
        obtain ⟨j, hj⟩ := List.getElem?_of_mem h
        exact ⟨j, by have := (List.getElem?_eq_some_iff.1 hj).1; have := HN.out; omega, hj⟩⟩, B1.out⟩
end Go.Proofs.Ythlbpjkopkicbaa
