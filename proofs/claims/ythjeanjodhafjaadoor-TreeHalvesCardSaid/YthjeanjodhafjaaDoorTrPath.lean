/- Contracts: a leaf's path. -/
import Derived.Test.YthjeanjodhafjaaDoorTrFour
namespace Go.Proofs.YthjeanjodhafjaaDoor
open Go.ChangeShapes Go.WideShapes Go.ChangeAt Go.RowKit
set_option linter.unusedVariables false

section
variable {P : Program} (w : World)
/-- An append inside a drawn region, whatever the elements. -/
theorem step_append_cellsP {ops : Array Oper} {o : Oper} {a : Act} {K : Act → World → Prop} {Q : Exit → Act → World → Prop} {E : Prop} (hgd : o.guard = none) (s x : Operand) (t : TypeId)
    (ho : o.op = .call { callee := .builtin .append, args := #[s, x], argTypes := #[t, t] })
    (base : Nat) (e : TypeId) (i : TypeInfo) (z : Value) (size bytes : Nat) (ht : P.underlying t = some (.slice e)) (hi : P.info? e = some i) (hz : i.zero = some z)
    (hsize : i.size = size) (hby : i.bytes = bytes) (hzs : z.cells.size = size) (hsz : 0 < size)
    (v : Value) (n : Nat) (xs : List Value) (hs : a.eval s = v) (hown : w.ownsRow base e size v n xs)
    (ad : Addr) (m c : Nat) (news : List Value) (hx : a.eval x = .slice (some ad) m c) (hl : news.length = m * size) (hnews : ∀ j u, news[j]? = some u → w.cell? (ad.add j) = some u) (h1 : ∀ u ∈ news, u.oneCell' = true)
    (h63 : n + m ≤ maxLen) (hbytes : (n + m) * bytes ≤ 140737488355328) (hbase : base ≤ w.heap.size)
    (h : ∀ v' w', w'.ownsRow base e size v' (n + m) (xs ++ news) → w.grownBy w' v.ownBlock → (v'.ownBlock = v.ownBlock ∨ v'.ownBlock = some w.heap.size) → K (a.put o.dst v') w') :
    if Region.wanted o (yielded ops a.tmps) = true then Oper.wp P o a w K Q else E := by
  have hw : Region.wanted o (yielded ops a.tmps) = true := by simp [Region.wanted, hgd]
  rw [if_pos hw]
  obtain ⟨v', w', hrun, h2, h3, _, h5⟩ := run_append_own_at (P := P) w base t o.type e i z size bytes ht hi hz hsize hby hzs hsz v n xs hown ad m c news hl hnews h1 h63 hbytes hbase
  unfold Oper.wp execOp
  simp only [ho, resolve, invoke, builtin, Sem.run_bind, Sem.run_pure, Result.andThen_ok, List.map_toArray, List.map_cons, List.map_nil, hs, hx, hrun]
  exact h v' w' h2 h3 h5
end

theorem step_buildSlice_as {P : Program} {w w' : World} {ops : Array Oper} {o : Oper} {a : Act} {K : Act → World → Prop} {Q : Exit → Act → World → Prop} {E : Prop} (hgd : o.guard = none) (t : TypeId) (len : Nat) (parts : Array (Nat × Operand)) (ho : o.op = .buildSlice t len parts) (v : Value)
    (hrun : (Instr.buildSlice t len (parts.map fun (i, x) => (i, a.eval x))).run P w = .ok v w') (h : K (a.put o.dst v) w') : if Region.wanted o (yielded ops a.tmps) = true then Oper.wp P o a w K Q else E := by
  have hw : Region.wanted o (yielded ops a.tmps) = true := by simp [Region.wanted, hgd]
  rw [if_pos hw]
  unfold Oper.wp execOp
  simp only [ho, Sem.run_bind, hrun, Result.andThen_ok]
  exact h
theorem row_other {u u' : World} {B n k : Nat} {v : Value} {xs : List Value} {t : TypeId} {cs : Array Value} (h5 : u.ownsRow B 25 32 v n xs) (hk : u.heap[k]? = some (.cells cs t (0, 0))) (ht : t ≠ 25) (hg : u.grownBy u' v.ownBlock) : u'.heap[k]? = u.heap[k]? := by
  have hlt : k < u.heap.size := by
    rcases Nat.lt_or_ge k u.heap.size with h1 | h1
    · exact h1
    · rw [Array.getElem?_eq_none h1] at hk; cases hk
  refine hg.block k hlt (fun e => ?_)
  rcases h5.2 with ⟨hv, _⟩ | ⟨g, cap, cur, hv, _, h6, _⟩
  · rw [hv] at e; cases e
  · rw [hv] at e
    have e' : k = g := by injection e
    subst e'
    rw [hk] at h6
    injection h6 with h6
    injection h6 with _ h6
    exact ht h6
theorem hashes_row {i : TypeInfo} (h : (Tryd.prog.info? 25) = some i) : i.zero = some (.agg (rowV 32 z8)) ∧ i.size = 32 ∧ i.bytes = 32 := by
  have : (Tryd.prog.info? 25).map (fun i => (i.zero, i.size, i.bytes)) = some (some (.agg (rowV 32 z8)), 32, 32) := by kernel_rfl
  rw [h] at this
  injection this with this
  injection this with h1 h2
  injection h2 with h2 h3
  exact ⟨h1, h2, h3⟩
theorem one_hash (y : List UInt8) (u : World) : (Instr.buildSlice 22 1 #[(0, .agg (hashV y))]).run Tryd.prog u = .ok (.slice (some ⟨u.heap.size, 0, none⟩) 1 1) (u.alloc (.cells (hashV y) 25)) := by
  have hie : Tryd.prog.info? 25 = some ((Tryd.prog.info? 25).get (by kernel_rfl)) := (Option.some_get _).symm
  refine run_buildSlice u _ 25 1 _ (hashV y) _ _ Tryd.underlying22 hie (Option.some_get (by kernel_rfl)).symm (by decide +kernel) (by decide +kernel) ?_
  kernel_rfl
/-- The closure that goes down for a path. -/
def dnV (gi gd gp : Nat) : Value := .func (.func 21) #[] #[.pointer (some ⟨gi, 0, none⟩), .pointer (some ⟨gd, 0, none⟩), .pointer (some ⟨gp, 0, none⟩)]
/-- What lies in memory on the way down. -/
def PSt (B gi gd gp i : Nat) (w : World) (Q : List (List UInt8)) (u : World) : Prop :=
  Below B w u ∧ u.heap[gi]? = some (.cells #[.int .i64 (i : Int)] 3 (0, 0)) ∧ u.heap[gd]? = some (.cells #[dnV gi gd gp] 47 (0, 0)) ∧
    ∃ A c, u.heap[gp]? = some (.cells #[.slice A Q.length c] 22 (0, 0)) ∧ u.ownsRow B 25 32 (.slice A Q.length c) Q.length (hcs Q)
theorem blk_lt {w : World} {g : Nat} {o : Obj} (h : w.heap[g]? = some o) : g < w.heap.size := by
  rcases Nat.lt_or_ge g w.heap.size with h1 | h1
  · exact h1
  · rw [Array.getElem?_eq_none h1] at h; cases h
theorem PSt.below {B gi gd gp i : Nat} {w u u' : World} {Q : List (List UInt8)} (h : PSt B gi gd gp i w Q u) (hb : Below u.heap.size u u') (hB : B ≤ w.heap.size) : PSt B gi gd gp i w Q u' := by
  obtain ⟨h1, h2, h3, A, c, h4, h5⟩ := h
  exact ⟨h1.trans (hb.mono (Nat.le_trans hB h1.size)), (hb.block _ (blk_lt h2)).trans h2, (hb.block _ (blk_lt h3)).trans h3, A, c, (hb.block _ (blk_lt h4)).trans h4, rowBelow h5 hb (Nat.le_refl _)⟩

theorem setCell_one {u : World} {g : Nat} {v v' : Value} {t : TypeId} (h : u.heap[g]? = some (.cells #[v] t (0, 0))) : (u.setCell ⟨g, 0, none⟩ v').heap[g]? = some (.cells #[v'] t (0, 0)) := by
  simp [World.setCell, Array.getElem?_modify, h]
theorem setCell_blk {u : World} {g k : Nat} {v' : Value} (h : k ≠ g) : (u.setCell ⟨g, 0, none⟩ v').heap[k]? = u.heap[k]? := by
  simp [World.setCell, Array.getElem?_modify, Ne.symm h]
theorem PSt.put {B gi gd gp i : Nat} {w u u' : World} {Q : List (List UInt8)} {y : List UInt8} {A : Option Addr} {c : Nat} {v : Value} (h1 : Below B w u) (h2 : u.heap[gi]? = some (.cells #[.int .i64 (i : Int)] 3 (0, 0))) (h3 : u.heap[gd]? = some (.cells #[dnV gi gd gp] 47 (0, 0)))
    (h4 : u.heap[gp]? = some (.cells #[.slice A Q.length c] 22 (0, 0))) (h5 : u.ownsRow B 25 32 (.slice A Q.length c) Q.length (hcs Q)) (ho : u'.ownsRow B 25 32 v (Q.length + 1) (hcs Q ++ hC y)) (hg : u.grownBy u' (Value.slice A Q.length c).ownBlock) (hB : B ≤ w.heap.size) (hp : B ≤ gp) :
    PSt B gi gd gp i w (Q ++ [y]) (u'.setCell ⟨gp, 0, none⟩ v) := by
  have key : ∀ k t cs, u.heap[k]? = some (.cells cs t (0, 0)) → t ≠ 25 → (Value.slice A Q.length c).ownBlock ≠ some k := fun k t cs hk ht e => by
    rcases h5.2 with ⟨hv, _⟩ | ⟨g, cap, cur, hv, _, h6, _⟩
    · rw [hv] at e; cases e
    · rw [hv] at e
      have e' : g = k := by injection e
      subst e'
      rw [hk] at h6
      injection h6 with h6
      injection h6 with _ h6
      exact ht h6
  have g2 := (hg.block gi (blk_lt h2) (fun e => key gi _ _ h2 (by decide) e.symm)).trans h2
  have g3 := (hg.block gd (blk_lt h3) (fun e => key gd _ _ h3 (by decide) e.symm)).trans h3
  have g4 := (hg.block gp (blk_lt h4) (fun e => key gp _ _ h4 (by decide) e.symm)).trans h4
  have n2 : gi ≠ gp := fun e => by
    subst e
    rw [h2] at h4
    injection h4 with h4
    injection h4 with _ h4
    revert h4
    decide
  have n3 : gd ≠ gp := fun e => by
    subst e
    rw [h3] at h4
    injection h4 with h4
    injection h4 with _ h4
    revert h4
    decide
  obtain ⟨A', c', e, _, _⟩ := rowForm ho
  have hl : (Q ++ [y]).length = Q.length + 1 := by simp
  have hc : hcs (Q ++ [y]) = hcs Q ++ hC y := by unfold hcs; rw [List.flatMap_append]; simp
  refine ⟨(h1.grown hg (Nat.le_trans hB h1.size) (fun g hg' => (h5.lt g hg').1)).setCell hp v, (setCell_blk n2).trans g2, (setCell_blk n3).trans g3, A', c', ?_, ?_⟩
  · rw [hl, ← e]
    exact setCell_one g4
  · rw [hl, hc, ← e]
    refine ⟨ho.1, ?_⟩
    rcases ho.2 with h0 | ⟨g, cap, cur, hv, h6, h7, h8⟩
    · exact .inl h0
    · refine .inr ⟨g, cap, cur, hv, h6, (setCell_blk (fun e => ?_)).trans h7, h8⟩
      subst e
      rw [g4] at h7
      injection h7 with h7
      injection h7 with _ h7
      revert h7
      decide

set_option maxRecDepth 100000 in
set_option maxHeartbeats 8000000 in
theorem pdown_c (B gi gd gp i : Nat) (w : World) (hB : B ≤ w.heap.size) (hgp : B ≤ gp) (hi : i < 256) (ht : Tabs w) (hTB : 1 < B) : ∀ (h : Nat) (L : List (List UInt8)) (A : Option Addr) (c : Nat) (Q : List (List UInt8)) (u : World), h ≤ 8 → L.length = 2 ^ h → L.length ≤ c → c ≤ 9223372036854775807 → Q.length + h ≤ 8 → (∀ x ∈ L, x.length = 32) → RdH w B A L →
    PSt B gi gd gp i w Q u → Calls Tryd.prog 21 #[.slice A L.length c, .int .i64 (h : Int), .pointer (some ⟨gi, 0, none⟩), .pointer (some ⟨gd, 0, none⟩), .pointer (some ⟨gp, 0, none⟩)] u fun e u' => e = .returned (.tuple #[]) ∧ PSt B gi gd gp i w (Q ++ pathH h L i) u'
  | 0, L, A, c, Q, u, h8, hl, hc, hcm, hq, hx, hR, hS => by
    have e0 : Q ++ pathH 0 L i = Q := by show Q ++ [] = Q; simp
    rw [e0]
    have HS := Lib.hid hS
    clear hS hR hx
    rw [show ((0 : Nat) : Int) = 0 from rfl]
    go_enter Tryd.func21, Tryd.ntmps21
    go_wp2_with fail
    exact bodyPost_ret (v := .tuple #[]) (results_none rfl _ _ _) rfl ⟨rfl, HS.out⟩
  | h + 1, L, A, c, Q, u, h8, hl, hc, hcm, hq, hx, hR, hS => by
    obtain ⟨m, hm⟩ : ∃ m, m = 2 ^ h := ⟨_, rfl⟩
    have hm1 : 1 ≤ m := by rw [hm]; exact Nat.two_pow_pos h
    have hm2 : m ≤ 256 := by rw [hm]; exact (two_le h (by omega)).1
    have hlm : L.length = 2 * m := by rw [hl, hm, Nat.pow_succ, Nat.mul_comm]
    obtain ⟨bl, off, rfl, hbl, hcell⟩ := hR (by omega)
    have l1 : (L.take m).length = m := by rw [List.length_take, hlm]; omega
    have l2 : (L.drop m).length = m := by rw [List.length_drop, hlm]; omega
    have x1 : ∀ x ∈ L.take m, x.length = 32 := fun x h => hx x (List.mem_of_mem_take h)
    have x2 : ∀ x ∈ L.drop m, x.length = 32 := fun x h => hx x (List.mem_of_mem_drop h)
    have r1 := hR.take m
    have r2 := hR.drop m (by omega)
    rw [hlm] at hc ⊢
    have hS0 : PSt B gi gd gp i w Q u.drew := hS.below ((Below.refl u.heap.size u).drew) hB
    obtain ⟨v0, hv0⟩ : ∃ v0, v0 = u.drew := ⟨_, rfl⟩
    rw [← hv0] at hS0
    have HV0 := Lib.hid hv0
    clear hv0
    obtain ⟨s1, s2, s3, A3, c3, s4, s5⟩ := hS0
    clear hS
    have cgi := cell_of_row v0 gi 0 _ _ (0, 0) s2
    have cgd := cell_of_row v0 gd 0 _ _ (0, 0) s3
    have HS1 := Lib.hid s1
    have HS2 := Lib.hid s2
    have HS3 := Lib.hid s3
    have HS4 := Lib.hid s4
    have HS5 := Lib.hid s5
    have HM := Lib.hid hm
    have HRI := Lib.hid (isRight_c i h (by omega) hi v0)
    have hh8 : h < 8 := by omega
    by_cases hb : (i / 2 ^ h) % 2 = 1
    · have hP : Q ++ pathH (h + 1) L i = Q ++ pathH h (L.drop m) i ++ [rootH h (L.take m)] := by
        rw [hm, List.append_assoc]
        congr 1
        conv => lhs; unfold pathH
        rw [if_pos hb]
      rw [hP]
      have HRI2 := Lib.hid HRI.out
      rw [show decide (i / 2 ^ h % 2 = 1) = true from decide_eq_true hb] at HRI2
      have HD : Hid (Calls Tryd.prog 21 #[.slice (some ⟨bl, off + m * 32, none⟩) m (c - m), .int .i64 (h : Int), .pointer (some ⟨gi, 0, none⟩), .pointer (some ⟨gd, 0, none⟩), .pointer (some ⟨gp, 0, none⟩)] v0 fun e u' => e = .returned (.tuple #[]) ∧ PSt B gi gd gp i w (Q ++ pathH h (L.drop m) i) u') := by
        have := pdown_c B gi gd gp i w hB hgp hi ht hTB h (L.drop m) (some ⟨bl, off + m * 32, none⟩) (c - m) Q v0 (by omega) (l2.trans hm) (by omega) (by omega) (by omega) x2 r2 ⟨s1, s2, s3, A3, c3, s4, s5⟩
        rw [l2] at this
        exact this
      have HRT : Hid (∀ v : World, Below B w v → Calls Tryd.prog 18 #[.slice (some ⟨bl, off, none⟩) m c] v fun e v' => e = .returned (.agg (hashV (rootH h (L.take m)))) ∧ Below v.heap.size v v') := fun v hv => by
        have := treeRoot_c h (L.take m) (some ⟨bl, off, none⟩) c v (by omega) (l1.trans hm) (by omega) hcm x1 ((r1.below hv (Nat.le_refl _)).wide (Nat.le_trans hB hv.size)) (ht.below hv (by omega) (by omega))
        rw [l1] at this
        exact this
      clear hcell hR hx x1 x2 r1 r2 l1 l2 hm hl HRI hP s1 s2 s3 s4 s5 hb
      generalize L.take m = L1 at *
      generalize L.drop m = L2 at *
      have cgd' : v0.cell? ⟨gd, 0, none⟩ = some (.func (.func 21) #[] #[.pointer (some ⟨gi, 0, none⟩), .pointer (some ⟨gd, 0, none⟩), .pointer (some ⟨gp, 0, none⟩)]) := cgd
      have cgi' : v0.cell? ⟨gi, 0, none⟩ = some (.int .i64 (i : Int)) := cgi
      clear cgd cgi
      obtain ⟨y, hy⟩ : ∃ y, y = rootH h L1 := ⟨_, rfl⟩
      rw [← hy] at HRT ⊢
      clear hy
      obtain ⟨Q2, hQ2⟩ : ∃ Q2, Q2 = Q ++ pathH h L2 i := ⟨_, rfl⟩
      rw [← hQ2] at HD ⊢
      have HL2 := Lib.hid (show Q2.length ≤ 8 by rw [hQ2, List.length_append, pathH_length]; omega)
      clear hQ2
      have hd : ((h : Int) + 1 == 0) = false := by rw [beq_eq_false_iff_ne]; omega
      go_enter Tryd.func21, Tryd.ntmps21
      go_wp2_with fail
      rename_i K1 hK1
      refine wp_region_noPanic ?_
      refine wp_region_held_drew (S := fun _ => True) (by kernel_rfl) trivial (fun hHeld => ?_)
      refine wpAnyH_take (i := 0) (oi := _) (v := .slice (some ⟨bl, off, none⟩) (2 * m) c) rfl (by kernel_rfl) (by kernel_rfl) (by kernel_rfl) (fun _ _ _ h => h) (Or.inl ⟨by rfl, by intro w hSw; go_simp⟩) hHeld ?_
      refine wpAnyH_take (i := 1) (oi := _) (v := .int .i64 (m : Int)) rfl (by kernel_rfl) (by kernel_rfl) (by kernel_rfl) (fun _ _ _ h => h) (Or.inl ⟨by rfl, by intro w hSw; go_simp⟩) hHeld ?_
      refine wpAnyH_take (i := 2) (oi := _) (v := .slice (some ⟨bl, off, none⟩) m c) rfl (by kernel_rfl) (by kernel_rfl) (by kernel_rfl) (fun _ _ _ h => h) (Or.inl ⟨by rfl, by intro w hSw; go_simp; intro h; omega⟩) hHeld ?_
      refine wpAnyH_take (i := 3) (oi := _) (v := .slice (some ⟨bl, off, none⟩) (2 * m) c) rfl (by kernel_rfl) (by kernel_rfl) (by kernel_rfl) (fun _ _ _ h => h) (Or.inl ⟨by rfl, by intro w hSw; go_simp⟩) hHeld ?_
      refine wpAnyH_take (i := 4) (oi := _) (v := .int .i64 (m : Int)) rfl (by kernel_rfl) (by kernel_rfl) (by kernel_rfl) (fun _ _ _ h => h) (Or.inl ⟨by rfl, by intro w hSw; go_simp⟩) hHeld ?_
      refine wpAnyH_take (i := 5) (oi := _) (v := .slice (some ⟨bl, off + m * 32, none⟩) m (c - m)) rfl (by kernel_rfl) (by kernel_rfl) (by kernel_rfl) (fun _ _ _ h => h) (Or.inl ⟨by rfl, by intro w hSw; go_simp; rw [if_pos (by omega), if_neg (by omega), show 2 * m - m = m by omega]⟩) hHeld ?_
      refine wpAnyH_ready (rs := [6]) (by kernel_rfl) (by simp) ?_
      refine AllReadyH.cons (o := _) rfl (fun K hK => ?_) AllReadyH.nil
      go_simp
      refine hK.out _ _ trivial (fun hHeld => ?_)
      clear hK K
      refine wpAnyH_ready (rs := [7]) (by kernel_rfl) (by simp) ?_
      refine AllReadyH.cons (o := _) rfl (fun K hK => ?_) AllReadyH.nil
      go_simp
      refine hK.out _ _ trivial (fun hHeld => ?_)
      clear hK K
      refine wpAnyH_done (by kernel_rfl) ?_ _
      refine NoPanic.normal ?_
      first
        | apply hK1
        | apply K1
      clear hK1 K1
      rw [← HV0.out]
      go_wp2_with fail
      refine HRI2.out.mono ?_
      rintro e w1 ⟨rfl, rfl⟩
      go_wp2_with fail
      refine HD.out.mono ?_
      rintro e u2 ⟨rfl, S2⟩
      have S3 : PSt B gi gd gp i w Q2 u2.drew := S2.below ((Below.refl u2.heap.size u2).drew) hB
      obtain ⟨u3, hu3⟩ : ∃ u3, u3 = u2.drew := ⟨_, rfl⟩
      rw [← hu3] at S3
      have HU3 := Lib.hid hu3
      clear hu3
      obtain ⟨t1, t2, t3, A5, c5, t4, t5⟩ := S3
      have cg3 := cell_of_row u3 gp 0 _ _ (0, 0) t4
      have cg4 : u3.cell? ⟨gp, 0, none⟩ = some (.slice A5 Q2.length c5) := cg3
      clear cg3 S2
      have T1 := Lib.hid t1
      have T2 := Lib.hid t2
      have T3 := Lib.hid t3
      have T4 := Lib.hid t4
      have T5 := Lib.hid t5
      clear t1 t2 t3 t4 t5 cgi' cgd'
      obtain ⟨i0, hi0⟩ : ∃ i0, Tryd.prog.info? 25 = some i0 := ⟨_, (Option.some_get (by kernel_rfl)).symm⟩
      obtain ⟨hz0, hz1, hz2⟩ := hashes_row hi0
      go_wp2_with fail
      refine wp_region_noPanic ?_
      refine wp_region_held_drew (S := fun _ => True) (by kernel_rfl) trivial (fun hHeld => ?_)
      rw [← HU3.out]
      refine wpAnyH_take (i := 1) (oi := _) (v := .slice (some ⟨bl, off, none⟩) m c) rfl (by kernel_rfl) (by kernel_rfl) (by kernel_rfl) (fun _ _ _ h => h) (Or.inl ⟨by rfl, by intro w hSw; go_simp⟩) hHeld ?_
      refine wpAnyH_ready (rs := [0, 2]) (by kernel_rfl) (by simp) ?_
      refine AllReadyH.cons (o := _) rfl (fun K hK => ?_) (AllReadyH.cons (o := _) rfl (fun K hK => ?_) AllReadyH.nil)
      · go_simp
        refine hK.out _ _ trivial (fun hHeld => ?_)
        clear hK K
        refine wpAnyH_ready (rs := [2]) (by kernel_rfl) (by simp) ?_
        refine AllReadyH.cons (o := _) rfl (fun K hK => ?_) AllReadyH.nil
        go_simp
        go_at_call 18
        refine (HRT.out u3 T1.out).mono ?_
        rintro e u4 ⟨rfl, b4⟩
        have B4 := Lib.hid b4
        have cg5 : u4.cell? ⟨gp, 0, none⟩ = some (.slice A5 Q2.length c5) := (b4.cell (p := ⟨gp, 0, none⟩) (blk_lt T4.out)).trans cg4
        clear b4
        go_simp
        refine hK.out _ _ trivial (fun hHeld => ?_)
        clear hK K
        refine wpAnyH_ready (rs := [3]) (by kernel_rfl) (by simp) ?_
        refine AllReadyH.cons (o := _) rfl (fun K hK => ?_) AllReadyH.nil
        refine step_buildSlice_as (w' := u4.alloc (.cells (hashV y) 25)) rfl 22 1 #[(0, .tmp 34)] rfl (.slice (some ⟨u4.heap.size, 0, none⟩) 1 1) (by simp only [List.map_toArray, List.map_cons, List.map_nil]; exact one_hash y u4) ?_
        have HNB := Lib.hid ((Below.refl u4.heap.size u4).alloc (Nat.le_refl _) (.cells (hashV y) 25))
        have cg6 : (u4.alloc (.cells (hashV y) 25)).cell? ⟨gp, 0, none⟩ = some (.slice A5 Q2.length c5) := (HNB.out.cell (p := ⟨gp, 0, none⟩) (Nat.lt_of_lt_of_le (blk_lt T4.out) B4.out.size)).trans cg5
        have HAL := Lib.hid (heap_alloc_new u4 (.cells (hashV y) 25))
        obtain ⟨u5, hu5⟩ : ∃ u5, u5 = u4.alloc (.cells (hashV y) 25) := ⟨_, rfl⟩
        rw [← hu5] at HNB cg6 HAL ⊢
        clear hu5
        try go_simp
        refine hK.out _ _ trivial (fun hHeld => ?_)
        clear hK K
        refine wpAnyH_ready (rs := [4]) (by kernel_rfl) (by simp) ?_
        refine AllReadyH.cons (o := _) rfl (fun K hK => ?_) AllReadyH.nil
        have hb35 := B4.out.trans (HNB.out.mono B4.out.size)
        have o35 := rowBelow T5.out hb35 (Nat.le_refl _)
        refine step_append_cellsP _ rfl (.tmp 32) (.tmp 35) 22 rfl B 25 i0 _ 32 32 Tryd.underlying22 hi0 hz0 hz1 hz2 (by show (rowV 32 z8).size = 32; rw [rowV_size]) (by decide) (.slice A5 Q2.length c5) Q2.length (hcs Q2) rfl o35 ⟨u4.heap.size, 0, none⟩ 1 1 (hC y) rfl (by rw [hC_len]) (fun j v hv => by rw [addr_add, cell_of_row u5 _ j _ _ (0, 0) HAL.out]; unfold hashV rowV; rw [List.getElem?_toArray]; exact hv) (fun v hv => by unfold hC at hv; obtain ⟨j, _, rfl⟩ := List.mem_map.1 hv; rfl) (by have := HL2.out; unfold maxLen; omega) (by have := HL2.out; omega) (Nat.le_trans hB (Nat.le_trans T1.out.size hb35.size)) ?_
        intro v6 u6 o6 g6 _
        obtain ⟨A6, c6, rfl, _, _⟩ := rowForm o6
        have p2 := (hb35.block _ (blk_lt T2.out)).trans T2.out
        have p3 := (hb35.block _ (blk_lt T3.out)).trans T3.out
        have p4 := (hb35.block _ (blk_lt T4.out)).trans T4.out
        have FIN := Lib.hid (PSt.put (T1.out.trans (hb35.mono (Nat.le_trans hB T1.out.size))) p2 p3 p4 o35 o6 g6 hB hgp)
        have q4 := (row_other o35 p4 (by decide) g6).trans p4
        have cg7 := cell_of_row u6 gp 0 _ _ (0, 0) q4
        have cg8 : u6.cell? ⟨gp, 0, none⟩ = some (.slice A5 Q2.length c5) := cg7
        have fr8 : u6.frozen? ⟨gp, 0, none⟩ = false := by simp [World.frozen?, q4]
        clear hb35 o35 o6 g6 p2 p3 p4 q4 cg7
        try go_simp
        refine hK.out _ _ trivial (fun hHeld => ?_)
        clear hK K
        refine wpAnyH_ready (rs := [5]) (by kernel_rfl) (by simp) ?_
        refine AllReadyH.cons (o := _) rfl (fun K hK => ?_) AllReadyH.nil
        go_simp
        refine hK.out _ _ trivial (fun hHeld => ?_)
        clear hK K
        refine wpAnyH_done (by kernel_rfl) ?_ _
        refine NoPanic.normal ?_
        exact bodyPost_end (results_none rfl _ _ _) rfl ⟨rfl, FIN.out⟩
      · go_simp
        go_at_call 18
        refine (HRT.out u3 T1.out).mono ?_
        rintro e u4 ⟨rfl, b4⟩
        have B4 := Lib.hid b4
        have cg5 : u4.cell? ⟨gp, 0, none⟩ = some (.slice A5 Q2.length c5) := (b4.cell (p := ⟨gp, 0, none⟩) (blk_lt T4.out)).trans cg4
        clear b4
        go_simp
        refine hK.out _ _ trivial (fun hHeld => ?_)
        clear hK K
        refine wpAnyH_ready (rs := [0, 3]) (by kernel_rfl) (by simp) ?_
        refine AllReadyH.cons (o := _) rfl (fun K hK => ?_) (AllReadyH.cons (o := _) rfl (fun K hK => ?_) AllReadyH.nil)
        · go_simp
          refine hK.out _ _ trivial (fun hHeld => ?_)
          clear hK K
          refine wpAnyH_ready (rs := [3]) (by kernel_rfl) (by simp) ?_
          refine AllReadyH.cons (o := _) rfl (fun K hK => ?_) AllReadyH.nil
          refine step_buildSlice_as (w' := u4.alloc (.cells (hashV y) 25)) rfl 22 1 #[(0, .tmp 34)] rfl (.slice (some ⟨u4.heap.size, 0, none⟩) 1 1) (by simp only [List.map_toArray, List.map_cons, List.map_nil]; exact one_hash y u4) ?_
          have HNB := Lib.hid ((Below.refl u4.heap.size u4).alloc (Nat.le_refl _) (.cells (hashV y) 25))
          have cg6 : (u4.alloc (.cells (hashV y) 25)).cell? ⟨gp, 0, none⟩ = some (.slice A5 Q2.length c5) := (HNB.out.cell (p := ⟨gp, 0, none⟩) (Nat.lt_of_lt_of_le (blk_lt T4.out) B4.out.size)).trans cg5
          have HAL := Lib.hid (heap_alloc_new u4 (.cells (hashV y) 25))
          obtain ⟨u5, hu5⟩ : ∃ u5, u5 = u4.alloc (.cells (hashV y) 25) := ⟨_, rfl⟩
          rw [← hu5] at HNB cg6 HAL ⊢
          clear hu5
          try go_simp
          refine hK.out _ _ trivial (fun hHeld => ?_)
          clear hK K
          refine wpAnyH_ready (rs := [4]) (by kernel_rfl) (by simp) ?_
          refine AllReadyH.cons (o := _) rfl (fun K hK => ?_) AllReadyH.nil
          have hb35 := B4.out.trans (HNB.out.mono B4.out.size)
          have o35 := rowBelow T5.out hb35 (Nat.le_refl _)
          refine step_append_cellsP _ rfl (.tmp 32) (.tmp 35) 22 rfl B 25 i0 _ 32 32 Tryd.underlying22 hi0 hz0 hz1 hz2 (by show (rowV 32 z8).size = 32; rw [rowV_size]) (by decide) (.slice A5 Q2.length c5) Q2.length (hcs Q2) rfl o35 ⟨u4.heap.size, 0, none⟩ 1 1 (hC y) rfl (by rw [hC_len]) (fun j v hv => by rw [addr_add, cell_of_row u5 _ j _ _ (0, 0) HAL.out]; unfold hashV rowV; rw [List.getElem?_toArray]; exact hv) (fun v hv => by unfold hC at hv; obtain ⟨j, _, rfl⟩ := List.mem_map.1 hv; rfl) (by have := HL2.out; unfold maxLen; omega) (by have := HL2.out; omega) (Nat.le_trans hB (Nat.le_trans T1.out.size hb35.size)) ?_
          intro v6 u6 o6 g6 _
          obtain ⟨A6, c6, rfl, _, _⟩ := rowForm o6
          have p2 := (hb35.block _ (blk_lt T2.out)).trans T2.out
          have p3 := (hb35.block _ (blk_lt T3.out)).trans T3.out
          have p4 := (hb35.block _ (blk_lt T4.out)).trans T4.out
          have FIN := Lib.hid (PSt.put (T1.out.trans (hb35.mono (Nat.le_trans hB T1.out.size))) p2 p3 p4 o35 o6 g6 hB hgp)
          have q4 := (row_other o35 p4 (by decide) g6).trans p4
          have cg7 := cell_of_row u6 gp 0 _ _ (0, 0) q4
          have cg8 : u6.cell? ⟨gp, 0, none⟩ = some (.slice A5 Q2.length c5) := cg7
          have fr8 : u6.frozen? ⟨gp, 0, none⟩ = false := by simp [World.frozen?, q4]
          clear hb35 o35 o6 g6 p2 p3 p4 q4 cg7
          try go_simp
          refine hK.out _ _ trivial (fun hHeld => ?_)
          clear hK K
          refine wpAnyH_ready (rs := [5]) (by kernel_rfl) (by simp) ?_
          refine AllReadyH.cons (o := _) rfl (fun K hK => ?_) AllReadyH.nil
          go_simp
          refine hK.out _ _ trivial (fun hHeld => ?_)
          clear hK K
          refine wpAnyH_done (by kernel_rfl) ?_ _
          refine NoPanic.normal ?_
          exact bodyPost_end (results_none rfl _ _ _) rfl ⟨rfl, FIN.out⟩
        · refine step_buildSlice_as (w' := u4.alloc (.cells (hashV y) 25)) rfl 22 1 #[(0, .tmp 34)] rfl (.slice (some ⟨u4.heap.size, 0, none⟩) 1 1) (by simp only [List.map_toArray, List.map_cons, List.map_nil]; exact one_hash y u4) ?_
          have HNB := Lib.hid ((Below.refl u4.heap.size u4).alloc (Nat.le_refl _) (.cells (hashV y) 25))
          have cg6 : (u4.alloc (.cells (hashV y) 25)).cell? ⟨gp, 0, none⟩ = some (.slice A5 Q2.length c5) := (HNB.out.cell (p := ⟨gp, 0, none⟩) (Nat.lt_of_lt_of_le (blk_lt T4.out) B4.out.size)).trans cg5
          have HAL := Lib.hid (heap_alloc_new u4 (.cells (hashV y) 25))
          obtain ⟨u5, hu5⟩ : ∃ u5, u5 = u4.alloc (.cells (hashV y) 25) := ⟨_, rfl⟩
          rw [← hu5] at HNB cg6 HAL ⊢
          clear hu5
          try go_simp
          refine hK.out _ _ trivial (fun hHeld => ?_)
          clear hK K
          refine wpAnyH_ready (rs := [0]) (by kernel_rfl) (by simp) ?_
          refine AllReadyH.cons (o := _) rfl (fun K hK => ?_) AllReadyH.nil
          go_simp
          refine hK.out _ _ trivial (fun hHeld => ?_)
          clear hK K
          refine wpAnyH_ready (rs := [4]) (by kernel_rfl) (by simp) ?_
          refine AllReadyH.cons (o := _) rfl (fun K hK => ?_) AllReadyH.nil
          have hb35 := B4.out.trans (HNB.out.mono B4.out.size)
          have o35 := rowBelow T5.out hb35 (Nat.le_refl _)
          refine step_append_cellsP _ rfl (.tmp 32) (.tmp 35) 22 rfl B 25 i0 _ 32 32 Tryd.underlying22 hi0 hz0 hz1 hz2 (by show (rowV 32 z8).size = 32; rw [rowV_size]) (by decide) (.slice A5 Q2.length c5) Q2.length (hcs Q2) rfl o35 ⟨u4.heap.size, 0, none⟩ 1 1 (hC y) rfl (by rw [hC_len]) (fun j v hv => by rw [addr_add, cell_of_row u5 _ j _ _ (0, 0) HAL.out]; unfold hashV rowV; rw [List.getElem?_toArray]; exact hv) (fun v hv => by unfold hC at hv; obtain ⟨j, _, rfl⟩ := List.mem_map.1 hv; rfl) (by have := HL2.out; unfold maxLen; omega) (by have := HL2.out; omega) (Nat.le_trans hB (Nat.le_trans T1.out.size hb35.size)) ?_
          intro v6 u6 o6 g6 _
          obtain ⟨A6, c6, rfl, _, _⟩ := rowForm o6
          have p2 := (hb35.block _ (blk_lt T2.out)).trans T2.out
          have p3 := (hb35.block _ (blk_lt T3.out)).trans T3.out
          have p4 := (hb35.block _ (blk_lt T4.out)).trans T4.out
          have FIN := Lib.hid (PSt.put (T1.out.trans (hb35.mono (Nat.le_trans hB T1.out.size))) p2 p3 p4 o35 o6 g6 hB hgp)
          have q4 := (row_other o35 p4 (by decide) g6).trans p4
          have cg7 := cell_of_row u6 gp 0 _ _ (0, 0) q4
          have cg8 : u6.cell? ⟨gp, 0, none⟩ = some (.slice A5 Q2.length c5) := cg7
          have fr8 : u6.frozen? ⟨gp, 0, none⟩ = false := by simp [World.frozen?, q4]
          clear hb35 o35 o6 g6 p2 p3 p4 q4 cg7
          try go_simp
          refine hK.out _ _ trivial (fun hHeld => ?_)
          clear hK K
          refine wpAnyH_ready (rs := [5]) (by kernel_rfl) (by simp) ?_
          refine AllReadyH.cons (o := _) rfl (fun K hK => ?_) AllReadyH.nil
          go_simp
          refine hK.out _ _ trivial (fun hHeld => ?_)
          clear hK K
          refine wpAnyH_done (by kernel_rfl) ?_ _
          refine NoPanic.normal ?_
          exact bodyPost_end (results_none rfl _ _ _) rfl ⟨rfl, FIN.out⟩
    · have hP : Q ++ pathH (h + 1) L i = Q ++ pathH h (L.take m) i ++ [rootH h (L.drop m)] := by
        rw [hm, List.append_assoc]
        congr 1
        conv => lhs; unfold pathH
        rw [if_neg hb]
      rw [hP]
      have HRI2 := Lib.hid HRI.out
      rw [show decide (i / 2 ^ h % 2 = 1) = false from decide_eq_false hb] at HRI2
      have HD : Hid (Calls Tryd.prog 21 #[.slice (some ⟨bl, off, none⟩) m c, .int .i64 (h : Int), .pointer (some ⟨gi, 0, none⟩), .pointer (some ⟨gd, 0, none⟩), .pointer (some ⟨gp, 0, none⟩)] v0 fun e u' => e = .returned (.tuple #[]) ∧ PSt B gi gd gp i w (Q ++ pathH h (L.take m) i) u') := by
        have := pdown_c B gi gd gp i w hB hgp hi ht hTB h (L.take m) (some ⟨bl, off, none⟩) c Q v0 (by omega) (l1.trans hm) (by omega) hcm (by omega) x1 r1 ⟨s1, s2, s3, A3, c3, s4, s5⟩
        rw [l1] at this
        exact this
      have HRT : Hid (∀ v : World, Below B w v → Calls Tryd.prog 18 #[.slice (some ⟨bl, off + m * 32, none⟩) m (c - m)] v fun e v' => e = .returned (.agg (hashV (rootH h (L.drop m)))) ∧ Below v.heap.size v v') := fun v hv => by
        have := treeRoot_c h (L.drop m) (some ⟨bl, off + m * 32, none⟩) (c - m) v (by omega) (l2.trans hm) (by omega) (by omega) x2 ((r2.below hv (Nat.le_refl _)).wide (Nat.le_trans hB hv.size)) (ht.below hv (by omega) (by omega))
        rw [l2] at this
        exact this
      clear hcell hR hx x1 x2 r1 r2 l1 l2 hm hl HRI hP s1 s2 s3 s4 s5 hb
      generalize L.take m = L1 at *
      generalize L.drop m = L2 at *
      have cgd' : v0.cell? ⟨gd, 0, none⟩ = some (.func (.func 21) #[] #[.pointer (some ⟨gi, 0, none⟩), .pointer (some ⟨gd, 0, none⟩), .pointer (some ⟨gp, 0, none⟩)]) := cgd
      have cgi' : v0.cell? ⟨gi, 0, none⟩ = some (.int .i64 (i : Int)) := cgi
      clear cgd cgi
      obtain ⟨y, hy⟩ : ∃ y, y = rootH h L2 := ⟨_, rfl⟩
      rw [← hy] at HRT ⊢
      clear hy
      obtain ⟨Q2, hQ2⟩ : ∃ Q2, Q2 = Q ++ pathH h L1 i := ⟨_, rfl⟩
      rw [← hQ2] at HD ⊢
      have HL2 := Lib.hid (show Q2.length ≤ 8 by rw [hQ2, List.length_append, pathH_length]; omega)
      clear hQ2
      have hd : ((h : Int) + 1 == 0) = false := by rw [beq_eq_false_iff_ne]; omega
      go_enter Tryd.func21, Tryd.ntmps21
      go_wp2_with fail
      rename_i K1 hK1
      refine wp_region_noPanic ?_
      refine wp_region_held_drew (S := fun _ => True) (by kernel_rfl) trivial (fun hHeld => ?_)
      refine wpAnyH_take (i := 0) (oi := _) (v := .slice (some ⟨bl, off, none⟩) (2 * m) c) rfl (by kernel_rfl) (by kernel_rfl) (by kernel_rfl) (fun _ _ _ h => h) (Or.inl ⟨by rfl, by intro w hSw; go_simp⟩) hHeld ?_
      refine wpAnyH_take (i := 1) (oi := _) (v := .int .i64 (m : Int)) rfl (by kernel_rfl) (by kernel_rfl) (by kernel_rfl) (fun _ _ _ h => h) (Or.inl ⟨by rfl, by intro w hSw; go_simp⟩) hHeld ?_
      refine wpAnyH_take (i := 2) (oi := _) (v := .slice (some ⟨bl, off, none⟩) m c) rfl (by kernel_rfl) (by kernel_rfl) (by kernel_rfl) (fun _ _ _ h => h) (Or.inl ⟨by rfl, by intro w hSw; go_simp; intro h; omega⟩) hHeld ?_
      refine wpAnyH_take (i := 3) (oi := _) (v := .slice (some ⟨bl, off, none⟩) (2 * m) c) rfl (by kernel_rfl) (by kernel_rfl) (by kernel_rfl) (fun _ _ _ h => h) (Or.inl ⟨by rfl, by intro w hSw; go_simp⟩) hHeld ?_
      refine wpAnyH_take (i := 4) (oi := _) (v := .int .i64 (m : Int)) rfl (by kernel_rfl) (by kernel_rfl) (by kernel_rfl) (fun _ _ _ h => h) (Or.inl ⟨by rfl, by intro w hSw; go_simp⟩) hHeld ?_
      refine wpAnyH_take (i := 5) (oi := _) (v := .slice (some ⟨bl, off + m * 32, none⟩) m (c - m)) rfl (by kernel_rfl) (by kernel_rfl) (by kernel_rfl) (fun _ _ _ h => h) (Or.inl ⟨by rfl, by intro w hSw; go_simp; rw [if_pos (by omega), if_neg (by omega), show 2 * m - m = m by omega]⟩) hHeld ?_
      refine wpAnyH_ready (rs := [6]) (by kernel_rfl) (by simp) ?_
      refine AllReadyH.cons (o := _) rfl (fun K hK => ?_) AllReadyH.nil
      go_simp
      refine hK.out _ _ trivial (fun hHeld => ?_)
      clear hK K
      refine wpAnyH_ready (rs := [7]) (by kernel_rfl) (by simp) ?_
      refine AllReadyH.cons (o := _) rfl (fun K hK => ?_) AllReadyH.nil
      go_simp
      refine hK.out _ _ trivial (fun hHeld => ?_)
      clear hK K
      refine wpAnyH_done (by kernel_rfl) ?_ _
      refine NoPanic.normal ?_
      first
        | apply hK1
        | apply K1
      clear hK1 K1
      rw [← HV0.out]
      go_wp2_with fail
      refine HRI2.out.mono ?_
      rintro e w1 ⟨rfl, rfl⟩
      go_wp2_with fail
      refine HD.out.mono ?_
      rintro e u2 ⟨rfl, S2⟩
      have S3 : PSt B gi gd gp i w Q2 u2.drew := S2.below ((Below.refl u2.heap.size u2).drew) hB
      obtain ⟨u3, hu3⟩ : ∃ u3, u3 = u2.drew := ⟨_, rfl⟩
      rw [← hu3] at S3
      have HU3 := Lib.hid hu3
      clear hu3
      obtain ⟨t1, t2, t3, A5, c5, t4, t5⟩ := S3
      have cg3 := cell_of_row u3 gp 0 _ _ (0, 0) t4
      have cg4 : u3.cell? ⟨gp, 0, none⟩ = some (.slice A5 Q2.length c5) := cg3
      clear cg3 S2
      have T1 := Lib.hid t1
      have T2 := Lib.hid t2
      have T3 := Lib.hid t3
      have T4 := Lib.hid t4
      have T5 := Lib.hid t5
      clear t1 t2 t3 t4 t5 cgi' cgd'
      obtain ⟨i0, hi0⟩ : ∃ i0, Tryd.prog.info? 25 = some i0 := ⟨_, (Option.some_get (by kernel_rfl)).symm⟩
      obtain ⟨hz0, hz1, hz2⟩ := hashes_row hi0
      go_wp2_with fail
      refine wp_region_noPanic ?_
      refine wp_region_held_drew (S := fun _ => True) (by kernel_rfl) trivial (fun hHeld => ?_)
      rw [← HU3.out]
      refine wpAnyH_take (i := 1) (oi := _) (v := .slice (some ⟨bl, off + m * 32, none⟩) m (c - m)) rfl (by kernel_rfl) (by kernel_rfl) (by kernel_rfl) (fun _ _ _ h => h) (Or.inl ⟨by rfl, by intro w hSw; go_simp⟩) hHeld ?_
      refine wpAnyH_ready (rs := [0, 2]) (by kernel_rfl) (by simp) ?_
      refine AllReadyH.cons (o := _) rfl (fun K hK => ?_) (AllReadyH.cons (o := _) rfl (fun K hK => ?_) AllReadyH.nil)
      · go_simp
        refine hK.out _ _ trivial (fun hHeld => ?_)
        clear hK K
        refine wpAnyH_ready (rs := [2]) (by kernel_rfl) (by simp) ?_
        refine AllReadyH.cons (o := _) rfl (fun K hK => ?_) AllReadyH.nil
        go_simp
        go_at_call 18
        refine (HRT.out u3 T1.out).mono ?_
        rintro e u4 ⟨rfl, b4⟩
        have B4 := Lib.hid b4
        have cg5 : u4.cell? ⟨gp, 0, none⟩ = some (.slice A5 Q2.length c5) := (b4.cell (p := ⟨gp, 0, none⟩) (blk_lt T4.out)).trans cg4
        clear b4
        go_simp
        refine hK.out _ _ trivial (fun hHeld => ?_)
        clear hK K
        refine wpAnyH_ready (rs := [3]) (by kernel_rfl) (by simp) ?_
        refine AllReadyH.cons (o := _) rfl (fun K hK => ?_) AllReadyH.nil
        refine step_buildSlice_as (w' := u4.alloc (.cells (hashV y) 25)) rfl 22 1 #[(0, .tmp 34)] rfl (.slice (some ⟨u4.heap.size, 0, none⟩) 1 1) (by simp only [List.map_toArray, List.map_cons, List.map_nil]; exact one_hash y u4) ?_
        have HNB := Lib.hid ((Below.refl u4.heap.size u4).alloc (Nat.le_refl _) (.cells (hashV y) 25))
        have cg6 : (u4.alloc (.cells (hashV y) 25)).cell? ⟨gp, 0, none⟩ = some (.slice A5 Q2.length c5) := (HNB.out.cell (p := ⟨gp, 0, none⟩) (Nat.lt_of_lt_of_le (blk_lt T4.out) B4.out.size)).trans cg5
        have HAL := Lib.hid (heap_alloc_new u4 (.cells (hashV y) 25))
        obtain ⟨u5, hu5⟩ : ∃ u5, u5 = u4.alloc (.cells (hashV y) 25) := ⟨_, rfl⟩
        rw [← hu5] at HNB cg6 HAL ⊢
        clear hu5
        try go_simp
        refine hK.out _ _ trivial (fun hHeld => ?_)
        clear hK K
        refine wpAnyH_ready (rs := [4]) (by kernel_rfl) (by simp) ?_
        refine AllReadyH.cons (o := _) rfl (fun K hK => ?_) AllReadyH.nil
        have hb35 := B4.out.trans (HNB.out.mono B4.out.size)
        have o35 := rowBelow T5.out hb35 (Nat.le_refl _)
        refine step_append_cellsP _ rfl (.tmp 32) (.tmp 35) 22 rfl B 25 i0 _ 32 32 Tryd.underlying22 hi0 hz0 hz1 hz2 (by show (rowV 32 z8).size = 32; rw [rowV_size]) (by decide) (.slice A5 Q2.length c5) Q2.length (hcs Q2) rfl o35 ⟨u4.heap.size, 0, none⟩ 1 1 (hC y) rfl (by rw [hC_len]) (fun j v hv => by rw [addr_add, cell_of_row u5 _ j _ _ (0, 0) HAL.out]; unfold hashV rowV; rw [List.getElem?_toArray]; exact hv) (fun v hv => by unfold hC at hv; obtain ⟨j, _, rfl⟩ := List.mem_map.1 hv; rfl) (by have := HL2.out; unfold maxLen; omega) (by have := HL2.out; omega) (Nat.le_trans hB (Nat.le_trans T1.out.size hb35.size)) ?_
        intro v6 u6 o6 g6 _
        obtain ⟨A6, c6, rfl, _, _⟩ := rowForm o6
        have p2 := (hb35.block _ (blk_lt T2.out)).trans T2.out
        have p3 := (hb35.block _ (blk_lt T3.out)).trans T3.out
        have p4 := (hb35.block _ (blk_lt T4.out)).trans T4.out
        have FIN := Lib.hid (PSt.put (T1.out.trans (hb35.mono (Nat.le_trans hB T1.out.size))) p2 p3 p4 o35 o6 g6 hB hgp)
        have q4 := (row_other o35 p4 (by decide) g6).trans p4
        have cg7 := cell_of_row u6 gp 0 _ _ (0, 0) q4
        have cg8 : u6.cell? ⟨gp, 0, none⟩ = some (.slice A5 Q2.length c5) := cg7
        have fr8 : u6.frozen? ⟨gp, 0, none⟩ = false := by simp [World.frozen?, q4]
        clear hb35 o35 o6 g6 p2 p3 p4 q4 cg7
        try go_simp
        refine hK.out _ _ trivial (fun hHeld => ?_)
        clear hK K
        refine wpAnyH_ready (rs := [5]) (by kernel_rfl) (by simp) ?_
        refine AllReadyH.cons (o := _) rfl (fun K hK => ?_) AllReadyH.nil
        go_simp
        refine hK.out _ _ trivial (fun hHeld => ?_)
        clear hK K
        refine wpAnyH_done (by kernel_rfl) ?_ _
        refine NoPanic.normal ?_
        exact bodyPost_end (results_none rfl _ _ _) rfl ⟨rfl, FIN.out⟩
      · go_simp
        go_at_call 18
        refine (HRT.out u3 T1.out).mono ?_
        rintro e u4 ⟨rfl, b4⟩
        have B4 := Lib.hid b4
        have cg5 : u4.cell? ⟨gp, 0, none⟩ = some (.slice A5 Q2.length c5) := (b4.cell (p := ⟨gp, 0, none⟩) (blk_lt T4.out)).trans cg4
        clear b4
        go_simp
        refine hK.out _ _ trivial (fun hHeld => ?_)
        clear hK K
        refine wpAnyH_ready (rs := [0, 3]) (by kernel_rfl) (by simp) ?_
        refine AllReadyH.cons (o := _) rfl (fun K hK => ?_) (AllReadyH.cons (o := _) rfl (fun K hK => ?_) AllReadyH.nil)
        · go_simp
          refine hK.out _ _ trivial (fun hHeld => ?_)
          clear hK K
          refine wpAnyH_ready (rs := [3]) (by kernel_rfl) (by simp) ?_
          refine AllReadyH.cons (o := _) rfl (fun K hK => ?_) AllReadyH.nil
          refine step_buildSlice_as (w' := u4.alloc (.cells (hashV y) 25)) rfl 22 1 #[(0, .tmp 34)] rfl (.slice (some ⟨u4.heap.size, 0, none⟩) 1 1) (by simp only [List.map_toArray, List.map_cons, List.map_nil]; exact one_hash y u4) ?_
          have HNB := Lib.hid ((Below.refl u4.heap.size u4).alloc (Nat.le_refl _) (.cells (hashV y) 25))
          have cg6 : (u4.alloc (.cells (hashV y) 25)).cell? ⟨gp, 0, none⟩ = some (.slice A5 Q2.length c5) := (HNB.out.cell (p := ⟨gp, 0, none⟩) (Nat.lt_of_lt_of_le (blk_lt T4.out) B4.out.size)).trans cg5
          have HAL := Lib.hid (heap_alloc_new u4 (.cells (hashV y) 25))
          obtain ⟨u5, hu5⟩ : ∃ u5, u5 = u4.alloc (.cells (hashV y) 25) := ⟨_, rfl⟩
          rw [← hu5] at HNB cg6 HAL ⊢
          clear hu5
          try go_simp
          refine hK.out _ _ trivial (fun hHeld => ?_)
          clear hK K
          refine wpAnyH_ready (rs := [4]) (by kernel_rfl) (by simp) ?_
          refine AllReadyH.cons (o := _) rfl (fun K hK => ?_) AllReadyH.nil
          have hb35 := B4.out.trans (HNB.out.mono B4.out.size)
          have o35 := rowBelow T5.out hb35 (Nat.le_refl _)
          refine step_append_cellsP _ rfl (.tmp 32) (.tmp 35) 22 rfl B 25 i0 _ 32 32 Tryd.underlying22 hi0 hz0 hz1 hz2 (by show (rowV 32 z8).size = 32; rw [rowV_size]) (by decide) (.slice A5 Q2.length c5) Q2.length (hcs Q2) rfl o35 ⟨u4.heap.size, 0, none⟩ 1 1 (hC y) rfl (by rw [hC_len]) (fun j v hv => by rw [addr_add, cell_of_row u5 _ j _ _ (0, 0) HAL.out]; unfold hashV rowV; rw [List.getElem?_toArray]; exact hv) (fun v hv => by unfold hC at hv; obtain ⟨j, _, rfl⟩ := List.mem_map.1 hv; rfl) (by have := HL2.out; unfold maxLen; omega) (by have := HL2.out; omega) (Nat.le_trans hB (Nat.le_trans T1.out.size hb35.size)) ?_
          intro v6 u6 o6 g6 _
          obtain ⟨A6, c6, rfl, _, _⟩ := rowForm o6
          have p2 := (hb35.block _ (blk_lt T2.out)).trans T2.out
          have p3 := (hb35.block _ (blk_lt T3.out)).trans T3.out
          have p4 := (hb35.block _ (blk_lt T4.out)).trans T4.out
          have FIN := Lib.hid (PSt.put (T1.out.trans (hb35.mono (Nat.le_trans hB T1.out.size))) p2 p3 p4 o35 o6 g6 hB hgp)
          have q4 := (row_other o35 p4 (by decide) g6).trans p4
          have cg7 := cell_of_row u6 gp 0 _ _ (0, 0) q4
          have cg8 : u6.cell? ⟨gp, 0, none⟩ = some (.slice A5 Q2.length c5) := cg7
          have fr8 : u6.frozen? ⟨gp, 0, none⟩ = false := by simp [World.frozen?, q4]
          clear hb35 o35 o6 g6 p2 p3 p4 q4 cg7
          try go_simp
          refine hK.out _ _ trivial (fun hHeld => ?_)
          clear hK K
          refine wpAnyH_ready (rs := [5]) (by kernel_rfl) (by simp) ?_
          refine AllReadyH.cons (o := _) rfl (fun K hK => ?_) AllReadyH.nil
          go_simp
          refine hK.out _ _ trivial (fun hHeld => ?_)
          clear hK K
          refine wpAnyH_done (by kernel_rfl) ?_ _
          refine NoPanic.normal ?_
          exact bodyPost_end (results_none rfl _ _ _) rfl ⟨rfl, FIN.out⟩
        · refine step_buildSlice_as (w' := u4.alloc (.cells (hashV y) 25)) rfl 22 1 #[(0, .tmp 34)] rfl (.slice (some ⟨u4.heap.size, 0, none⟩) 1 1) (by simp only [List.map_toArray, List.map_cons, List.map_nil]; exact one_hash y u4) ?_
          have HNB := Lib.hid ((Below.refl u4.heap.size u4).alloc (Nat.le_refl _) (.cells (hashV y) 25))
          have cg6 : (u4.alloc (.cells (hashV y) 25)).cell? ⟨gp, 0, none⟩ = some (.slice A5 Q2.length c5) := (HNB.out.cell (p := ⟨gp, 0, none⟩) (Nat.lt_of_lt_of_le (blk_lt T4.out) B4.out.size)).trans cg5
          have HAL := Lib.hid (heap_alloc_new u4 (.cells (hashV y) 25))
          obtain ⟨u5, hu5⟩ : ∃ u5, u5 = u4.alloc (.cells (hashV y) 25) := ⟨_, rfl⟩
          rw [← hu5] at HNB cg6 HAL ⊢
          clear hu5
          try go_simp
          refine hK.out _ _ trivial (fun hHeld => ?_)
          clear hK K
          refine wpAnyH_ready (rs := [0]) (by kernel_rfl) (by simp) ?_
          refine AllReadyH.cons (o := _) rfl (fun K hK => ?_) AllReadyH.nil
          go_simp
          refine hK.out _ _ trivial (fun hHeld => ?_)
          clear hK K
          refine wpAnyH_ready (rs := [4]) (by kernel_rfl) (by simp) ?_
          refine AllReadyH.cons (o := _) rfl (fun K hK => ?_) AllReadyH.nil
          have hb35 := B4.out.trans (HNB.out.mono B4.out.size)
          have o35 := rowBelow T5.out hb35 (Nat.le_refl _)
          refine step_append_cellsP _ rfl (.tmp 32) (.tmp 35) 22 rfl B 25 i0 _ 32 32 Tryd.underlying22 hi0 hz0 hz1 hz2 (by show (rowV 32 z8).size = 32; rw [rowV_size]) (by decide) (.slice A5 Q2.length c5) Q2.length (hcs Q2) rfl o35 ⟨u4.heap.size, 0, none⟩ 1 1 (hC y) rfl (by rw [hC_len]) (fun j v hv => by rw [addr_add, cell_of_row u5 _ j _ _ (0, 0) HAL.out]; unfold hashV rowV; rw [List.getElem?_toArray]; exact hv) (fun v hv => by unfold hC at hv; obtain ⟨j, _, rfl⟩ := List.mem_map.1 hv; rfl) (by have := HL2.out; unfold maxLen; omega) (by have := HL2.out; omega) (Nat.le_trans hB (Nat.le_trans T1.out.size hb35.size)) ?_
          intro v6 u6 o6 g6 _
          obtain ⟨A6, c6, rfl, _, _⟩ := rowForm o6
          have p2 := (hb35.block _ (blk_lt T2.out)).trans T2.out
          have p3 := (hb35.block _ (blk_lt T3.out)).trans T3.out
          have p4 := (hb35.block _ (blk_lt T4.out)).trans T4.out
          have FIN := Lib.hid (PSt.put (T1.out.trans (hb35.mono (Nat.le_trans hB T1.out.size))) p2 p3 p4 o35 o6 g6 hB hgp)
          have q4 := (row_other o35 p4 (by decide) g6).trans p4
          have cg7 := cell_of_row u6 gp 0 _ _ (0, 0) q4
          have cg8 : u6.cell? ⟨gp, 0, none⟩ = some (.slice A5 Q2.length c5) := cg7
          have fr8 : u6.frozen? ⟨gp, 0, none⟩ = false := by simp [World.frozen?, q4]
          clear hb35 o35 o6 g6 p2 p3 p4 q4 cg7
          try go_simp
          refine hK.out _ _ trivial (fun hHeld => ?_)
          clear hK K
          refine wpAnyH_ready (rs := [5]) (by kernel_rfl) (by simp) ?_
          refine AllReadyH.cons (o := _) rfl (fun K hK => ?_) AllReadyH.nil
          go_simp
          refine hK.out _ _ trivial (fun hHeld => ?_)
          clear hK K
          refine wpAnyH_done (by kernel_rfl) ?_ _
          refine NoPanic.normal ?_
          exact bodyPost_end (results_none rfl _ _ _) rfl ⟨rfl, FIN.out⟩
end Go.Proofs.YthjeanjodhafjaaDoor
