/- Contract: a change of the directory: the closure. -/
import Derived.Test.YtcemfpbkaahcmaaApply
import Derived.StillTailTactics
namespace Go.Proofs.Ytcemfpbkaahcmaa
open Go.RowKit Go.Shelf
set_option linter.unusedVariables false

section
variable {P : Program} (w : World)
/-- An append inside a drawn region, whatever the elements. -/
theorem step_append_cells {ops : Array Oper} {o : Oper} {a : Act} {K : Act → World → Prop} {Q : Exit → Act → World → Prop} {E : Prop} (hgd : o.guard = none) (s x : Operand) (t : TypeId)
    (ho : o.op = .call { callee := .builtin .append, args := #[s, x], argTypes := #[t, t] })
    (base : Nat) (e : TypeId) (i : TypeInfo) (z : Value) (size bytes : Nat) (ht : P.underlying t = some (.slice e)) (hi : P.info? e = some i) (hz : i.zero = some z)
    (hsize : i.size = size) (hby : i.bytes = bytes) (hzs : z.cells.size = size) (hsz : 0 < size)
    (v : Value) (n : Nat) (xs : List Value) (hs : a.eval s = v) (hown : w.ownsRow base e size v n xs)
    (ad : Addr) (m c : Nat) (news : List Value) (hx : a.eval x = .slice (some ad) m c) (hl : news.length = m * size) (hnews : ∀ j u, news[j]? = some u → w.cell? (ad.add j) = some u) (h1 : ∀ u ∈ news, u.oneCell' = true)
    (h63 : n + m ≤ maxLen) (hbytes : (n + m) * bytes ≤ 140737488355328) (hbase : base ≤ w.heap.size)
    (h : ∀ v' w', w'.ownsRow base e size v' (n + m) (xs ++ news) → w.grownBy w' v.ownBlock → (v'.ownBlock = v.ownBlock ∨ v'.ownBlock = some w.heap.size) → K (a.put o.dst v') w') :
    if Region.wanted o (yielded ops a.tmps) = true then Oper.wp P o a w K Q else E := by
  have hw : Region.wanted o (yielded ops a.tmps) = true := by simp [Region.wanted, hgd]
  rw [if_pos hw]
  obtain ⟨v', w', hrun, h2, h3, _, h5⟩ := run_append_own_at (P := P) w base t o.type e i z size bytes ht hi hz hsize hby hzs hsz v n xs hown ad m c news hl hnews h1 h63 hbytes hbase
  unfold Oper.wp execOp
  simp only [ho, resolve, invoke, builtin, Sem.run_bind, Sem.run_pure, Result.andThen_ok, List.map_toArray, List.map_cons, List.map_nil, hs, hx, hrun]
  exact h v' w' h2 h3 h5
end
theorem entry_info : (Try.prog.info? 82).map (fun i => (i.zero, i.size, i.bytes)) = some (some (.agg #[.int .i64 0, .string ⟨#[]⟩, .string ⟨#[]⟩, .pointer none]), 4, 48) := by kernel_rfl
theorem entry_new (w : World) (a b c d : Value) (t : TypeId) {u : World} {k : Nat} (h : u.heap[k]? = some (.cells #[a, b, c, d] t (0, 0))) : ∀ j v, [a, b, c, d][j]? = some v → u.cell? ((⟨k, 0, none⟩ : Addr).add j) = some v := by
  intro j v hj
  have hadd : (⟨k, 0, none⟩ : Addr).add j = ⟨k, j, none⟩ := by
    unfold Addr.add
    split
    · next h0 => subst h0; rfl
    · simp
  rw [hadd, cell_of_row _ _ _ _ _ (0, 0) h]
  simpa using hj

section
variable {w : World} {base p : Nat} {S : DS} {fb lb m : Nat} {sv : Value}
/-- What the closure of a change of the directory leaves: the directory, the list, the disk. -/
def EnterQ (w : World) (base p : Nat) (S : DS) (fb lb n : Nat) (sv : Value) (d' : Dir) (cs : List Value) (w' : World) : Prop :=
  ∃ w1 w2 sv', w.grownBy w1 (some fb) ∧ DirAt w1 fb (n + 1) d' ∧ w1.grownBy w2 sv.ownBlock ∧ w2.ownsRow base 82 4 sv' (S.es.length + 1) (S.es.flatMap enV ++ cs) ∧
    (sv'.ownBlock = sv.ownBlock ∨ ∃ g, sv'.ownBlock = some g ∧ w1.heap.size ≤ g) ∧ w2.grownBy w' (some p) ∧ w'.heap[p]? = some (.cells (diskV S fb lb sv') 54 (0, 0))
theorem enter_close {n k : Nat} {d' : Dir} {cs : List Value} {w1 w2 : World} {v1 : Value} (h1 : w.grownBy w1 (some fb)) (h2 : DirAt w1 fb (n + 1) d') (h3 : w1.grownBy w2 sv.ownBlock) (h4 : w2.ownsRow base 82 4 v1 (S.es.length + 1) (S.es.flatMap enV ++ cs))
    (h5 : v1.ownBlock = sv.ownBlock ∨ v1.ownBlock = some k) (h6 : w2.heap[p]? = some (.cells (diskV S fb lb sv) 54 (0, 0))) (hk : w1.heap.size ≤ k) : EnterQ w base p S fb lb n sv d' cs (w2.setCell ⟨p, 3, none⟩ v1) :=
  ⟨w1, w2, v1, h1, h2, h3, h4, by rcases h5 with h | h; exact .inl h; exact .inr ⟨k, h, hk⟩, grown_set _ _ _, by rw [set_block h6]; rfl⟩
set_option maxHeartbeats 4000000 in
theorem enter_do {bx bd n : Nat} {d' : Dir} {nm to : ByteArray} {kd : Int} {q : Option Addr} (met : Int) (hb : w.heap[p]? = some (.cells (diskV S fb lb sv) 54 (0, 0))) (hD : DirAt w fb n S.D)
    (hx : w.heap[bx]? = some (.cells #[.int .i64 kd, .string nm, .string to, .pointer q] 82 (0, 0))) (hd : w.heap[bd]? = some (.cells #[.pointer (some ⟨p, 0, none⟩)] 26 (0, 0)))
    (hs : w.ownsRow base 82 4 sv S.es.length (S.es.flatMap enV)) (hl : S.es.length ≤ 1073741824) (hsx : sv.ownBlock ≠ some bx) (hbase : base ≤ w.heap.size)
    (happ : ∀ u, DirAt u fb n S.D → Calls Try.prog 54 #[.agg #[.int .i64 kd, .string nm, .string to, .pointer q], .map (some fb)] u fun e' w' => e' = .returned (.tuple #[]) ∧ DirTo u fb (n + 1) d' w') :
    Calls Try.prog 61 #[.int .i64 met, .pointer (some ⟨bx, 0, none⟩), .pointer (some ⟨bd, 0, none⟩)] w fun e w' => e = .returned (.tuple #[]) ∧ EnterQ w base p S fb lb n sv d' [.int .i64 kd, .string nm, .string to, .pointer q] w' := by
  have hne : fb ≠ bx := ne_map_cells hD hx
  have hne2 : fb ≠ bd := ne_map_cells hD hd
  have hne3 : fb ≠ p := ne_map_cells hD hb
  have hs2 : sv.ownBlock = none ∨ sv.ownBlock ≠ some bd := row_ne hs (not_cells_of_type hd (by decide))
  have hs3 : sv.ownBlock = none ∨ sv.ownBlock ≠ some p := row_ne hs (not_cells_of_type hb (by decide))
  have hs4 : sv.ownBlock = none ∨ sv.ownBlock ≠ some fb := row_ne hs (not_cells_of_map hD _)
  have hxl := lt_of_block hx
  have hdl := lt_of_block hd
  have hpl := lt_of_block hb
  have HE := Lib.hid (fun (u : World) (hu : u.heap[bx]? = w.heap[bx]? ∧ u.heap[bd]? = w.heap[bd]? ∧ u.heap[p]? = w.heap[p]?) =>
    (⟨by rw [cell_of_row _ _ _ _ _ (0, 0) (hu.1.trans hx)]; rfl, by rw [cell_of_row _ _ _ _ _ (0, 0) (hu.1.trans hx)]; rfl, by rw [cell_of_row _ _ _ _ _ (0, 0) (hu.1.trans hx)]; rfl, by rw [cell_of_row _ _ _ _ _ (0, 0) (hu.1.trans hx)]; rfl, cell_of_one (hu.2.1.trans hd), (disk_cells (hu.2.2.trans hb)).2.1⟩ :
      u.cell? ⟨bx, 0, none⟩ = some (.int .i64 kd) ∧ u.cell? ⟨bx, 1, none⟩ = some (.string nm) ∧ u.cell? ⟨bx, 2, none⟩ = some (.string to) ∧ u.cell? ⟨bx, 3, none⟩ = some (.pointer q) ∧ u.cell? ⟨bd, 0, none⟩ = some (.pointer (some ⟨p, 0, none⟩)) ∧ u.cell? ⟨p, 1, none⟩ = some (.map (some fb))))
  have k0 := HE.out w.drew ⟨rfl, rfl, rfl⟩
  have HAPP := Lib.hid (happ w.drew hD)
  obtain ⟨i0, hi0, hz0, hz1, hz2⟩ := info_parts entry_info
  have HS := Lib.hid hs
  have HB := Lib.hid hb
  have HX := Lib.hid hx
  have HD := Lib.hid hd
  clear happ hb hx hd hD hs
  go_enter Try.func61, Try.ntmps61
  go_wp2_with fail
  go_region_held3 (fun u => u.cell? ⟨bx, 0, none⟩ = some (.int .i64 kd) ∧ u.cell? ⟨bx, 1, none⟩ = some (.string nm) ∧ u.cell? ⟨bx, 2, none⟩ = some (.string to) ∧ u.cell? ⟨bx, 3, none⟩ = some (.pointer q) ∧ u.cell? ⟨bd, 0, none⟩ = some (.pointer (some ⟨p, 0, none⟩)) ∧ u.cell? ⟨p, 1, none⟩ = some (.map (some fb)))
    (first | exact k0 | exact k1)
    (first | (go_at_call 54; refine HAPP.out.mono ?_; rintro e w1 ⟨rfl, hT⟩; have HT := Lib.hid hT; have k1 := HE.out w1 ⟨hT.1.block bx hxl (fun e => by injection e with e; exact hne e.symm), hT.1.block bd hdl (fun e => by injection e with e; exact hne2 e.symm), hT.1.block p hpl (fun e => by injection e with e; exact hne3 e.symm)⟩; clear hT))
  have hg1 : w.grownBy w1 (some fb) := grown_undrew HT.out.1
  have hb1 := (hg1.block p hpl (fun e => by injection e with e; exact hne3 e.symm)).trans HB.out
  have hx1 := (hg1.block bx hxl (fun e => by injection e with e; exact hne e.symm)).trans HX.out
  have hd1 := (hg1.block bd hdl (fun e => by injection e with e; exact hne2 e.symm)).trans HD.out
  have hr1 := HS.out.kept hg1 hs4
  have hD1 := Lib.hid HT.out.2
  have HSZ := Lib.hid hg1.size
  have hl0 : base ≤ w1.heap.size := Nat.le_trans hbase hg1.size
  have HG1 := Lib.hid hg1
  obtain ⟨_, _, _, c3, _⟩ := disk_cells hb1
  obtain ⟨e0, e1, e2, e3, cd, _⟩ := k1
  have f3 := free_block (j := 3) hb1
  have HB1 := Lib.hid hb1
  have HX1 := Lib.hid hx1
  have HD1 := Lib.hid hd1
  obtain ⟨o, ho⟩ : ∃ o, o = Obj.cells #[.int .i64 kd, .string nm, .string to, .pointer q] 82 (0, 0) := ⟨_, rfl⟩
  have HGN := Lib.hid (fun (u : World) (h1 : u.os = w1.os) (h2 : u.tape = w1.tape) (h3 : u.output = w1.output) (hu : u.heap = w1.heap.push o) => (⟨h1, h2, h3, by rw [hu]; simp, fun k hk _ => by rw [hu, Array.getElem?_push, if_neg (by omega)]⟩ : w1.grownBy u sv.ownBlock))
  have HSK := Lib.hid (fun (u : World) (h1 : u.os = w1.os) (h2 : u.tape = w1.tape) (h3 : u.output = w1.output) (hu : u.heap = w1.heap.push o) => hr1.kept (row := none) (⟨h1, h2, h3, by rw [hu]; simp, fun k hk _ => by rw [hu, Array.getElem?_push, if_neg (by omega)]⟩ : w1.grownBy u none) (by cases sv.ownBlock <;> simp))
  have HNW := Lib.hid (fun (u : World) (hu : u.heap = w1.heap.push o) => entry_new (u := u) (k := w1.heap.size) w1 (.int .i64 kd) (.string nm) (.string to) (.pointer q) 82 (by rw [hu, ho]; simp))
  have HN3 := Lib.hid (fun (u : World) (hu : u.heap = w1.heap.push o) => (by rw [hu]; simp; omega : base ≤ u.heap.size))
  have HON := Lib.hid (by simp [Value.oneCell'] : ∀ u ∈ [Value.int .i64 kd, .string nm, .string to, .pointer q], u.oneCell' = true)
  have HN1 := Lib.hid (by unfold maxLen; omega : S.es.length + 1 ≤ maxLen)
  have HN2 := Lib.hid (by omega : (S.es.length + 1) * 48 ≤ 140737488355328)
  have ca3 : (w1.alloc o).cell? ⟨p, 3, none⟩ = some sv := (World.cell?_alloc_lt w1 o ⟨p, 3, none⟩ (lt_of_block HB1.out)).trans c3
  have cad : (w1.alloc o).cell? ⟨bd, 0, none⟩ = some (.pointer (some ⟨p, 0, none⟩)) := (World.cell?_alloc_lt w1 o ⟨bd, 0, none⟩ (lt_of_block HD1.out)).trans cd
  subst ho
  have HC := Lib.hid (fun (u : World) (hu : w1.grownBy u sv.ownBlock) => (⟨(hu.block p (lt_of_block hb1) (fun e => by rcases hs3 with h | h; rw [h] at e; cases e; exact h e.symm)).trans hb1, cell_of_one ((hu.block bd (lt_of_block hd1) (fun e => by rcases hs2 with h | h; rw [h] at e; cases e; exact h e.symm)).trans hd1)⟩ :
    u.heap[p]? = some (.cells (diskV S fb lb sv) 54 (0, 0)) ∧ u.cell? ⟨bd, 0, none⟩ = some (.pointer (some ⟨p, 0, none⟩))))
  clear hb1 hx1 hd1 hr1 hg1 HE HAPP k0 hs2 hs3 hs4
  go_wp2_with fail
  go_region_law
      (refine step_append_cells _ rfl (.tmp 14) (.tmp 16) _ rfl base 82 i0 _ 4 48 Try.underlying50 hi0 hz0 hz1 hz2 rfl (by decide) sv S.es.length (S.es.flatMap enV) (by simp [Act.eval]) (HSK.out _ rfl rfl rfl rfl) ⟨w1.heap.size, 0, none⟩ 1 1 [.int .i64 kd, .string nm, .string to, .pointer q] (by simp [Act.eval]) rfl (HNW.out _ rfl) HON.out HN1.out HN2.out (HN3.out _ rfl) ?_; intro v1 w2 hown1 hg1 hat1; obtain ⟨A1, cc1, rfl, _⟩ := row_form hown1; have HOWN := Lib.hid hown1; have hgg : w1.grownBy w2 sv.ownBlock := by { refine World.grownBy.trans ?_ hg1; exact HGN.out _ rfl rfl rfl rfl }; have HGG := Lib.hid hgg; have HAT := Lib.hid hat1; have hcc := HC.out w2 hgg; have HCC := Lib.hid hcc.1; have c33 := (disk_cells hcc.1).2.2.2.1; have f33 := free_block (j := 3) hcc.1; have cdd := hcc.2; clear hown1 hg1 hat1 hgg hcc)
  all_goals
    go_end0
    exact ⟨rfl, enter_close HG1.out hD1.out HGG.out HOWN.out HAT.out HCC.out (by simp)⟩
end
end Go.Proofs.Ytcemfpbkaahcmaa
