/- Are there few votes? The links of a pool. -/
import Derived.Test.YtomfgopmgfoecaaPoKnown
import Derived.Test.YtomfgopmgfoecaaPoLift
import Derived.BigFrame
namespace Go.Proofs.Ytomfgopmgfoecaa
open Go.ChangeMaps Go.MapKept Go.Maps Go.RowKit Go.ChangeShapes Go.WideShapes Go.ChangeAt
set_option linter.unusedVariables false
set_option maxRecDepth 100000

def fewV (L : List Sv) : Bool := L.all (fun v => decide (v.s.length ≤ 5000)) && decide (L.length ≤ 60)
theorem few_all {L : List Sv} (h : fewV L = true) : (∀ v ∈ L, v.s.length ≤ 5000) ∧ L.length ≤ 60 := by
  unfold fewV at h
  simp at h
  exact h
set_option maxHeartbeats 4000000 in
theorem few_c (A : Option Addr) (n c : Nat) (L : List Sv) (w : World) (hn : n = L.length) (hn2 : n ≤ 9223372036854775807) (h : SvsAt w A L) : Calls Try.prog 8 #[.slice A n c] w fun e w' => e = .returned (.bool (fewV L)) ∧ w' = w := by
  have HA := Lib.hid h
  have HN := Lib.hid hn
  clear h hn
  go_enter Try.func8, Try.ntmps8
  go_wp2_with fail
  go_loopw [3] (fun v3 u => ∃ i : Nat, i ≤ n ∧ v3 = .int .i64 (i : Int) ∧ fewV L = ((L.drop i).all (fun v => decide (v.s.length ≤ 5000)) && decide (L.length ≤ 60)) ∧ u = w) (fun v3 _ => n - (intOf v3).toNat)
  case atStart => exact ⟨0, Nat.zero_le _, rfl, rfl, rfl⟩
  case round =>
    obtain ⟨i, hi, rfl, hg, rfl⟩ := hrel
    have HG := Lib.hid hg
    clear hg
    by_cases hin : i < n
    · obtain ⟨v, hv⟩ : ∃ v, L[i]? = some v := ⟨_, List.getElem?_eq_getElem (by have := HN.out; omega)⟩
      obtain ⟨g, o, B, cb, rfl, r1, _⟩ := HA.out wr (Below.refl _ _) i v hv
      have hs : wr.cell? ⟨g, o + i * 101 + 67, none⟩ = some (.slice B v.s.length cb) := r1 67 _ (by unfold sgC; rw [List.getElem?_map, List.getElem?_range (by omega)]; rfl)
      have hd : L.drop i = v :: L.drop (i + 1) := by
        obtain ⟨l1, e1⟩ := List.getElem?_eq_some_iff.1 hv
        rw [← e1]
        exact List.drop_eq_getElem_cons l1
      have HD := Lib.hid (show fewV L = (decide (v.s.length ≤ 5000) && (L.drop (i + 1)).all (fun v => decide (v.s.length ≤ 5000)) && decide (L.length ≤ 60)) by rw [HG.out, hd, List.all_cons])
      obtain ⟨m, hm⟩ : ∃ m, m = v.s.length := ⟨_, rfl⟩
      rw [← hm] at HD hs
      have q2 : (i : Int) < (n : Int) := by omega
      clear hv hd hm r1
      by_cases hc : m ≤ 5000
      · have HD2 := Lib.hid (show fewV L = ((L.drop (i + 1)).all (fun v => decide (v.s.length ≤ 5000)) && decide (L.length ≤ 60)) by rw [HD.out, decide_eq_true hc, Bool.true_and])
        have p1 : ¬ 5000 < m := by omega
        go_wp2_with fail
        exact ⟨⟨i + 1, by omega, by go_num, HD2.out, trivial⟩, by simp [intOf]; omega⟩
      · have HD2 := Lib.hid (show fewV L = false by rw [HD.out, decide_eq_false hc]; rfl)
        have p1 : 5000 < m := by omega
        go_wp2_with fail
        go_ret
        exact ⟨by rw [HD2.out]; rfl, rfl⟩
    · obtain rfl : i = n := by omega
      have HR := Lib.hid (show fewV L = decide (i ≤ 60) by rw [HG.out, HN.out, List.drop_length]; rfl)
      go_wp2_with fail
      go_ret
      refine ⟨?_, rfl⟩
      rw [HR.out]
      exact congrArg (fun b => Ending.returned (.bool b)) (decide_eq_decide.2 (by omega))
theorem zero_links (u : World) : (zeroValue 57).run Try.prog u = .ok (.slice none 0 0) u := by kernel_rfl
/-- A copy of a row of links: as many. -/
theorem cloneLinks_c (v : Value) (m : Nat) (xs : List Value) (w : World) (h : w.ownsRow 0 50 66 v m xs) (h1 : ∀ u ∈ xs, u.oneCell' = true) (hm : m ≤ 1000000) : Calls Try.prog 37 #[v] w fun e w' => ∃ A c, e = .returned (.slice A m c) ∧ w'.ownsRow w.heap.size 50 66 (.slice A m c) m xs ∧ Below w.heap.size w w' := by
  obtain ⟨A, c, rfl, hc, hc2, hA⟩ := ownForm h
  rcases hA with rfl | ⟨g, rfl, _, hg⟩
  · have hq : (Sem.run Try.prog (binOp .eql 57 (.slice none m c) (.slice none 0 0)) w) = .ok (.bool true) w := by kernel_rfl
    have hm0 : m = 0 ∧ c = 0 ∧ xs = [] := by
      rcases h.2 with ⟨e, h0⟩ | ⟨g, cap, cur, e, _⟩
      · injection e with _ e1 e2
        subst h0
        exact ⟨rfl, e2, List.eq_nil_of_length_eq_zero (by simpa using h.1)⟩
      · cases e
    obtain ⟨rfl, rfl, rfl⟩ := hm0
    go_enter Try.func37, Try.ntmps37
    go_wp2_with fail
    go_ret
    exact ⟨none, 0, rfl, ⟨rfl, .inl ⟨rfl, rfl⟩⟩, Below.refl _ _⟩
  · obtain ⟨i0, hi0⟩ : ∃ i0, Try.prog.info? 50 = some i0 := ⟨_, (Option.some_get (by kernel_rfl)).symm⟩
    obtain ⟨hz0, hz1, hz2⟩ := link_row hi0
    have hq : ∀ u, (Sem.run Try.prog (binOp .eql 57 (.slice (some ⟨g, 0, none⟩) m c) (.slice none 0 0)) u) = .ok (.bool false) u := fun u => Lib.run_eql_slice_nil (P := Try.prog) u 57 50 (some ⟨g, 0, none⟩) m c 0 0 Try.underlying57
    obtain ⟨W, hW⟩ : ∃ W, W = w.alloc (.cells #[] 50) := ⟨_, rfl⟩
    have bW : Below w.heap.size w W := by rw [hW]; exact (Below.refl _ _).alloc (Nat.le_refl _) _
    have o0 : W.ownsRow w.heap.size 50 66 (.slice (some ⟨w.heap.size, 0, none⟩) 0 0) 0 [] := by rw [hW]; exact World.ownsRow_made w #[] 0 (Nat.le_refl _) (by unfold maxLen; omega) rfl
    have o1 : W.ownsRow 0 50 66 (.slice (some ⟨g, 0, none⟩) m c) m xs := ownKeep h (fun k hk => bW.block k (h.lt k hk).2)
    have HW := Lib.hid hW
    have HB := Lib.hid bW
    have O0 := Lib.hid o0
    have O1 := Lib.hid o1
    have SZ := Lib.hid (show w.heap.size < W.heap.size by rw [hW]; simp)
    clear hW bW o0 o1 h
    go_enter Try.func37, Try.ntmps37
    go_wp2_with (first
      | (at_builtin; rw [← HW.out]; refine wpList_append_row rfl (.tmp 5) (.tmp 6) 57 rfl w.heap.size 50 i0 _ 66 80 Try.underlying57 hi0 hz0 hz1 hz2 (by show (lv lkZ).size = 66; exact rowV_size _ _) (by decide) (.slice (some ⟨w.heap.size, 0, none⟩) 0 0) 0 [] rfl O0.out 0 (.slice (some ⟨g, 0, none⟩) m c) m xs rfl O1.out h1 (by unfold maxLen; omega) (by omega) (Nat.le_of_lt SZ.out) ?_; intro v' w3 o3 g3 b3)
      | fail)
    obtain ⟨A3, c3, rfl, _, _, _⟩ := ownForm o3
    simp only [Nat.zero_add, List.nil_append] at o3
    have FIN := Lib.hid (And.intro o3 (HB.out.grown g3 (Nat.le_of_lt SZ.out) (by simp [Value.ownBlock])))
    clear o3 g3 b3
    go_wp2_with fail
    go_ret
    exact ⟨A3, c3, by simp, FIN.out⟩
theorem links_c {g s bt bk bb n : Nat} {vv vl : Value} {hd : Lk ⊕ Hh → Option Value} {F : Nat → Prop} {S : PoS} {w : World} (hg : PlB g s w) (h : PoB s bt bk bb vv vl hd F S n w) (hl : S.links.length ≤ 1000000) : Calls Try.prog 20 #[.pointer (some ⟨g, 0, none⟩)] w fun e w' => ∃ A c, e = .returned (.slice A S.links.length c) ∧ w'.ownsRow w.heap.size 50 66 (.slice A S.links.length c) S.links.length (rws lC S.links) ∧ Below w.heap.size w w' := by
  have hc : w.cell? ⟨s, 1, none⟩ = some vl := cell_of_row w s 1 _ _ (0, 0) h.cells
  have CL := Lib.hid (cloneLinks_c vl S.links.length (rws lC S.links) w h.links (fun u hu => by
    unfold rws at hu
    obtain ⟨x, _, hx⟩ := List.mem_flatMap.1 hu
    exact lC_one x u hx) hl)
  clear h
  go_enter Try.func20, Try.ntmps20
  go_wp2_with (go_at_call 32; refine (seen_c g s _ hg).mono ?_; rintro e w1 ⟨rfl, rfl⟩)
  refine CL.out.mono ?_
  rintro e w2 ⟨A, c, rfl, o2, b2⟩
  have FIN := Lib.hid (And.intro o2 b2)
  clear o2 b2
  go_wp2_with fail
  go_ret
  exact ⟨A, c, rfl, FIN.out⟩
end Go.Proofs.Ytomfgopmgfoecaa
