/- Contracts: what a disk tells: Read, Lasts, Pending, Dead, Changes; a fuse, a fault laid. -/
import Derived.Test.YtcemfpbkaahcmaaMake
import Derived.Test.YtcemfpbkaahcmaaStr
import Derived.Handy
namespace Go.Proofs.Ytcemfpbkaahcmaa
open Go.RowKit Go.Shelf
set_option linter.unusedVariables false

/-- A new slice that reads as l. -/
def NewP (w : World) (l : List UInt8) (e : Ending) (w' : World) : Prop :=
  ∃ A c, e = .returned (.slice A l.length c) ∧ l.length ≤ c ∧ w'.ownsRow w.heap.size 5 1 (.slice A l.length c) l.length (l.map bv) ∧ Below w.heap.size w w'
set_option maxHeartbeats 400000 in
theorem clone_bytes (A : Option Addr) (c : Nat) (l : List UInt8) (w : World) (h : Rd w 0 w.heap.size A l) (hl : l.length ≤ 140737488355328) :
    Calls Try.prog 57 #[.slice A l.length c] w (NewP w l) := by
  obtain ⟨i0, hi0, hz0, hz1, hz2⟩ := info_parts byte_info
  have hnil := fun (u : World) (a : Option Addr) (n : Nat) => Lib.run_eql_slice_nil (P := Try.prog) u 33 5 a n c 0 0 Try.underlying33
  rcases A with _ | ad
  · have hl0 : l = [] := by
      rcases l with _ | ⟨x, l⟩
      · rfl
      · obtain ⟨b, off, e, _⟩ := h (by simp)
        cases e
    subst hl0
    go_enter Try.func57, Try.ntmps57
    go_wp2
    go_ret
    exact ⟨none, 0, rfl, Nat.le_refl _, World.ownsRow_nil _ _ _ _, Below.refl _ _⟩
  · have H0 := Lib.hid (World.ownsRow_made (base := w.heap.size) (e := 5) (size := 1) w #[] 0 (Nat.le_refl _) (by decide) rfl)
    have H1 := Lib.hid (h.alloc (Nat.le_refl _) (.cells #[] 5))
    clear h
    go_enter Try.func57, Try.ntmps57
    go_wp2_with (at_builtin; refine wpList_append_rd _ rfl (.tmp 5) (.tmp 6) _ rfl w.heap.size 5 i0 _ Try.underlying33 hi0 hz0 hz1 hz2 rfl (.slice (some ⟨w.heap.size, 0, none⟩) 0 0) 0 [] rfl H0.out 0 w.heap.size (some ad) c l rfl H1.out (by omega) (by simp) ?_; intro v1 w1 hown1 hg1 hat1)
    go_ret
    rw [Nat.zero_add, List.nil_append] at hown1
    obtain ⟨A, c', rfl, hc⟩ := row_form hown1
    exact ⟨A, c', rfl, hc, hown1, ((Below.refl _ _).alloc (Nat.le_refl _) _).grown hg1 (by simp) (by simp [Value.ownBlock])⟩

section
variable {w : World} {base p : Nat} {S : DS} {fb lb m : Nat} {sv : Value} {rv : Nat → Value}
theorem own_rd {base' n c : Nat} {A : Option Addr} {l : List UInt8} (h : w.ownsRow base' 5 1 (.slice A n c) n (l.map bv)) : Rd w 0 w.heap.size A l := by
  obtain ⟨h1, rfl, h3⟩ := Ow.of_own h
  exact (h1.rd).wide (Nat.zero_le _) (Nat.le_refl _)
/-- What Read hands back. -/
def ReadP (w : World) (S : DS) (nm : Str) (e : Ending) (w' : World) : Prop :=
  ∃ v, e = .returned (.tuple #[v, .int .i64 (S.find nm true)]) ∧ Below w.heap.size w w' ∧
    (S.find nm true ≠ 0 → v = .slice none 0 0) ∧ (S.find nm true = 0 → ∃ A c, v = .slice A (S.fileOf nm).b.length c ∧ w'.ownsRow w.heap.size 5 1 v (S.fileOf nm).b.length ((S.fileOf nm).b.map bv))
set_option maxHeartbeats 400000 in
theorem read_disk (h : Holds w base p S m) (nm : Str) (hn : nm.length ≤ maxLen) :
    Calls Try.prog 45 #[.pointer (some ⟨p, 0, none⟩), strV nm] w (ReadP w S nm) := by
  obtain ⟨hG, fb, lb, sv, rv, hM⟩ := h
  by_cases hf : S.find nm true = 0
  · obtain ⟨_, hmay, k, hl⟩ := find_zero hf
    have hfind := find_ok hG hM nm hn k hmay hl
    obtain ⟨f, hk⟩ := file_of hG hl
    have hfo := fileOf_eq hl hk
    have hrow := hM.fil.row k f hk
    obtain ⟨A, c, hv, hc⟩ := row_form hrow
    have hblk := hM.fil.blk k f hk
    rw [hv] at hblk hrow
    obtain ⟨d0, _⟩ := file_cells hblk
    have hbig := (hG.las k f hk).2
    have hcap := hG.cap2
    have hcl := clone_bytes A c f.b w (own_rd hrow) (by omega)
    have HP : ∀ e w', NewP w f.b e w' → ∀ v, e = .returned v → ReadP w S nm (.returned (.tuple #[v, .int .i64 0])) w' := fun e w' ⟨A1, c1, h1, h2, h3, h4⟩ v hv => by
      rw [h1] at hv
      injection hv with hv
      subst hv
      exact ⟨_, by rw [hf], h4, fun h => absurd hf h, fun _ => by rw [hfo]; exact ⟨A1, c1, rfl, h3⟩⟩
    have HPP := Lib.hid HP
    clear hM hG hf hl hk hmay hrow hv hblk hfo HP hc hbig hcap
    go_enter Try.func45, Try.ntmps45
    go_wp2_with (first
      | (go_at_call 40; refine hfind.mono ?_; rintro e w' ⟨rfl, rfl⟩)
      | (go_at_call 57; refine hcl.mono ?_; rintro e w' hN; have HN := Lib.hid (HPP.out e w' hN); obtain ⟨A1, c1, rfl, _⟩ := hN))
    go_ret2
    exact HN.out _ rfl
  · have hfind := find_no hG hM nm hn true hf
    have HP : Hid (ReadP w S nm (.returned (.tuple #[.slice none 0 0, .int .i64 (S.find nm true)])) w) := ⟨_, rfl, Below.refl _ _, fun _ => rfl, fun h => absurd h hf⟩
    obtain ⟨x, hx⟩ : ∃ x, x = S.find nm true := ⟨_, rfl⟩
    rw [← hx] at hfind HP hf
    have q : (x != 0) = true := by simpa using hf
    clear hM hG hf hx
    go_enter Try.func45, Try.ntmps45
    go_wp2_with (go_at_call 40; refine hfind.mono ?_; rintro e w' ⟨rfl, rfl⟩)
    go_ret2
    exact HP.out
set_option maxHeartbeats 400000 in
theorem lasts_disk (h : Holds w base p S m) (nm : Str) (hn : nm.length ≤ maxLen) :
    Calls Try.prog 28 #[.pointer (some ⟨p, 0, none⟩), strV nm] w fun e w' => e = .returned (.tuple #[.int .i64 (if S.find nm true = 0 then ((S.fileOf nm).n : Int) else 0), .int .i64 (S.find nm true)]) ∧ w = w' := by
  obtain ⟨hG, fb, lb, sv, rv, hM⟩ := h
  by_cases hf : S.find nm true = 0
  · obtain ⟨_, hmay, k, hl⟩ := find_zero hf
    have hfind := find_ok hG hM nm hn k hmay hl
    obtain ⟨f, hk⟩ := file_of hG hl
    obtain ⟨_, d1⟩ := file_cells (hM.fil.blk k f hk)
    rw [hf, if_pos rfl, fileOf_eq hl hk]
    clear hM hG hf hl hk hmay
    go_enter Try.func28, Try.ntmps28
    go_wp2_with (go_at_call 40; refine hfind.mono ?_; rintro e w' ⟨rfl, rfl⟩)
    go_ret2
    exact ⟨rfl, rfl⟩
  · have hfind := find_no hG hM nm hn true hf
    rw [if_neg hf]
    obtain ⟨x, hx⟩ : ∃ x, x = S.find nm true := ⟨_, rfl⟩
    rw [← hx] at hfind hf ⊢
    have q : (x != 0) = true := by simpa using hf
    clear hM hG hf hx
    go_enter Try.func28, Try.ntmps28
    go_wp2_with (go_at_call 40; refine hfind.mono ?_; rintro e w' ⟨rfl, rfl⟩)
    go_ret2
    exact ⟨rfl, rfl⟩
theorem pending_disk (h : Holds w base p S m) : Calls Try.prog 26 #[.pointer (some ⟨p, 0, none⟩)] w fun e w' => e = .returned (.int .i64 (S.es.length : Int)) ∧ w = w' := by
  obtain ⟨hG, fb, lb, sv, rv, hM⟩ := h
  have hnone := none_disk hG hM
  obtain ⟨_, _, _, c3, _⟩ := disk_cells hM.blk
  obtain ⟨A, c, rfl, _⟩ := row_form hM.since
  clear hG hM
  go_enter Try.func26, Try.ntmps26
  go_wp2_with (go_at_call 33; refine hnone.mono ?_; rintro e w' ⟨rfl, rfl⟩)
  go_ret
  exact ⟨rfl, rfl⟩
theorem dead_disk (h : Holds w base p S m) : Calls Try.prog 13 #[.pointer (some ⟨p, 0, none⟩)] w fun e w' => e = .returned (.bool S.dead) ∧ w = w' := by
  obtain ⟨hG, fb, lb, sv, rv, hM⟩ := h
  have hnone := none_disk hG hM
  obtain ⟨_, _, _, _, _, _, _, c7, _⟩ := disk_cells hM.blk
  clear hG hM
  go_enter Try.func13, Try.ntmps13
  go_wp2_with (go_at_call 33; refine hnone.mono ?_; rintro e w' ⟨rfl, rfl⟩)
  go_ret
  exact ⟨rfl, rfl⟩
theorem changes_disk (h : Holds w base p S m) : Calls Try.prog 14 #[.pointer (some ⟨p, 0, none⟩)] w fun e w' => e = .returned (.int .i64 S.ch) ∧ w = w' := by
  obtain ⟨hG, fb, lb, sv, rv, hM⟩ := h
  have hnone := none_disk hG hM
  obtain ⟨_, _, _, _, _, _, _, _, c8⟩ := disk_cells hM.blk
  clear hG hM
  go_enter Try.func14, Try.ntmps14
  go_wp2_with (go_at_call 33; refine hnone.mono ?_; rintro e w' ⟨rfl, rfl⟩)
  go_ret
  exact ⟨rfl, rfl⟩
set_option maxHeartbeats 400000 in
theorem fuse_disk (h : Holds w base p S m) (n : Int) (hn : n ≤ 9223372036854775807) : Calls Try.prog 29 #[.pointer (some ⟨p, 0, none⟩), .int .i64 n] w fun e w' => e = .returned (.tuple #[]) ∧ Holds w' base p (S.setFuse n) m ∧ Below base w w' := by
  have hbp := h.lt
  obtain ⟨hG, fb, lb, sv, rv, hM⟩ := h
  have hnone := none_disk hG hM
  have f4 := free_block (j := 4) hM.blk
  have HB := Lib.hid hM.blk
  obtain ⟨_, _, _, _, c4, _⟩ := disk_cells hM.blk
  have HM := Lib.hid hM
  have HG := Lib.hid hG
  clear hG hM
  go_enter Try.func29, Try.ntmps29
  go_wp2_with (go_at_call 33; refine hnone.mono ?_; rintro e w' ⟨rfl, rfl⟩)
  go_end0
  have hT : DiskTo w p (S.setFuse n) fb lb sv (w.setCell ⟨p, 4, none⟩ (.int .i64 (max n (-1)))) := (DiskTo.refl HB.out).set 4 _ rfl
  refine ⟨rfl, ⟨{ HG.out with fu1 := by simp only [DS.setFuse]; omega, fu2 := by simp only [DS.setFuse]; omega }, fb, lb, sv, rv, HM.out.disk hT.1 ⟨rfl, rfl, rfl, rfl, rfl⟩ hT.2⟩, below_grown hT.1 (by omega) (fun k e => by cases e; exact hbp.1)⟩
set_option maxHeartbeats 1000000 in
theorem lay_disk (h : Holds w base p S m) (n e : Int) (hn : n ≤ 9223372036854775807) : Calls Try.prog 19 #[.pointer (some ⟨p, 0, none⟩), .int .i64 n, .int .i64 e] w (StepP w base p (S.lay n e) m) := by
  have hbp := h.lt
  have H := Lib.hid h
  obtain ⟨hG, fb, lb, sv, rv, hM⟩ := h
  have hnone := none_disk hG hM
  have HM := Lib.hid hM
  have HG := Lib.hid hG
  by_cases hbad : n < 0 ∨ (e ≠ 5 ∧ e ≠ 9)
  · have hS : Hid (S.lay n e = (2, S)) := Lib.hid (by unfold DS.lay; rw [if_pos hbad])
    clear hG hM
    by_cases h0 : n < 0
    · clear hbad
      go_enter Try.func19, Try.ntmps19
      go_wp2_with (go_at_call 33; refine hnone.mono ?_; rintro e w' ⟨rfl, rfl⟩)
      go_ret
      rw [hS.out]
      exact ⟨rfl, H.out, Below.refl _ _⟩
    · have hb := hbad.resolve_left h0
      have q5 : (e != 5) = true := by simpa using hb.1
      have q9 : (e != 9) = true := by simpa using hb.2
      clear hbad hb
      go_enter Try.func19, Try.ntmps19
      go_wp2_with (go_at_call 33; refine hnone.mono ?_; rintro e w' ⟨rfl, rfl⟩)
      go_ret
      rw [hS.out]
      exact ⟨rfl, H.out, Below.refl _ _⟩
  · have hS : Hid (S.lay n e = (0, { S with fa := n, fc := e })) := Lib.hid (by unfold DS.lay; rw [if_neg hbad])
    have h0 : ¬ n < 0 := fun h => hbad (.inl h)
    have h59 : e = 5 ∨ e = 9 := by
      by_cases h5 : e = 5
      · exact .inl h5
      · by_cases h9 : e = 9
        · exact .inr h9
        · exact absurd (.inr ⟨h5, h9⟩) hbad
    have f5 := free_block (j := 5) hM.blk
    have f6 := free_block (j := 6) hM.blk
    have HB := Lib.hid hM.blk
    obtain ⟨_, _, _, _, _, c5, c6, _⟩ := disk_cells hM.blk
    clear hG hM hbad
    rcases h59 with rfl | rfl
    all_goals
      go_enter Try.func19, Try.ntmps19
      go_wp2_with (go_at_call 33; refine hnone.mono ?_; rintro e w' ⟨rfl, rfl⟩)
      go_ret
      rw [hS.out]
    · have hT : DiskTo w p { S with fa := n, fc := 5 } fb lb sv ((w.setCell ⟨p, 5, none⟩ (.int .i64 n)).setCell ⟨p, 6, none⟩ (.int .i64 5)) := ((DiskTo.refl HB.out).set (S2 := { S with fa := n }) 5 _ rfl).set 6 _ rfl
      exact ⟨rfl, ⟨{ HG.out with fa1 := by show (0 : Int) ≤ n; omega, fa2 := hn, fc := .inr (.inl rfl) }, fb, lb, sv, rv, HM.out.disk hT.1 ⟨rfl, rfl, rfl, rfl, rfl⟩ hT.2⟩, below_grown hT.1 (by omega) (fun k e => by cases e; exact hbp.1)⟩
    · have hT : DiskTo w p { S with fa := n, fc := 9 } fb lb sv ((w.setCell ⟨p, 5, none⟩ (.int .i64 n)).setCell ⟨p, 6, none⟩ (.int .i64 9)) := ((DiskTo.refl HB.out).set (S2 := { S with fa := n }) 5 _ rfl).set 6 _ rfl
      exact ⟨rfl, ⟨{ HG.out with fa1 := by show (0 : Int) ≤ n; omega, fa2 := hn, fc := .inr (.inr rfl) }, fb, lb, sv, rv, HM.out.disk hT.1 ⟨rfl, rfl, rfl, rfl, rfl⟩ hT.2⟩, below_grown hT.1 (by omega) (fun k e => by cases e; exact hbp.1)⟩
end
end Go.Proofs.Ytcemfpbkaahcmaa
