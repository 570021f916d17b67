/- Contracts: a change of the directory, asked and done. -/
import Derived.Test.YtcemfpbkaahcmaaAppendDo
namespace Go.Proofs.Ytcemfpbkaahcmaa
open Go.RowKit Go.Shelf
set_option linter.unusedVariables false

/-- An entry as a value. -/
def enA (e : En) : Value := .agg (enV e).toArray
section
variable {w : World} {fb n : Nat} {d : Dir}
/-- A directory is written, and no other block. -/
def DirTo (w : World) (fb n : Nat) (d : Dir) (w' : World) : Prop := w.grownBy w' (some fb) ∧ DirAt w' fb n d
theorem DirAt.put {w' : World} {b k : Nat} {s : Str} (h : w'.ownsMap Try.prog 9 ptrR b n ((toD d).put (.string s) (datE k))) : DirAt w' b n (d.put s k) := by rw [toD_put] at h; exact h
theorem DirAt.del {w' : World} {b : Nat} {s : Str} (h : w'.ownsMap Try.prog 9 ptrR b n ((toD d).del (.string s))) : DirAt w' b n (d.del s) := by rw [toD_del] at h; exact h

/-- The pointer of an entry. -/
def enP (e : En) : Value := if e.kind = 0 then .pointer (some ⟨e.made, 0, none⟩) else .pointer none
theorem enP_one (e : En) : (∃ a, enP e = .pointer a) := by unfold enP; split <;> exact ⟨_, rfl⟩
set_option maxHeartbeats 1000000 in
theorem can_go (kd : Nat) (nm to : Str) (q : Option Addr) (h : DirAt w fb n d) (hs : nm.length ≤ maxLen) :
    Calls Try.prog 53 #[.agg #[.int .i64 (kd : Int), strV nm, strV to, .pointer q], .map (some fb)] w fun e' w' => e' = .returned (.bool ((d.look nm).isSome != (kd == 0))) ∧ Below w.heap.size w w' := by
  have hlook := dir_look (h.alloc (.cells #[.int .i64 (kd : Int), strV nm, strV to, .pointer q] 82)) nm hs
  have hlt := h.lt
  have hb : Below w.heap.size w (w.alloc (.cells #[.int .i64 (kd : Int), strV nm, strV to, .pointer q] 82)) := (Below.refl _ _).alloc (Nat.le_refl _) _
  clear h
  unfold strV at hlook hb ⊢
  cases hl : d.look nm with
  | none =>
    rw [hl] at hlook
    simp only [ptrOf] at hlook
    go_enter Try.func53, Try.ntmps53
    go_wp2
    go_ret
    refine ⟨?_, hb⟩
    have e : (((kd : Nat) : Int) == 0) = (kd == 0) := by rw [Bool.eq_iff_iff]; simp
    simp [e]
  | some k =>
    rw [hl] at hlook
    simp only [ptrOf] at hlook
    go_enter Try.func53, Try.ntmps53
    go_wp2
    go_ret
    refine ⟨?_, hb⟩
    have e : (((kd : Nat) : Int) == 0) = (kd == 0) := by rw [Bool.eq_iff_iff]; simp
    simp [e]

set_option maxHeartbeats 1000000 in
theorem apply_make (nm to : Str) (k : Nat) (h : DirAt w fb n d) (hn : n ≤ 1073741824) (hs : nm.length ≤ maxLen) :
    Calls Try.prog 54 #[.agg #[.int .i64 0, strV nm, strV to, .pointer (some ⟨k, 0, none⟩)], .map (some fb)] w fun e' w' => e' = .returned (.tuple #[]) ∧ DirTo w fb (n + 1) (d.put nm k) w' := by
  have hown := h.alloc (.cells #[.int .i64 0, strV nm, strV to, .pointer (some ⟨k, 0, none⟩)] 82)
  have hkey := key9 nm hs
  have HG := Lib.hid (World.grownBy_alloc w (.cells #[.int .i64 0, strV nm, strV to, .pointer (some ⟨k, 0, none⟩)] 82) (some fb))
  clear h
  unfold strV at hown hkey HG ⊢
  go_enter Try.func54, Try.ntmps54
  go_wp2_with (first | (at_mapUpdate; refine wpList_mapUpdate_own _ rfl _ _ _ 49 rfl 9 68 law9 Try.underlying49 ptrR fb n _ rfl hown (by unfold maxLen; omega) _ _ _ rfl rfl hkey (datE k) [] (ptrR_mk k) ?_; intro w1 hown1 hgrow1; have HO1 := Lib.hid (DirAt.put hown1); have HG1 := Lib.hid hgrow1; clear hown1 hgrow1))
  go_end0
  exact ⟨rfl, HG.out.trans HG1.out, HO1.out⟩

set_option maxHeartbeats 1000000 in
theorem apply_remove (nm to : Str) (q : Option Addr) (h : DirAt w fb n d) (hs : nm.length ≤ maxLen) :
    Calls Try.prog 54 #[.agg #[.int .i64 5, strV nm, strV to, .pointer q], .map (some fb)] w fun e' w' => e' = .returned (.tuple #[]) ∧ DirTo w fb n (d.del nm) w' := by
  have hown := h.alloc (.cells #[.int .i64 5, strV nm, strV to, .pointer q] 82)
  have hkey := key9 nm hs
  have HG := Lib.hid (World.grownBy_alloc w (.cells #[.int .i64 5, strV nm, strV to, .pointer q] 82) (some fb))
  clear h
  unfold strV at hown hkey HG ⊢
  go_enter Try.func54, Try.ntmps54
  go_wp2_with (first | (at_delete; refine wpList_delete_own _ rfl _ _ 49 9 rfl 68 law9 Try.underlying49 ptrR fb n _ rfl hown _ _ rfl hkey ?_; intro w1 hown1 hturn1; have HO1 := Lib.hid (DirAt.del hown1); have HG1 := Lib.hid hturn1.grown; clear hown1 hturn1))
  go_end0
  exact ⟨rfl, HG.out.trans HG1.out, HO1.out⟩

set_option maxHeartbeats 1000000 in
theorem apply_rename (nm to : Str) (q : Option Addr) (k : Nat) (h : DirAt w fb n d) (hn : n ≤ 1073741824) (hs : nm.length ≤ maxLen) (ht : to.length ≤ maxLen) (hl : d.look nm = some k) :
    Calls Try.prog 54 #[.agg #[.int .i64 4, strV nm, strV to, .pointer q], .map (some fb)] w fun e' w' => e' = .returned (.tuple #[]) ∧ DirTo w fb (n + 1) ((d.del nm).put to k) w' := by
  have hown := h.alloc (.cells #[.int .i64 4, strV nm, strV to, .pointer q] 82)
  have hlook := dir_look hown nm hs
  rw [hl] at hlook
  simp only [ptrOf] at hlook
  have hkey := key9 nm hs
  have hkey2 := key9 to ht
  have HG := Lib.hid (World.grownBy_alloc w (.cells #[.int .i64 4, strV nm, strV to, .pointer q] 82) (some fb))
  have HB := Lib.hid (heap_alloc_new w (.cells #[.int .i64 4, strV nm, strV to, .pointer q] 82))
  have HL := Lib.hid h.lt
  clear h hl
  unfold strV at hown hlook hkey hkey2 HG HB ⊢
  go_enter Try.func54, Try.ntmps54
  go_wp2_with (first
    | (at_delete; refine wpList_delete_own _ rfl _ _ 49 9 rfl 68 law9 Try.underlying49 ptrR fb n _ rfl hown _ _ rfl hkey ?_; intro w1 hown1 hturn1; have ho1 := DirAt.del hown1; have HG1 := Lib.hid hturn1.grown; have cto : w1.cell? ⟨w.heap.size, 2, none⟩ = some (.string ⟨to.toArray⟩) := HG1.out.cell (a := ⟨w.heap.size, 2, none⟩) (by rw [cell_of_row _ _ _ _ _ (0, 0) HB.out]; rfl) (fun e => by injection e with e; have := HL.out; simp at e; omega); clear hown1 hturn1 hlook)
    | (at_mapUpdate; refine wpList_mapUpdate_own _ rfl _ _ _ 49 rfl 9 68 law9 Try.underlying49 ptrR fb n _ rfl ho1 (by unfold maxLen; omega) _ _ _ rfl rfl hkey2 (datE k) [] (ptrR_mk k) ?_; intro w2 hown2 hgrow2; have HO2 := Lib.hid (DirAt.put hown2); have HG2 := Lib.hid hgrow2; clear hown2 hgrow2))
  go_end0
  exact ⟨rfl, (HG.out.trans HG1.out).trans HG2.out, HO2.out⟩
end
end Go.Proofs.Ytcemfpbkaahcmaa
