/- Contract: a new file. -/
import Derived.Test.YtcemfpbkaahcmaaOps
namespace Go.Proofs.Ytcemfpbkaahcmaa
open Go.RowKit Go.Shelf
set_option linter.unusedVariables false

section
variable {w w' : World} {base p : Nat} {S : DS} {fb lb m : Nat} {sv : Value} {rv : Nat → Value}
theorem Mem.fresh (h : Mem w base p S fb lb sv rv m) : S.fl w.heap.size = none := by
  cases e : S.fl w.heap.size with
  | none => rfl
  | some f => have := h.fil.lt e; omega
theorem mem_new (h : Mem w base p S fb lb sv rv m) : Mem (w.alloc (.cells #[.slice none 0 0, .int .i64 0] 71)) base p { S with fl := upd S.fl w.heap.size (some ⟨[], 0⟩) } fb lb sv (upd rv w.heap.size (.slice none 0 0)) m := by
  have h1 := h.alloc (.cells #[.slice none 0 0, .int .i64 0] 71)
  have hb := h.baseLe
  have hne : ∀ j f, S.fl j = some f → j ≠ w.heap.size := fun j f hj => by have := h.fil.lt hj; omega
  exact { h1 with
    fil := by
      refine ⟨fun j f hj => ?_, fun j f hj => ?_, fun j f hj => ?_, fun j f j' f' g hj hj' hg hg' => ?_⟩
      · simp only [upd] at hj
        split at hj
        · omega
        · exact h.fil.low j f hj
      · simp only [upd] at hj ⊢
        split at hj
        · rename_i e; subst e; cases hj; rw [if_pos rfl]; exact heap_alloc_new _ _
        · rename_i e; rw [if_neg e]; exact h1.fil.blk j f hj
      · simp only [upd] at hj ⊢
        split at hj
        · rename_i e; subst e; cases hj; rw [if_pos rfl]; exact World.ownsRow_nil _ _ _ _
        · rename_i e; rw [if_neg e]; exact h1.fil.row j f hj
      · simp only [upd] at hj hj' hg hg'
        by_cases e : j = w.heap.size
        · rw [if_pos e] at hg; simp [Value.ownBlock] at hg
        · by_cases e' : j' = w.heap.size
          · rw [if_pos e'] at hg'; simp [Value.ownBlock] at hg'
          · rw [if_neg e] at hj hg
            rw [if_neg e'] at hj' hg'
            exact h.fil.sep j f j' f' g hj hj' hg hg' }
theorem new_good {k : Nat} (hG : Good S m) (hk : S.fl k = none) : Good { S with fl := upd S.fl k (some ⟨[], 0⟩) } m := by
  have hs : ∀ j, (S.fl j).isSome = true → (upd S.fl k (some ⟨[], 0⟩) j).isSome = true := fun j hj => by
    simp only [upd]
    split
    · rfl
    · exact hj
  exact { hG with
    domD := fun q hq => hs _ (hG.domD q hq), domL := fun q hq => hs _ (hG.domL q hq)
    nmE := fun e he => by obtain ⟨a, b, c, d⟩ := hG.nmE e he; exact ⟨a, b, c, fun h0 => hs _ (d h0)⟩
    las := fun j fj hj => by
      simp only [upd] at hj
      split at hj
      · cases hj; exact ⟨Nat.le_refl _, Nat.zero_le _⟩
      · exact hG.las j fj hj }

set_option maxHeartbeats 1000000 in
theorem make_any (h : Holds w base p S m) (hm : m ≤ 1073741824) (nm : Str) (hn : nm.length ≤ maxLen) :
    Calls Try.prog 21 #[.pointer (some ⟨p, 0, none⟩), strV nm] w (StepP w base p (S.make nm w.heap.size) (m + 1)) := by
  have hbp := h.lt
  have hbase : base ≤ w.heap.size := by omega
  have H := Lib.hid h
  obtain ⟨hG, fb, lb, sv, rv, hM⟩ := h
  by_cases hf : S.find nm true = 0
  · obtain ⟨_, hmay, k, hl⟩ := find_zero hf
    have hfind := find_ok hG hM nm hn k hmay hl
    have hS : Hid (S.make nm w.heap.size = (11, S)) := Lib.hid (by unfold DS.make; rw [if_pos hf])
    clear hM hG hf hl hmay
    go_enter Try.func21, Try.ntmps21
    go_wp2_with (go_at_call 40; refine hfind.mono ?_; rintro e w' ⟨rfl, rfl⟩)
    go_ret
    rw [hS.out]
    exact StepP.no H.out (Below.refl _ _) (World.grownBy.refl _ _) rfl
  · have hfind := find_no hG hM nm hn true hf
    by_cases h6 : S.find nm true = 6
    · obtain ⟨_, hmay, hl⟩ := find_six h6
      rw [h6] at hfind
      obtain ⟨_, c1, _⟩ := disk_cells hM.blk
      have hfiles := hM.files
      by_cases hbig : 64 ≤ S.D.length
      · have hS : Hid (S.make nm w.heap.size = (5, S)) := Lib.hid (by unfold DS.make; rw [if_neg hf, if_neg (fun h => h h6), if_pos hbig])
        have hq : (64 : Int) ≤ (S.D.length : Int) := by omega
        clear hM hG hf hl hmay h6 hbig
        go_enter Try.func21, Try.ntmps21
        go_wp2_with (first
          | (go_at_call 40; refine hfind.mono ?_; rintro e w' ⟨rfl, rfl⟩)
          | (at_len; refine wpList_len_own _ rfl _ 49 rfl 9 68 Try.underlying49 ptrR fb m (toD S.D) rfl hfiles ?_; rw [toD_size]))
        go_ret
        rw [hS.out]
        exact StepP.no H.out (Below.refl _ _) (World.grownBy.refl _ _) rfl
      · have hS : Hid (S.make nm w.heap.size = ({ S with fl := upd S.fl w.heap.size (some ⟨[], 0⟩) } : DS).enter ⟨0, nm, [], w.heap.size⟩) := Lib.hid (by unfold DS.make; rw [if_neg hf, if_neg (fun h => h h6), if_neg hbig])
        have hq : ¬ (64 : Int) ≤ (S.D.length : Int) := by omega
        have hk := hM.fresh
        have hG0 := new_good hG hk
        have hM0 := mem_new hM
        have hF : Fits { S with fl := upd S.fl w.heap.size (some ⟨[], 0⟩) } ⟨0, nm, [], w.heap.size⟩ :=
          ⟨mayB_le hmay, by simp, .inl rfl, fun _ => ⟨by simp [upd_same], fun q hq e => by have h1 := hG.domD q hq; rw [e] at h1; simp only at h1; rw [hk] at h1; cases h1⟩, fun h => by simp at h⟩
        have hen := enter_any hG0 hM0 hm hF
        rw [show enQ ⟨0, nm, [], w.heap.size⟩ = some ⟨w.heap.size, 0, none⟩ from rfl] at hen
        clear hM hG hf hl hmay h6 hbig hk hG0 hM0 hF
        unfold strV at hfind hen ⊢
        go_enter Try.func21, Try.ntmps21
        go_wp2_with (first
          | (go_at_call 40; refine hfind.mono ?_; rintro e w' ⟨rfl, rfl⟩)
          | (at_len; refine wpList_len_own _ rfl _ 49 rfl 9 68 Try.underlying49 ptrR fb m (toD S.D) rfl hfiles ?_; rw [toD_size])
          | (go_at_call 46; refine hen.mono ?_; rintro e w' hQ; have HQ := Lib.hid hQ; obtain ⟨rfl, _, _⟩ := hQ))
        go_ret
        rw [hS.out]
        exact HQ.out.later ((Below.refl _ _).alloc hbase _)
    · have h2 : S.find nm true = 2 := by rcases find_cases S nm true with h | h | h; exact absurd h hf; exact h; exact absurd h h6
      have hS : Hid (S.make nm w.heap.size = (2, S)) := Lib.hid (by unfold DS.make; rw [if_neg hf, if_pos h6, h2])
      rw [h2] at hfind
      clear hM hG hf h6 h2
      go_enter Try.func21, Try.ntmps21
      go_wp2_with (go_at_call 40; refine hfind.mono ?_; rintro e w' ⟨rfl, rfl⟩)
      go_ret
      rw [hS.out]
      exact StepP.no H.out (Below.refl _ _) (World.grownBy.refl _ _) rfl
end
end Go.Proofs.Ytcemfpbkaahcmaa
