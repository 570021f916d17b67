/- Contract: bytes come to a file's end. -/
import Derived.Test.YtcemfpbkaahcmaaAppendDo
namespace Go.Proofs.Ytcemfpbkaahcmaa
open Go.RowKit Go.Shelf
set_option linter.unusedVariables false

section
variable {w : World} {base p : Nat} {S : DS} {fb lb m : Nat} {sv : Value} {rv : Nat → Value}
/-- A file's row is appended to, and then the file is written. -/
theorem mem_appended {w' : World} {k : Nat} {f : Fl} {x : List UInt8} (h : Mem w base p S fb lb sv rv m) (hk : S.fl k = some f) (hQ : AppQ w base k f.n (rv k) f.b x w') :
    ∃ rv', Mem w' base p (S.setFile k ⟨f.b ++ x, f.n⟩) fb lb sv rv' m ∧ ∀ i, (rv' i).ownBlock = (rv i).ownBlock ∨ (rv' i).ownBlock = some w.heap.size ∨ (i = k ∧ (rv' i).ownBlock = (rv k).ownBlock) := by
  obtain ⟨v', w1, hg, hown, hat, hT⟩ := hQ
  have hrow := h.fil.row k f hk
  have hblk := h.fil.blk k f hk
  -- nothing but the file's row is written
  have hoff : ∀ g, (rv k).ownBlock = some g → ∃ cur, w.heap[g]? = some (.cells cur 5 (0, 0)) := fun g hg' => by
    rcases hrow.2 with ⟨h1, _⟩ | ⟨g', cap, cur, h1, _, h2, _⟩
    · rw [h1] at hg'; simp [Value.ownBlock] at hg'
    · rw [h1] at hg'
      simp only [Value.ownBlock, Option.some.injEq] at hg'
      subst hg'
      exact ⟨cur, h2⟩
  have hkeep : ∀ (j : Nat) (cs : Array Value) (t : TypeId), t ≠ 5 → w.heap[j]? = some (.cells cs t (0, 0)) → w1.heap[j]? = some (.cells cs t (0, 0)) := fun j cs t ht hj =>
    (hg.block j (lt_of_block hj) (fun e => by obtain ⟨cur, hc⟩ := hoff j e.symm; exact ne_types hj hc ht rfl)).trans hj
  have hdirs : ∀ (b n : Nat) (d : Dir), DirAt w b n d → DirAt w1 b n d := fun b n d hd => hd.kept hg (fun e => by obtain ⟨cur, hc⟩ := hoff b e.symm; exact ne_map_cells hd hc rfl)
  have hblk1 := hkeep _ _ _ (by decide) hblk
  refine ⟨upd rv k v', ?_, fun i => by
    by_cases e : i = k
    · subst e
      rw [upd_same]
      rcases hat with h | h
      · exact .inl h
      · exact .inr (.inl h)
    · rw [upd_other _ _ e]; exact .inl rfl⟩
  exact {
    low := h.low
    blk := hT.other hblk1 (hkeep _ _ _ (by decide) h.blk) (by decide)
    fbl := h.fbl
    lbl := h.lbl
    ne := h.ne
    files := (hdirs _ _ _ h.files).kept hT.1 (fun e => by injection e with e; exact ne_map_cells (hdirs _ _ _ h.files) hblk1 e)
    last := (hdirs _ _ _ h.last).kept hT.1 (fun e => by injection e with e; exact ne_map_cells (hdirs _ _ _ h.last) hblk1 e)
    since := hT.row (by decide) hblk1 (h.since.kept hg (by
      cases e : (rv k).ownBlock with
      | none => cases sv.ownBlock <;> simp
      | some g => obtain ⟨cur, hc⟩ := hoff g e; exact row_ne h.since (not_cells_of_type hc (by decide))))
    fil := by
      refine ⟨fun j fj hj => ?_, fun j fj hj => ?_, fun j fj hj => ?_, fun j fj j' fj' g hj hj' hgj hgj' => ?_⟩
      · simp only [DS.setFile, upd] at hj
        split at hj
        · rename_i e; subst e; exact h.fil.low j f hk
        · exact h.fil.low j fj hj
      · simp only [DS.setFile, upd] at hj ⊢
        split at hj
        · rename_i e; subst e; cases hj; rw [if_pos rfl]; exact hT.2
        · rename_i e
          rw [if_neg e]
          exact (hT.1.block j (lt_of_block (hkeep _ _ _ (by decide) (h.fil.blk j fj hj))) (fun e' => by injection e' with e'; exact e e')).trans (hkeep _ _ _ (by decide) (h.fil.blk j fj hj))
      · simp only [DS.setFile, upd] at hj ⊢
        split at hj
        · rename_i e; subst e; cases hj; rw [if_pos rfl]
          exact hT.row (by decide) hblk1 hown
        · rename_i e
          rw [if_neg e]
          exact hT.row (by decide) hblk1 ((h.fil.row j fj hj).kept hg (by
            cases e1 : (rv j).ownBlock with
            | none => exact .inl rfl
            | some g => exact .inr (fun e2 => e (h.fil.sep j fj k f g hj hk e1 e2.symm))))
      · have hv' : ∀ i fi, S.fl i = some fi → v'.ownBlock = some g → (rv i).ownBlock = some g → i = k := fun i fi hi h1 h2 => by
          rcases hat with e | e
          · rw [e] at h1; exact h.fil.sep i fi k f g hi hk h2 h1
          · rw [e] at h1
            injection h1 with h1
            have := (World.ownsRow.lt (h.fil.row i fi hi) g h2).2
            omega
        simp only [DS.setFile, upd] at hj hj' hgj hgj'
        by_cases e : j = k
        · by_cases e' : j' = k
          · rw [e, e']
          · rw [if_pos e] at hgj
            rw [if_neg e'] at hj' hgj'
            exact absurd (hv' j' fj' hj' hgj hgj') e'
        · rw [if_neg e] at hj hgj
          by_cases e' : j' = k
          · rw [if_pos e'] at hgj'
            exact absurd (hv' j fj hj hgj' hgj) e
          · rw [if_neg e'] at hj' hgj'
            exact h.fil.sep j fj j' fj' g hj hj' hgj hgj' }
theorem appQ_below {w' : World} {k : Nat} {f : Fl} {x : List UInt8} (h : Mem w base p S fb lb sv rv m) (hk : S.fl k = some f) (hQ : AppQ w base k f.n (rv k) f.b x w') : Below base w w' := by
  obtain ⟨v', w1, hg, hown, hat, hT⟩ := hQ
  have h1 : Below base w w1 := below_grown hg h.baseLe (fun g hg' => ((h.fil.row k f hk).lt g hg').1)
  exact h1.trans (below_grown hT.1 (Nat.le_trans h.baseLe hg.size) (fun g e => by cases e; exact h.fil.low k f hk))
/-- A disk in memory, none of whose files lies in that row. -/
def HoldsOff (w : World) (base p : Nat) (S : DS) (m g : Nat) : Prop :=
  Good S m ∧ ∃ fb lb sv rv, Mem w base p S fb lb sv rv m ∧ ∀ k f, S.fl k = some f → (rv k).ownBlock ≠ some g
theorem HoldsOff.holds {g : Nat} (h : HoldsOff w base p S m g) : Holds w base p S m := by
  obtain ⟨hG, fb, lb, sv, rv, hM, _⟩ := h
  exact ⟨hG, fb, lb, sv, rv, hM⟩
def StepO (w : World) (base p : Nat) (r : Int × DS) (m g : Nat) (e : Ending) (w' : World) : Prop :=
  e = .returned (.int .i64 r.1) ∧ HoldsOff w' base p r.2 m g ∧ Below base w w' ∧ w'.heap[g]? = w.heap[g]?
/-- A row that is no file's stays as it is. -/
theorem appQ_off {w' : World} {k g : Nat} {f : Fl} {x : List UInt8} (h : Mem w base p S fb lb sv rv m) (hk : S.fl k = some f) (hQ : AppQ w base k f.n (rv k) f.b x w') (hgl : g < w.heap.size) (hgk : g ≠ k) (hoff : (rv k).ownBlock ≠ some g) : w'.heap[g]? = w.heap[g]? := by
  obtain ⟨v', w1, g1, hown, hat, hT⟩ := hQ
  have a1 := g1.block g hgl (fun e => hoff e.symm)
  have a2 := hT.1.block g (Nat.lt_of_lt_of_le hgl g1.size) (fun e => by injection e with e; exact hgk e)
  exact a2.trans a1
/-- A file has room for what is appended. -/
theorem append_room (hG : Good S m) {k : Nat} {nm : Str} {f : Fl} {x : List UInt8} (hl : S.D.look nm = some k) (hk : S.fl k = some f) (hr : ¬ S.room < (x.length : Int)) : f.b.length + x.length ≤ S.cap := by
  have h1 := mem_sumL (fl := S.fl) (look_mem hl)
  have h2 : lenOf S.fl k = f.b.length := by simp only [lenOf, hk]
  rw [h2] at h1
  have h3 := (hG.las k f hk).2
  unfold DS.room at hr
  omega

set_option maxHeartbeats 1000000 in
theorem append_change (hG : Good S m) (hM : Mem w base p S fb lb sv rv m) (hm : m ≤ 1073741824) {nm : Str} {k bb bf lo hi c' : Nat} {f : Fl} {x : List UInt8} {A' : Option Addr} (hf : S.find nm true = 0) (hl : S.D.look nm = some k) (hk : S.fl k = some f) (hroom : ¬ S.room < (x.length : Int))
    (hbox : w.heap[bf]? = some (.cells #[.pointer (some ⟨k, 0, none⟩)] 68 (0, 0))) (hbox0 : w.heap[bb]? = some (.cells #[.slice A' x.length c'] 33 (0, 0)))
    (hr : Rd w lo hi A' x) (hhi : hi ≤ w.heap.size) (hlo : ∀ g, lo ≤ g → g < hi → g ≠ p) (hxc : x.length ≤ c') (hcm : c' ≤ maxLen) {g : Nat} (hgl : g < w.heap.size) (hgp : g ≠ p) (hgk : ∀ k f, S.fl k = some f → g ≠ k) (hoff : ∀ k f, S.fl k = some f → (rv k).ownBlock ≠ some g) :
    Calls Try.prog 41 #[.pointer (some ⟨p, 0, none⟩), .int .i64 1, .func (.func 48) #[] #[.pointer (some ⟨bb, 0, none⟩), .pointer (some ⟨bf, 0, none⟩)]] w (StepO w base p (S.append nm x) (m + 1) g) := by
  by_cases hd : S.dead = true
  · refine (change_dead hM.blk hd 1 _).mono ?_
    rintro e w' ⟨rfl, rfl⟩
    have hS : S.append nm x = (8, S) := by unfold DS.append; rw [if_neg (fun h => h hf), if_neg hroom, if_pos hd]
    rw [hS]
    exact ⟨rfl, ⟨hG.mono (by omega), fb, lb, sv, rv, hM.mono (by omega), hoff⟩, Below.refl _ _, rfl⟩
  · have hd' : S.dead = false := by simpa using hd
    have hgD : ∀ (w2 : World), DiskTo w p S.next.2 fb lb sv w2 → w2.heap[g]? = w.heap[g]? := fun w2 hT => hT.1.block g hgl (fun e => by injection e with e; exact hgp e)
    have hfit := append_room hG hl hk hroom
    have hcap := hG.cap2
    have hmet := next_met hG
    have hS5 : S.next.1 = 5 → S.append nm x = (5, S.next.2) := fun h5 => by unfold DS.append; rw [if_neg (fun h => h hf), if_neg hroom, if_neg hd, if_pos h5]
    have hSn : ¬ S.next.1 = 5 → S.append nm x = (S.next.1, S.next.2.setFile k ⟨f.b ++ x.take (if S.next.1 = 9 then x.length / 2 else x.length), f.n⟩) := fun h5 => by
      unfold DS.append; rw [if_neg (fun h => h hf), if_neg hroom, if_neg hd, if_neg h5, fileOf_eq hl hk, numOf_eq hl]
    have hch := change_live hG hm hM.blk hd' 1 48 #[.pointer (some ⟨bb, 0, none⟩), .pointer (some ⟨bf, 0, none⟩)] (enters_of Try.func48 (by kernel_rfl) rfl) (fun w' => HoldsOff w' base p (S.append nm x).2 (m + 1) g ∧ Below base w w' ∧ w'.heap[g]? = w.heap[g]?)
      (fun hyes w2 hT => by
        have hz : ¬ S.next.1 = 5 := fun h5 => by
          rcases hyes with h | h
          · omega
          · simp [leaves, h5] at h
        have hM2 := hM.met hT
        have hk2 : S.next.2.fl k = some f := by rw [(next_same S).fl]; exact hk
        have hx2 := (hT.1.block _ (lt_of_block hbox) (fun e => by injection e with e; exact ne_types hbox hM.blk (by decide) e)).trans hbox
        have hy2 := (hT.1.block _ (lt_of_block hbox0) (fun e => by injection e with e; exact ne_types hbox0 hM.blk (by decide) e)).trans hbox0
        have hb2 := hM2.fil.blk k f hk2
        have hr2 := hM2.fil.row k f hk2
        have hrd2 : Rd w2 lo hi A' x := hr.keep (fun q h1 h2 => World.cell?_of_block (hT.1.block q.block (by omega) (fun e => by injection e with e; exact hlo _ h1 h2 e)))
        refine (append_do S.next.1 hb2 hr2 hx2 hy2 hrd2 hxc hcm (by omega) hM2.baseLe).mono ?_
        rintro e w3 ⟨rfl, hQ⟩
        refine ⟨rfl, ?_, ?_, (appQ_off hM2 hk2 hQ (Nat.lt_of_lt_of_le hgl hT.1.size) (hgk k f hk) (hoff k f hk)).trans (hgD w2 hT)⟩
        · rw [hSn hz]
          have hG2 := next_good hG
          obtain ⟨rv', hM3, hrv⟩ := mem_appended hM2 hk2 hQ
          refine ⟨setFile_good hG2 hk2 ?_ ?_, fb, lb, sv, rv', hM3.mono (by omega), ?_⟩
          rotate_left 2
          · intro i fi hi e
            have hsz : w.heap.size ≤ w2.heap.size := hT.1.size
            by_cases hik : i = k
            · subst hik
              rcases hrv i with h | h | h
              · rw [h] at e; exact hoff i f hk e
              · rw [h] at e; injection e with e; omega
              · rw [h.2] at e; exact hoff i f hk e
            · have hi' : S.fl i = some fi := by
                have : (S.next.2.setFile k ⟨f.b ++ x.take (if S.next.1 = 9 then x.length / 2 else x.length), f.n⟩).fl i = S.next.2.fl i := upd_other _ _ hik
                rw [this, (next_same S).fl] at hi
                exact hi
              rcases hrv i with h | h | h
              · rw [h] at e; exact hoff i fi hi' e
              · rw [h] at e; injection e with e; omega
              · exact hik h.1
          · have := (hG.las k f hk).1
            dsimp only
            rw [List.length_append]
            omega
          · dsimp only
            rw [List.length_append, List.length_take, (next_same S).cap]
            omega
        · exact ((Below.refl _ w).grown hT.1 hM.baseLe (fun j e => by cases e; exact hM.low)).trans (appQ_below hM2 hk2 hQ))
      (fun hno w2 hT => by
        have hz : S.next.1 = 5 := by
          have h1 : ¬ S.next.1 = 0 := fun e => hno (.inl e)
          have h2 : ¬ leaves 1 S.next.1 = true := fun e => hno (.inr e)
          simp [leaves] at h2
          exact h2
        rw [hS5 hz]
        exact ⟨⟨next_good hG, fb, lb, sv, rv, (hM.met hT).mono (by omega), fun k f h => hoff k f (by rw [← (next_same S).fl]; exact h)⟩, (Below.refl _ w).grown hT.1 hM.baseLe (fun j e => by cases e; exact hM.low), hgD w2 hT⟩)
    have hS : (S.append nm x).1 = S.next.1 := by
      by_cases h5 : S.next.1 = 5
      · rw [hS5 h5, h5]
      · rw [hSn h5]
    refine hch.mono ?_
    rintro e w' ⟨rfl, hQ⟩
    exact ⟨by rw [hS], hQ.1, hQ.2.1, hQ.2.2⟩
end
end Go.Proofs.Ytcemfpbkaahcmaa
