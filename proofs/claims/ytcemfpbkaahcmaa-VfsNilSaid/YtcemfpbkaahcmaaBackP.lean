/- Plain facts: what is there behind a loss of power, and behind a second one. -/
import Derived.Test.YtcemfpbkaahcmaaKnownP
namespace Go.Proofs.Ytcemfpbkaahcmaa
set_option linter.unusedVariables false

/-- Every name that is, was or will be there may be. -/
structure MayS (S : DS) : Prop where
  D : ∀ p ∈ S.D, mayB p.1 = true
  L : ∀ p ∈ S.L, mayB p.1 = true
  es : ∀ e ∈ S.es, (e.kind = 0 → mayB e.name = true) ∧ (e.kind = 4 → mayB e.to = true)
section
variable {S S' : DS} {m : Nat}
theorem MayS.same (h : MayS S) (hD : S'.D = S.D) (hL : S'.L = S.L) (he : S'.es = S.es) : MayS S' := ⟨by rw [hD]; exact h.D, by rw [hL]; exact h.L, by rw [he]; exact h.es⟩
theorem MayS.files (h : MayS S) (hs : SameFiles S S') : MayS S' := h.same hs.D hs.L hs.es
theorem MayS.next (h : MayS S) : MayS S.next.2 := h.files (next_same S)
theorem MayS.set (h : MayS S) (k : Nat) (f : Fl) : MayS (S.setFile k f) := h.same rfl rfl rfl
theorem app_may {e : En} {d : Dir} (hd : ∀ p ∈ d, mayB p.1 = true) (h0 : e.kind = 0 → mayB e.name = true) (h4 : e.kind = 4 → mayB e.to = true) : ∀ p ∈ e.app d, mayB p.1 = true := fun p hp => by
  unfold En.app at hp
  split at hp
  · rename_i hk
    rcases mem_put.1 hp with rfl | ⟨h, _⟩
    · exact h0 hk
    · exact hd p h
  · split at hp
    · rename_i hk
      split at hp
      · rcases mem_put.1 hp with rfl | ⟨h, _⟩
        · exact h4 hk
        · exact hd p (mem_del.1 h).1
      · exact hd p hp
    · split at hp
      · exact hd p (mem_del.1 hp).1
      · exact hd p hp
theorem MayS.enter (h : MayS S) (e : En) (h0 : e.kind = 0 → mayB e.name = true) (h4 : e.kind = 4 → mayB e.to = true) : MayS (S.enter e).2 := by
  unfold DS.enter
  split
  · exact h
  · split
    · refine ⟨app_may h.next.D h0 h4, h.next.L, fun x hx => ?_⟩
      rcases List.mem_append.1 hx with hx | hx
      · exact h.next.es x hx
      · obtain rfl : x = e := by simpa using hx
        exact ⟨h0, h4⟩
    · exact h.next
theorem MayS.make (h : MayS S) (nm : Str) (k : Nat) : MayS (S.make nm k).2 := by
  unfold DS.make
  split
  · exact h
  · split
    · exact h
    · rename_i h1 h2
      split
      · exact h
      · refine MayS.enter (S := { S with fl := upd S.fl k (some ⟨[], 0⟩) }) (h.same rfl rfl rfl) ⟨0, nm, [], k⟩ (fun _ => ?_) (fun e => absurd (show (0 : Nat) = 4 from e) (by omega))
        exact (find_six (by omega : S.find nm true = 6)).2.1
theorem MayS.append (h : MayS S) (nm : Str) (x : List UInt8) : MayS (S.append nm x).2 := by
  unfold DS.append
  split
  · exact h
  · split
    · exact h
    · split
      · exact h
      · split
        · exact h.next
        · exact h.next.set _ _
theorem MayS.sync (h : MayS S) (nm : Str) : MayS (S.sync nm).2 := by
  unfold DS.sync
  split
  · exact h
  · split
    · exact h
    · split
      · exact h.next.set _ _
      · exact h.next
theorem MayS.cut (h : MayS S) (nm : Str) (n : Int) : MayS (S.cut nm n).2 := by
  unfold DS.cut
  split
  · exact h
  · split
    · exact h
    · split
      · exact h
      · split
        · exact h.next.set _ _
        · exact h.next
theorem MayS.rename (h : MayS S) (nm to : Str) : MayS (S.rename nm to).2 := by
  unfold DS.rename
  split
  · exact h
  · rename_i h1
    refine h.enter _ (fun e => absurd (show (4 : Nat) = 0 from e) (by omega)) (fun _ => ?_)
    exact (find_zero (Decidable.not_not.1 h1)).1
theorem MayS.remove (h : MayS S) (nm : Str) : MayS (S.remove nm).2 := by
  unfold DS.remove
  split
  · exact h
  · exact h.enter _ (fun e => absurd (show (5 : Nat) = 0 from e) (by omega)) (fun e => absurd (show (5 : Nat) = 4 from e) (by omega))
theorem MayS.syncDir (h : MayS S) : MayS S.syncDir.2 := by
  unfold DS.syncDir
  split
  · exact h
  · split
    · exact ⟨h.next.D, h.next.D, fun e he => by simp at he⟩
    · exact h.next
theorem MayS.lay (h : MayS S) (n e : Int) : MayS (S.lay n e).2 := by
  unfold DS.lay
  split
  · exact h
  · exact h.same rfl rfl rfl
theorem MayS.fuse (h : MayS S) (n : Int) : MayS (S.setFuse n) := h.same rfl rfl rfl
theorem MayS.new (cap : Nat) : MayS (newS cap) := ⟨fun p hp => by simp [newS, freshS] at hp, fun p hp => by simp [newS, freshS] at hp, fun e he => by simp [newS, freshS] at he⟩
theorem redo_may : ∀ (es : List En) (ps : List Int) (d : Dir), (∀ p ∈ d, mayB p.1 = true) → (∀ e ∈ es, (e.kind = 0 → mayB e.name = true) ∧ (e.kind = 4 → mayB e.to = true)) → ∀ p ∈ redo d es ps, mayB p.1 = true
  | [], _, _, hd, _ => hd
  | e :: r, ps, d, hd, he => by
    unfold redo
    refine redo_may r ps.tail _ ?_ (fun x hx => he x (by simp [hx]))
    split
    · exact app_may hd (he e (by simp)).1 (he e (by simp)).2
    · exact hd
theorem keep_names (fl : Nat → Option Fl) : ∀ (d : Dir) (ps : List Int), (keep fl d ps).map (·.1) = d.map (·.1)
  | [], _ => rfl
  | p :: r, ps => by
    unfold keep
    rw [List.map_cons, List.map_cons, keep_names fl r]
theorem view_names (S : DS) : S.view.map (·.1) = S.D.map (·.1) := by simp [DS.view]
theorem Fresh.names {c : Nat} {l : List (Str × List UInt8)} (h : Fresh S c l) : S.D.map (·.1) = l.map (·.1) := by
  have := congrArg (List.map (·.1)) h.view
  rw [view_names] at this
  rw [this, List.map_map]
  rfl
theorem MayS.crashed (h : MayS S) {ps : List Int} (hc : Crashed S ps S') : MayS S' := by
  have hn : ∀ p ∈ S'.D, mayB p.1 = true := fun p hp => by
    have h1 : p.1 ∈ S'.D.map (·.1) := List.mem_map_of_mem hp
    rw [Fresh.names hc, keep_names] at h1
    obtain ⟨q, hq, e⟩ := List.mem_map.1 h1
    rw [← e]
    exact redo_may _ _ _ h.L h.es q hq
  exact ⟨hn, by rw [hc.lst]; exact hn, by rw [hc.es]; intro e he; simp at he⟩
/-- A file of a disk on which all lasts. -/
theorem Fresh.at_ {c : Nat} {l : List (Str × List UInt8)} (h : Fresh S c l) {q : Str × Nat} (hq : q ∈ S.D) : ∃ pr ∈ l, q.1 = pr.1 ∧ S.fl q.2 = some ⟨pr.2, pr.2.length⟩ := by
  have h1 : (q.1, (S.fl q.2).map fun f => (f.b, f.n)) ∈ S.view := List.mem_map.2 ⟨q, hq, rfl⟩
  rw [h.view] at h1
  obtain ⟨pr, hpr, e⟩ := List.mem_map.1 h1
  obtain ⟨e1, e2⟩ := Prod.mk.inj e
  obtain ⟨f, hf, hfe⟩ := Option.map_eq_some_iff.1 e2.symm
  obtain ⟨b, n⟩ := f
  obtain ⟨e3, e4⟩ := Prod.mk.inj hfe
  simp only at e3 e4
  subst e3 e4
  exact ⟨pr, hpr, e1.symm, hf⟩
theorem Fresh.has {c : Nat} {l : List (Str × List UInt8)} (h : Fresh S c l) {pr : Str × List UInt8} (hp : pr ∈ l) : ∃ k, (pr.1, k) ∈ S.D ∧ S.fl k = some ⟨pr.2, pr.2.length⟩ := by
  have h1 : (pr.1, some (pr.2, pr.2.length)) ∈ S.view := by rw [h.view]; exact List.mem_map.2 ⟨pr, hp, rfl⟩
  obtain ⟨q, hq, e⟩ := List.mem_map.1 h1
  obtain ⟨e1, e2⟩ := Prod.mk.inj e
  obtain ⟨f, hf, hfe⟩ := Option.map_eq_some_iff.1 e2
  obtain ⟨b, n⟩ := f
  obtain ⟨e3, e4⟩ := Prod.mk.inj hfe
  simp only at e3 e4
  refine ⟨q.2, by rw [← e1]; exact hq, by rw [hf, e3, e4]⟩
theorem fresh_reads (hG : Good S m) {s : Str} {k : Nat} {b : List UInt8} {n : Nat} (hs : mayB s = true) (hq : (s, k) ∈ S.D) (hf : S.fl k = some ⟨b, n⟩) : S.find s true = 0 ∧ S.fileOf s = ⟨b, n⟩ := by
  have hl := mem_look hG.okD hq
  exact ⟨by simp [DS.find, hs, hl], fileOf_eq hl hf⟩
theorem keep_fresh (fl : Nat → Option Fl) : ∀ (d : Dir) (l : List (Str × List UInt8)) (ps : List Int), (d.map fun p => (p.1, (fl p.2).map fun f => (f.b, f.n))) = l.map (fun p => (p.1, some (p.2, p.2.length))) → keep fl d ps = l
  | [], l, ps, h => by
    cases l with
    | nil => rfl
    | cons x r => simp at h
  | p :: r, l, ps, h => by
    cases l with
    | nil => simp at h
    | cons x t =>
      rw [List.map_cons, List.map_cons] at h
      obtain ⟨h1, h2⟩ := List.cons.inj h
      obtain ⟨e1, e2⟩ := Prod.mk.inj h1
      obtain ⟨f, hf, hfe⟩ := Option.map_eq_some_iff.1 e2
      obtain ⟨b, n⟩ := f
      obtain ⟨e3, e4⟩ := Prod.mk.inj hfe
      simp only at e3 e4
      unfold keep
      have hk : keepF ((fl p.2).getD ⟨[], 0⟩) ps = x.2 ∧ keepR ((fl p.2).getD ⟨[], 0⟩) ps = ps := by
        rw [hf, Option.getD_some]
        unfold keepF keepR
        rw [if_neg (by show ¬ n < b.length; rw [e4, e3]; omega), if_neg (by show ¬ n < b.length; rw [e4, e3]; omega)]
        exact ⟨e3, rfl⟩
      rw [hk.1, hk.2, keep_fresh fl r t ps h2, e1]
/-- A second loss of power takes nothing. -/
theorem fresh_crashed {c : Nat} {l : List (Str × List UInt8)} {ps : List Int} (h : Fresh S c l) (hc : Crashed S ps S') : Fresh S' S.cap l := by
  unfold Crashed at hc
  rw [h.es, h.lst] at hc
  have e : keep S.fl (redo S.D [] ps) (ps.drop ([] : List En).length) = l := keep_fresh S.fl S.D l ps h.view
  rwa [e] at hc
/-- Two disks with the same files, all of which last. -/
structure Twin (S T : DS) (x : Str × Int) : Prop where
  len : x.1.length ≤ 32
  f1 : S.find x.1 true = 0
  f2 : T.find x.1 true = 0
  same : ∃ b, S.fileOf x.1 = ⟨b, b.length⟩ ∧ T.fileOf x.1 = ⟨b, b.length⟩ ∧ x.2 = (b.length : Int) ∧ b.length ≤ 16777216
theorem twin_of {T : DS} {c c' m' : Nat} {l : List (Str × List UInt8)} (hS : Fresh S c l) (hT : Fresh T c' l) (gS : Good S m) (gT : Good T m') (hM : MayS S) : ∀ q ∈ S.D, Twin S T (q.1, (((S.fl q.2).getD ⟨[], 0⟩).b.length : Int)) := fun q hq => by
  obtain ⟨pr, hp, e, hf⟩ := hS.at_ hq
  obtain ⟨k, hk, hf2⟩ := hT.has hp
  have hmay := hM.D q hq
  obtain ⟨a1, a2⟩ := fresh_reads gS (k := q.2) hmay hq hf
  obtain ⟨b1, b2⟩ := fresh_reads gT (s := q.1) (k := k) hmay (by rw [e]; exact hk) hf2
  refine ⟨mayB_le hmay, a1, b1, pr.2, a2, b2, by rw [hf]; rfl, ?_⟩
  have h1 := (gS.las _ _ hf).2
  have h2 := gS.cap2
  simp only at h1
  omega
theorem twin_len {T : DS} {c c' : Nat} {l : List (Str × List UInt8)} (hS : Fresh S c l) (hT : Fresh T c' l) : S.D.length = T.D.length := by
  have h1 := congrArg List.length hS.names
  have h2 := congrArg List.length hT.names
  simp only [List.length_map] at h1 h2
  omega
/-! ### behind Sync and SyncDir -/
theorem keep_mem {fl : Nat → Option Fl} {s : Str} {k : Nat} {b : List UInt8} (hf : fl k = some ⟨b, b.length⟩) : ∀ (d : Dir) (ps : List Int), (s, k) ∈ d → (s, b) ∈ keep fl d ps
  | [], _, h => by simp at h
  | p :: r, ps, h => by
    unfold keep
    rcases List.mem_cons.1 h with rfl | h
    · refine List.mem_cons.2 (.inl ?_)
      rw [hf]
      simp [keepF]
    · exact List.mem_cons.2 (.inr (keep_mem hf r _ h))
/-- A file that lasts, in a directory that lasts. -/
structure Lasting (S : DS) (nm : Str) (b : List UInt8) : Prop where
  may : mayB nm = true
  lst : S.L = S.D
  es : S.es = []
  file : ∃ k, (nm, k) ∈ S.D ∧ S.fl k = some ⟨b, b.length⟩
theorem Lasting.reads {nm : Str} {b : List UInt8} (h : Lasting S nm b) (hG : Good S m) : S.readS nm = b := by
  obtain ⟨k, h1, h2⟩ := h.file
  obtain ⟨a1, a2⟩ := fresh_reads hG h.may h1 h2
  unfold DS.readS
  rw [if_pos a1, a2]
theorem Lasting.crashed {nm : Str} {b : List UInt8} {ps : List Int} (h : Lasting S nm b) (hc : Crashed S ps S') (hG : Good S' m) : S'.readS nm = b := by
  obtain ⟨k, h1, h2⟩ := h.file
  unfold Crashed at hc
  rw [h.es, h.lst] at hc
  obtain ⟨k', h3, h4⟩ := hc.has (keep_mem h2 (redo S.D [] ps) (ps.drop ([] : List En).length) h1)
  obtain ⟨a1, a2⟩ := fresh_reads hG h.may h3 h4
  unfold DS.readS
  rw [if_pos a1, a2]
theorem sync_lasts {nm : Str} (hG : Good S m) (h : (S.sync nm).1 = 0) : mayB nm = true ∧ ∃ b k, (nm, k) ∈ (S.sync nm).2.D ∧ (S.sync nm).2.fl k = some ⟨b, b.length⟩ := by
  unfold DS.sync at h ⊢
  split at h
  · omega
  · rename_i h1
    rw [if_neg h1]
    obtain ⟨_, hmay, k, hl⟩ := find_zero (Decidable.not_not.1 h1)
    refine ⟨hmay, ?_⟩
    split at h
    · omega
    · rename_i h2
      rw [if_neg h2]
      split at h
      · rename_i h3
        rw [if_pos h3]
        refine ⟨(S.fileOf nm).b, k, ?_, ?_⟩
        · show (nm, k) ∈ S.next.2.D
          rw [(next_same S).D]
          exact look_mem hl
        · show upd _ (S.numOf nm) _ k = _
          rw [numOf_eq hl, upd_same]
      · rename_i h3
        exact absurd h h3
theorem syncDir_lasts {nm : Str} {b : List UInt8} {k : Nat} (hm : mayB nm = true) (h1 : (nm, k) ∈ S.D) (h2 : S.fl k = some ⟨b, b.length⟩) (h : S.syncDir.1 = 0) : Lasting S.syncDir.2 nm b := by
  unfold DS.syncDir at h ⊢
  split at h
  · omega
  · rename_i h3
    rw [if_neg h3]
    split at h
    · rename_i h4
      rw [if_pos h4]
      exact ⟨hm, rfl, rfl, k, by show (nm, k) ∈ S.next.2.D; rw [(next_same S).D]; exact h1, by show S.next.2.fl k = _; rw [(next_same S).fl]; exact h2⟩
    · rename_i h4
      exact absurd h h4
end
end Go.Proofs.Ytcemfpbkaahcmaa
