/- Contracts: Make, Rename, Remove. -/
import Derived.Test.YtcemfpbkaahcmaaEnterDo
namespace Go.Proofs.Ytcemfpbkaahcmaa
open Go.RowKit Go.Shelf
set_option linter.unusedVariables false

theorem perm_ins (x : Str × Nat) : ∀ d : Dir, (Dir.ins x d).Perm (x :: d)
  | [] => List.Perm.refl _
  | y :: r => by
    unfold Dir.ins
    split
    · exact List.Perm.refl _
    · exact ((perm_ins x r).cons y).trans (List.Perm.swap x y r)
theorem inj_del {d : Dir} (h : (d.map (·.2)).Nodup) (s : Str) : ((Dir.del d s).map (·.2)).Nodup :=
  List.Nodup.sublist (List.Sublist.map _ List.filter_sublist) h
theorem inj_put {d : Dir} (h : (d.map (·.2)).Nodup) (s : Str) {k : Nat} (hk : ∀ p ∈ d, p.1 ≠ s → p.2 ≠ k) : ((Dir.put d s k).map (·.2)).Nodup := by
  unfold Dir.put
  refine ((perm_ins (s, k) (Dir.del d s)).map (·.2)).nodup_iff.2 ?_
  rw [List.map_cons, List.nodup_cons]
  refine ⟨fun hm => ?_, inj_del h s⟩
  obtain ⟨q, hq, e⟩ := List.mem_map.1 hm
  obtain ⟨h1, h2⟩ := mem_del.1 hq
  exact hk q h1 h2 e
theorem id_inj {d : Dir} (h : (d.map (·.2)).Nodup) {p q : Str × Nat} (hp : p ∈ d) (hq : q ∈ d) (e : p.2 = q.2) : p = q := by
  induction d with
  | nil => simp at hp
  | cons y r ih =>
    rw [List.map_cons, List.nodup_cons] at h
    rcases List.mem_cons.1 hp with rfl | hp'
    · rcases List.mem_cons.1 hq with rfl | hq'
      · rfl
      · exact absurd (List.mem_map.2 ⟨q, hq', e.symm⟩) h.1
    · rcases List.mem_cons.1 hq with rfl | hq'
      · exact absurd (List.mem_map.2 ⟨p, hp', e⟩) h.1
      · exact ih h.2 hp' hq'

/-- May a change of the directory be done here? -/
structure Fits (S : DS) (e : En) : Prop where
  nm : e.name.length ≤ 32
  to : e.to.length ≤ 32
  kind : e.kind = 0 ∨ e.kind = 4 ∨ e.kind = 5
  mkd : e.kind = 0 → (S.fl e.made).isSome = true ∧ ∀ p ∈ S.D, p.2 ≠ e.made
  ren : e.kind = 4 → ∃ k, S.D.look e.name = some k
theorem app_good {S : DS} {m : Nat} {e : En} (hG : Good S m) (hm : S.L.length + S.es.length + 1 ≤ m) (hF : Fits S e) : Good { S with D := e.app S.D, es := S.es ++ [e] } m := by
  have hmem : ∀ p ∈ e.app S.D, (∃ q ∈ S.D, q.2 = p.2) ∧ p.1.length ≤ 32 ∨ (e.kind = 0 ∧ p = (e.name, e.made)) := fun p hp => by
    unfold En.app at hp
    split at hp
    · rename_i h0
      rcases mem_put.1 hp with h | h
      · exact .inr ⟨h0, h⟩
      · exact .inl ⟨⟨p, h.1, rfl⟩, hG.nmD p h.1⟩
    · split at hp
      · split at hp
        · rename_i k hl
          rcases mem_put.1 hp with h | h
          · exact .inl ⟨⟨_, look_mem hl, by rw [h]⟩, by rw [h]; exact hF.to⟩
          · have := (mem_del.1 h.1).1
            exact .inl ⟨⟨p, this, rfl⟩, hG.nmD p this⟩
        · exact .inl ⟨⟨p, hp, rfl⟩, hG.nmD p hp⟩
      · split at hp
        · have := (mem_del.1 hp).1
          exact .inl ⟨⟨p, this, rfl⟩, hG.nmD p this⟩
        · exact .inl ⟨⟨p, hp, rfl⟩, hG.nmD p hp⟩
  refine { hG with okD := ?_, nmD := ?_, domD := ?_, inj := ?_, nmE := ?_, cnt := ?_, cnt2 := ?_ }
  · show Dir.Ok (e.app S.D)
    unfold En.app
    split
    · exact put_ok hG.okD _ _
    · split
      · split
        · exact put_ok (del_ok hG.okD _) _ _
        · exact hG.okD
      · split
        · exact del_ok hG.okD _
        · exact hG.okD
  · intro p hp
    rcases hmem p hp with ⟨_, h⟩ | ⟨_, rfl⟩
    · exact h
    · exact hF.nm
  · intro p hp
    rcases hmem p hp with ⟨⟨q, hq, h⟩, _⟩ | ⟨h0, rfl⟩
    · rw [← h]; exact hG.domD q hq
    · exact (hF.mkd h0).1
  · show ((e.app S.D).map (·.2)).Nodup
    unfold En.app
    split
    · rename_i h0
      exact inj_put hG.inj _ (fun p hp _ => (hF.mkd h0).2 p hp)
    · split
      · split
        · rename_i k hl
          refine inj_put (inj_del hG.inj _) _ (fun p hp _ e' => ?_)
          obtain ⟨h1, h2⟩ := mem_del.1 hp
          have := id_inj hG.inj h1 (look_mem hl) e'
          rw [this] at h2
          exact h2 rfl
        · exact hG.inj
      · split
        · exact inj_del hG.inj _
        · exact hG.inj
  · intro x hx
    rcases List.mem_append.1 hx with h | h
    · exact hG.nmE x h
    · obtain rfl : x = e := by simpa using h
      exact ⟨hF.nm, hF.to, hF.kind, fun h0 => (hF.mkd h0).1⟩
  · have hc := hG.cnt
    have hle : (e.app S.D).length ≤ S.D.length + 1 := by
      unfold En.app
      split
      · exact length_put_le _ _ _
      · split
        · split
          · rename_i k hl
            have h1 := length_put_le (Dir.del S.D e.name) e.to k
            have h2 := length_del_le S.D e.name
            omega
          · omega
        · split
          · have := length_del_le S.D e.name; omega
          · omega
    show (e.app S.D).length ≤ S.L.length + (S.es ++ [e]).length
    simp only [List.length_append, List.length_cons, List.length_nil]
    omega
  · show S.L.length + (S.es ++ [e]).length ≤ m
    simp only [List.length_append, List.length_cons, List.length_nil]
    omega

section
variable {w w' : World} {base p : Nat} {S : DS} {fb lb m : Nat} {sv : Value} {rv : Nat → Value}
theorem mem_entered {e : En} (h : Mem w base p S fb lb sv rv m) (hQ : EnterQ w base p S fb lb m sv (e.app S.D) (enV e) w') : ∃ sv', Mem w' base p { S with D := e.app S.D, es := S.es ++ [e] } fb lb sv' rv (m + 1) := by
  obtain ⟨w1, w2, sv', g1, hD, g2, hown, hat, g3, hb⟩ := hQ
  have off2 : ∀ g, sv.ownBlock = some g → g < w.heap.size ∧ ∃ cur, w.heap[g]? = some (.cells cur 82 (0, 0)) := fun g hg => by
    rcases h.since.2 with ⟨h1, _⟩ | ⟨g', cap, cur, h1, _, h2, _⟩
    · rw [h1] at hg; simp [Value.ownBlock] at hg
    · rw [h1] at hg
      simp only [Value.ownBlock, Option.some.injEq] at hg
      subst hg
      exact ⟨lt_of_block h2, cur, h2⟩
  have kc : ∀ (j : Nat) (cs : Array Value) (t : TypeId), t ≠ 82 → t ≠ 54 → w.heap[j]? = some (.cells cs t (0, 0)) → w'.heap[j]? = some (.cells cs t (0, 0)) := fun j cs t h1 h2 hj => by
    have a1 := (g1.block j (lt_of_block hj) (fun e => by injection e with e; exact ne_map_cells h.files hj e.symm)).trans hj
    have a2 := (g2.block j (lt_of_block a1) (fun e => by obtain ⟨_, cur, hc⟩ := off2 j e.symm; exact ne_types hj hc h1 rfl)).trans a1
    exact (g3.block j (lt_of_block a2) (fun e => by injection e with e; exact ne_types hj h.blk h2 e)).trans a2
  have hp2 : ∃ cur, w2.heap[p]? = some (.cells cur 54 (0, 0)) := by
    have a1 := (g1.block p (lt_of_block h.blk) (fun e => by injection e with e; exact ne_map_cells h.files h.blk e.symm)).trans h.blk
    exact ⟨_, (g2.block p (lt_of_block a1) (fun e => by obtain ⟨_, cur, hc⟩ := off2 p e.symm; exact ne_types h.blk hc (by decide) rfl)).trans a1⟩
  obtain ⟨cp, hp2⟩ := hp2
  have kd : ∀ (b n : Nat) (d : Dir), DirAt w1 b n d → b < w.heap.size → DirAt w' b n d := fun b n d hd hbl => by
    have a2 : DirAt w2 b n d := hd.kept g2 (fun e => by
      obtain ⟨hl, cur, hc⟩ := off2 b e.symm
      rcases Nat.decEq b fb with hne | heq
      · have hc1 := (g1.block b hl (fun e => by injection e with e; exact hne e)).trans hc
        exact ne_map_cells hd hc1 rfl
      · subst heq
        exact ne_map_cells h.files hc rfl)
    exact a2.kept g3 (fun e => by injection e with e; exact ne_map_cells a2 hp2 e)
  have hlast : DirAt w1 lb m S.L := h.last.kept g1 (fun e => by injection e with e; exact h.ne e.symm)
  refine ⟨sv', ?_⟩
  exact {
    low := h.low
    blk := hb
    fbl := h.fbl
    lbl := h.lbl
    ne := h.ne
    files := kd _ _ _ hD h.files.lt
    last := (kd _ _ _ hlast h.last.lt).mono (by omega)
    since := by
      have : w2.ownsRow base 82 4 sv' (S.es ++ [e]).length ((S.es ++ [e]).flatMap enV) := by
        simpa [List.flatMap_append] using hown
      exact this.kept g3 (row_ne this (not_cells_of_type hp2 (by decide)))
    fil := by
      refine ⟨h.fil.low, fun k f hk => kc _ _ _ (by decide) (by decide) (h.fil.blk k f hk), fun k f hk => ?_, h.fil.sep⟩
      have hr := h.fil.row k f hk
      refine ⟨hr.1, ?_⟩
      rcases hr.2 with h1 | ⟨g, cap, cur, h1, h2, h3, h4⟩
      · exact .inl h1
      · exact .inr ⟨g, cap, cur, h1, h2, kc _ _ _ (by decide) (by decide) h3, h4⟩ }
theorem enterQ_below {e : List Value} {d' : Dir} (h : Mem w base p S fb lb sv rv m) (hQ : EnterQ w base p S fb lb m sv d' e w') : Below base w w' := by
  obtain ⟨w1, w2, sv', g1, hD, g2, hown, hat, g3, hb⟩ := hQ
  have b1 := below_grown g1 h.baseLe (fun g e => by cases e; exact h.fbl)
  have b2 := below_grown g2 (Nat.le_trans h.baseLe g1.size) (fun g e => (h.since.lt g e).1)
  exact (b1.trans b2).trans (below_grown g3 (Nat.le_trans (Nat.le_trans h.baseLe g1.size) g2.size) (fun g e => by cases e; exact h.low))
end
end Go.Proofs.Ytcemfpbkaahcmaa
