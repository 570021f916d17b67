/- What a row of additions comes to, plainly: it does not hang on their order. -/
import Derived.Test.YtomfgopmgfoecaaPoFew
namespace Go.Proofs.Ytomfgopmgfoecaa
set_option linter.unusedVariables false

/-- What holds of a pool's store, plainly. -/
structure PoIn (S : PoS) : Prop where
  bal : S.bal = S.votes.map (fun x => (⟨x.h, x.k⟩ : Bt))
  nod : S.bal.Nodup
  wt : ∀ k, S.wt k = ((S.votes.filter (fun x => decide (x.k = k))).map (·.st)).sum
  pl : ∀ k, ((S.pl (.inl k)).getD []).length = (S.votes.filter (fun x => decide (x.k = k))).length
  pl0 : ∀ k, (S.pl (.inl k)).isSome = true ↔ ∃ x ∈ S.votes, x.k = k
  lnod : S.links.Nodup
  lmem : ∀ k, k ∈ S.links ↔ ∃ x ∈ S.votes, x.k = k
theorem PoIn.start : PoIn poS0 := ⟨rfl, List.nodup_nil, fun _ => rfl, fun _ => rfl, fun _ => ⟨fun h => (nomatch h), fun ⟨x, h, _⟩ => (nomatch h)⟩, List.nodup_nil, fun _ => ⟨fun h => (nomatch h), fun ⟨x, h, _⟩ => (nomatch h)⟩⟩
theorem PoIn.put {S : PoS} (h : PoIn S) (x : Sg) (hb : (⟨x.h, x.k⟩ : Bt) ∉ S.bal) : PoIn (putS S x) := by
  have hv : (putS S x).votes = S.votes ++ [x] := rfl
  have hp : ∀ k, (putS S x).pl (.inl k) = if k = x.k then some ((S.pl (.inl k)).getD [] ++ [S.votes.length]) else S.pl (.inl k) := fun k => by
    show putP S x (.inl k) = _
    unfold putP
    rw [if_neg (by intro e; cases e)]
    by_cases e : k = x.k
    · rw [if_pos e, if_pos (by rw [e])]
    · rw [if_neg e, if_neg (by intro e2; injection e2 with e2; exact e e2)]
  refine ⟨?_, ?_, fun k => ?_, fun k => ?_, fun k => ?_, ?_, fun k => ?_⟩
  · show S.bal ++ [_] = (S.votes ++ [x]).map _
    rw [List.map_append, h.bal]
    rfl
  · show (S.bal ++ [_]).Nodup
    rw [List.nodup_append]
    refine ⟨h.nod, by simp, fun a ha b hb2 e => ?_⟩
    simp only [List.mem_singleton] at hb2
    subst hb2
    exact hb (e ▸ ha)
  · show addW S.wt x.k _ k = _
    rw [hv, List.filter_append, List.map_append, List.sum_append, ← h.wt k]
    unfold addW
    by_cases e : k = x.k
    · subst e
      rw [if_pos rfl]
      simp
    · rw [if_neg e, List.filter_cons_of_neg (by simp; exact fun e2 => e e2.symm)]
      simp
  · rw [hp, hv, List.filter_append, List.length_append]
    by_cases e : k = x.k
    · subst e
      rw [if_pos rfl]
      simp [h.pl x.k]
    · rw [if_neg e, List.filter_cons_of_neg (by simp; exact fun e2 => e e2.symm)]
      simp [h.pl k]
  · rw [hp, hv]
    by_cases e : k = x.k
    · subst e
      rw [if_pos rfl]
      exact ⟨fun _ => ⟨x, by simp, rfl⟩, fun _ => rfl⟩
    · rw [if_neg e, h.pl0 k]
      constructor
      · rintro ⟨y, hy, hk⟩
        exact ⟨y, by simp [hy], hk⟩
      · rintro ⟨y, hy, hk⟩
        simp only [List.mem_append, List.mem_singleton] at hy
        rcases hy with hy | rfl
        · exact ⟨y, hy, hk⟩
        · exact absurd hk.symm e
  · show (if (S.pl (.inl x.k)).isSome = true then S.links else S.links ++ [x.k]).Nodup
    split
    · exact h.lnod
    · next hn =>
      rw [List.nodup_append]
      refine ⟨h.lnod, by simp, fun a ha b hb2 e => ?_⟩
      simp only [List.mem_singleton] at hb2
      subst hb2
      subst e
      exact hn ((h.pl0 _).2 ((h.lmem _).1 ha))
  · show k ∈ (if (S.pl (.inl x.k)).isSome = true then S.links else S.links ++ [x.k]) ↔ _
    rw [hv]
    have key : k ∈ S.links ∨ k = x.k ↔ ∃ y ∈ S.votes ++ [x], y.k = k := by
      rw [h.lmem k]
      constructor
      · rintro (⟨y, hy, hk⟩ | rfl)
        · exact ⟨y, by simp [hy], hk⟩
        · exact ⟨x, by simp, rfl⟩
      · rintro ⟨y, hy, hk⟩
        simp only [List.mem_append, List.mem_singleton] at hy
        rcases hy with hy | rfl
        · exact .inl ⟨y, hy, hk⟩
        · exact .inr hk.symm
    split
    · next hs =>
      rw [← key]
      constructor
      · exact .inl
      · rintro (hk | rfl)
        · exact hk
        · exact (h.lmem _).2 ((h.pl0 _).1 hs)
    · rw [← key]
      simp
/-- May it be added at all? -/
def accV (v : Sv) : Bool := mayVt v.n v.k.s.e v.k.t.e v.s.length && decide (1 ≤ v.st) && decide (v.st ≤ 4294967296)
/-- A pool that has been told a list of votes. -/
structure Ran (S : PoS) (M : List Sv) : Prop where
  ok : PoIn S
  mem : ∀ b, b ∈ S.bal ↔ ∃ v ∈ M, accV v = true ∧ (⟨v.h, v.k⟩ : Bt) = b
  sts : ∀ x ∈ S.votes, ∃ v ∈ M, x.h = v.h ∧ x.st = v.st
  len : S.votes.length ≤ M.length
theorem Ran.start : Ran poS0 [] := ⟨PoIn.start, fun b => ⟨fun h => (nomatch h), fun ⟨v, h, _⟩ => (nomatch h)⟩, fun x h => (nomatch h), Nat.le_refl _⟩
theorem chk_iff {S : PoS} {v : Sv} (hl : S.votes.length < 65536) : chk S v.n v.k v.s.length v.h v.st = 0 ↔ accV v = true ∧ (⟨v.h, v.k⟩ : Bt) ∉ S.bal := by
  unfold chk accV
  split
  · next h =>
    split
    · next h2 => simp [h2, h]
    · next h2 => rw [if_neg (by omega)]; simp [h2, h]
  · next h => simp only [h]; simp
theorem Ran.yes {S : PoS} {M : List Sv} (h : Ran S M) (hM : M.length < 65536) (v : Sv) (B : Option Addr) (c : Nat) (hc : chk S v.n v.k v.s.length v.h v.st = 0) : Ran (putS S (v.sg B c)) (M ++ [v]) := by
  obtain ⟨ha, hb⟩ := (chk_iff (by have := h.len; omega)).1 hc
  refine ⟨h.ok.put (v.sg B c) hb, fun b => ?_, fun x hx => ?_, ?_⟩
  · show b ∈ S.bal ++ [⟨v.h, v.k⟩] ↔ _
    rw [List.mem_append, h.mem b]
    constructor
    · rintro (⟨u, hu, h2⟩ | hb2)
      · exact ⟨u, by simp [hu], h2⟩
      · simp only [List.mem_singleton] at hb2
        exact ⟨v, by simp, ha, hb2.symm⟩
    · rintro ⟨u, hu, h2, h3⟩
      simp only [List.mem_append, List.mem_singleton] at hu
      rcases hu with hu | rfl
      · exact .inl ⟨u, hu, h2, h3⟩
      · exact .inr (by simp [h3])
  · have hx2 : x ∈ S.votes ++ [v.sg B c] := hx
    simp only [List.mem_append, List.mem_singleton] at hx2
    rcases hx2 with hx2 | rfl
    · obtain ⟨u, hu, h2⟩ := h.sts x hx2
      exact ⟨u, by simp [hu], h2⟩
    · exact ⟨v, by simp, rfl, rfl⟩
  · show (S.votes ++ [_]).length ≤ _
    have := h.len
    simp
    omega
theorem Ran.no {S : PoS} {M : List Sv} (h : Ran S M) (hM : M.length < 65536) (v : Sv) (hc : chk S v.n v.k v.s.length v.h v.st ≠ 0) : Ran S (M ++ [v]) := by
  refine ⟨h.ok, fun b => ?_, fun x hx => ?_, by have := h.len; simp; omega⟩
  · rw [h.mem b]
    constructor
    · rintro ⟨u, hu, h2⟩
      exact ⟨u, by simp [hu], h2⟩
    · rintro ⟨u, hu, h2, h3⟩
      simp only [List.mem_append, List.mem_singleton] at hu
      rcases hu with hu | rfl
      · exact ⟨u, hu, h2, h3⟩
      · have hin : (⟨u.h, u.k⟩ : Bt) ∈ S.bal := Decidable.byContradiction (fun hn => hc ((chk_iff (by have := h.len; omega)).2 ⟨h2, hn⟩))
        rw [← h3]
        exact (h.mem _).1 hin
  · obtain ⟨u, hu, h2⟩ := h.sts x hx
    exact ⟨u, by simp [hu], h2⟩
/-- Two that were told the same votes, in whatever order and however often. -/
theorem ran_same {S T : PoS} {M N : List Sv} (h : Ran S M) (k : Ran T N) (hmem : ∀ v, v ∈ M ↔ v ∈ N) (hst : ∀ v ∈ M, ∀ u ∈ M, v.h = u.h → v.st = u.st) : (∀ l, S.wt l = T.wt l) ∧ (∀ l, ((S.pl (.inl l)).getD []).length = ((T.pl (.inl l)).getD []).length) ∧ S.votes.length = T.votes.length ∧ S.links.length = T.links.length := by
  have hbal : ∀ b, b ∈ S.bal ↔ b ∈ T.bal := fun b => by
    rw [h.mem b, k.mem b]
    constructor
    · rintro ⟨v, hv, h2⟩; exact ⟨v, (hmem v).1 hv, h2⟩
    · rintro ⟨v, hv, h2⟩; exact ⟨v, (hmem v).2 hv, h2⟩
  obtain ⟨e, he⟩ : ∃ e : Sg → Bt × Nat, e = fun x => (⟨x.h, x.k⟩, x.st) := ⟨_, rfl⟩
  have nd : ∀ {R : PoS}, PoIn R → (R.votes.map e).Nodup := fun {R} hR => by
    have h1 := hR.nod
    rw [hR.bal] at h1
    rw [show (fun x : Sg => (⟨x.h, x.k⟩ : Bt)) = Prod.fst ∘ e by rw [he]; rfl, ← List.map_map] at h1
    exact List.Pairwise.of_map Prod.fst (fun a b hab e => hab (by rw [e])) h1
  have mem1 : ∀ {R Q : PoS}, PoIn R → PoIn Q → (∀ b, b ∈ R.bal → b ∈ Q.bal) → (∀ x ∈ R.votes, ∀ y ∈ Q.votes, x.h = y.h → x.st = y.st) → ∀ p, p ∈ R.votes.map e → p ∈ Q.votes.map e := fun {R Q} hR hQ hs ht p hp => by
    obtain ⟨x, hx, rfl⟩ := List.mem_map.1 hp
    have h1 : (⟨x.h, x.k⟩ : Bt) ∈ R.bal := by rw [hR.bal]; exact List.mem_map.2 ⟨x, hx, rfl⟩
    have h2 := hs _ h1
    rw [hQ.bal] at h2
    obtain ⟨y, hy, hyx⟩ := List.mem_map.1 h2
    injection hyx with e1 e2
    refine List.mem_map.2 ⟨y, hy, ?_⟩
    rw [he]
    show ((⟨y.h, y.k⟩ : Bt), y.st) = (⟨x.h, x.k⟩, x.st)
    rw [e1, e2, ht x hx y hy e1.symm]
  have hxy : ∀ x ∈ S.votes, ∀ y ∈ T.votes, x.h = y.h → x.st = y.st := fun x hx y hy hh => by
    obtain ⟨v, hv, v1, v2⟩ := h.sts x hx
    obtain ⟨u, hu, u1, u2⟩ := k.sts y hy
    rw [v2, u2]
    exact hst v hv u ((hmem u).2 hu) (by rw [← v1, ← u1, hh])
  have perm : (S.votes.map e).Perm (T.votes.map e) := (List.perm_ext_iff_of_nodup (nd h.ok) (nd k.ok)).2 (fun p => ⟨mem1 h.ok k.ok (fun b => (hbal b).1) hxy p, mem1 k.ok h.ok (fun b => (hbal b).2) (fun x hx y hy hh => (hxy y hy x hx hh.symm).symm) p⟩)
  have fil : ∀ (R : PoS) (l : Lk), (R.votes.filter (fun x => decide (x.k = l))).map e = (R.votes.map e).filter (fun p => decide (p.1.k = l)) := fun R l => by
    rw [List.filter_map]
    congr 1
    rw [he]
    rfl
  have sums : ∀ (R : PoS) (l : Lk), ((R.votes.filter (fun x => decide (x.k = l))).map (·.st)).sum = (((R.votes.map e).filter (fun p => decide (p.1.k = l))).map (·.2)).sum := fun R l => by
    rw [← fil R l, List.map_map]
    congr 2
    rw [he]
    rfl
  refine ⟨fun l => ?_, fun l => ?_, ?_, ?_⟩
  · rw [h.ok.wt, k.ok.wt, sums, sums]
    exact ((perm.filter _).map _).sum_nat
  · rw [h.ok.pl, k.ok.pl]
    have := ((perm.filter (fun p => decide (p.1.k = l)))).length_eq
    rw [← fil S l, ← fil T l, List.length_map, List.length_map] at this
    exact this
  · simpa using perm.length_eq
  · exact ((List.perm_ext_iff_of_nodup h.ok.lnod k.ok.lnod).2 (fun l => by
      rw [h.ok.lmem l, k.ok.lmem l]
      have inn : ∀ {R : PoS}, PoIn R → ((∃ x ∈ R.votes, x.k = l) ↔ ∃ b ∈ R.bal, b.k = l) := fun {R} hR => by
        rw [hR.bal]
        constructor
        · rintro ⟨x, hx, e⟩; exact ⟨_, List.mem_map.2 ⟨x, hx, rfl⟩, e⟩
        · rintro ⟨b, hb, e⟩
          obtain ⟨x, hx, rfl⟩ := List.mem_map.1 hb
          exact ⟨x, hx, e⟩
      rw [inn h.ok, inn k.ok]
      constructor
      · rintro ⟨b, hb, e⟩; exact ⟨b, (hbal b).1 hb, e⟩
      · rintro ⟨b, hb, e⟩; exact ⟨b, (hbal b).2 hb, e⟩)).length_eq
end Go.Proofs.Ytomfgopmgfoecaa
