/- What always holds of a gadget: what is justified is closed, and comes of the anchor. -/
import Derived.Test.YthlbpjkopkicbaaFgChG
namespace Go.Proofs.Ythlbpjkopkicbaa
set_option linter.unusedVariables false
set_option maxRecDepth 100000

/-- What holds while links of a list wait to be followed. -/
structure Pend (a : Pt) (S : FgS) (Pn : List Lk) : Prop where
  anc : stN S.stands a = 2
  le2 : ∀ p, stN S.stands p ≤ 2
  pen : ∀ y ∈ Pn, y ∈ S.told ∧ 1 ≤ stN S.stands y.s
  clo : ∀ y ∈ S.told, 1 ≤ stN S.stands y.s → y ∈ Pn ∨ (1 ≤ stN S.stands y.t ∧ (near y = true → stN S.stands y.s = 2))
  fro : ∀ p, 1 ≤ stN S.stands p → p = a ∨ ∃ y ∈ S.told, y.t = p ∧ 1 ≤ stN S.stands y.s
  wai : ∀ y ∈ S.told, stN S.stands y.s = 0 → ∃ L, S.waiting y.s = some L ∧ y ∈ L
  wsd : ∀ p L, S.waiting p = some L → ∀ y ∈ L, y ∈ S.told ∧ y.s = p
  fin : ∀ p, stN S.stands p = 2 → p = a ∨ ∃ y ∈ S.told, y.s = p ∧ near y = true
variable {a : Pt}
theorem stepB_st (S : FgS) (y : Lk) (z : Pt) : stN (stepB S y).stands z = if stN S.stands y.t = 0 ∧ z = y.t then 1 else stN S.stands z := by
  unfold stepB
  by_cases h : stN S.stands y.t = 0
  · rw [if_pos h]
    show stN (setSt S.stands y.t (some 1)) z = _
    rw [stN_set]
    by_cases hz : z = y.t
    · rw [if_pos hz, if_pos ⟨h, hz⟩]
    · rw [if_neg hz, if_neg (fun e => hz e.2)]
  · rw [if_neg h, if_neg (fun e => h e.1)]
theorem stepB_wt (S : FgS) (y : Lk) (z : Pt) : (stepB S y).waiting z = if stN S.stands y.t = 0 ∧ z = y.t then none else S.waiting z := by
  unfold stepB
  by_cases h : stN S.stands y.t = 0
  · rw [if_pos h]
    show setWt S.waiting y.t none z = _
    unfold setWt
    by_cases hz : z = y.t
    · rw [if_pos hz, if_pos ⟨h, hz⟩]
    · rw [if_neg hz, if_neg (fun e => hz e.2)]
  · rw [if_neg h, if_neg (fun e => h e.1)]
theorem stepB_tl (S : FgS) (y : Lk) : (stepB S y).told = S.told ∧ (stepB S y).links = S.links := by
  unfold stepB
  split <;> exact ⟨rfl, rfl⟩
theorem pend_step {S : FgS} {l : Lk} {R : List Lk} (h : Pend a S (l :: R)) : Pend a (stepB (stepA S l) l) (R ++ stepN (stepA S l) l) := by
  obtain ⟨hl1, hl2⟩ := h.pen l (by simp)
  have hA : ∀ z, stN (stepA S l).stands z = if near l = true ∧ z = l.s then 2 else stN S.stands z := stepA_st S l
  obtain ⟨wA, tA, lA⟩ := stepA_wt S l
  -- one that stands stays so
  have g1 : ∀ z, stN S.stands z ≤ stN (stepA S l).stands z := fun z => by rw [hA]; split <;> have := h.le2 z <;> omega
  have z1 : ∀ z, stN (stepA S l).stands z = 0 ↔ stN S.stands z = 0 := fun z => by
    rw [hA]
    split
    · next e => rw [e.2]; omega
    · exact Iff.rfl
  have hB : ∀ z, stN (stepB (stepA S l) l).stands z = if stN (stepA S l).stands l.t = 0 ∧ z = l.t then 1 else stN (stepA S l).stands z := stepB_st _ l
  have g2 : ∀ z, stN (stepA S l).stands z ≤ stN (stepB (stepA S l) l).stands z := fun z => by
    rw [hB]; split
    · next e => rw [e.2]; omega
    · exact Nat.le_refl _
  have tB : (stepB (stepA S l) l).told = S.told := (stepB_tl _ l).1.trans tA
  have wB : ∀ z, (stepB (stepA S l) l).waiting z = if stN (stepA S l).stands l.t = 0 ∧ z = l.t then none else S.waiting z := fun z => by rw [stepB_wt, wA]
  have ht1 : 1 ≤ stN (stepB (stepA S l) l).stands l.t := by
    rw [hB]
    by_cases e : stN (stepA S l).stands l.t = 0
    · rw [if_pos ⟨e, rfl⟩]; omega
    · rw [if_neg (fun x => e x.1)]; omega
  have hN : stepN (stepA S l) l = if stN (stepA S l).stands l.t = 0 then (S.waiting l.t).getD [] else [] := by unfold stepN; rw [wA]
  have mN : ∀ y ∈ stepN (stepA S l) l, stN S.stands l.t = 0 ∧ y ∈ S.told ∧ y.s = l.t := fun y hy => by
    rw [hN] at hy
    by_cases e : stN (stepA S l).stands l.t = 0
    · rw [if_pos e] at hy
      cases hw : S.waiting l.t with
      | none => rw [hw] at hy; cases hy
      | some L =>
        rw [hw] at hy
        exact ⟨(z1 _).1 e, h.wsd _ L hw y hy⟩
    · rw [if_neg e] at hy; cases hy
  refine { anc := ?_, le2 := fun p => ?_, pen := fun y hy => ?_, clo := fun y hy hs => ?_, fro := fun p hp => ?_, wai := fun y hy hs => ?_, wsd := fun p L hw y hy => ?_, fin := fun p hp => ?_ }
  · have := g1 a; have := g2 a; have := h.anc
    have h3 : stN (stepB (stepA S l) l).stands a ≤ 2 := by
      rw [hB]; split
      · omega
      · rw [hA]; split <;> omega
    omega
  · rw [hB]; split
    · omega
    · rw [hA]; split
      · omega
      · exact h.le2 p
  · rw [tB]
    rcases List.mem_append.1 hy with e | e
    · obtain ⟨q1, q2⟩ := h.pen y (List.mem_cons_of_mem _ e)
      exact ⟨q1, by have := g1 y.s; have := g2 y.s; omega⟩
    · obtain ⟨q1, q2, q3⟩ := mN y e
      exact ⟨q2, by rw [q3]; exact ht1⟩
  · rw [tB] at hy
    by_cases e0 : stN S.stands y.s = 0
    · -- its source stands newly: it is among those that waited
      have e1 : stN (stepA S l).stands y.s = 0 := (z1 _).2 e0
      have e2 : stN (stepA S l).stands l.t = 0 ∧ y.s = l.t := by
        rw [hB] at hs
        split at hs
        · next e => exact e
        · omega
      obtain ⟨L, q1, q2⟩ := h.wai y hy e0
      left
      refine List.mem_append_right _ ?_
      rw [hN, if_pos e2.1, ← e2.2, q1]
      exact q2
    · rcases h.clo y hy (by omega) with e | ⟨q1, q2⟩
      · rcases List.mem_cons.1 e with rfl | e
        · right
          refine ⟨ht1, fun hn => ?_⟩
          have h2 : stN (stepA S y).stands y.s = 2 := by rw [hA, if_pos ⟨hn, rfl⟩]
          have := g2 y.s
          have h3 : stN (stepB (stepA S y) y).stands y.s ≤ 2 := by
            rw [hB]; split
            · omega
            · omega
          omega
        · exact .inl (List.mem_append_left _ e)
      · right
        refine ⟨by have := g1 y.t; have := g2 y.t; omega, fun hn => ?_⟩
        have h2 := q2 hn
        have := g1 y.s; have := g2 y.s
        have h3 : stN (stepB (stepA S l) l).stands y.s ≤ 2 := by
          rw [hB]; split
          · omega
          · rw [hA]; split
            · omega
            · exact h.le2 _
        omega
  · rw [tB]
    by_cases e0 : stN S.stands p = 0
    · have e1 : stN (stepA S l).stands p = 0 := (z1 _).2 e0
      have e2 : stN (stepA S l).stands l.t = 0 ∧ p = l.t := by
        rw [hB] at hp
        split at hp
        · next e => exact e
        · omega
      exact .inr ⟨l, hl1, e2.2.symm, by have := g1 l.s; have := g2 l.s; omega⟩
    · rcases h.fro p (by omega) with e | ⟨y, q1, q2, q3⟩
      · exact .inl e
      · exact .inr ⟨y, q1, q2, by have := g1 y.s; have := g2 y.s; omega⟩
  · rw [tB] at hy
    have e0 : stN S.stands y.s = 0 := by have := g1 y.s; have := g2 y.s; omega
    obtain ⟨L, q1, q2⟩ := h.wai y hy e0
    refine ⟨L, ?_, q2⟩
    rw [wB, if_neg, q1]
    rintro ⟨e, e2⟩
    rw [e2] at hs
    omega
  · rw [tB]
    rw [wB] at hw
    split at hw
    · cases hw
    · exact h.wsd p L hw y hy
  · rw [tB]
    rw [hB] at hp
    split at hp
    · omega
    · rw [hA] at hp
      split at hp
      · next e => exact .inr ⟨l, hl1, e.2.symm, e.1⟩
      · exact h.fin p hp
theorem pend_perm {S : FgS} {L L' : List Lk} (h : Pend a S L) (e : ∀ y, y ∈ L ↔ y ∈ L') : Pend a S L' :=
  { h with pen := fun y hy => h.pen y ((e y).2 hy), clo := fun y hy hs => (h.clo y hy hs).imp (e y).1 id }
theorem pend_round : ∀ (L : List Lk) (S : FgS) (acc : List Lk), Pend a S (L ++ acc) → Pend a (L.foldl stepS (S, acc)).1 (L.foldl stepS (S, acc)).2
  | [], S, acc, h => h
  | l :: R, S, acc, h => by
    have h1 := pend_step (l := l) (R := R ++ acc) h
    rw [List.append_assoc] at h1
    exact pend_round R _ _ h1
theorem round_tl : ∀ (L : List Lk) (S : FgS) (acc : List Lk), (L.foldl stepS (S, acc)).1.told = S.told ∧ (L.foldl stepS (S, acc)).1.links = S.links
  | [], S, acc => ⟨rfl, rfl⟩
  | l :: R, S, acc => by
    obtain ⟨h1, h2⟩ := round_tl R (stepS (S, acc) l).1 (stepS (S, acc) l).2
    obtain ⟨wA, tA, lA⟩ := stepA_wt S l
    exact ⟨h1.trans ((stepB_tl _ l).1.trans tA), h2.trans ((stepB_tl _ l).2.trans lA)⟩
theorem pend_follow {S : FgS} {L : List Lk} {S' : FgS} (hf : Follows S L S') : Pend a S L → Pend a S' [] ∧ S'.told = S.told ∧ S'.links = S.links := by
  induction hf with
  | done S L h =>
    intro hp
    have h1 := pend_round L S [] (by rw [List.append_nil]; exact hp)
    obtain ⟨t1, t2⟩ := round_tl L S []
    have e : (L.foldl stepS (S, [])).2 = [] := h
    rw [e] at h1
    exact ⟨h1, t1, t2⟩
  | more S L S' h h' ih =>
    intro hp
    have h1 := pend_round L S [] (by rw [List.append_nil]; exact hp)
    obtain ⟨t1, t2⟩ := round_tl L S []
    obtain ⟨q1, q2, q3⟩ := ih h1
    exact ⟨q1, q2.trans t1, q3.trans t2⟩
/-- What always holds. -/
structure Inv (a : Pt) (S : FgS) : Prop where
  pend : Pend a S []
  same : S.links = S.told
  may : ∀ y ∈ S.told, mayL y = true
  nod : S.told.Nodup
theorem inv_start (a : Pt) : Inv a (S0 a) where
  pend := {
    anc := by show Option.getD (if a = a then some 2 else none) 0 = 2; rw [if_pos rfl]; rfl
    le2 := fun p => by show Option.getD (if p = a then some 2 else none) 0 ≤ 2; split <;> simp
    pen := fun y hy => by cases hy
    clo := fun y hy => by cases hy
    fro := fun p hp => by
      by_cases e : p = a
      · exact .inl e
      · have : stN (S0 a).stands p = 0 := by show Option.getD (if p = a then some 2 else none) 0 = 0; rw [if_neg e]; rfl
        omega
    wai := fun y hy => by cases hy
    wsd := fun p L hw => by cases hw
    fin := fun p hp => by
      by_cases e : p = a
      · exact .inl e
      · have : stN (S0 a).stands p = 0 := by show Option.getD (if p = a then some 2 else none) 0 = 0; rw [if_neg e]; rfl
        omega }
  same := rfl
  may y hy := by cases hy
  nod := List.nodup_nil
theorem inv_puts {S S' : FgS} {x : Lk} (h : Inv a S) (hm : mayL x = true) (hx : x ∉ S.told) (hp : Puts S x S') : Inv a S' ∧ S'.told = S.told ++ [x] := by
  have hp' := h.pend
  have nod : (S.told ++ [x]).Nodup := List.nodup_append.2 ⟨h.nod, by simp, fun y hy z hz e => by rw [List.mem_singleton.1 hz] at e; rw [e] at hy; exact hx hy⟩
  have may : ∀ y ∈ S.told ++ [x], mayL y = true := fun y hy => by
    rcases List.mem_append.1 hy with e | e
    · exact h.may y e
    · rw [List.mem_singleton.1 e]; exact hm
  rcases hp with ⟨e0, rfl⟩ | ⟨e0, hf⟩
  · refine ⟨⟨{ anc := hp'.anc, le2 := hp'.le2, pen := (fun y hy => by cases hy), clo := fun y hy hs => ?_, fro := fun p hpp => ?_, wai := fun y hy hs => ?_, wsd := fun p L hw y hy => ?_, fin := fun p hpp => ?_ }, ?_, may, nod⟩, rfl⟩
    · rcases List.mem_append.1 hy with e | e
      · exact (hp'.clo y e hs).imp (fun q => by cases q) id
      · rw [List.mem_singleton.1 e] at hs
        have hs' : 1 ≤ stN S.stands x.s := hs
        omega
    · exact (hp'.fro p hpp).imp id (fun ⟨y, q1, q2⟩ => ⟨y, List.mem_append_left _ q1, q2⟩)
    · show ∃ L, (if y.s = x.s then some ((S.waiting x.s).getD [] ++ [x]) else S.waiting y.s) = some L ∧ y ∈ L
      rcases List.mem_append.1 hy with e | e
      · obtain ⟨L, q1, q2⟩ := hp'.wai y e hs
        by_cases es : y.s = x.s
        · rw [if_pos es, ← es, q1]
          exact ⟨_, rfl, List.mem_append_left _ q2⟩
        · rw [if_neg es]
          exact ⟨L, q1, q2⟩
      · rw [List.mem_singleton.1 e, if_pos rfl]
        exact ⟨_, rfl, by simp⟩
    · have hw' : (if p = x.s then some ((S.waiting x.s).getD [] ++ [x]) else S.waiting p) = some L := hw
      by_cases es : p = x.s
      · rw [if_pos es] at hw'
        injection hw' with hw'
        rw [← hw'] at hy
        rcases List.mem_append.1 hy with e | e
        · cases hL : S.waiting x.s with
          | none => rw [hL] at e; cases e
          | some L0 =>
            rw [hL] at e
            obtain ⟨q1, q2⟩ := hp'.wsd _ L0 hL y e
            exact ⟨List.mem_append_left _ q1, by rw [q2, es]⟩
        · rw [List.mem_singleton.1 e]
          exact ⟨List.mem_append_right _ (by simp), es.symm⟩
      · rw [if_neg es] at hw'
        obtain ⟨q1, q2⟩ := hp'.wsd p L hw' y hy
        exact ⟨List.mem_append_left _ q1, q2⟩
    · exact (hp'.fin p hpp).imp id (fun ⟨y, q1, q2⟩ => ⟨y, List.mem_append_left _ q1, q2⟩)
    · show S.links ++ [x] = S.told ++ [x]
      rw [h.same]
  · have h1 : Pend a (putA S x) [x] := by
      refine { anc := hp'.anc, le2 := hp'.le2, pen := fun y hy => ?_, clo := fun y hy hs => ?_, fro := fun p hpp => ?_, wai := fun y hy hs => ?_, wsd := fun p L hw y hy => ?_, fin := fun p hpp => ?_ }
      · rw [List.mem_singleton.1 hy]
        exact ⟨List.mem_append_right _ (by simp), by show 1 ≤ stN S.stands x.s; omega⟩
      · rcases List.mem_append.1 hy with e | e
        · exact (hp'.clo y e hs).imp (fun q => by cases q) id
        · exact .inl e
      · exact (hp'.fro p hpp).imp id (fun ⟨y, q1, q2⟩ => ⟨y, List.mem_append_left _ q1, q2⟩)
      · rcases List.mem_append.1 hy with e | e
        · exact hp'.wai y e hs
        · rw [List.mem_singleton.1 e] at hs
          exact absurd hs e0
      · obtain ⟨q1, q2⟩ := hp'.wsd p L hw y hy
        exact ⟨List.mem_append_left _ q1, q2⟩
      · exact (hp'.fin p hpp).imp id (fun ⟨y, q1, q2⟩ => ⟨y, List.mem_append_left _ q1, q2⟩)
    obtain ⟨q1, q2, q3⟩ := pend_follow hf h1
    exact ⟨⟨q1, by rw [q2, q3]; show S.links ++ [x] = S.told ++ [x]; rw [h.same], by rw [q2]; exact may, by rw [q2]; exact nod⟩, q2⟩
/-- Who is final, and justified. -/
theorem Inv.final {S : FgS} (h : Inv a S) (p : Pt) : stN S.stands p = 2 ↔ p = a ∨ ∃ y ∈ S.told, y.s = p ∧ near y = true ∧ 1 ≤ stN S.stands p := by
  constructor
  · intro hp
    exact (h.pend.fin p hp).imp id (fun ⟨y, q1, q2, q3⟩ => ⟨y, q1, q2, q3, by omega⟩)
  · rintro (rfl | ⟨y, q1, rfl, q3, q4⟩)
    · exact h.pend.anc
    · rcases h.pend.clo y q1 q4 with e | ⟨_, e⟩
      · cases e
      · exact e q3
theorem Inv.closed {S : FgS} (h : Inv a S) {y : Lk} (hy : y ∈ S.told) (hs : 1 ≤ stN S.stands y.s) : 1 ≤ stN S.stands y.t := by
  rcases h.pend.clo y hy hs with e | ⟨e, _⟩
  · cases e
  · exact e
end Go.Proofs.Ythlbpjkopkicbaa
