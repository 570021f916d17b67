/- A pool beside the reference's one. -/
import Derived.Test.YtomfgopmgfoecaaPoRefB
namespace Go.Proofs.Ytomfgopmgfoecaa
open Go.ChangeMaps Go.MapKept Go.Maps Go.RowKit Go.ChangeShapes Go.WideShapes Go.ChangeAt
set_option linter.unusedVariables false
set_option maxRecDepth 100000

/-- What an addition leaves, with the signature's own memory. -/
def AddX (g : Nat) (F : Nat → Prop) (S : PoS) (v : Sv) (r q : Nat) (F' : Nat → Prop) (S' : PoS) (w w' : World) : Prop :=
  PoM g F' S' w' ∧ Kept F w w' ∧ (∀ k, F' k → F k ∨ w.heap.size ≤ k) ∧ (∀ k, F k → F' k) ∧ ((chk S v.n v.k v.s.length v.h v.st ≠ 0 ∧ q = chk S v.n v.k v.s.length v.h v.st ∧ r = 0 ∧ S' = S) ∨ (chk S v.n v.k v.s.length v.h v.st = 0 ∧ q = 0 ∧ r = S.wt v.k + v.st ∧ ∃ B c, S' = putS S (v.sg B c) ∧ SigP w w' F' B v.s))
theorem add_x {g : Nat} {F : Nat → Prop} {S : PoS} {w : World} (hM : PoM g F S w) (v : Sv) (A : Option Addr) (c : Nat) (hr : Rd w 0 w.heap.size A v.s) (hl : v.s.length ≤ 140737488355328) :
    Calls Try.prog 17 #[.pointer (some ⟨g, 0, none⟩), .agg (vtw v.n v.k (.slice A v.s.length c)), .agg (hhv v.h), .int .u64 (v.st : Int)] w fun e w' => ∃ (r q : Nat) (F' : Nat → Prop) (S' : PoS), e = .returned (.tuple #[.int .u64 (r : Int), .int .i64 (q : Int)]) ∧ AddX g F S v r q F' S' w w' := by
  refine (add_c hM v.n v.k A c v.s v.h v.st v.hst hr hl).mono ?_
  rintro e w' (⟨h0, h1, h2⟩ | ⟨h0, h1, A', c', F', h2, h3, h4, h5, h6⟩)
  · exact ⟨0, _, F, S, h1, hM.below h2, Kept.of_below h2, fun k e => .inl e, fun k e => e, .inl ⟨h0, rfl, rfl, rfl⟩⟩
  · exact ⟨_, 0, F', _, h1, h2, h3, h4, h5, .inr ⟨h0, rfl, rfl, A', c', rfl, h6⟩⟩
theorem AddX.drew {g : Nat} {F F' : Nat → Prop} {S S' : PoS} {v : Sv} {r q : Nat} {w w2 w' : World} (hw : w2 = w.drew) (h : AddX g F S v r q F' S' w2 w') : AddX g F S v r q F' S' w w' := by
  subst hw
  exact h
/-- Likewise of the reference's. -/
def AddR (g : Nat) (G : Nat → Prop) (V : List Sg) (v : Sv) (B : Option Addr) (c r q : Nat) (G' : Nat → Prop) (V' : List Sg) (w w' : World) : Prop :=
  RfM g G' V' w' ∧ Kept (fun k => k = g) w w' ∧ (∀ k, G' k → G k ∨ w.heap.size ≤ k) ∧ ((chkR V v.n v.k v.s.length v.h v.st ≠ 0 ∧ q = chkR V v.n v.k v.s.length v.h v.st ∧ r = 0 ∧ V' = V) ∨ (chkR V v.n v.k v.s.length v.h v.st = 0 ∧ q = 0 ∧ r = wtV (V ++ [v.sg B c]) v.k ∧ V' = V ++ [v.sg B c]))
theorem add_r {g : Nat} {G : Nat → Prop} {V : List Sg} {w : World} (h : RfM g G V w) (hl : V.length ≤ 99999) (hst : ∀ x ∈ V, x.st ≤ 4294967296) (hone : ∀ u ∈ rws sgC V, u.oneCell' = true) (v : Sv) (B : Option Addr) (c : Nat) :
    Calls Try.prog 27 #[.pointer (some ⟨g, 0, none⟩), .agg (vtw v.n v.k (.slice B v.s.length c)), .agg (hhv v.h), .int .u64 (v.st : Int)] w fun e w' => ∃ (r q : Nat) (G' : Nat → Prop) (V' : List Sg), e = .returned (.tuple #[.int .u64 (r : Int), .int .i64 (q : Int)]) ∧ AddR g G V v B c r q G' V' w w' := by
  refine (refAdd_c h hl hst hone v.n v.k B v.s.length c v.h v.st).mono ?_
  rintro e w' (⟨h0, h1, h2⟩ | ⟨h0, h1, G', h2, h3, h4⟩)
  · exact ⟨0, _, G, V, h1, h.below h2, Kept.of_below h2, fun k e => .inl e, .inl ⟨h0, rfl, rfl, rfl⟩⟩
  · exact ⟨_, 0, G', _, h1, h2, h3, fun k e => (h4 k e).imp (fun (e2 : k = g) => by rw [e2]; exact h.at_) id, .inr ⟨h0, rfl, rfl, rfl⟩⟩
theorem AddR.drew {g : Nat} {G G' : Nat → Prop} {V V' : List Sg} {v : Sv} {B : Option Addr} {c r q : Nat} {w w2 w' : World} (hw : w2 = w.drew) (h : AddR g G V v B c r q G' V' w2 w') : AddR g G V v B c r q G' V' w w' := by
  subst hw
  exact h
theorem rd_kept {X : Nat → Prop} {w w' : World} {lo hi : Nat} {A : Option Addr} {l : List UInt8} (h : Rd w lo hi A l) (hk : Kept X w w') (hh : hi ≤ w.heap.size) (hX : ∀ k, lo ≤ k → k < hi → ¬ X k) : Rd w' lo hi A l :=
  h.keep (fun p h1 h2 => World.cell?_of_block (hk.2.2.2.2 p.block (Nat.lt_of_lt_of_le h2 hh) (hX _ h1 h2)))
/-- Each once, in the order of the first ones. -/
def ddl (L : List Lk) : List Lk := L.foldl (fun a x => if x ∈ a then a else a ++ [x]) []
theorem ddl_snoc (L : List Lk) (x : Lk) : ddl (L ++ [x]) = if x ∈ ddl L then ddl L else ddl L ++ [x] := by unfold ddl; rw [List.foldl_append]; rfl
/-- The places of those that are so. -/
def pls (p : Sv → Bool) (M : List Sv) : List Nat := (M.zipIdx.filter (fun x => p x.1)).map (·.2)
theorem pls_at {p : Sv → Bool} {M : List Sv} {i q : Nat} {v : Sv} (h1 : (pls p M)[i]? = some q) (h2 : (M.filter p)[i]? = some v) : M[q]? = some v := by
  have e : M.filter p = (M.zipIdx.filter (fun x => p x.1)).map (·.1) := by
    have h := List.filter_map (p := p) (f := Prod.fst) (l := M.zipIdx)
    rw [show M.zipIdx.map Prod.fst = M from List.zipIdx_map_fst 0 M] at h
    exact h
  rw [e] at h2
  unfold pls at h1
  rw [List.getElem?_map, Option.map_eq_some_iff] at h1 h2
  obtain ⟨a, ha, rfl⟩ := h1
  obtain ⟨b, hb, rfl⟩ := h2
  rw [ha] at hb
  injection hb with hb
  subst hb
  have hm := (List.mem_filter.1 (List.mem_of_getElem? ha)).1
  exact List.mem_zipIdx_iff_getElem?.1 hm
theorem pls_len (p : Sv → Bool) (M : List Sv) : (pls p M).length = (M.filter p).length := by
  have e : M.filter p = (M.zipIdx.filter (fun x => p x.1)).map (·.1) := by
    have h := List.filter_map (p := p) (f := Prod.fst) (l := M.zipIdx)
    rw [show M.zipIdx.map Prod.fst = M from List.zipIdx_map_fst 0 M] at h
    exact h
  rw [e]
  unfold pls
  rw [List.length_map, List.length_map]
theorem pls_snoc (p : Sv → Bool) (M : List Sv) (v : Sv) : pls p (M ++ [v]) = if p v = true then pls p M ++ [M.length] else pls p M := by
  unfold pls
  rw [List.zipIdx_append, List.filter_append, List.map_append]
  simp only [List.zipIdx_cons, List.zipIdx_nil, Nat.zero_add]
  by_cases h : p v = true
  · rw [if_pos h, List.filter_cons_of_pos (by simpa using h)]
    rfl
  · rw [if_neg h, List.filter_cons_of_neg (by simpa using h)]
    simp
/-- What both have been told, and have kept: the votes M. X: the blocks that turn. -/
structure Told (base : Nat) (X : Nat → Prop) (S : PoS) (V : List Sg) (M : List Sv) (w : World) : Prop where
  ok : PoIn S
  lenS : S.votes.length = M.length
  lenV : V.length = M.length
  at_ : ∀ (i : Nat) v, M[i]? = some v → ∃ B c B' c', S.votes[i]? = some (v.sg B' c') ∧ V[i]? = some (v.sg B c) ∧ Rd w 0 base B v.s ∧ ∃ lo hi, base ≤ lo ∧ hi ≤ w.heap.size ∧ Rd w lo hi B' v.s ∧ ∀ k, lo ≤ k → k < hi → ¬ X k
  st : ∀ v ∈ M, 1 ≤ v.st ∧ v.st ≤ 4294967296 ∧ v.s.length ≤ 4096
  links : S.links = ddl (M.map (·.k))
  plk : ∀ k, (S.pl (.inl k)).getD [] = pls (fun v => decide (v.k = k)) M
  plh : ∀ h, (S.pl (.inr h)).getD [] = pls (fun v => decide (v.h = h)) M
section
variable {base : Nat} {X Y X' : Nat → Prop} {S : PoS} {V : List Sg} {M : List Sv} {w w' : World}
theorem Told.start (w : World) : Told base X poS0 [] [] w := ⟨PoIn.start, rfl, rfl, fun i v h => (by simp at h), fun v h => (by cases h), rfl, fun k => rfl, fun h => rfl⟩
theorem Told.move (h : Told base X S V M w) (hk : Kept Y w w') (hb : base ≤ w.heap.size) (hY : ∀ k, Y k → base ≤ k ∧ X k) (hX : ∀ k, X' k → X k ∨ w.heap.size ≤ k) : Told base X' S V M w' := by
  refine ⟨h.ok, h.lenS, h.lenV, fun i v hv => ?_, h.st, h.links, h.plk, h.plh⟩
  obtain ⟨B, c, B', c', h1, h2, h3, lo, hi, h4, h5, h6, h7⟩ := h.at_ i v hv
  exact ⟨B, c, B', c', h1, h2, rd_kept h3 hk hb (fun k _ e y => by have := (hY k y).1; omega), lo, hi, h4, Nat.le_trans h5 hk.2.2.2.1, rd_kept h6 hk h5 (fun k e1 e2 y => h7 k e1 e2 (hY k y).2), fun k e1 e2 x => (hX k x).elim (h7 k e1 e2) (fun e3 => by omega)⟩
theorem Told.below (h : Told base X S V M w) (hb : Below w.heap.size w w') (hs : base ≤ w.heap.size) : Told base X S V M w' := h.move (Y := fun _ => False) (Kept.of_below hb) hs (fun _ e => e.elim) (fun k e => .inl e)
theorem Told.map {β : Type} (h : Told base X S V M w) (f : Sg → β) (hf : ∀ (v : Sv) B c B' c', f (v.sg B c) = f (v.sg B' c')) : S.votes.map f = V.map f := by
  apply List.ext_getElem?
  intro i
  rw [List.getElem?_map, List.getElem?_map]
  rcases Nat.lt_or_ge i M.length with hi | hi
  · obtain ⟨B, c, B', c', h1, h2, _⟩ := h.at_ i _ (List.getElem?_eq_getElem hi)
    rw [h1, h2, Option.map_some, Option.map_some, hf _ B' c' B c]
  · rw [List.getElem?_eq_none (by have := h.lenS; omega), List.getElem?_eq_none (by have := h.lenV; omega)]
theorem Told.bal (h : Told base X S V M w) : S.bal = balV V := by
  rw [h.ok.bal]
  exact h.map (fun x => (⟨x.h, x.k⟩ : Bt)) (fun _ _ _ _ _ => rfl)
theorem wt_pairs (V : List Sg) (l : Lk) : ((V.filter (fun x => decide (x.k = l))).map (·.st)).sum = (((V.map (fun x => (x.k, x.st))).filter (fun p => decide (p.1 = l))).map (·.2)).sum := by
  rw [List.filter_map, List.map_map]
  rfl
theorem Told.wt (h : Told base X S V M w) (l : Lk) : S.wt l = wtV V l := by
  rw [h.ok.wt l]
  unfold wtV
  rw [wt_pairs, wt_pairs, h.map (fun x => (x.k, x.st)) (fun _ _ _ _ _ => rfl)]
theorem Told.sts (h : Told base X S V M w) : ∀ x ∈ V, x.st ≤ 4294967296 := fun x hx => by
  obtain ⟨i, hi⟩ := List.getElem?_of_mem hx
  have hl := (List.getElem?_eq_some_iff.1 hi).1
  have hm : i < M.length := by have := h.lenV; omega
  obtain ⟨B, c, B', c', h1, h2, _⟩ := h.at_ i _ (List.getElem?_eq_getElem hm)
  rw [h2] at hi
  injection hi with hi
  rw [← hi]
  exact (h.st _ (List.getElem_mem hm)).2.1
theorem Told.one (h : Told base X S V M w) : ∀ u ∈ rws sgC V, u.oneCell' = true := fun u hu => by
  unfold rws at hu
  obtain ⟨x, hx, hu⟩ := List.mem_flatMap.1 hu
  obtain ⟨i, hi⟩ := List.getElem?_of_mem hx
  have hl := (List.getElem?_eq_some_iff.1 hi).1
  have hm : i < M.length := by have := h.lenV; omega
  obtain ⟨B, c, B', c', h1, h2, _⟩ := h.at_ i _ (List.getElem?_eq_getElem hm)
  rw [h2] at hi
  injection hi with hi
  rw [← hi] at hu
  exact sgC_one _ rfl u hu
end
/-- A pool and the reference's one, that have been told the same. -/
structure Duo (base ga : Nat) (F : Nat → Prop) (S : PoS) (gr : Nat) (G : Nat → Prop) (V : List Sg) (M : List Sv) (w : World) : Prop where
  p : PoM ga F S w
  r : RfM gr G V w
  fg : ∀ k, F k → ¬ G k
  ng : ¬ G ga
  lf : ∀ k, F k → base ≤ k
  lg : ∀ k, G k → base ≤ k
  told : Told base (fun k => F k ∨ k = gr) S V M w
  size : base ≤ w.heap.size
section
variable {base ga gr : Nat} {F G F' G' : Nat → Prop} {S S' : PoS} {V V' : List Sg} {M : List Sv} {w w' w1 w2 : World} {v : Sv} {B : Option Addr} {c r q r2 q2 : Nat}
theorem Duo.below (h : Duo base ga F S gr G V M w) (hb : Below w.heap.size w w') : Duo base ga F S gr G V M w' :=
  ⟨h.p.below hb, h.r.below hb, h.fg, h.ng, h.lf, h.lg, h.told.below hb h.size, Nat.le_trans h.size hb.size⟩
theorem Duo.chk (h : Duo base ga F S gr G V M w) (v : Sv) : chkR V v.n v.k v.s.length v.h v.st = chk S v.n v.k v.s.length v.h v.st := chkR_eq h.told.bal (h.told.lenS.trans h.told.lenV.symm) _ _ _ _ _
/-- One vote more, told to both. -/
theorem Duo.add (h : Duo base ga F S gr G V M w) (hM : M.length < 65536) (x : AddX ga F S v r q F' S' w w1) (y : AddR gr G V v B c r2 q2 G' V' w1 w2) (hB : Rd w 0 base B v.s) : q = q2 ∧ r = r2 ∧ (∃ M', M'.length ≤ M.length + 1 ∧ Duo base ga F' S' gr G' V' M' w2) ∧ Below base w w2 ∧ (∀ k, F' k → F k ∨ w.heap.size ≤ k) ∧ (∀ k, G' k → G k ∨ w.heap.size ≤ k) := by
  obtain ⟨x1, x2, x3, x4, x5⟩ := x
  obtain ⟨y1, y2, y3, y4⟩ := y
  have s1 := x2.2.2.2.1
  have s2 := y2.2.2.2.1
  have hc := h.chk v
  have hgr := h.lg gr h.r.at_
  have fp := h.p.fin
  have b1 : Below base w w1 := x2.below h.size h.lf
  have b2 : Below base w1 w2 := y2.below (Nat.le_trans h.size s1) (fun k e => e ▸ hgr)
  have t1 : Told base (fun k => F' k ∨ k = gr) S V M w1 := h.told.move (Y := F) x2 h.size (fun k e => ⟨h.lf k e, .inl e⟩) (fun k e => e.elim (fun e2 => (x3 k e2).imp .inl id) (fun e2 => .inl (.inr e2)))
  have t2 : Told base (fun k => F' k ∨ k = gr) S V M w2 := t1.move (Y := fun k => k = gr) y2 (Nat.le_trans h.size s1) (fun k e => ⟨e ▸ hgr, .inr e⟩) (fun k e => .inl e)
  have p2 : PoM ga F' S' w2 := x1.kept y2 (fun e => h.ng (e ▸ h.r.at_)) (fun k e e2 => (x3 k e).elim (fun e3 => h.fg k e3 (e2 ▸ h.r.at_)) (fun e3 => by have := h.r.fin gr h.r.at_; omega))
  have gg : ∀ k, G' k → G k ∨ w.heap.size ≤ k := fun k e => (y3 k e).imp id (fun e2 => by omega)
  have fg : ∀ k, F' k → ¬ G' k := fun k e e2 => by
    rcases y3 k e2 with e3 | e3
    · rcases x3 k e with e4 | e4
      · exact h.fg k e4 e3
      · have := h.r.fin k e3; omega
    · have := x1.fin.2 k e; omega
  have ng : ¬ G' ga := fun e => (y3 ga e).elim h.ng (fun e2 => by have := x1.fin.1; omega)
  have lf : ∀ k, F' k → base ≤ k := fun k e => (x3 k e).elim (h.lf k) (fun e2 => by have := h.size; omega)
  have lg : ∀ k, G' k → base ≤ k := fun k e => (gg k e).elim (h.lg k) (fun e2 => by have := h.size; omega)
  have sz : base ≤ w2.heap.size := by have := h.size; omega
  rcases x5 with ⟨k1, k2, k3, rfl⟩ | ⟨k1, k2, k3, B', c', rfl, k4⟩
  · rcases y4 with ⟨j1, j2, j3, rfl⟩ | ⟨j1, _⟩
    · exact ⟨by rw [k2, j2, hc], by rw [k3, j3], ⟨M, Nat.le_succ _, p2, y1, fg, ng, lf, lg, t2, sz⟩, b1.trans b2, x3, gg⟩
    · exact absurd (hc ▸ j1) k1
  · rcases y4 with ⟨j1, _⟩ | ⟨j1, j2, j3, rfl⟩
    · exact absurd (hc ▸ k1) j1
    · have hl : S.votes.length < 65536 := by have := h.told.lenS; omega
      obtain ⟨ha, hb⟩ := (chk_iff hl).1 k1
      have hst : 1 ≤ v.st ∧ v.st ≤ 4294967296 ∧ v.s.length ≤ 4096 := by
        unfold accV mayVt at ha
        simp at ha
        omega
      obtain ⟨hi, z1, z2, z3, z4⟩ := k4
      refine ⟨by rw [k2, j2], ?_, ⟨M ++ [v], by simp, p2, y1, fg, ng, lf, lg, ⟨h.told.ok.put _ hb, ?_, ?_, fun i u hu => ?_, fun u hu => ?_, ?_, fun k => ?_, fun k => ?_⟩, sz⟩, b1.trans b2, x3, gg⟩
      · rw [k3, j3, wtV_more, if_pos (show (v.sg B c).k = v.k from rfl), h.told.wt]
        rfl
      · show (S.votes ++ [_]).length = _
        rw [List.length_append, List.length_append, h.told.lenS]
        rfl
      · rw [List.length_append, List.length_append, h.told.lenV]
        rfl
      · rcases Nat.lt_or_ge i M.length with hi2 | hi2
        · rw [List.getElem?_append_left hi2] at hu
          obtain ⟨B1, c1, B2, c2, h1, h2, h3⟩ := t2.at_ i u hu
          refine ⟨B1, c1, B2, c2, ?_, ?_, h3⟩
          · show (S.votes ++ [_])[i]? = _
            rw [List.getElem?_append_left (by have := h.told.lenS; omega)]
            exact h1
          · rw [List.getElem?_append_left (by have := h.told.lenV; omega)]
            exact h2
        · have hlt := (List.getElem?_eq_some_iff.1 hu).1
          rw [List.length_append, List.length_singleton] at hlt
          obtain rfl : i = M.length := by omega
          rw [List.getElem?_append_right (Nat.le_refl _), Nat.sub_self] at hu
          injection hu with hu
          subst hu
          refine ⟨B, c, B', c', ?_, ?_, hB.below (b1.trans b2) (Nat.le_refl _), w.heap.size, hi, h.size, Nat.le_trans z2 s2, ?_, fun k e1 e2 e3 => ?_⟩
          · show (S.votes ++ [_])[M.length]? = _
            rw [List.getElem?_append_right (by have := h.told.lenS; omega), h.told.lenS, Nat.sub_self]
            rfl
          · rw [List.getElem?_append_right (by have := h.told.lenV; omega), h.told.lenV, Nat.sub_self]
            rfl
          · exact rd_kept z3 y2 z2 (fun k e1 e2 e3 => by have := h.r.fin gr h.r.at_; omega)
          · rcases e3 with e3 | e3
            · exact z4 k e1 e2 e3
            · have := h.r.fin gr h.r.at_; omega
      · rcases List.mem_append.1 hu with hu | hu
        · exact h.told.st u hu
        · simp only [List.mem_singleton] at hu
          subst hu
          exact hst
      · show (if (S.pl (.inl v.k)).isSome = true then S.links else S.links ++ [v.k]) = _
        rw [List.map_append, List.map_cons, List.map_nil, ddl_snoc, ← h.told.links]
        by_cases e : v.k ∈ S.links
        · rw [if_pos e, if_pos ((h.told.ok.pl0 _).2 ((h.told.ok.lmem _).1 e))]
        · rw [if_neg e, if_neg (fun e2 => e ((h.told.ok.lmem _).2 ((h.told.ok.pl0 _).1 e2)))]
      · show (putP S (v.sg B' c') (.inl k)).getD [] = _
        rw [pls_snoc, ← h.told.plk k]
        unfold putP
        rw [if_neg (by intro e; cases e)]
        by_cases e : v.k = k
        · subst e
          rw [if_pos (show (Sum.inl v.k : Lk ⊕ Hh) = .inl (v.sg B' c').k from rfl), if_pos (by simp), h.told.lenS]
          rfl
        · rw [if_neg (fun e2 => e (by injection e2 with e2; exact e2.symm)), if_neg (by simpa using e)]
      · show (putP S (v.sg B' c') (.inr k)).getD [] = _
        rw [pls_snoc, ← h.told.plh k]
        unfold putP
        by_cases e : v.h = k
        · subst e
          rw [if_pos (show (Sum.inr v.h : Lk ⊕ Hh) = .inr (v.sg B' c').h from rfl), if_pos (by simp), h.told.lenS]
          rfl
        · rw [if_neg (fun e2 => e (by injection e2 with e2; exact e2.symm)), if_neg (by intro e2; cases e2), if_neg (by simpa using e)]
end
/-- A list that came in stays: where, once for all. -/
theorem SvsAt.fix {w : World} {A : Option Addr} {L : List Sv} (h : SvsAt w A L) (i : Nat) (v : Sv) (hv : L[i]? = some v) : ∃ g o B c, A = some ⟨g, o, none⟩ ∧ g < w.heap.size ∧ ∀ u, Below w.heap.size w u → u.rangeAt g (o + i * 101) (sgC (v.sg B c)) ∧ Rd u 0 w.heap.size B v.s := by
  obtain ⟨g, o, B, c, e, r, rd⟩ := h w (Below.refl _ _) i v hv
  have hg : g < w.heap.size := World.block_lt_of_cell? w _ (sg_at r 0 (by omega))
  exact ⟨g, o, B, c, e, hg, fun u hu => ⟨fun j x hx => (hu.cell (p := ⟨g, o + i * 101 + j, none⟩) hg).trans (r j x hx), rd.below hu (Nat.le_refl _)⟩⟩
end Go.Proofs.Ytomfgopmgfoecaa
