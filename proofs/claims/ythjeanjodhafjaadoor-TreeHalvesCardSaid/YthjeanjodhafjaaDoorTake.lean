/- Contract: a piece goes into a message. -/
import Derived.Test.YthjeanjodhafjaaDoorWords
import Derived.Test.YthjeanjodhafjaaDoorMix
import Derived.Test.YthjeanjodhafjaaDoorTakePlain
import Derived.Lib.BufferOwn
namespace Go.Proofs.YthjeanjodhafjaaDoor
open Go.ChangeShapes Go.WideShapes Go.ChangeAt Go.RowKit
set_option linter.unusedVariables false

theorem size_u8 : (Tryd.prog.info? 5).map (·.size) = some 1 := by kernel_rfl
/-- The message behind these bytes. -/
def MsgOf (w : World) (m : Nat) (all : List UInt8) : Prop := Msg w m (stL all) (wtL all) all.length

theorem Msg.size_ {w : World} {m : Nat} {s : St} {l : List UInt8} {n : Nat} (h : Msg w m s l n) : w.cell? ⟨m, 72, none⟩ = some (.int .u64 (n : Int)) := by
  obtain ⟨cur, h1, h2, h3, h4, h5⟩ := h
  rw [cell_of_row w m 72 cur _ (0, 0) h1]
  exact h5
theorem Msg.eight {w : World} {m : Nat} {s : St} {l : List UInt8} {n : Nat} (h : Msg w m s l n) (j : Nat) (hj : j < 8) : w.cell? ⟨m, j, none⟩ = some (rv (s.at j)) := by
  obtain ⟨cur, h1, h2, h3, h4, h5⟩ := h
  rw [cell_of_row w m j cur _ (0, 0) h1]
  exact h3 j hj
theorem Msg.frozen {w : World} {m : Nat} {s : St} {l : List UInt8} {n : Nat} (h : Msg w m s l n) (j : Nat) : w.frozen? ⟨m, j, none⟩ = false := by
  obtain ⟨cur, h1, _⟩ := h
  simp [World.frozen?, h1]

theorem Msg.sized {w : World} {m : Nat} {s : St} {l : List UInt8} {n : Nat} (h : Msg w m s l n) (hl : l.length ≤ 64) (n' : Nat) : Msg (w.setCell ⟨m, 72, none⟩ (.int .u64 (n' : Int))) m s l n' := by
  obtain ⟨cur, h1, h2, h3, h4, h5⟩ := h
  refine ⟨cur.setIfInBounds 72 (.int .u64 (n' : Int)), by simp [World.setCell, Array.getElem?_modify, h1], by simpa using h2, fun j hj => ?_, fun j hj => ?_, ?_⟩
  · rw [Array.getElem?_setIfInBounds, if_neg (by omega)]; exact h3 j hj
  · rw [Array.getElem?_setIfInBounds, if_neg (by omega)]; exact h4 j hj
  · rw [Array.getElem?_setIfInBounds, if_pos rfl, if_pos (by omega)]
theorem getD_append (l x : List UInt8) (j : Nat) : (l ++ x).getD j 0 = if j < l.length then l.getD j 0 else x.getD (j - l.length) 0 := by
  rw [List.getD_eq_getElem?_getD]
  by_cases h : j < l.length
  · rw [if_pos h, List.getElem?_append_left h, List.getD_eq_getElem?_getD]
  · rw [if_neg h, List.getElem?_append_right (by omega), List.getD_eq_getElem?_getD]
theorem grown_row (w : World) (g : Nat) (cs : Array Value) : w.grownBy (w.setRow g cs) (some g) :=
  ⟨rfl, rfl, rfl, by simp [World.setRow], fun k _ hk => setRow_other w g k cs (fun e => hk (by rw [e]))⟩

theorem grown_set {a w : World} {g : Nat} (h : a.grownBy w (some g)) (i : Nat) (v : Value) : a.grownBy (w.setCell ⟨g, i, none⟩ v) (some g) :=
  ⟨h.os, h.tape, h.output, by simpa [World.setCell] using h.size, fun k hk hne => (Below.heap_setCell w ⟨g, i, none⟩ v k (fun e => hne (by rw [e]))).trans (h.block k hk hne)⟩
theorem grown_below {a w w' : World} {g : Nat} (h : a.grownBy w (some g)) (hb : Below w.heap.size w w') : a.grownBy w' (some g) :=
  ⟨hb.os.trans h.os, hb.tape.trans h.tape, hb.output.trans h.output, Nat.le_trans h.size hb.size, fun k hk hne => (hb.block k (Nat.lt_of_lt_of_le hk h.size)).trans (h.block k hk hne)⟩
/-- The eight, written out. -/
theorem eight_lit (s : St) : rowV 8 (eF s) = #[.int .u32 (s.a : Int), .int .u32 (s.b : Int), .int .u32 (s.c : Int), .int .u32 (s.d : Int), .int .u32 (s.e : Int), .int .u32 (s.f : Int), .int .u32 (s.g : Int), .int .u32 (s.h : Int)] := rfl
theorem mix_lit (s : St) (b : List Nat) (w : World) (hs : s.ok) (hb : b.length = 16) (hbl : ∀ j, b.getD j 0 < 4294967296) (ht : Tabs w) :
    Calls Tryd.prog 43 #[.agg #[.int .u32 (s.a : Int), .int .u32 (s.b : Int), .int .u32 (s.c : Int), .int .u32 (s.d : Int), .int .u32 (s.e : Int), .int .u32 (s.f : Int), .int .u32 (s.g : Int), .int .u32 (s.h : Int)], .agg (rowV 16 (bF b))] w fun e w' => e = .returned (.agg #[.int .u32 ((mixS s b).a : Int), .int .u32 ((mixS s b).b : Int), .int .u32 ((mixS s b).c : Int), .int .u32 ((mixS s b).d : Int), .int .u32 ((mixS s b).e : Int), .int .u32 ((mixS s b).f : Int), .int .u32 ((mixS s b).g : Int), .int .u32 ((mixS s b).h : Int)]) ∧ Below w.heap.size w w' := by
  have := mix_any s b w hs hb hbl ht
  rw [eight_lit, eight_lit] at this
  exact this
/-- The eight are stored. -/
def put8 (w : World) (m : Nat) (s : St) : World := (((((((w.setCell ⟨m, 0, none⟩ (.int .u32 (s.a : Int))).setCell ⟨m, 1, none⟩ (.int .u32 (s.b : Int))).setCell ⟨m, 2, none⟩ (.int .u32 (s.c : Int))).setCell ⟨m, 3, none⟩ (.int .u32 (s.d : Int))).setCell ⟨m, 4, none⟩ (.int .u32 (s.e : Int))).setCell ⟨m, 5, none⟩ (.int .u32 (s.f : Int))).setCell ⟨m, 6, none⟩ (.int .u32 (s.g : Int))).setCell ⟨m, 7, none⟩ (.int .u32 (s.h : Int))
theorem row_set {w : World} {m : Nat} {cur : Array Value} {t : Nat} (h : w.heap[m]? = some (.cells cur t (0, 0))) (i : Nat) (v : Value) : (w.setCell ⟨m, i, none⟩ v).heap[m]? = some (.cells (cur.setIfInBounds i v) t (0, 0)) := by simp [World.setCell, Array.getElem?_modify, h]
theorem Msg.put8 {w : World} {m : Nat} {s : St} {l : List UInt8} {n : Nat} (h : Msg w m s l n) (s' : St) : Msg (put8 w m s') m s' l n := by
  obtain ⟨cur, h1, h2, h3, h4, h5⟩ := h
  refine ⟨_, row_set (row_set (row_set (row_set (row_set (row_set (row_set (row_set h1 0 _) 1 _) 2 _) 3 _) 4 _) 5 _) 6 _) 7 _, by simpa using h2, fun j hj => ?_, fun j hj => ?_, ?_⟩
  · match j, hj with
    | 0, _ => simp [h2, rv, St.at]
    | 1, _ => simp [h2, rv, St.at]
    | 2, _ => simp [h2, rv, St.at]
    | 3, _ => simp [h2, rv, St.at]
    | 4, _ => simp [h2, rv, St.at]
    | 5, _ => simp [h2, rv, St.at]
    | 6, _ => simp [h2, rv, St.at]
    | 7, _ => simp [h2, rv, St.at]
  · have := h4 j hj
    rw [← this]
    simp only [Array.getElem?_setIfInBounds]
    repeat rw [if_neg (by omega)]
  · rw [← h5]
    simp
theorem grown_put8 {a w : World} {g : Nat} (h : a.grownBy w (some g)) (s : St) : a.grownBy (put8 w g s) (some g) :=
  grown_set (grown_set (grown_set (grown_set (grown_set (grown_set (grown_set (grown_set h 0 _) 1 _) 2 _) 3 _) 4 _) 5 _) 6 _) 7 _

section
variable {P : Program} {w : World}
/-- copy(waits[a:], piece): what comes in lies behind what waits. -/
theorem wpList_copy_msg {ops : Array Oper} {rest : List Oper} {o : Oper} {a : Act} {Q : Exit → Act → World → Prop} (hgd : o.guard = none) (d s : Operand) (dT sT : TypeId)
    (ho : o.op = .call { callee := .builtin .copy, args := #[d, s], argTypes := #[dT, sT] }) (elem : TypeId) (hu : P.underlying dT = some (.slice elem)) (hsz : (P.info? elem).map (·.size) = some 1)
    (m : Nat) (st : St) (wt x : List UInt8) (n : Nat) (hM : Msg w m st wt n) (k dLen dCap : Nat) (ad : Addr) (sLen sCap : Nat) (hk : wt.length = k) (hd : a.eval d = .slice (some ⟨m, 8 + k, none⟩) dLen dCap) (hs : a.eval s = .slice (some ad) sLen sCap)
    (hn : x.length = Nat.min sLen dLen) (hsrc : ∀ j v, (x.map bv)[j]? = some v → w.cell? (ad.add j) = some v) (hfit : k + x.length ≤ 64) (r : Value) (hr : r = goInt x.length)
    (h : ∀ w', Msg w' m st (wt ++ x) n → w.grownBy w' (some m) → wpList P ops Q rest (a.put o.dst r) w') : wpList P ops Q (o :: rest) a w := by
  subst hk
  subst hr
  obtain ⟨cur, h1, h2, h3, h4, h5⟩ := hM
  have hl : cur.toList.length = 73 := by simpa using h2
  have := wpList_copy_own (Q := Q) (rest := rest) (ops := ops) hgd d s dT sT ho elem hu hsz m (8 + wt.length) dLen dCap ad sLen sCap hd hs cur _ h1 (x.map bv) (by simpa using hn) hsrc (by simp; omega) (bv_one x)
  rw [List.length_map] at this
  refine this (h _ ⟨_, setRow_heap w m _ _ _ _ h1, ?_, fun j hj => ?_, fun j hj => ?_, ?_⟩ (grown_row w m _))
  · simp; omega
  · rw [List.getElem?_toArray, List.getElem?_append_left (by simp; omega), List.getElem?_take, if_pos (by omega), Array.getElem?_toList]
    exact h3 j hj
  · rw [List.getElem?_toArray, getD_append]
    rw [List.length_append] at hj
    by_cases hj2 : j < wt.length
    · rw [if_pos hj2, List.getElem?_append_left (by simp; omega), List.getElem?_take, if_pos (by omega), Array.getElem?_toList]
      exact h4 j hj2
    · rw [if_neg hj2, List.getElem?_append_right (by simp; omega), List.length_take, Nat.min_eq_left (by omega), show 8 + j - (8 + wt.length) = j - wt.length by omega, List.getElem?_append_left (by simp; omega), List.getElem?_map, List.getD_eq_getElem?_getD, List.getElem?_eq_getElem (by omega)]
      rfl
  · rw [List.getElem?_toArray, List.getElem?_append_right (by simp; omega), List.length_take, Nat.min_eq_left (by omega), List.getElem?_append_right (by simp; omega), List.length_map, List.getElem?_drop, show 8 + wt.length + x.length + (72 - (8 + wt.length) - x.length) = 72 by omega, Array.getElem?_toList]
    exact h5
end

/-- What is left of a piece. -/
theorem piece_next {w : World} {m b off k t c' hi : Nat} {l : List UInt8} (hr : Rd w 0 hi (some ⟨b, off, none⟩) (l.drop k)) (hb : b ≠ m) (hc : (l.drop k).length ≤ c') (A2 : Option Addr) (hA : A2 = if c' = t then some ⟨b, off, none⟩ else some ⟨b, off + t, none⟩) :
    Rd w 0 hi A2 (l.drop (k + t)) ∧ (∀ b' off', A2 = some ⟨b', off', none⟩ → 0 < (l.drop (k + t)).length → b' ≠ m) := by
  have h := hr.drop (k := t) hc
  have e : (Option.map (fun x : Addr => x.add t) (some ⟨b, off, none⟩)) = some ⟨b, off + t, none⟩ := by
    show some (Addr.add ⟨b, off, none⟩ t) = _
    unfold Addr.add
    split
    · next h0 => subst h0; rfl
    · rfl
  rw [e, List.drop_drop, ← hA] at h
  refine ⟨h, fun b' off' e2 _ => ?_⟩
  rw [hA] at e2
  split at e2
  · injection e2 with e2; injection e2 with e2; rw [← e2]; exact hb
  · injection e2 with e2; injection e2 with e2; rw [← e2]; exact hb
theorem MsgOf.more {w : World} {m N : Nat} {S : St} {wt x L : List UInt8} (hS : S = stL L) (hw : wt = wtL L) (hN : N = L.length + x.length) (hx : L.length % 64 + x.length < 64) (h : Msg w m S (wt ++ x) N) : MsgOf w m (L ++ x) := by
  unfold MsgOf
  rw [(stL_more L x hx).1, (stL_more L x hx).2, List.length_append, ← hS, ← hw, ← hN]
  exact h
theorem MsgOf.full {w : World} {m N : Nat} {S : St} {wt x L : List UInt8} (hS : S = stL L) (hw : wt = wtL L) (hN : N = L.length + x.length) (hx : L.length % 64 + x.length = 64) (h : Msg w m (mixS S (wdsL (wt ++ x))) (wt ++ x) N) : MsgOf w m (L ++ x) := by
  unfold MsgOf
  rw [(stL_full L x hx).1, (stL_full L x hx).2, List.length_append, ← hS, ← hw, ← hN]
  obtain ⟨cur, h1, h2, h3, h4, h5⟩ := h
  exact ⟨cur, h1, h2, h3, fun j hj => absurd hj (by simp), h5⟩

noncomputable def takeR7 : Code := ((Tryd.f37.body.bind (regionOf 7))).getD .skip
set_option maxRecDepth 1000000 in
set_option maxHeartbeats 8000000 in
theorem take_r7 (c1 c2 c3 c4 c5 c6 c7 c8 c9 c10 c11 c12 c13 c14 c15 c16 c17 c18 c19 c20 c21 c22 c23 c24 c25 c26 c27 c28 c29 c30 c31 c32 c33 c34 c35 c36 c37 c38 c39 c40 c41 c42 c43 c44 c45 c46 c47 c48 : Value) (m : Nat) (S : St) (y : List UInt8) (N : Nat) (w2 : World) (hM2 : Msg w2 m S y N) (hy : y.length = 64) (hS : S.ok) (hT2 : Tabs w2)
    (Q : Exit → Act → World → Prop) (hQ : ∀ (u39 u40 u41 u42 u43 u44 u45 u46 u47 u48 : Value) (w' w4 : World), Below w2.heap.size w2 w4 → w' = put8 w4 m (mixS S (wdsL y)) → Q .normal ⟨#[.pointer (some ⟨m, 0, none⟩), c1, c2, c3, c4, c5, c6, c7, c8, c9, c10, c11, c12, c13, c14, c15, c16, c17, c18, c19, c20, c21, c22, c23, c24, c25, c26, c27, c28, c29, c30, c31, c32, c33, c34, c35, c36, c37, c38, u39, u40, u41, u42, u43, u44, u45, u46, u47, u48], []⟩ w') :
    Code.wp Tryd.prog takeR7 Q ⟨#[.pointer (some ⟨m, 0, none⟩), c1, c2, c3, c4, c5, c6, c7, c8, c9, c10, c11, c12, c13, c14, c15, c16, c17, c18, c19, c20, c21, c22, c23, c24, c25, c26, c27, c28, c29, c30, c31, c32, c33, c34, c35, c36, c37, c38, c39, c40, c41, c42, c43, c44, c45, c46, c47, c48], []⟩ w2 := by
  conv => arg 2; whnf
  have hml := hM2.lt
  have c0 := hM2.eight 0 (by omega)
  have c1 := hM2.eight 1 (by omega)
  have c2 := hM2.eight 2 (by omega)
  have c3 := hM2.eight 3 (by omega)
  have c4 := hM2.eight 4 (by omega)
  have c5 := hM2.eight 5 (by omega)
  have c6 := hM2.eight 6 (by omega)
  have c7 := hM2.eight 7 (by omega)
  simp only [rv, St.at] at c0 c1 c2 c3 c4 c5 c6 c7
  have HW : Hid (∀ u : World, Below w2.heap.size w2 u → Calls Tryd.prog 44 #[.pointer (some ⟨m, 0, none⟩)] u fun e w' => e = .returned (.agg (rowV 16 (bF (wdsL y)))) ∧ Below w2.heap.size w2 w') := fun u hu => (words_any m S y N u (hM2.below hu hml) hy).mono fun e w' ⟨he, hb⟩ => ⟨he, hu.trans (hb.mono hu.size)⟩
  have HC : Hid (∀ u : World, Below w2.heap.size w2 u → ∀ j, j < 8 → u.cell? ⟨m, j, none⟩ = some (rv (S.at j))) := fun u hu j hj => (hM2.below hu hml).eight j hj
  have HFz : Hid (∀ u : World, Below w2.heap.size w2 u → ∀ j, u.frozen? ⟨m, j, none⟩ = false) := fun u hu j => (hM2.below hu hml).frozen j
  have HMx : Hid (∀ u : World, Below w2.heap.size w2 u → Calls Tryd.prog 43 #[.agg #[.int .u32 (S.a : Int), .int .u32 (S.b : Int), .int .u32 (S.c : Int), .int .u32 (S.d : Int), .int .u32 (S.e : Int), .int .u32 (S.f : Int), .int .u32 (S.g : Int), .int .u32 (S.h : Int)], .agg (rowV 16 (bF (wdsL y)))] u fun e w' => e = .returned (.agg #[.int .u32 ((mixS S (wdsL y)).a : Int), .int .u32 ((mixS S (wdsL y)).b : Int), .int .u32 ((mixS S (wdsL y)).c : Int), .int .u32 ((mixS S (wdsL y)).d : Int), .int .u32 ((mixS S (wdsL y)).e : Int), .int .u32 ((mixS S (wdsL y)).f : Int), .int .u32 ((mixS S (wdsL y)).g : Int), .int .u32 ((mixS S (wdsL y)).h : Int)]) ∧ Below w2.heap.size w2 w') := fun u hu => (mix_lit S (wdsL y) u hS (wdsL_length y) (wdsL_lt y) (hT2.below hu hT2.2.2.1 hT2.2.2.2)).mono fun e w' ⟨he, hb⟩ => ⟨he, hu.trans (hb.mono hu.size)⟩
  have hB0 : Below w2.heap.size w2 w2.drew := (Below.refl _ _).drew
  have hF0 := HFz.out _ hB0
  have HQ := Lib.hid hQ
  clear hM2 hT2 hS hQ
  generalize mixS S (wdsL y) = S' at HQ HMx
  generalize rowV 16 (bF (wdsL y)) = Y at HMx HW
  refine wp_region_noPanic ?_
  go_region_law (first
    | (go_simp; go_at_call 44; (with_reducible refine (HW.out _ hB0).mono ?_); rintro e w3 ⟨rfl, hB3⟩; have k0 := HC.out _ hB3 0 (by omega); have k1 := HC.out _ hB3 1 (by omega); have k2 := HC.out _ hB3 2 (by omega); have k3 := HC.out _ hB3 3 (by omega); have k4 := HC.out _ hB3 4 (by omega); have k5 := HC.out _ hB3 5 (by omega); have k6 := HC.out _ hB3 6 (by omega); have k7 := HC.out _ hB3 7 (by omega); simp only [rv, St.at] at k0 k1 k2 k3 k4 k5 k6 k7)
    | (go_simp; go_at_call 43; (with_reducible refine (HMx.out _ hB3).mono ?_); rintro e w4 ⟨rfl, hB4⟩; have f4 := HFz.out _ hB4; have k0 := HC.out _ hB4 0 (by omega); have k1 := HC.out _ hB4 1 (by omega); have k2 := HC.out _ hB4 2 (by omega); have k3 := HC.out _ hB4 3 (by omega); have k4 := HC.out _ hB4 4 (by omega); have k5 := HC.out _ hB4 5 (by omega); have k6 := HC.out _ hB4 6 (by omega); have k7 := HC.out _ hB4 7 (by omega); simp only [rv, St.at] at k0 k1 k2 k3 k4 k5 k6 k7))
  all_goals refine NoPanic.normal ?_
  all_goals exact HQ.out _ _ _ _ _ _ _ _ _ _ _ w4 hB4 rfl

set_option maxRecDepth 100000 in
set_option maxHeartbeats 4000000 in
theorem take_any (m : Nat) (all : List UInt8) (A : Option Addr) (c : Nat) (l : List UInt8) (w : World) (h : MsgOf w m all) (hr : Rd w 0 w.heap.size A l) (hm : ∀ b off, A = some ⟨b, off, none⟩ → 0 < l.length → b ≠ m) (hc : l.length ≤ c) (hn : all.length + l.length < 1152921504606846976) (ht : Tabs w) (htm : 1 < m ∧ 0 < m) :
    Calls Tryd.prog 37 #[.pointer (some ⟨m, 0, none⟩), .slice A l.length c] w fun e w' => e = .returned (.tuple #[]) ∧ MsgOf w' m (all ++ l) ∧ w.grownBy w' (some m) := by
  go_enter Tryd.func37, Tryd.ntmps37
  go_wp2_with fail
  go_loopw [1] (fun v wr => ∃ (k : Nat) (A' : Option Addr) (c' : Nat), k ≤ l.length ∧ v = .slice A' (l.length - k) c' ∧ Rd w 0 w.heap.size A' (l.drop k) ∧ (∀ b off, A' = some ⟨b, off, none⟩ → 0 < (l.drop k).length → b ≠ m) ∧ l.length - k ≤ c' ∧ MsgOf wr m (all ++ l.take k) ∧ w.grownBy wr (some m)) (fun v _ => (match v with | .slice _ n _ => n | _ => 0))
  case atStart => exact ⟨0, A, c, by omega, rfl, hr, hm, hc, by simpa using h, World.grownBy.refl _ _⟩
  case round =>
    obtain ⟨k, A', c', hk, rfl, hr', hm', hc', hM, hg⟩ := hrel
    by_cases hlt : k < l.length
    · have hld : (l.drop k).length = l.length - k := List.length_drop
      obtain ⟨b, off, rfl, _, hb2, hcell⟩ := hr' (by omega)
      have hbm := hm' b off rfl (by omega)
      have hall : (all ++ l.take k).length = all.length + k := by rw [List.length_append, List.length_take]; omega
      have hcs := hM.size_
      rw [hall] at hcs
      obtain ⟨r, hr1⟩ : ∃ r, r = l.length - k := ⟨_, rfl⟩
      obtain ⟨a, ha⟩ : ∃ a, a = (all.length + k) % 64 := ⟨_, rfl⟩
      have ha64 : a < 64 := by omega
      have ha65 : (a : Int) ≤ 64 := by omega
      have ha66 : ¬ (64 = a) := by omega
      have hai : ((all.length + k : Nat) : Int) % 64 = (a : Int) := by omega
      have HA := Lib.hid ha
      have HR := Lib.hid hr1
      obtain ⟨N, hN⟩ : ∃ N, N = all.length + k := ⟨_, rfl⟩
      have HN := Lib.hid hN
      have hNb : N < 1152921504606846976 := by omega
      rw [← hr1] at hc' hld ⊢
      rw [← hN] at hcs hai
      have hrp : 0 < r := by omega
      clear ha hr1 hN hall
      obtain ⟨t, ht1⟩ : ∃ t, t = Nat.min r (64 - a) := ⟨_, rfl⟩
      have htb : 1 ≤ t ∧ t ≤ r ∧ a + t ≤ 64 := by
        have : t = min r (64 - a) := ht1
        omega
      obtain ⟨x, hx⟩ : ∃ x, x = (l.drop k).take t := ⟨_, rfl⟩
      have hxl : x.length = t := by rw [hx, List.length_take, hld]; omega
      have hsrc : ∀ j v, (x.map bv)[j]? = some v → wr.cell? (Addr.add ⟨b, off, none⟩ j) = some v := fun j v hv => by
        rw [List.getElem?_map] at hv
        have hj : j < x.length := by
          rcases Nat.lt_or_ge j x.length with h | h
          · exact h
          · rw [List.getElem?_eq_none h] at hv; cases hv
        rw [List.getElem?_eq_getElem hj] at hv
        have e : (l.drop k)[j]? = some x[j] := by
          have e2 : x[j]? = (l.drop k)[j]? := by rw [hx, List.getElem?_take, if_pos (by omega)]
          rw [← e2, List.getElem?_eq_getElem hj]
        have hadd : Addr.add ⟨b, off, none⟩ j = ⟨b, off + j, none⟩ := by
          unfold Addr.add
          split
          · next h0 => subst h0; rfl
          · rfl
        rw [hadd, hg.cell_far ⟨b, off + j, none⟩ hb2 (by simpa using hbm), hcell j _ e]
        exact hv
      have HX := Lib.hid hx
      have HXL := Lib.hid hxl
      have HT1 := Lib.hid ht1
      have HSRC := Lib.hid hsrc
      have hwl : (wtL (all ++ l.take k)).length = a := by rw [wtL_length, List.length_append, List.length_take, HA.out, Nat.min_eq_left hk]
      have HWL := Lib.hid hwl
      have HLD := Lib.hid hld
      have HCELL := Lib.hid hcell
      obtain ⟨S, hS⟩ : ∃ S, S = stL (all ++ l.take k) := ⟨_, rfl⟩
      obtain ⟨wt, hwt⟩ : ∃ wt, wt = wtL (all ++ l.take k) := ⟨_, rfl⟩
      have hM1 : Msg wr m S wt N := by rw [hS, hwt, HN.out]; have := hM; unfold MsgOf at this; rwa [List.length_append, List.length_take, Nat.min_eq_left hk] at this
      rw [← hwt] at HWL
      have HS := Lib.hid hS
      have HWT := Lib.hid hwt
      have HM := Lib.hid hM1
      clear hx hxl ht1 hsrc hwl hS hwt hld hcell hM hM1
      by_cases hfull : t = 64 - a
      · have d1 : (((t : Nat) : Int) == ((64 - a : Nat) : Int)) = true := by simp; omega
        have HF := Lib.hid hfull
        clear hfull
        have HPN := Lib.hid (fun A2 hA => piece_next (t := t) (c' := c') hr' hbm (by rw [HLD.out]; exact hc') A2 hA)
        go_wp2_with (refine wpList_copy_msg rfl (.tmp 20) (.tmp 21) 56 56 rfl 5 Tryd.underlying56 size_u8 m S wt x N HM.out a (64 - a) (64 - a) ⟨b, off, none⟩ r c' HWL.out rfl rfl (HXL.out.trans HT1.out) HSRC.out (by rw [HXL.out]; omega) (.int .i64 (t : Int)) (by rw [HXL.out]; rfl) ?_; intro w1 hM1 hg1; have hcs1 := hM1.size_; have hfz1 := hM1.frozen 72; have HM1 := Lib.hid hM1; clear hM1 hcs)
        · have hpn := HPN.out (some ⟨b, off, none⟩) (by rw [if_pos (by assumption)])
          have hM2 : Msg (w1.setCell ⟨m, 72, none⟩ (.int .u64 ((N : Int) + (t : Int)))) m S (wt ++ x) (N + t) := HM1.out.sized (by rw [List.length_append, HWL.out, HXL.out, HF.out]; omega) (N + t)
          have hg2 : w.grownBy (w1.setCell ⟨m, 72, none⟩ (.int .u64 ((N : Int) + (t : Int)))) (some m) := grown_set (hg.trans hg1) _ _
          have hT2 : Tabs (w1.setCell ⟨m, 72, none⟩ (.int .u64 ((N : Int) + (t : Int)))) := ⟨fun i hi => (hg2.cell_far ⟨0, i, none⟩ ht.2.2.1 (by simp; omega)).trans (ht.1 i hi), fun i hi => (hg2.cell_far ⟨1, i, none⟩ ht.2.2.2 (by simp; omega)).trans (ht.2.1 i hi), Nat.lt_of_lt_of_le ht.2.2.1 hg2.size, Nat.lt_of_lt_of_le ht.2.2.2 hg2.size⟩
          refine take_r7 _ _ _ _ _ _ _ _ _ _ _ _ _ _ _ _ _ _ _ _ _ _ _ _ _ _ _ _ _ _ _ _ _ _ _ _ _ _ _ _ _ _ _ _ _ _ _ _ m S (wt ++ x) (N + t) _ hM2 (by rw [List.length_append, HWL.out, HXL.out, HF.out]; omega) (by rw [HS.out]; exact stL_ok _) hT2 _ ?_
          intro u39 u40 u41 u42 u43 u44 u45 u46 u47 u48 w3 w4 hB4 hw3
          have hM4 : Msg w3 m (mixS S (wdsL (wt ++ x))) (wt ++ x) (N + t) := by rw [hw3]; exact (hM2.below hB4 hM2.lt).put8 _
          have hg4 : w.grownBy w3 (some m) := by rw [hw3]; exact grown_put8 (grown_below hg2 hB4) _
          clear hM2 hg2 hT2 hw3 hB4 hcs1 hfz1 HM1 hg1
          go_wp2_with fail
          have hr3 := HR.out
          refine ⟨⟨k + t, some ⟨b, off, none⟩, 0, by omega, by rw [show l.length - (k + t) = r - t by omega], hpn.1, hpn.2, by omega, ?_, hg4⟩, ?_⟩
          · rw [List.take_add, ← List.append_assoc, ← HX.out]
            refine MsgOf.full HS.out HWT.out (N := N + t) ?_ ?_ hM4
            · rw [List.length_append, List.length_take, HXL.out, HN.out]; omega
            · rw [List.length_append, List.length_take, HXL.out, Nat.min_eq_left hk, ← HA.out, HF.out]; omega
          · show r - t < r
            omega
        · have hpn := HPN.out (some ⟨b, off + t, none⟩) (by rw [if_neg (by assumption)])
          have hM2 : Msg (w1.setCell ⟨m, 72, none⟩ (.int .u64 ((N : Int) + (t : Int)))) m S (wt ++ x) (N + t) := HM1.out.sized (by rw [List.length_append, HWL.out, HXL.out, HF.out]; omega) (N + t)
          have hg2 : w.grownBy (w1.setCell ⟨m, 72, none⟩ (.int .u64 ((N : Int) + (t : Int)))) (some m) := grown_set (hg.trans hg1) _ _
          have hT2 : Tabs (w1.setCell ⟨m, 72, none⟩ (.int .u64 ((N : Int) + (t : Int)))) := ⟨fun i hi => (hg2.cell_far ⟨0, i, none⟩ ht.2.2.1 (by simp; omega)).trans (ht.1 i hi), fun i hi => (hg2.cell_far ⟨1, i, none⟩ ht.2.2.2 (by simp; omega)).trans (ht.2.1 i hi), Nat.lt_of_lt_of_le ht.2.2.1 hg2.size, Nat.lt_of_lt_of_le ht.2.2.2 hg2.size⟩
          refine take_r7 _ _ _ _ _ _ _ _ _ _ _ _ _ _ _ _ _ _ _ _ _ _ _ _ _ _ _ _ _ _ _ _ _ _ _ _ _ _ _ _ _ _ _ _ _ _ _ _ m S (wt ++ x) (N + t) _ hM2 (by rw [List.length_append, HWL.out, HXL.out, HF.out]; omega) (by rw [HS.out]; exact stL_ok _) hT2 _ ?_
          intro u39 u40 u41 u42 u43 u44 u45 u46 u47 u48 w3 w4 hB4 hw3
          have hM4 : Msg w3 m (mixS S (wdsL (wt ++ x))) (wt ++ x) (N + t) := by rw [hw3]; exact (hM2.below hB4 hM2.lt).put8 _
          have hg4 : w.grownBy w3 (some m) := by rw [hw3]; exact grown_put8 (grown_below hg2 hB4) _
          clear hM2 hg2 hT2 hw3 hB4 hcs1 hfz1 HM1 hg1
          go_wp2_with fail
          have hr3 := HR.out
          refine ⟨⟨k + t, some ⟨b, off + t, none⟩, c' - t, by omega, by rw [show l.length - (k + t) = r - t by omega], hpn.1, hpn.2, by omega, ?_, hg4⟩, ?_⟩
          · rw [List.take_add, ← List.append_assoc, ← HX.out]
            refine MsgOf.full HS.out HWT.out (N := N + t) ?_ ?_ hM4
            · rw [List.length_append, List.length_take, HXL.out, HN.out]; omega
            · rw [List.length_append, List.length_take, HXL.out, Nat.min_eq_left hk, ← HA.out, HF.out]; omega
          · show r - t < r
            omega
      · have d1 : (((t : Nat) : Int) == ((64 - a : Nat) : Int)) = false := by simp; omega
        go_wp2_with (refine wpList_copy_msg rfl (.tmp 20) (.tmp 21) 56 56 rfl 5 Tryd.underlying56 size_u8 m S wt x N HM.out a (64 - a) (64 - a) ⟨b, off, none⟩ r c' HWL.out rfl rfl (HXL.out.trans HT1.out) HSRC.out (by rw [HXL.out]; omega) (.int .i64 (t : Int)) (by rw [HXL.out]; rfl) ?_; intro w1 hM1 hg1; have hcs1 := hM1.size_; have hfz1 := hM1.frozen 72; have HM1 := Lib.hid hM1; clear hM1 hcs)
        have hr3 := HR.out
        have hpn := piece_next (t := t) (c' := c') hr' hbm (by rw [HLD.out]; exact hc') _ rfl
        refine ⟨⟨k + t, _, c' - t, by omega, by rw [show l.length - (k + t) = r - t by omega], hpn.1, hpn.2, by omega, ?_, ?_⟩, ?_⟩
        · rw [List.take_add, ← List.append_assoc, ← HX.out]
          refine MsgOf.more HS.out HWT.out (N := N + t) ?_ ?_ (HM1.out.sized ?_ (N + t))
          · rw [List.length_append, List.length_take, HXL.out, HN.out]; omega
          · rw [List.length_append, List.length_take, HXL.out, Nat.min_eq_left hk, ← HA.out]; omega
          · rw [List.length_append, HWL.out, HXL.out]; omega
        · exact grown_set (hg.trans hg1) _ _
        · show r - t < r
          omega
    · obtain rfl : k = l.length := by omega
      rw [List.take_length] at hM
      rw [Nat.sub_self] at hc' ⊢
      go_wp2
      go_end0
      exact ⟨rfl, hM, hg⟩
end Go.Proofs.YthjeanjodhafjaaDoor
