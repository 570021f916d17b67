/- The reference: what it finds justified and final, plainly; is a checkpoint in a list; the lesser of two. -/
import Derived.Test.YthlbpjkopkicbaaFgTwo
import Derived.Test.YthlbpjkopkicbaaStr
import Derived.Deep.QuietTactic
import Derived.BigQuiet
namespace Go.Proofs.Ythlbpjkopkicbaa
open Go.ChangeMaps Go.MapKept Go.Maps Go.WideElems Go.RowKit Go.ChangeShapes Go.WideShapes Go.ChangeAt
set_option linter.unusedVariables false
set_option maxRecDepth 100000

def jst (l : List Pt) (x : Lk) : List Pt := if x.s ∈ l ∧ x.t ∉ l then l ++ [x.t] else l
def jrd (D : List Lk) (l : List Pt) : List Pt := D.foldl jst l
def jns (D : List Lk) : Nat → List Pt → List Pt
  | 0, l => l
  | n + 1, l => jns D n (jrd D l)
theorem jst_nodup {l : List Pt} (x : Lk) (h : l.Nodup) : (jst l x).Nodup := by
  unfold jst
  split
  · next c => exact List.nodup_append.2 ⟨h, by simp, fun y hy z hz e => by rw [List.mem_singleton] at hz; subst hz; subst e; exact c.2 hy⟩
  · exact h
theorem jst_le (l : List Pt) (x : Lk) : l.length ≤ (jst l x).length := by
  unfold jst
  split
  · simp
  · exact Nat.le_refl _
theorem jst_mem {l : List Pt} {x : Lk} {p : Pt} (h : p ∈ l) : p ∈ jst l x := by
  unfold jst
  split
  · exact List.mem_append_left _ h
  · exact h
theorem jst_of {l : List Pt} {x : Lk} {p : Pt} (h : p ∈ jst l x) : p ∈ l ∨ (x.s ∈ l ∧ p = x.t) := by
  unfold jst at h
  split at h
  · next c => exact (List.mem_append.1 h).imp id (fun e => ⟨c.1, List.mem_singleton.1 e⟩)
  · exact .inl h
theorem jst_same {l : List Pt} {x : Lk} (h : (jst l x).length = l.length) : jst l x = l := by
  unfold jst at *
  split at h
  · simp at h
  · next c => rw [if_neg c]
theorem jst_done {l : List Pt} {x : Lk} (h : jst l x = l) (hs : x.s ∈ l) : x.t ∈ l := by
  by_cases c : x.t ∈ l
  · exact c
  · unfold jst at h
    rw [if_pos ⟨hs, c⟩] at h
    have := congrArg List.length h
    simp at this
theorem jrd_nodup : ∀ (D : List Lk) {l : List Pt}, l.Nodup → (jrd D l).Nodup
  | [], _, h => h
  | x :: D, _, h => jrd_nodup D (jst_nodup x h)
theorem jrd_le : ∀ (D : List Lk) (l : List Pt), l.length ≤ (jrd D l).length
  | [], _ => Nat.le_refl _
  | x :: D, l => Nat.le_trans (jst_le l x) (jrd_le D (jst l x))
theorem jrd_mem : ∀ (D : List Lk) {l : List Pt} {p : Pt}, p ∈ l → p ∈ jrd D l
  | [], _, _, h => h
  | x :: D, _, _, h => jrd_mem D (jst_mem h)
theorem jrd_all {P : Pt → Prop} : ∀ (D : List Lk) {l : List Pt}, (∀ x ∈ D, P x.s → P x.t) → (∀ p ∈ l, P p) → ∀ p ∈ jrd D l, P p
  | [], _, _, h => h
  | x :: D, l, hD, h => jrd_all D (fun y hy => hD y (List.mem_cons_of_mem _ hy)) (fun p hp => (jst_of hp).elim (h p) (fun e => by rw [e.2]; exact hD x (List.mem_cons_self ..) (h _ e.1)))
theorem jrd_same : ∀ (D : List Lk) {l : List Pt}, (jrd D l).length = l.length → jrd D l = l ∧ ∀ x ∈ D, x.s ∈ l → x.t ∈ l
  | [], _, _ => ⟨rfl, fun x hx => by cases hx⟩
  | x :: D, l, h => by
    have h1 := jst_le l x
    have h2 := jrd_le D (jst l x)
    have h3 : (jrd D (jst l x)).length = l.length := h
    have e1 := jst_same (l := l) (x := x) (by omega)
    rw [e1] at h3
    obtain ⟨e2, e3⟩ := jrd_same D h3
    refine ⟨by show jrd D (jst l x) = l; rw [e1]; exact e2, fun y hy => ?_⟩
    rcases List.mem_cons.1 hy with rfl | hy
    · exact jst_done e1
    · exact e3 y hy
theorem jns_all {P : Pt → Prop} (D : List Lk) (hD : ∀ x ∈ D, P x.s → P x.t) : ∀ (n : Nat) {l : List Pt}, (∀ p ∈ l, P p) → ∀ p ∈ jns D n l, P p
  | 0, _, h => h
  | n + 1, _, h => jns_all D hD n (jrd_all D hD h)
theorem jns_nodup (D : List Lk) : ∀ (n : Nat) {l : List Pt}, l.Nodup → (jns D n l).Nodup
  | 0, _, h => h
  | n + 1, _, h => jns_nodup D n (jrd_nodup D h)
theorem jns_mem (D : List Lk) : ∀ (n : Nat) {l : List Pt} {p : Pt}, p ∈ l → p ∈ jns D n l
  | 0, _, _, h => h
  | n + 1, _, _, h => jns_mem D n (jrd_mem D h)
theorem jns_still (D : List Lk) {l : List Pt} (h : jrd D l = l) : ∀ n, jns D n l = l
  | 0 => rfl
  | n + 1 => by show jns D n (jrd D l) = l; rw [h]; exact jns_still D h n
/-- Each round that is not the last grows. -/
theorem jns_grow (D : List Lk) : ∀ (n : Nat) (l : List Pt), l.length + n ≤ (jns D n l).length ∨ (∀ x ∈ D, x.s ∈ jns D n l → x.t ∈ jns D n l)
  | 0, l => .inl (Nat.le_refl _)
  | n + 1, l => by
    by_cases e : (jrd D l).length = l.length
    · obtain ⟨e1, e2⟩ := jrd_same D e
      refine .inr ?_
      have : jns D (n + 1) l = l := jns_still D e1 (n + 1)
      rw [this]
      exact e2
    · have := jrd_le D l
      rcases jns_grow D n (jrd D l) with h | h
      · left
        show l.length + (n + 1) ≤ (jns D n (jrd D l)).length
        omega
      · exact .inr h
/-- What the reference finds justified. -/
def jus (a : Pt) (D : List Lk) : List Pt := jns D (D.length + 1) [a]
theorem jus_nodup (a : Pt) (D : List Lk) : (jus a D).Nodup := jns_nodup D _ (by simp)
theorem jus_in (a : Pt) (D : List Lk) : ∀ p ∈ jus a D, p ∈ a :: D.map (·.t) :=
  jns_all D (fun x hx _ => List.mem_cons_of_mem _ (List.mem_map_of_mem hx)) _ (fun p hp => by rw [List.mem_singleton] at hp; rw [hp]; exact List.mem_cons_self ..)
theorem jus_len (a : Pt) (D : List Lk) : (jus a D).length ≤ D.length + 1 := by
  have := nodup_le ptZ (jus_nodup a D) (jus_in a D)
  simpa using this
theorem jus_closed (a : Pt) (D : List Lk) : ∀ x ∈ D, x.s ∈ jus a D → x.t ∈ jus a D := by
  rcases jns_grow D (D.length + 1) [a] with h | h
  · have := jus_len a D
    unfold jus at this
    simp at h
    omega
  · exact h
theorem jus_anchor (a : Pt) (D : List Lk) : a ∈ jus a D := jns_mem D _ (by simp)
/-- The gadget finds the same. -/
theorem jus_iff {a : Pt} {S : FgS} (h : Inv a S) {D : List Lk} (hD : ∀ y, y ∈ S.told ↔ y ∈ D) (p : Pt) : p ∈ jus a D ↔ 1 ≤ stN S.stands p := by
  constructor
  · exact jns_all (P := fun p => 1 ≤ stN S.stands p) D (fun x hx => h.closed ((hD x).2 hx)) _ (fun q hq => by rw [List.mem_singleton] at hq; rw [hq, h.pend.anc]; omega) p
  · suffices H : ∀ (n : Nat) (p : Pt), p.e ≤ n → 1 ≤ stN S.stands p → p ∈ jus a D from H _ p (Nat.le_refl _)
    intro n
    induction n with
    | zero =>
      intro p hp hj
      rcases h.pend.fro p hj with rfl | ⟨y, y1, y2, y3⟩
      · exact jus_anchor _ D
      · have hm := h.may y y1
        have : y.s.e < y.t.e := by unfold mayL at hm; simp at hm; exact hm.2
        rw [y2] at this; omega
    | succ n ih =>
      intro p hp hj
      rcases h.pend.fro p hj with rfl | ⟨y, y1, y2, y3⟩
      · exact jus_anchor _ D
      · have hm := h.may y y1
        have hlt : y.s.e < y.t.e := by unfold mayL at hm; simp at hm; exact hm.2
        rw [y2] at hlt
        rw [← y2]
        exact jus_closed a D y ((hD y).1 y1) (ih y.s (by omega) y3)
/-- What the reference finds final. -/
def fst (J : List Pt) (l : List Pt) (x : Lk) : List Pt := if x.s ∈ J ∧ near x = true ∧ x.s ∉ l then l ++ [x.s] else l
def fis (a : Pt) (J : List Pt) (D : List Lk) : List Pt := D.foldl (fst J) [a]
theorem fis_mem (J : List Pt) : ∀ (D : List Lk) (l : List Pt) (p : Pt), p ∈ D.foldl (fst J) l ↔ p ∈ l ∨ ∃ x ∈ D, x.s = p ∧ near x = true ∧ x.s ∈ J
  | [], l, p => by simp
  | x :: D, l, p => by
    rw [List.foldl_cons, fis_mem J D]
    have : p ∈ fst J l x ↔ p ∈ l ∨ (x.s = p ∧ near x = true ∧ x.s ∈ J) := by
      unfold fst
      split
      · next c =>
        rw [List.mem_append, List.mem_singleton]
        constructor
        · rintro (e | rfl)
          · exact .inl e
          · exact .inr ⟨rfl, c.2.1, c.1⟩
        · rintro (e | ⟨e, _⟩)
          · exact .inl e
          · exact .inr e.symm
      · next c =>
        constructor
        · exact .inl
        · rintro (e | ⟨rfl, e2, e3⟩)
          · exact e
          · by_cases hc : x.s ∈ l
            · exact hc
            · exact absurd ⟨e3, e2, hc⟩ c
    rw [this]
    constructor
    · rintro ((e | e) | ⟨y, y1, y2⟩)
      · exact .inl e
      · exact .inr ⟨x, List.mem_cons_self .., e⟩
      · exact .inr ⟨y, List.mem_cons_of_mem _ y1, y2⟩
    · rintro (e | ⟨y, y1, y2⟩)
      · exact .inl (.inl e)
      · rcases List.mem_cons.1 y1 with rfl | y1
        · exact .inl (.inr y2)
        · exact .inr ⟨y, y1, y2⟩
theorem fis_nodup (J : List Pt) : ∀ (D : List Lk) {l : List Pt}, l.Nodup → (D.foldl (fst J) l).Nodup
  | [], _, h => h
  | x :: D, l, h => by
    rw [List.foldl_cons]
    refine fis_nodup J D ?_
    unfold fst
    split
    · next c => exact List.nodup_append.2 ⟨h, by simp, fun y hy z hz e => by rw [List.mem_singleton] at hz; subst hz; subst e; exact c.2.2 hy⟩
    · exact h
end Go.Proofs.Ythlbpjkopkicbaa
namespace Go.Proofs.Ythlbpjkopkicbaa
open Go.ChangeMaps Go.MapKept Go.Maps Go.WideElems Go.RowKit Go.ChangeShapes Go.WideShapes Go.ChangeAt
set_option linter.unusedVariables false
set_option maxRecDepth 100000

/-- A list of checkpoints that stays. -/
def PtsAt (w : World) (A : Option Addr) (L : List Pt) : Prop := ∀ u, Below w.heap.size w u → ∀ (k : Nat) p, L[k]? = some p → ∃ g, A = some ⟨g, 0, none⟩ ∧ u.rangeAt g (k * 33) (pC p)
theorem PtsAt.below {w u : World} {A : Option Addr} {L : List Pt} (h : PtsAt w A L) (hb : Below w.heap.size w u) : PtsAt u A L := fun v hv => h v (hb.trans (hv.mono hb.size))
noncomputable def hs_r4C : Code := ((Try.f33.body.bind (regionOf 4))).getD .skip
set_option maxRecDepth 1000000 in
set_option maxHeartbeats 8000000 in
theorem hs_r4 (c1 c2 c4 c6 c7 c8 c9 c10 c11 c12 c13 c14 c15 c16 c17 : Value) (w : World) (ga gx n ca k : Nat) (q p : Pt) (hk : k < n) (hx : w.rangeAt ga (k * 33) (pC q)) (hy : w.rangeAt gx 0 (pC p))
    (Q : Exit → Act → World → Prop) (hQ : ∀ (u12 u13 u14 u15 u16 : Value) (w' : World), Below w.heap.size w w' → Q .normal ⟨#[.slice (some ⟨ga, 0, none⟩) n ca, c1, c2, .pointer (some ⟨gx, 0, none⟩), c4, .int .i64 (k : Int), c6, c7, c8, c9, c10, c11, u12, u13, u14, u15, u16, .bool (decide (q = p))], []⟩ w') :
    Code.wp Try.prog hs_r4C Q ⟨#[.slice (some ⟨ga, 0, none⟩) n ca, c1, c2, .pointer (some ⟨gx, 0, none⟩), c4, .int .i64 (k : Int), c6, c7, c8, c9, c10, c11, c12, c13, c14, c15, c16, c17], []⟩ w := by
  conv => arg 2; whnf
  try dsimp only at hQ ⊢
  have q1 : (k : Int) < (n : Int) := by omega
  have RX : Hid (w.drew.rangeAt ga (k * 33) (pC q) ∧ w.drew.rangeAt gx 0 (pC p)) := ⟨hx, hy⟩
  clear hx hy
  refine wp_region_noPanic ?_
  refine wp_region_held_drew (S := (fun u => u.rangeAt ga (k * 33) (pC q) ∧ u.rangeAt gx 0 (pC p))) (by kernel_rfl) (RX.out) (fun hHeld => ?_)
  refine takeH (i := 0) (d := 12) (oi := _) (v := .slice (some ⟨ga, 0, none⟩) n ca) rfl (by kernel_rfl) (by kernel_rfl) (by kernel_rfl) (by kernel_rfl) (fun _ _ _ h => h) (Or.inl ⟨by kernel_rfl, by intro u hSw; clear hSw; go_simp⟩) hHeld ?_
  try simp only [List.setIfInBounds_toArray, List.set_cons_zero, List.set_cons_succ]
  refine takeH (i := 1) (d := 13) (oi := _) (v := .int .i64 (k : Int)) rfl (by kernel_rfl) (by kernel_rfl) (by kernel_rfl) (by kernel_rfl) (fun _ _ _ h => h) (Or.inl ⟨by kernel_rfl, by intro u hSw; clear hSw; go_simp⟩) hHeld ?_
  try simp only [List.setIfInBounds_toArray, List.set_cons_zero, List.set_cons_succ]
  refine takeH (i := 2) (d := 14) (oi := _) (v := .pointer (some ⟨ga, (k * 33), none⟩)) rfl (by kernel_rfl) (by kernel_rfl) (by kernel_rfl) (by kernel_rfl) (fun _ _ _ h => h) (Or.inl ⟨by kernel_rfl, by intro u hSw; clear hSw; go_simp⟩) hHeld ?_
  try simp only [List.setIfInBounds_toArray, List.set_cons_zero, List.set_cons_succ]
  refine takeH (i := 3) (d := 15) (oi := _) (v := .agg (pv q)) rfl (by kernel_rfl) (by kernel_rfl) (by kernel_rfl) (by kernel_rfl) (fun _ _ _ h => h) (yieldsIf_load_midC (by kernel_rfl) _ _ rfl (ga) (k * 33) rfl (pC q) (pv q) (pC_arr q) _ (fun u hSw => hSw.1) Try.underlying29 rfl (size_pv q)) hHeld ?_
  try simp only [List.setIfInBounds_toArray, List.set_cons_zero, List.set_cons_succ]
  refine takeH (i := 4) (d := 16) (oi := _) (v := .agg (pv p)) rfl (by kernel_rfl) (by kernel_rfl) (by kernel_rfl) (by kernel_rfl) (fun _ _ _ h => h) (yieldsIf_load_midC (by kernel_rfl) _ _ rfl (gx) 0 rfl (pC p) (pv p) (pC_arr p) _ (fun u hSw => hSw.2) Try.underlying29 rfl (size_pv p)) hHeld ?_
  try simp only [List.setIfInBounds_toArray, List.set_cons_zero, List.set_cons_succ]
  refine takeH (i := 5) (d := 17) (oi := _) (v := .bool (decide (q = p))) rfl (by kernel_rfl) (by kernel_rfl) (by kernel_rfl) (by kernel_rfl) (fun _ _ _ h => h) (yieldsIf_eql (by kernel_rfl) 29 29 (.tmp 15) (.tmp 16) rfl (pv q) (pv p) rfl rfl guard_point _ (eq_point9 q p)) hHeld ?_
  try simp only [List.setIfInBounds_toArray, List.set_cons_zero, List.set_cons_succ]
  refine wpAnyH_done (by kernel_rfl) ?_ _
  refine NoPanic.normal ?_
  exact hQ _ _ _ _ _ _ ((Below.refl w.heap.size w).drew)
theorem has_ref (w : World) (A : Option Addr) (n ca : Nat) (Lp : List Pt) (p : Pt) (hn : n = Lp.length) (hn2 : n ≤ 1000000000) (hA : PtsAt w A Lp) :
    Calls Try.prog 33 #[.slice A n ca, .agg (pv p)] w fun e w' => e = .returned (.bool (decide (p ∈ Lp))) ∧ Below w.heap.size w w' := by
  obtain ⟨W0, hW0⟩ : ∃ W0, W0 = w.alloc (.cells (pv p) 29) := ⟨_, rfl⟩
  have b0 : Below w.heap.size w W0 := by rw [hW0]; exact (Below.refl _ _).alloc (Nat.le_refl _) _
  have p0 : PkB w.heap.size p W0 := by rw [hW0]; exact PkB.new
  have HW := Lib.hid hW0
  have HA := Lib.hid (hA.below b0)
  have HN := Lib.hid hn
  have B0 := Lib.hid b0
  have P0 := Lib.hid p0
  clear hA hn hW0 b0 p0
  go_enter Try.func33, Try.ntmps33
  go_upto_region 1 with fail
  rw [← HW.out]
  go_wp2_with fail
  go_loopw [5] (fun v5 u => ∃ k, k ≤ n ∧ v5 = .int .i64 (k : Int) ∧ Below W0.heap.size W0 u ∧ ∀ i, i < k → Lp[i]? ≠ some p) (fun v5 _ => n - (intOf v5).toNat)
  case atStart => exact ⟨0, Nat.zero_le _, rfl, Below.refl _ _, fun i h => absurd h (Nat.not_lt_zero _)⟩
  case round =>
    obtain ⟨k, hk, rfl, q1, q2⟩ := hrel
    have B1 := Lib.hid q1
    have C1 := Lib.hid q2
    clear q1 q2
    by_cases hkn : k < n
    · obtain ⟨q, hq⟩ : ∃ q, Lp[k]? = some q := ⟨_, List.getElem?_eq_getElem (by have := HN.out; omega)⟩
      obtain ⟨ga, rfl, ka⟩ := HA.out wr B1.out k q hq
      have kb := (P0.out.below B1.out P0.out.lt).all
      have HQ := Lib.hid hq
      clear hq
      go_wp2_with fail
      refine hs_r4 _ _ _ _ _ _ _ _ _ _ _ _ _ _ _ wr ga w.heap.size n ca k q p hkn ka kb _ ?_
      intro t12 t13 t14 t15 t16 w2 b2
      have B2 := Lib.hid (B1.out.trans (b2.mono B1.out.size))
      clear b2 ka kb
      by_cases he : q = p
      · have d1 : decide (q = p) = true := decide_eq_true he
        have M := Lib.hid (show decide (p ∈ Lp) = true from decide_eq_true (by rw [← he]; exact List.mem_of_getElem? HQ.out))
        clear he
        rw [d1]
        clear d1
        go_wp2_with fail
        go_ret
        exact ⟨by rw [M.out]; rfl, B0.out.trans (B2.out.mono B0.out.size)⟩
      · have d1 : decide (q = p) = false := decide_eq_false he
        have C2 : Hid (∀ i, i < k + 1 → Lp[i]? ≠ some p) := fun i hi hq => by
          by_cases e : i = k
          · subst e
            rw [HQ.out] at hq
            injection hq with hq
            exact he hq
          · exact C1.out i (by omega) hq
        clear he
        rw [d1]
        clear d1
        go_wp2_with fail
        exact ⟨⟨k + 1, by omega, by go_num, B2.out, C2.out⟩, by simp [intOf]; omega⟩
    · obtain rfl : k = n := by omega
      have M := Lib.hid (show decide (p ∈ Lp) = false from decide_eq_false (fun h => by
        obtain ⟨i, hi⟩ := List.getElem?_of_mem h
        exact C1.out i (by have := (List.getElem?_eq_some_iff.1 hi).1; have := HN.out; omega) hi))
      go_wp2_with fail
      go_ret
      exact ⟨by rw [M.out]; rfl, B0.out.trans (B1.out.mono B0.out.size)⟩
end Go.Proofs.Ythlbpjkopkicbaa
namespace Go.Proofs.Ythlbpjkopkicbaa
open Go.ChangeMaps Go.MapKept Go.Maps Go.WideElems Go.RowKit Go.ChangeShapes Go.WideShapes Go.ChangeAt
set_option linter.unusedVariables false
set_option maxRecDepth 100000

theorem below_dr {B : Nat} {a w : World} (h : Below B a w) (n : Nat) : Below B a (w.drewN n) := ⟨h.os, h.tape, h.output, h.size, h.block⟩
theorem str_tl (l : List UInt8) : (ByteArray.mk l.toArray).toList = l := by rw [ByteArray.toList_eq]
theorem bytesLess_L : ∀ a b : List UInt8, a.length = b.length → Op.bytesLess a b = decide (cmpL a b < 0)
  | [], [], _ => by simp [Op.bytesLess, cmpL]
  | [], _ :: _, h => by simp at h
  | _ :: _, [], h => by simp at h
  | x :: a, y :: b, h => by
    have ih := bytesLess_L a b (by simpa using h)
    unfold Op.bytesLess cmpL orI cmpN
    have e1 : (x < y) = (x.toNat < y.toNat) := rfl
    rcases Nat.lt_trichotomy x.toNat y.toNat with h1 | h1 | h1
    · simp [e1, h1]
    · have : x = y := UInt8.toNat_inj.1 h1
      subst this
      simp [ih]
    · have h2 : ¬ x.toNat < y.toNat := by omega
      have hne : (x == y) = false := by
        rw [beq_eq_false_iff_ne]
        intro e
        subst e
        omega
      simp [e1, h1, h2, hne]
theorem cmpN_neg (a b : Nat) : decide (cmpN a b < 0) = decide (a < b) := by
  unfold cmpN
  by_cases h : a < b
  · simp [h]
  · by_cases h2 : b < a <;> simp [h, h2]
theorem less_plain (p q : Pt) : (decide (p.e < q.e) || (p.e == q.e && Op.bytesLess p.l q.l)) = decide (keyN p < keyN q) := by
  rw [← cmpN_neg (keyN p) (keyN q), ← cmpP_key, bytesLess_L _ _ (by rw [p.hl, q.hl])]
  unfold cmpP orI
  rcases Nat.lt_trichotomy p.e q.e with h1 | h1 | h1
  · have e1 : cmpN p.e q.e = -1 := by unfold cmpN; rw [if_pos h1]
    have e2 : decide (p.e < q.e) = true := by simpa using h1
    rw [e1, e2]
    simp
  · have e1 : cmpN p.e q.e = 0 := by rw [h1]; unfold cmpN; simp
    have e2 : decide (p.e < q.e) = false := by simp; omega
    have e3 : (p.e == q.e) = true := by simpa using h1
    rw [e1, e2, e3]
    simp
  · have e1 : cmpN p.e q.e = 1 := by unfold cmpN; rw [if_neg (by omega), if_pos h1]
    have e2 : decide (p.e < q.e) = false := by simp; omega
    have e3 : (p.e == q.e) = false := by simp; omega
    rw [e1, e2, e3]
    simp
set_option maxHeartbeats 4000000 in
theorem less_ref (p q : Pt) (w : World) :
    Calls Try.prog 48 #[.agg (pv p), .agg (pv q)] w fun x w' => x = .returned (.bool (decide (keyN p < keyN q))) ∧ Below w.heap.size w w' := by
  obtain ⟨W, hW⟩ : ∃ W, W = (w.alloc (.cells (pv p) 29)).alloc (.cells (pv q) 29) := ⟨_, rfl⟩
  have b0 : Below w.heap.size w W := by rw [hW]; exact ((Below.refl _ _).alloc (Nat.le_refl _) _).alloc (by simp) _
  have p0 : PkB w.heap.size p W := by rw [hW]; exact (PkB.new (w := w)).below ((Below.refl (w.alloc (.cells (pv p) 29)).heap.size _).alloc (Nat.le_refl _) _) (by simp)
  have p1 : PkB (w.heap.size + 1) q W := by
    rw [hW]
    have := PkB.new (w := w.alloc (.cells (pv p) 29)) (p := q)
    rwa [heap_sz] at this
  have hsz : W.heap.size = w.heap.size + 2 := by rw [hW]; simp
  have k0 : ∀ n, (W.drewN n).cell? ⟨w.heap.size, 0, none⟩ = some (.int .u64 (p.e : Int)) := fun _ => cell_of_row W w.heap.size 0 _ _ (0, 0) p0.row
  have k1 : ∀ n, (W.drewN n).cell? ⟨w.heap.size + 1, 0, none⟩ = some (.int .u64 (q.e : Int)) := fun _ => cell_of_row W (w.heap.size + 1) 0 _ _ (0, 0) p1.row
  obtain ⟨sx, hsx⟩ : ∃ sx : ByteArray, sx = ⟨p.l.toArray⟩ := ⟨_, rfl⟩
  obtain ⟨sy, hsy⟩ : ∃ sy : ByteArray, sy = ⟨q.l.toArray⟩ := ⟨_, rfl⟩
  have s0 : ∀ n, (convert 94 9 (.slice (some ⟨w.heap.size, 1, none⟩) 32 32)).run Try.prog (W.drewN n) = .ok (.string sx) (W.drewN n) := fun n => by
    rw [hsx]
    exact run_str (w := W.drewN n) (show Rd (W.drewN n) 0 W.heap.size _ p.l from p0.rd) 32 32 p.hl.symm
  have s1 : ∀ n, (convert 94 9 (.slice (some ⟨w.heap.size + 1, 1, none⟩) 32 32)).run Try.prog (W.drewN n) = .ok (.string sy) (W.drewN n) := fun n => by
    rw [hsy]
    exact run_str (w := W.drewN n) (show Rd (W.drewN n) 0 W.heap.size _ q.l from p1.rd) 32 32 q.hl.symm
  have hlt : Op.bytesLess sx.toList sy.toList = Op.bytesLess p.l q.l := by rw [hsx, hsy, str_tl, str_tl]
  have HE := Lib.hid (less_plain p q).symm
  have HB := Lib.hid b0
  have HW := Lib.hid hW
  clear hW b0 p0 p1 hsz hsx hsy
  by_cases h1 : p.e < q.e
  · have d1 : decide ((p.e : Int) < (q.e : Int)) = true := by simp; omega
    have d1' : decide (p.e < q.e) = true := by simpa using h1
    rw [d1', Bool.true_or] at HE
    clear hlt
    go_enter Try.func48, Try.ntmps48
    go_wp2_with fail
    rw [← HW.out]
    go_quiet (fail)
    go_wp2_with fail
    go_ret
    exact ⟨by rw [HE.out]; rfl, below_dr HB.out nq⟩
  · have d1 : decide ((p.e : Int) < (q.e : Int)) = false := by simp; omega
    have d1' : decide (p.e < q.e) = false := by simpa using h1
    rw [d1', Bool.false_or] at HE
    by_cases h2 : p.e = q.e
    · have d2 : ((p.e : Int) == (q.e : Int)) = true := by simp; omega
      have d2' : (p.e == q.e) = true := by simpa using h2
      rw [d2', Bool.true_and, ← hlt] at HE
      clear h1 h2 hlt
      go_enter Try.func48, Try.ntmps48
      go_wp2_with fail
      rw [← HW.out]
      go_quiet (fail)
      go_wp2_with fail
      go_ret
      exact ⟨by rw [HE.out]; rfl, below_dr HB.out nq⟩
    · have d2 : ((p.e : Int) == (q.e : Int)) = false := by simp; omega
      have d2' : (p.e == q.e) = false := by simpa using h2
      rw [d2', Bool.false_and] at HE
      clear h1 h2 hlt
      go_enter Try.func48, Try.ntmps48
      go_wp2_with fail
      rw [← HW.out]
      go_quiet (fail)
      go_wp2_with fail
      go_ret
      exact ⟨by rw [HE.out]; rfl, below_dr HB.out nq⟩
end Go.Proofs.Ythlbpjkopkicbaa
