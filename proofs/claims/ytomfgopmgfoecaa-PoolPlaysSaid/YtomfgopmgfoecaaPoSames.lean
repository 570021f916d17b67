/- Pool: a pool and the reference look the same. -/
import Derived.Test.YtomfgopmgfoecaaPoGathers
import Derived.RangeFuncNested
import Derived.RangeFuncCalls
import Derived.RangeFuncFrom
import Derived.RangeFuncWrites
import Derived.Test.YtomfgopmgfoecaaMem
import Derived.OwnWalkIn
import Derived.Deep.RegionHeld3
import Derived.Test.YtomfgopmgfoecaaPoSame
import Derived.Test.YtomfgopmgfoecaaPoRLinks
import Derived.Test.YtomfgopmgfoecaaPoolSum
import Derived.BigFrame
import Derived.RangeFuncBound
import Derived.RangeFuncLeaves
import Derived.TacticsInMore
import Derived.LoopNIn
import Derived.LoopIn
namespace Go.Proofs.Ytomfgopmgfoecaa
open Go.RowKit
set_option linter.unusedVariables false

section
variable {F : Fence} {n : Nat} {P : Program}
theorem wpIn_range_mem2 {g : Operand} {ps : Array Tmp} {assign body : Code} {Q : Exit → Act → World → Prop} {a : Act} {w : World} (hro : F.round = none) (h1 : 1 ≤ n) {gf : Nat} {lb : Array Value} (hg : a.eval g = .func (.func gf) #[] lb) (hFg : F.fn gf) (eg : ∀ args w, (callFunc gf args).run P w = .ok (.enter gf args) w)
    {Y : Nat → Array Value → World → Prop} {Kp : World → World → Prop} {N : Nat} (hseq : GoesM F (n - 1) P gf lb Y Kp N w)
    (hKt : ∀ {A B C : World}, Kp A B → Kp B C → Kp A C) (hKb : ∀ (W : World) (l : Nat) (o' : Obj), w.heap.size ≤ l → Kp W (W.putObj l o'))
    (hYs : ∀ k args W, Y k args W → args.size = ps.size)
    (I : Nat → World → Prop) (hI : OwnFrom w.heap.size I) (h0 : I 0 w) (Rr : Nat → Act → World → Prop) (hRr : ∀ k a', OwnFrom w.heap.size (fun (_ : Unit) => Rr k a'))
    (hassign : ∀ (l k : Nat) (args : Array Value) (W : World) (K : Act → World → Prop), I k W → Y k args W → k < N → (∀ a' W', Rr k a' W' → Below W.heap.size W W' → Kp W W' → K a' W') →
      assign.wpIn (F.inRound l) (n - 1 - 1) P (Exit.then K (fun _ _ _ => False)) { tmps := (ps.zip args).foldl (fun t (p, v) => t.setIfInBounds p v) a.tmps, defers := [] } W)
    (hbody : ∀ (l k : Nat) (a' : Act) (W : World), Rr k a' W → k < N → body.wpIn (F.inRound l) (n - 1 - 1) P (EndsM w.heap.size Kp (I (k + 1)) W) a' W)
    (hdone : ∀ (D : Nat) (W : World), w.heap.size ≤ D → I N W → W.heap[D]? = some (.deferred (some [])) → Q .normal { a with defers := { target := .collected D, args := #[] } :: a.defers } W) :
    (Code.rangeFunc g ps assign body).wpIn F n P Q a w := by
  refine wpIn_rangeFunc fun fn hfn => ?_
  rw [hro]
  obtain ⟨d, hd⟩ : ∃ d, d = w.heap.size := ⟨_, rfl⟩
  obtain ⟨R, hR⟩ : ∃ R : LoopState → Loop, R = fun st => { state := st, pending := none, fn := fn, tmps := a.tmps, params := ps, assign := assign, body := body, defers := d } := ⟨_, rfl⟩
  have hst : ∀ st, (R st).state = st := fun st => by rw [hR]
  obtain ⟨V, hV⟩ : ∃ V, V = (w.alloc (.deferred (some []))).alloc (.loop (R .ready)) := ⟨_, rfl⟩
  have bV : Below w.heap.size w V := by rw [hV]; exact ((Below.refl _ w).alloc (Nat.le_refl _) _).alloc (by simp) _
  have vl : V.heap[d + 1]? = some (.loop (R .ready)) := by
    have := World.alloc_heap_new (w.alloc (.deferred (some []))) (.loop (R .ready))
    rw [World.size_alloc, ← hd, ← hV] at this
    exact this
  have vd : V.heap[d]? = some (.deferred (some [])) := by rw [hV, hd]; exact (Below.heap_alloc _ _ _ (by simp)).trans (World.alloc_heap_new w _)
  have vi : I 0 V := by rw [hV]; exact hI.alloc _ (hI.alloc _ h0)
  have he := run_enterLoop_outer (P := P) (w := w) fn a.tmps ps assign body
  rw [← hd] at he
  have hR0 : (R .ready : Loop) = { state := .ready, pending := none, fn := fn, tmps := a.tmps, params := ps, assign := assign, body := body, defers := d } := by rw [hR]
  rw [← hR0, ← hV] at he
  refine ⟨d + 1, _, V, { target := .fn (.func gf) lb, args := #[.func (.yield (d + 1)) #[] #[]] }, V, gf, #[.func (.yield (d + 1)) #[] #[]] ++ lb, V, he, by simp only [resolve, hg]; simp [go_sem], fun f' hf' => by simp [Target.leads] at hf'; subst hf'; exact hFg, by simp [invoke, go_sem, eg], fun _ => h1, ?_⟩
  have hVs : V.heap.size = d + 2 := by rw [hV, hd]; simp
  refine (hseq (d + 1) (fun k W => I k W ∧ W.heap[d + 1]? = some (.loop (R .ready)) ∧ W.heap[d]? = some (.deferred (some []))) V bV ?_ ?_ ⟨vi, vl, vd⟩).mono ?_
  · intro k A B row hs hgr hrow
    have hk : ∀ j (o : Obj), A.heap[j]? = some o → o.isWalk = false → B.heap[j]? = A.heap[j]? := fun j o hj ho => grownBy_keeps hgr (fun r e => (hrow r e).2) hj ho
    exact ⟨hI k A B row hs.1 hgr (fun r e => by obtain ⟨h2, o, ho, hw⟩ := hrow r e; exact ⟨by omega, o, ho, Obj.not_cells_of_walk hw⟩), (hk _ _ hs.2.1 rfl).trans hs.2.1, (hk _ _ hs.2.2 rfl).trans hs.2.2⟩
  · intro k args W ⟨hi, hl, hdd⟩ hy hk
    have hlt : d + 1 < W.heap.size := (Array.getElem?_eq_some_iff.1 hl).1
    have hyl := run_yield (P := P) (args := args) hl (by rw [hR]; exact hYs k args W hy)
    rw [hR] at hyl
    refine ⟨fn, _, assign, body, hyl, roundIn_of_wpIn hfn (hassign _ k args W _ hi hy hk fun a' W2 hr2 bW kpW => ?_)⟩
    have hlW : W2.heap[d + 1]? = some (.loop (R .ready)) := (bW.block (d + 1) hlt).trans hl
    have hdW : W2.heap[d]? = some (.deferred (some [])) := (bW.block d (by omega)).trans hdd
    have hltW : d + 1 < W2.heap.size := Nat.lt_of_lt_of_le hlt bW.size
    refine ⟨_, run_beginRound hlW (hst _), ?_⟩
    have hl2 : (W2.putObj (d + 1) (.loop { R .ready with state := .busy })).heap[d + 1]? = some (.loop { R .ready with state := .busy }) := World.putObj_heap_same hltW
    have hd2 : (W2.putObj (d + 1) (.loop { R .ready with state := .busy })).heap[d]? = some (.deferred (some [])) := (World.putObj_heap_other (by omega)).trans hdW
    refine wpIn_mono (hbody _ k a' _ ((hRr k a').putObj (s := ()) _ hr2 (by omega) hlW rfl) hk) ?_
    intro e a3 W3 hp
    cases e with
    | normal =>
      obtain ⟨k3, kp3, i3⟩ := hp
      have hl3 := k3.same _ _ (by omega) hl2 rfl
      have hr := run_endRound (P := P) none hl3
      have hlt3 : d + 1 < W3.heap.size := (Array.getElem?_eq_some_iff.1 hl3).1
      refine ⟨_, _, hr, rfl, ⟨hI.putObj _ i3 (by omega) hl3 rfl, ?_, ?_⟩, hKt kpW (hKt (hKt (hKb _ _ _ (by omega)) kp3) (hKb _ _ _ (by omega)))⟩
      · rw [World.putObj_heap_same hlt3, hR]
        rfl
      · exact (World.putObj_heap_other (by omega)).trans (k3.same _ _ (by omega) hd2 rfl)
    | ret => exact hp.elim
    | exit id => exact hp.elim
    | goto t => exact hp.elim
    | panic c => exact hp.elim
    | outgrown => exact hp.elim
  · rintro e W ⟨⟨v, rfl⟩, hi, hl, hdd⟩
    have hen := run_endLoop (P := P) hl (by rw [hst]; simp)
    rw [show (R .ready).pending = none by rw [hR]] at hen
    refine ⟨none, _, hen, ?_⟩
    subst hd
    exact hdone _ _ (Nat.le_refl _) (hI.putObj _ hi (by omega) hl rfl) ((World.putObj_heap_other (by omega)).trans hdd)
end
end Go.Proofs.Ytomfgopmgfoecaa
namespace Go.Proofs.Ytomfgopmgfoecaa
open Go.RowKit
set_option linter.unusedVariables false

/-- No operation puts a call off. -/
def noDefer (ops : Array Oper) : Bool := ops.all fun o => match o.op with | .defer _ => false | _ => true
theorem noDefer_at {ops : Array Oper} (h : noDefer ops = true) {i : Nat} {o : Oper} (ho : ops[i]? = some o) (c : Call) : o.op ≠ .defer c := fun e => by
  unfold noDefer at h
  rw [Array.all_eq_true] at h
  obtain ⟨hi, rfl⟩ := Array.getElem?_eq_some_iff.1 ho
  have := h i hi
  rw [e] at this
  cases this
theorem upon_round {l n : Nat} {P : Program} {o : Oper} {a : Act} {K K' : Act → World → Prop} {Q : Exit → Act → World → Prop} (hK : ∀ a w, K a w → K' a w) :
    ∀ {r : Result Next}, o.upon P a K Q r → o.uponIn (Fence.wide.inRound l) n P a K' Q r := fun {r} h => by
  cases r with
  | ok x w' =>
    cases x <;> simp only [Oper.upon, Oper.uponIn] at h ⊢
    case value u => exact hK _ _ h
    case skip => exact hK _ _ h
    case defer d => exact hK _ _ h
    case enter f args =>
      refine ⟨fun h => (by cases h), CallsIn.inRound l (callsIn_wide.2 (h.mono fun e w'' he => ?_))⟩
      cases e with
      | returned u => exact hK _ _ he
      | panicked c => exact he
      | outgrown => exact he
    case row row args =>
      refine ⟨fun h => (by cases h), fun c cs _ => ?_⟩
      obtain ⟨v, w'', hv, hs⟩ := h c cs
      exact ⟨v, w'', hK _ _ hv, stepsIn_wide.2 hs⟩
  | halt x w' =>
    cases x <;> simp only [Oper.upon, Oper.uponIn] at h ⊢
    case panic u => exact h
theorem ops_round {l n : Nat} {P : Program} {ops : Array Oper} {Q : Exit → Act → World → Prop} (hd : noDefer ops = true) (hL : ¬ LetsOut Q) :
    ∀ (is : List Nat) (a : Act) (w : World), wpOps P ops Q is a w → wpOpsIn (Fence.wide.inRound l) n P ops Q is a w
  | [], a, w, h => h
  | i :: rest, a, w, h => by
    unfold wpOps at h
    unfold wpOpsIn
    cases ho : ops[i]? with
    | none =>
      rw [ho] at h
      exact ops_round hd hL rest a w h
    | some o =>
      rw [ho] at h
      simp only at h ⊢
      split
      · rename_i hw
        rw [if_pos hw] at h
        rcases h with h | h
        · unfold Oper.wpIn
          refine ⟨fun f _ => trivial, ?_⟩
          rw [show (Fence.wide.inRound l).round = some l from rfl, Oper.semAt_some l _ _ (noDefer_at hd ho)]
          exact upon_round (fun a w h => ops_round hd hL rest a w h) h
        · exact absurd h.2 hL
      · rename_i hw
        rw [if_neg hw] at h
        exact ⟨fun f _ => trivial, ops_round hd hL rest _ w h⟩
/-- The beginning: the region's condition is shown of the world behind the draw. -/
theorem wp_region_round {l n : Nat} {P : Program} {id : Nat} {ops : Array Oper} {Q : Exit → Act → World → Prop} {S : World → Prop} {a : Act} {w : World} (hm : P.follows .mixedOrders = true) (hd : noDefer ops = true) (hL : ¬ LetsOut Q) (hS : S w.drew)
    (h : S w.drew → wpAnyH P .any ops (NoPanic Q) S ops.size (Array.replicate ops.size false) a w.drew) : (Code.region id ops true).wpIn (Fence.wide.inRound l) n P Q a w := by
  have hL' : ¬ LetsOut (NoPanic Q) := hL
  refine wpIn_mono ?_ NoPanic.imp
  refine wpIn_region_draw fun t => ops_round hd hL' _ _ _ ?_
  simp only [Region.schedule, hm, Bool.true_or, if_true]
  exact wpAny_sound ops.size t _ a _ (wpAny_of_held _ _ _ _ (h hS))
/-- An operation is taken first, its slot named. -/
theorem take_slot {P : Program} {ops : Array Oper} {Q : Exit → Act → World → Prop} {S : World → Prop} {md : Region.Mode} {i : Nat} (d : Nat) {oi : Oper} {v : Value} {fuel : Nat} {listed : Array Bool} {ts : Array Value} {ds : List Deferred} {w : World} (hi : ops[i]? = some oi)
    (hd : oi.dst = some d) (hs : Region.noSelect ops = true) (hf : Region.free md ops listed i = true) (hr : (Region.ready md ops listed).contains i = true)
    (hQ : ∀ c a w, Q (.panic c) (a.put oi.dst v) w → Q (.panic c) a w) (hy : YieldsIf P ops S oi v ⟨ts, ds⟩) (hS : S w)
    (h : wpAnyH P md ops Q S fuel (listed.setIfInBounds i true) ⟨ts.setIfInBounds d v, ds⟩ w) : wpAnyH P md ops Q S (fuel + 1) listed ⟨ts, ds⟩ w :=
  wpAnyH_take hi hs hf hr hQ hy hS (by rw [hd]; exact h)
theorem own_letsOut {α : Type} {B : Nat} {Kp : World → World → Prop} {I : List α → World → Prop} {Ix : Code → List α → World → Prop} {xs : List α} {W : World} : ¬ LetsOut (ownPostG B Kp I Ix xs W) := fun ⟨_, _, h⟩ => h
/-- The body of a range over a function. -/
def rangeBody : Code → Code
  | .rangeFunc _ _ _ c => c
  | c => c
/-- The ranges over a function in a text, in its order. -/
def rangesOf : Code → List Code
  | .seq a b => rangesOf a ++ rangesOf b
  | .cond _ a b => rangesOf a ++ rangesOf b
  | .block _ c => rangesOf c
  | .loop c => rangesOf c
  | .scope c => rangesOf c
  | .rangeFunc g ps a c => [.rangeFunc g ps a c]
  | _ => []
end Go.Proofs.Ytomfgopmgfoecaa
namespace Go.Proofs.Ytomfgopmgfoecaa
open Go.ChangeMaps Go.MapKept Go.Maps Go.RowKit Go.ChangeShapes Go.WideShapes Go.ChangeAt
set_option linter.unusedVariables false
set_option maxRecDepth 100000

theorem own_lo {w : World} {base base' n : Nat} {v : Value} {t : TypeId} {sz : Nat} {xs : List Value} (h : w.ownsRow base t sz v n xs) (hb : base' ≤ base) : w.ownsRow base' t sz v n xs := ⟨h.1, h.2.imp id (fun ⟨g, cap, cur, e, hg, r⟩ => ⟨g, cap, cur, e, Nat.le_trans hb hg, r⟩)⟩
noncomputable def sm_r1C : Code := ((Try.f12.body.bind (regionOf 1))).getD .skip
set_option maxRecDepth 1000000 in
set_option maxHeartbeats 8000000 in
theorem sm_r1 (c1 c2 c4 c5 c6 c7 c8 c9 c10 c11 c12 c13 c14 c15 c16 c17 c18 c19 c20 c21 c22 c23 c24 c25 c26 c27 c28 c29 c30 c31 c32 c33 c34 c35 c36 c37 c38 c39 c40 c41 c42 c43 c44 c45 c46 c47 c48 c49 c50 c51 c52 c53 c54 c55 c56 c57 c58 c59 c60 c61 c62 c63 c64 c65 c66 c67 c68 c69 c70 c71 c72 c73 c74 c75 c76 c77 c78 c79 c80 c81 c82 c83 c84 c85 c86 c87 c88 c89 c90 c91 c92 c93 c94 c95 c96 c97 c98 c99 c100 c101 c102 c103 c104 c105 c106 c107 c108 c109 c110 c111 c112 c113 c114 c115 c116 c117 c118 c119 c120 c121 c122 c123 c124 c125 c126 c127 c128 c129 c130 c131 c132 c133 c134 c135 c136 c137 c138 c139 c140 c141 c142 c143 c144 c145 c146 c147 c148 c149 c150 c151 c152 c153 c154 c155 c156 c157 : Value) (w : World) (ga gr gx : Nat) (F G : Nat → Prop) (S : PoS) (V : List Sg) (K : List Lk) (hp : PoM ga F S w) (hr : RfM gr G V w) (hvl : V.length ≤ 100000) (hS : S.links = K) (hV : ddl (V.map (·.k)) = K) (hx : w.cell? ⟨gx, 0, none⟩ = some (.pointer (some ⟨gr, 0, none⟩))) (hgx : gx < w.heap.size)
    (Q : Exit → Act → World → Prop) (hQ : ∀ (u14 u15 u16 u17 : Value) (w' : World) (A1 : Option Addr) (k1 : Nat) (A2 : Option Addr) (k2 : Nat), Below w.heap.size w w' ∧ w'.ownsRow w.heap.size 50 66 (.slice A1 K.length k1) K.length (rws lC K) ∧ w'.ownsRow w.heap.size 50 66 (.slice A2 K.length k2) K.length (rws lC K) → Q .normal ⟨#[.pointer (some ⟨ga, 0, none⟩), c1, c2, .pointer (some ⟨gx, 0, none⟩), c4, .slice A1 K.length k1, .slice A2 K.length k2, c7, c8, c9, c10, c11, c12, c13, u14, u15, u16, u17, c18, c19, c20, c21, c22, c23, c24, c25, c26, c27, c28, c29, c30, c31, c32, c33, c34, c35, c36, c37, c38, c39, c40, c41, c42, c43, c44, c45, c46, c47, c48, c49, c50, c51, c52, c53, c54, c55, c56, c57, c58, c59, c60, c61, c62, c63, c64, c65, c66, c67, c68, c69, c70, c71, c72, c73, c74, c75, c76, c77, c78, c79, c80, c81, c82, c83, c84, c85, c86, c87, c88, c89, c90, c91, c92, c93, c94, c95, c96, c97, c98, c99, c100, c101, c102, c103, c104, c105, c106, c107, c108, c109, c110, c111, c112, c113, c114, c115, c116, c117, c118, c119, c120, c121, c122, c123, c124, c125, c126, c127, c128, c129, c130, c131, c132, c133, c134, c135, c136, c137, c138, c139, c140, c141, c142, c143, c144, c145, c146, c147, c148, c149, c150, c151, c152, c153, c154, c155, c156, c157], []⟩ w') :
    Code.wp Try.prog sm_r1C Q ⟨#[.pointer (some ⟨ga, 0, none⟩), c1, c2, .pointer (some ⟨gx, 0, none⟩), c4, c5, c6, c7, c8, c9, c10, c11, c12, c13, c14, c15, c16, c17, c18, c19, c20, c21, c22, c23, c24, c25, c26, c27, c28, c29, c30, c31, c32, c33, c34, c35, c36, c37, c38, c39, c40, c41, c42, c43, c44, c45, c46, c47, c48, c49, c50, c51, c52, c53, c54, c55, c56, c57, c58, c59, c60, c61, c62, c63, c64, c65, c66, c67, c68, c69, c70, c71, c72, c73, c74, c75, c76, c77, c78, c79, c80, c81, c82, c83, c84, c85, c86, c87, c88, c89, c90, c91, c92, c93, c94, c95, c96, c97, c98, c99, c100, c101, c102, c103, c104, c105, c106, c107, c108, c109, c110, c111, c112, c113, c114, c115, c116, c117, c118, c119, c120, c121, c122, c123, c124, c125, c126, c127, c128, c129, c130, c131, c132, c133, c134, c135, c136, c137, c138, c139, c140, c141, c142, c143, c144, c145, c146, c147, c148, c149, c150, c151, c152, c153, c154, c155, c156, c157], []⟩ w := by
  conv => arg 2; whnf
  try dsimp only at hQ ⊢
  obtain ⟨w2, hw2⟩ : ∃ w2, w2 = w.drew := ⟨_, rfl⟩
  have BX : Hid (Below w.heap.size w w2) := by rw [hw2]; exact (Below.refl _ _).drew
  have KP : Hid (∀ u : World, Below w.heap.size w u → PoM ga F S u ∧ RfM gr G V u ∧ u.cell? ⟨gx, 0, none⟩ = some (.pointer (some ⟨gr, 0, none⟩))) := fun u hu => ⟨hp.below hu, hr.below hu, (hu.cell hgx).trans hx⟩
  have HS := Lib.hid hS
  have HV := Lib.hid hV
  have HVL := Lib.hid hvl
  clear hp hr hx hgx hS hV hvl
  refine wp_region_noPanic ?_
  refine wp_region_held_drew (S := (fun u => u.cell? ⟨gx, 0, none⟩ = some (.pointer (some ⟨gr, 0, none⟩)))) (by kernel_rfl) (by rw [← hw2]; exact (KP.out _ BX.out).2.2) (fun hHeld => ?_)
  rw [← hw2]
  rw [← hw2] at hHeld
  clear hw2
  refine takeH (i := 0) (d := 14) (oi := _) (v := .pointer (some ⟨ga, 0, none⟩)) rfl (by kernel_rfl) (by kernel_rfl) (by kernel_rfl) (by kernel_rfl) (fun _ _ _ h => h) (Or.inl ⟨by kernel_rfl, by intro u hSw; clear hSw; go_simp⟩) hHeld ?_
  try simp only [List.setIfInBounds_toArray, List.set_cons_zero, List.set_cons_succ]
  refine takeH (i := 2) (d := 16) (oi := _) (v := .pointer (some ⟨gr, 0, none⟩)) rfl (by kernel_rfl) (by kernel_rfl) (by kernel_rfl) (by kernel_rfl) (fun _ _ _ h => h) (Or.inl ⟨by kernel_rfl, by intro u hSw; (have hc := hSw; clear hSw; go_simp)⟩) hHeld ?_
  try simp only [List.setIfInBounds_toArray, List.set_cons_zero, List.set_cons_succ]
  refine wpAnyH_ready (rs := [1]) (by kernel_rfl) (by simp) ?_
  refine AllReadyH.cons (o := _) rfl (fun K hK => ?_) (AllReadyH.nil)
  go_simp
  go_at_call 20
  refine (links_mm (KP.out _ BX.out).1).mono ?_
  rw [HS.out]
  rintro e w2 ⟨A1, k1, rfl, o1, b2⟩
  have OA1 := Lib.hid (own_lo o1 BX.out.size)
  have BX := Lib.hid (BX.out.trans (b2.mono BX.out.size))
  clear b2 o1
  go_simp
  refine hK.out _ _ ((KP.out _ BX.out).2.2) (fun hHeld => ?_)
  clear hK K
  try simp only [Act.put, List.setIfInBounds_toArray, List.set_cons_zero, List.set_cons_succ]
  refine wpAnyH_ready (rs := [3]) (by kernel_rfl) (by simp) ?_
  refine AllReadyH.cons (o := _) rfl (fun K hK => ?_) (AllReadyH.nil)
  go_simp
  go_at_call 28
  refine (refLinks_c (KP.out _ BX.out).2.1 HVL.out).mono ?_
  rw [HV.out]
  rintro e w2 ⟨A2, k2, rfl, o2, b2⟩
  have OA2 := Lib.hid (own_lo o2 BX.out.size)
  have OA1 := Lib.hid (ownKeep OA1.out (fun g hg => b2.block g (OA1.out.lt g hg).2))
  have BX := Lib.hid (BX.out.trans (b2.mono BX.out.size))
  clear b2 o2
  go_simp
  refine hK.out _ _ ((KP.out _ BX.out).2.2) (fun hHeld => ?_)
  clear hK K
  try simp only [Act.put, List.setIfInBounds_toArray, List.set_cons_zero, List.set_cons_succ]
  refine takeH (i := 4) (d := 5) (oi := _) (v := .slice A1 K.length k1) rfl (by kernel_rfl) (by kernel_rfl) (by kernel_rfl) (by kernel_rfl) (fun _ _ _ h => h) (Or.inl ⟨by kernel_rfl, by intro u hSw; clear hSw; go_simp⟩) hHeld ?_
  try simp only [List.setIfInBounds_toArray, List.set_cons_zero, List.set_cons_succ]
  refine takeH (i := 5) (d := 6) (oi := _) (v := .slice A2 K.length k2) rfl (by kernel_rfl) (by kernel_rfl) (by kernel_rfl) (by kernel_rfl) (fun _ _ _ h => h) (Or.inl ⟨by kernel_rfl, by intro u hSw; clear hSw; go_simp⟩) hHeld ?_
  try simp only [List.setIfInBounds_toArray, List.set_cons_zero, List.set_cons_succ]
  refine wpAnyH_done (by kernel_rfl) ?_ _
  refine NoPanic.normal ?_
  exact hQ _ _ _ _ _ A1 k1 A2 k2 ⟨BX.out, OA1.out, OA2.out⟩
noncomputable def sm_r2C : Code := ((Try.f12.body.bind (regionOf 2))).getD .skip
set_option maxRecDepth 1000000 in
set_option maxHeartbeats 8000000 in
theorem sm_r2 (c1 c2 c4 c7 c8 c9 c10 c11 c12 c13 c14 c15 c16 c17 c18 c19 c20 c21 c22 c23 c24 c25 c26 c27 c28 c29 c30 c31 c32 c33 c34 c35 c36 c37 c38 c39 c40 c41 c42 c43 c44 c45 c46 c47 c48 c49 c50 c51 c52 c53 c54 c55 c56 c57 c58 c59 c60 c61 c62 c63 c64 c65 c66 c67 c68 c69 c70 c71 c72 c73 c74 c75 c76 c77 c78 c79 c80 c81 c82 c83 c84 c85 c86 c87 c88 c89 c90 c91 c92 c93 c94 c95 c96 c97 c98 c99 c100 c101 c102 c103 c104 c105 c106 c107 c108 c109 c110 c111 c112 c113 c114 c115 c116 c117 c118 c119 c120 c121 c122 c123 c124 c125 c126 c127 c128 c129 c130 c131 c132 c133 c134 c135 c136 c137 c138 c139 c140 c141 c142 c143 c144 c145 c146 c147 c148 c149 c150 c151 c152 c153 c154 c155 c156 c157 : Value) (w : World) (ga gr gx n k1 k2 m cv : Nat) (A1 A2 Av : Option Addr) (F : Nat → Prop) (S : PoS) (hp : PoM ga F S w) (hm : S.votes.length = m) (hx : w.cell? ⟨gx, 0, none⟩ = some (.pointer (some ⟨gr, 0, none⟩))) (hgx : gx < w.heap.size) (hv : w.cell? ⟨gr, 0, none⟩ = some (.slice Av m cv)) (hgr : gr < w.heap.size)
    (Q : Exit → Act → World → Prop) (hQ : ∀ (u18 u19 u20 u21 u22 u23 u24 u25 u26 u27 u28 u29 u30 u31 : Value) (w' : World), Below w.heap.size w w' → Q .normal ⟨#[.pointer (some ⟨ga, 0, none⟩), c1, c2, .pointer (some ⟨gx, 0, none⟩), c4, .slice A1 n k1, .slice A2 n k2, c7, c8, c9, c10, c11, c12, c13, c14, c15, c16, c17, u18, u19, u20, u21, u22, u23, u24, u25, u26, u27, u28, u29, u30, u31, .bool false, c33, c34, c35, c36, c37, c38, c39, c40, c41, c42, c43, c44, c45, c46, c47, c48, c49, c50, c51, c52, c53, c54, c55, c56, c57, c58, c59, c60, c61, c62, c63, c64, c65, c66, c67, c68, c69, c70, c71, c72, c73, c74, c75, c76, c77, c78, c79, c80, c81, c82, c83, c84, c85, c86, c87, c88, c89, c90, c91, c92, c93, c94, c95, c96, c97, c98, c99, c100, c101, c102, c103, c104, c105, c106, c107, c108, c109, c110, c111, c112, c113, c114, c115, c116, c117, c118, c119, c120, c121, c122, c123, c124, c125, c126, c127, c128, c129, c130, c131, c132, c133, c134, c135, c136, c137, c138, c139, c140, c141, c142, c143, c144, c145, c146, c147, c148, c149, c150, c151, c152, c153, c154, c155, c156, c157], []⟩ w') :
    Code.wp Try.prog sm_r2C Q ⟨#[.pointer (some ⟨ga, 0, none⟩), c1, c2, .pointer (some ⟨gx, 0, none⟩), c4, .slice A1 n k1, .slice A2 n k2, c7, c8, c9, c10, c11, c12, c13, c14, c15, c16, c17, c18, c19, c20, c21, c22, c23, c24, c25, c26, c27, c28, c29, c30, c31, c32, c33, c34, c35, c36, c37, c38, c39, c40, c41, c42, c43, c44, c45, c46, c47, c48, c49, c50, c51, c52, c53, c54, c55, c56, c57, c58, c59, c60, c61, c62, c63, c64, c65, c66, c67, c68, c69, c70, c71, c72, c73, c74, c75, c76, c77, c78, c79, c80, c81, c82, c83, c84, c85, c86, c87, c88, c89, c90, c91, c92, c93, c94, c95, c96, c97, c98, c99, c100, c101, c102, c103, c104, c105, c106, c107, c108, c109, c110, c111, c112, c113, c114, c115, c116, c117, c118, c119, c120, c121, c122, c123, c124, c125, c126, c127, c128, c129, c130, c131, c132, c133, c134, c135, c136, c137, c138, c139, c140, c141, c142, c143, c144, c145, c146, c147, c148, c149, c150, c151, c152, c153, c154, c155, c156, c157], []⟩ w := by
  conv => arg 2; whnf
  try dsimp only at hQ ⊢
  obtain ⟨w2, hw2⟩ : ∃ w2, w2 = w.drew := ⟨_, rfl⟩
  have BX : Hid (Below w.heap.size w w2) := by rw [hw2]; exact (Below.refl _ _).drew
  have KP : Hid (∀ u : World, Below w.heap.size w u → PoM ga F S u ∧ True ∧ u.cell? ⟨gx, 0, none⟩ = some (.pointer (some ⟨gr, 0, none⟩)) ∧ u.cell? ⟨gr, 0, none⟩ = some (.slice Av m cv)) := fun u hu => ⟨hp.below hu, trivial, (hu.cell hgx).trans hx, (hu.cell hgr).trans hv⟩
  have HM := Lib.hid hm
  clear hp hx hgx hm hv hgr
  refine wp_region_noPanic ?_
  refine wp_region_held_drew (S := (fun u => u.cell? ⟨gx, 0, none⟩ = some (.pointer (some ⟨gr, 0, none⟩)) ∧ u.cell? ⟨gr, 0, none⟩ = some (.slice Av m cv))) (by kernel_rfl) (by rw [← hw2]; exact (KP.out _ BX.out).2.2) (fun hHeld => ?_)
  rw [← hw2]
  rw [← hw2] at hHeld
  clear hw2
  refine takeH (i := 0) (d := 18) (oi := _) (v := .slice A1 n k1) rfl (by kernel_rfl) (by kernel_rfl) (by kernel_rfl) (by kernel_rfl) (fun _ _ _ h => h) (Or.inl ⟨by kernel_rfl, by intro u hSw; clear hSw; go_simp⟩) hHeld ?_
  try simp only [List.setIfInBounds_toArray, List.set_cons_zero, List.set_cons_succ]
  refine takeH (i := 1) (d := 19) (oi := _) (v := .int .i64 (n : Nat)) rfl (by kernel_rfl) (by kernel_rfl) (by kernel_rfl) (by kernel_rfl) (fun _ _ _ h => h) (Or.inl ⟨by kernel_rfl, by intro u hSw; clear hSw; go_simp⟩) hHeld ?_
  try simp only [List.setIfInBounds_toArray, List.set_cons_zero, List.set_cons_succ]
  refine takeH (i := 2) (d := 20) (oi := _) (v := .slice A2 n k2) rfl (by kernel_rfl) (by kernel_rfl) (by kernel_rfl) (by kernel_rfl) (fun _ _ _ h => h) (Or.inl ⟨by kernel_rfl, by intro u hSw; clear hSw; go_simp⟩) hHeld ?_
  try simp only [List.setIfInBounds_toArray, List.set_cons_zero, List.set_cons_succ]
  refine takeH (i := 3) (d := 21) (oi := _) (v := .int .i64 (n : Nat)) rfl (by kernel_rfl) (by kernel_rfl) (by kernel_rfl) (by kernel_rfl) (fun _ _ _ h => h) (Or.inl ⟨by kernel_rfl, by intro u hSw; clear hSw; go_simp⟩) hHeld ?_
  try simp only [List.setIfInBounds_toArray, List.set_cons_zero, List.set_cons_succ]
  refine takeH (i := 4) (d := 22) (oi := _) (v := .bool false) rfl (by kernel_rfl) (by kernel_rfl) (by kernel_rfl) (by kernel_rfl) (fun _ _ _ h => h) (Or.inl ⟨by kernel_rfl, by intro u hSw; clear hSw; go_simp⟩) hHeld ?_
  try simp only [List.setIfInBounds_toArray, List.set_cons_zero, List.set_cons_succ]
  refine takeH (i := 5) (d := 23) (oi := _) (v := .bool false) rfl (by kernel_rfl) (by kernel_rfl) (by kernel_rfl) (by kernel_rfl) (fun _ _ _ h => h) (Or.inl ⟨by kernel_rfl, by intro u hSw; clear hSw; go_simp⟩) hHeld ?_
  try simp only [List.setIfInBounds_toArray, List.set_cons_zero, List.set_cons_succ]
  refine takeH (i := 6) (d := 24) (oi := _) (v := .pointer (some ⟨ga, 0, none⟩)) rfl (by kernel_rfl) (by kernel_rfl) (by kernel_rfl) (by kernel_rfl) (fun _ _ _ h => h) (Or.inl ⟨by kernel_rfl, by intro u hSw; clear hSw; go_simp⟩) hHeld ?_
  try simp only [List.setIfInBounds_toArray, List.set_cons_zero, List.set_cons_succ]
  refine takeH (i := 8) (d := 26) (oi := _) (v := .pointer (some ⟨gr, 0, none⟩)) rfl (by kernel_rfl) (by kernel_rfl) (by kernel_rfl) (by kernel_rfl) (fun _ _ _ h => h) (Or.inl ⟨by kernel_rfl, by intro u hSw; (have hc := hSw.1; clear hSw; go_simp)⟩) hHeld ?_
  try simp only [List.setIfInBounds_toArray, List.set_cons_zero, List.set_cons_succ]
  refine takeH (i := 9) (d := 27) (oi := _) (v := .pointer (some ⟨gr, 0, none⟩)) rfl (by kernel_rfl) (by kernel_rfl) (by kernel_rfl) (by kernel_rfl) (fun _ _ _ h => h) (Or.inl ⟨by kernel_rfl, by intro u hSw; clear hSw; go_simp⟩) hHeld ?_
  try simp only [List.setIfInBounds_toArray, List.set_cons_zero, List.set_cons_succ]
  refine takeH (i := 10) (d := 28) (oi := _) (v := .pointer (some ⟨gr, 0, none⟩)) rfl (by kernel_rfl) (by kernel_rfl) (by kernel_rfl) (by kernel_rfl) (fun _ _ _ h => h) (Or.inl ⟨by kernel_rfl, by intro u hSw; clear hSw; go_simp⟩) hHeld ?_
  try simp only [List.setIfInBounds_toArray, List.set_cons_zero, List.set_cons_succ]
  refine takeH (i := 11) (d := 29) (oi := _) (v := .slice Av m cv) rfl (by kernel_rfl) (by kernel_rfl) (by kernel_rfl) (by kernel_rfl) (fun _ _ _ h => h) (Or.inl ⟨by kernel_rfl, by intro u hSw; (have hc := hSw.2; clear hSw; go_simp)⟩) hHeld ?_
  try simp only [List.setIfInBounds_toArray, List.set_cons_zero, List.set_cons_succ]
  refine takeH (i := 12) (d := 30) (oi := _) (v := .int .i64 (m : Nat)) rfl (by kernel_rfl) (by kernel_rfl) (by kernel_rfl) (by kernel_rfl) (fun _ _ _ h => h) (Or.inl ⟨by kernel_rfl, by intro u hSw; clear hSw; go_simp⟩) hHeld ?_
  try simp only [List.setIfInBounds_toArray, List.set_cons_zero, List.set_cons_succ]
  refine wpAnyH_ready (rs := [7]) (by kernel_rfl) (by simp) ?_
  refine AllReadyH.cons (o := _) rfl (fun K hK => ?_) (AllReadyH.nil)
  go_simp
  go_at_call 19
  refine (len_m (KP.out _ BX.out).1).mono ?_
  rw [HM.out]
  rintro e w3 ⟨rfl, rfl⟩
  go_simp
  refine hK.out _ _ ((KP.out _ BX.out).2.2) (fun hHeld => ?_)
  clear hK K
  try simp only [Act.put, List.setIfInBounds_toArray, List.set_cons_zero, List.set_cons_succ]
  refine takeH (i := 13) (d := 31) (oi := _) (v := .bool false) rfl (by kernel_rfl) (by kernel_rfl) (by kernel_rfl) (by kernel_rfl) (fun _ _ _ h => h) (Or.inl ⟨by kernel_rfl, by intro u hSw; clear hSw; go_simp⟩) hHeld ?_
  try simp only [List.setIfInBounds_toArray, List.set_cons_zero, List.set_cons_succ]
  refine takeH (i := 14) (d := 32) (oi := _) (v := .bool false) rfl (by kernel_rfl) (by kernel_rfl) (by kernel_rfl) (by kernel_rfl) (fun _ _ _ h => h) (Or.inl ⟨by kernel_rfl, by intro u hSw; clear hSw; go_simp⟩) hHeld ?_
  try simp only [List.setIfInBounds_toArray, List.set_cons_zero, List.set_cons_succ]
  refine wpAnyH_done (by kernel_rfl) ?_ _
  refine NoPanic.normal ?_
  exact hQ _ _ _ _ _ _ _ _ _ _ _ _ _ _ _ BX.out
end Go.Proofs.Ytomfgopmgfoecaa
namespace Go.Proofs.Ytomfgopmgfoecaa
open Go.ChangeMaps Go.MapKept Go.Maps Go.RowKit Go.ChangeShapes Go.WideShapes Go.ChangeAt
set_option linter.unusedVariables false
set_option maxRecDepth 100000

noncomputable def sm_r7C : Code := ((Try.f12.body.bind (regionOf 7))).getD .skip
set_option maxRecDepth 1000000 in
set_option maxHeartbeats 8000000 in
theorem sm_r7 (c1 c2 c4 c8 c9 c10 c11 c12 c13 c14 c15 c16 c17 c18 c19 c20 c21 c22 c23 c24 c25 c26 c27 c28 c29 c30 c31 c32 c33 c34 c35 c36 c37 c38 c39 c40 c41 c42 c43 c44 c45 c46 c47 c48 c49 c50 c51 c52 c53 c54 c55 c56 c57 c58 c59 c60 c61 c62 c63 c64 c65 c66 c67 c68 c69 c70 c71 c72 c73 c74 c75 c76 c77 c78 c79 c80 c81 c82 c83 c84 c85 c86 c87 c88 c89 c90 c91 c92 c93 c94 c95 c96 c97 c98 c99 c100 c101 c102 c103 c104 c105 c106 c107 c108 c109 c110 c111 c112 c113 c114 c115 c116 c117 c118 c119 c120 c121 c122 c123 c124 c125 c126 c127 c128 c129 c130 c131 c132 c133 c134 c135 c136 c137 c138 c139 c140 c141 c142 c143 c144 c145 c146 c147 c148 c149 c150 c151 c152 c153 c154 c155 c156 c157 : Value) (w : World) (ga gr gx g1 g2 n k1 k2 i x : Nat) (l : Lk) (F G : Nat → Prop) (S : PoS) (V : List Sg) (hi : i < n) (hp : PoM ga F S w) (hr : RfM gr G V w) (hvl : (∀ x ∈ V, x.st ≤ 4294967296) ∧ V.length ≤ 100000) (hx1 : S.wt l = x) (hx2 : wtV V l = x) (hx : w.cell? ⟨gx, 0, none⟩ = some (.pointer (some ⟨gr, 0, none⟩))) (hgx : gx < w.heap.size) (r1 : w.rangeAt g1 (i * 66) (lC l)) (r2 : w.rangeAt g2 (i * 66) (lC l)) (l1 : g1 < w.heap.size) (l2 : g2 < w.heap.size)
    (Q : Exit → Act → World → Prop) (hQ : ∀ (u39 u40 u41 u42 u43 u44 u45 u46 u47 u48 u49 u50 u51 u52 u53 u54 u55 u56 u57 u58 u59 u60 u61 : Value) (w' : World), Below w.heap.size w w' → Q .normal ⟨#[.pointer (some ⟨ga, 0, none⟩), c1, c2, .pointer (some ⟨gx, 0, none⟩), c4, .slice (some ⟨g1, 0, none⟩) n k1, .slice (some ⟨g2, 0, none⟩) n k2, .int .i64 (i : Int), c8, c9, c10, c11, c12, c13, c14, c15, c16, c17, c18, c19, c20, c21, c22, c23, c24, c25, c26, c27, c28, c29, c30, c31, c32, c33, c34, c35, c36, c37, c38, u39, u40, u41, u42, u43, u44, u45, u46, u47, u48, u49, u50, u51, u52, u53, u54, u55, u56, u57, u58, u59, u60, u61, .bool false, c63, c64, c65, c66, c67, c68, c69, c70, c71, c72, c73, c74, c75, c76, c77, c78, c79, c80, c81, c82, c83, c84, c85, c86, c87, c88, c89, c90, c91, c92, c93, c94, c95, c96, c97, c98, c99, c100, c101, c102, c103, c104, c105, c106, c107, c108, c109, c110, c111, c112, c113, c114, c115, c116, c117, c118, c119, c120, c121, c122, c123, c124, c125, c126, c127, c128, c129, c130, c131, c132, c133, c134, c135, c136, c137, c138, c139, c140, c141, c142, c143, c144, c145, c146, c147, c148, c149, c150, c151, c152, c153, c154, c155, c156, c157], []⟩ w') :
    Code.wp Try.prog sm_r7C Q ⟨#[.pointer (some ⟨ga, 0, none⟩), c1, c2, .pointer (some ⟨gx, 0, none⟩), c4, .slice (some ⟨g1, 0, none⟩) n k1, .slice (some ⟨g2, 0, none⟩) n k2, .int .i64 (i : Int), c8, c9, c10, c11, c12, c13, c14, c15, c16, c17, c18, c19, c20, c21, c22, c23, c24, c25, c26, c27, c28, c29, c30, c31, c32, c33, c34, c35, c36, c37, c38, c39, c40, c41, c42, c43, c44, c45, c46, c47, c48, c49, c50, c51, c52, c53, c54, c55, c56, c57, c58, c59, c60, c61, c62, c63, c64, c65, c66, c67, c68, c69, c70, c71, c72, c73, c74, c75, c76, c77, c78, c79, c80, c81, c82, c83, c84, c85, c86, c87, c88, c89, c90, c91, c92, c93, c94, c95, c96, c97, c98, c99, c100, c101, c102, c103, c104, c105, c106, c107, c108, c109, c110, c111, c112, c113, c114, c115, c116, c117, c118, c119, c120, c121, c122, c123, c124, c125, c126, c127, c128, c129, c130, c131, c132, c133, c134, c135, c136, c137, c138, c139, c140, c141, c142, c143, c144, c145, c146, c147, c148, c149, c150, c151, c152, c153, c154, c155, c156, c157], []⟩ w := by
  conv => arg 2; whnf
  try dsimp only at hQ ⊢
  have q1 : (i : Int) < (n : Int) := by omega
  have q0 : (0 : Int) ≤ (i : Int) := by omega
  obtain ⟨w2, hw2⟩ : ∃ w2, w2 = w.drew := ⟨_, rfl⟩
  have BX : Hid (Below w.heap.size w w2) := by rw [hw2]; exact (Below.refl _ _).drew
  have KP : Hid (∀ u : World, Below w.heap.size w u → PoM ga F S u ∧ RfM gr G V u ∧ u.cell? ⟨gx, 0, none⟩ = some (.pointer (some ⟨gr, 0, none⟩)) ∧ u.rangeAt g1 (i * 66) (lC l) ∧ u.rangeAt g2 (i * 66) (lC l)) := fun u hu => ⟨hp.below hu, hr.below hu, (hu.cell hgx).trans hx, fun j y hy => (hu.cell (p := ⟨g1, i * 66 + j, none⟩) l1).trans (r1 j y hy), fun j y hy => (hu.cell (p := ⟨g2, i * 66 + j, none⟩) l2).trans (r2 j y hy)⟩
  have HX1 := Lib.hid hx1
  have HX2 := Lib.hid hx2
  have HVL := Lib.hid hvl
  clear hp hr hx hgx hx1 hx2 hvl r1 r2 l1 l2
  refine wp_region_noPanic ?_
  refine wp_region_held_drew (S := (fun u => u.cell? ⟨gx, 0, none⟩ = some (.pointer (some ⟨gr, 0, none⟩)) ∧ u.rangeAt g1 (i * 66) (lC l) ∧ u.rangeAt g2 (i * 66) (lC l))) (by kernel_rfl) (by rw [← hw2]; exact (KP.out _ BX.out).2.2) (fun hHeld => ?_)
  rw [← hw2]
  rw [← hw2] at hHeld
  clear hw2
  refine takeH (i := 0) (d := 39) (oi := _) (v := .slice (some ⟨g1, 0, none⟩) n k1) rfl (by kernel_rfl) (by kernel_rfl) (by kernel_rfl) (by kernel_rfl) (fun _ _ _ h => h) (Or.inl ⟨by kernel_rfl, by intro u hSw; clear hSw; go_simp⟩) hHeld ?_
  try simp only [List.setIfInBounds_toArray, List.set_cons_zero, List.set_cons_succ]
  refine takeH (i := 1) (d := 40) (oi := _) (v := .int .i64 (i : Int)) rfl (by kernel_rfl) (by kernel_rfl) (by kernel_rfl) (by kernel_rfl) (fun _ _ _ h => h) (Or.inl ⟨by kernel_rfl, by intro u hSw; clear hSw; go_simp⟩) hHeld ?_
  try simp only [List.setIfInBounds_toArray, List.set_cons_zero, List.set_cons_succ]
  refine takeH (i := 2) (d := 41) (oi := _) (v := .pointer (some ⟨g1, (i * 66), none⟩)) rfl (by kernel_rfl) (by kernel_rfl) (by kernel_rfl) (by kernel_rfl) (fun _ _ _ h => h) (Or.inl ⟨by kernel_rfl, by intro u hSw; clear hSw; go_simp⟩) hHeld ?_
  try simp only [List.setIfInBounds_toArray, List.set_cons_zero, List.set_cons_succ]
  refine takeH (i := 3) (d := 42) (oi := _) (v := .agg (lv l)) rfl (by kernel_rfl) (by kernel_rfl) (by kernel_rfl) (by kernel_rfl) (fun _ _ _ h => h) (yieldsIf_load_midC (by kernel_rfl) _ _ rfl (g1) (i * 66) rfl (lC l) (lv l) (lC_arr l) _ (fun u hSw => hSw.2.1) Try.underlying50 rfl (size_lv l)) hHeld ?_
  try simp only [List.setIfInBounds_toArray, List.set_cons_zero, List.set_cons_succ]
  refine takeH (i := 4) (d := 43) (oi := _) (v := .slice (some ⟨g2, 0, none⟩) n k2) rfl (by kernel_rfl) (by kernel_rfl) (by kernel_rfl) (by kernel_rfl) (fun _ _ _ h => h) (Or.inl ⟨by kernel_rfl, by intro u hSw; clear hSw; go_simp⟩) hHeld ?_
  try simp only [List.setIfInBounds_toArray, List.set_cons_zero, List.set_cons_succ]
  refine takeH (i := 5) (d := 44) (oi := _) (v := .int .i64 (i : Int)) rfl (by kernel_rfl) (by kernel_rfl) (by kernel_rfl) (by kernel_rfl) (fun _ _ _ h => h) (Or.inl ⟨by kernel_rfl, by intro u hSw; clear hSw; go_simp⟩) hHeld ?_
  try simp only [List.setIfInBounds_toArray, List.set_cons_zero, List.set_cons_succ]
  refine takeH (i := 6) (d := 45) (oi := _) (v := .pointer (some ⟨g2, (i * 66), none⟩)) rfl (by kernel_rfl) (by kernel_rfl) (by kernel_rfl) (by kernel_rfl) (fun _ _ _ h => h) (Or.inl ⟨by kernel_rfl, by intro u hSw; clear hSw; go_simp⟩) hHeld ?_
  try simp only [List.setIfInBounds_toArray, List.set_cons_zero, List.set_cons_succ]
  refine takeH (i := 7) (d := 46) (oi := _) (v := .agg (lv l)) rfl (by kernel_rfl) (by kernel_rfl) (by kernel_rfl) (by kernel_rfl) (fun _ _ _ h => h) (yieldsIf_load_midC (by kernel_rfl) _ _ rfl (g2) (i * 66) rfl (lC l) (lv l) (lC_arr l) _ (fun u hSw => hSw.2.2) Try.underlying50 rfl (size_lv l)) hHeld ?_
  try simp only [List.setIfInBounds_toArray, List.set_cons_zero, List.set_cons_succ]
  refine takeH (i := 8) (d := 47) (oi := _) (v := .bool false) rfl (by kernel_rfl) (by kernel_rfl) (by kernel_rfl) (by kernel_rfl) (fun _ _ _ h => h) (yieldsIf_neq (by kernel_rfl) 50 50 (.tmp 42) (.tmp 46) rfl (lv l) (lv l) rfl rfl guard_link true (fun w => (eq_link l l w).trans (by simp))) hHeld ?_
  try simp only [List.setIfInBounds_toArray, List.set_cons_zero, List.set_cons_succ]
  refine takeH (i := 9) (d := 48) (oi := _) (v := .bool false) rfl (by kernel_rfl) (by kernel_rfl) (by kernel_rfl) (by kernel_rfl) (fun _ _ _ h => h) (Or.inl ⟨by kernel_rfl, by intro u hSw; clear hSw; go_simp⟩) hHeld ?_
  try simp only [List.setIfInBounds_toArray, List.set_cons_zero, List.set_cons_succ]
  refine takeH (i := 10) (d := 49) (oi := _) (v := .pointer (some ⟨ga, 0, none⟩)) rfl (by kernel_rfl) (by kernel_rfl) (by kernel_rfl) (by kernel_rfl) (fun _ _ _ h => h) (Or.inl ⟨by kernel_rfl, by intro u hSw; clear hSw; go_simp⟩) hHeld ?_
  try simp only [List.setIfInBounds_toArray, List.set_cons_zero, List.set_cons_succ]
  refine takeH (i := 11) (d := 50) (oi := _) (v := .slice (some ⟨g1, 0, none⟩) n k1) rfl (by kernel_rfl) (by kernel_rfl) (by kernel_rfl) (by kernel_rfl) (fun _ _ _ h => h) (Or.inl ⟨by kernel_rfl, by intro u hSw; clear hSw; go_simp⟩) hHeld ?_
  try simp only [List.setIfInBounds_toArray, List.set_cons_zero, List.set_cons_succ]
  refine takeH (i := 12) (d := 51) (oi := _) (v := .int .i64 (i : Int)) rfl (by kernel_rfl) (by kernel_rfl) (by kernel_rfl) (by kernel_rfl) (fun _ _ _ h => h) (Or.inl ⟨by kernel_rfl, by intro u hSw; clear hSw; go_simp⟩) hHeld ?_
  try simp only [List.setIfInBounds_toArray, List.set_cons_zero, List.set_cons_succ]
  refine takeH (i := 13) (d := 52) (oi := _) (v := .pointer (some ⟨g1, (i * 66), none⟩)) rfl (by kernel_rfl) (by kernel_rfl) (by kernel_rfl) (by kernel_rfl) (fun _ _ _ h => h) (Or.inl ⟨by kernel_rfl, by intro u hSw; clear hSw; go_simp⟩) hHeld ?_
  try simp only [List.setIfInBounds_toArray, List.set_cons_zero, List.set_cons_succ]
  refine takeH (i := 14) (d := 53) (oi := _) (v := .agg (lv l)) rfl (by kernel_rfl) (by kernel_rfl) (by kernel_rfl) (by kernel_rfl) (fun _ _ _ h => h) (yieldsIf_load_midC (by kernel_rfl) _ _ rfl (g1) (i * 66) rfl (lC l) (lv l) (lC_arr l) _ (fun u hSw => hSw.2.1) Try.underlying50 rfl (size_lv l)) hHeld ?_
  try simp only [List.setIfInBounds_toArray, List.set_cons_zero, List.set_cons_succ]
  refine takeH (i := 16) (d := 55) (oi := _) (v := .pointer (some ⟨gr, 0, none⟩)) rfl (by kernel_rfl) (by kernel_rfl) (by kernel_rfl) (by kernel_rfl) (fun _ _ _ h => h) (Or.inl ⟨by kernel_rfl, by intro u hSw; (have hc := hSw.1; clear hSw; go_simp)⟩) hHeld ?_
  try simp only [List.setIfInBounds_toArray, List.set_cons_zero, List.set_cons_succ]
  refine takeH (i := 17) (d := 56) (oi := _) (v := .slice (some ⟨g1, 0, none⟩) n k1) rfl (by kernel_rfl) (by kernel_rfl) (by kernel_rfl) (by kernel_rfl) (fun _ _ _ h => h) (Or.inl ⟨by kernel_rfl, by intro u hSw; clear hSw; go_simp⟩) hHeld ?_
  try simp only [List.setIfInBounds_toArray, List.set_cons_zero, List.set_cons_succ]
  refine takeH (i := 18) (d := 57) (oi := _) (v := .int .i64 (i : Int)) rfl (by kernel_rfl) (by kernel_rfl) (by kernel_rfl) (by kernel_rfl) (fun _ _ _ h => h) (Or.inl ⟨by kernel_rfl, by intro u hSw; clear hSw; go_simp⟩) hHeld ?_
  try simp only [List.setIfInBounds_toArray, List.set_cons_zero, List.set_cons_succ]
  refine takeH (i := 19) (d := 58) (oi := _) (v := .pointer (some ⟨g1, (i * 66), none⟩)) rfl (by kernel_rfl) (by kernel_rfl) (by kernel_rfl) (by kernel_rfl) (fun _ _ _ h => h) (Or.inl ⟨by kernel_rfl, by intro u hSw; clear hSw; go_simp⟩) hHeld ?_
  try simp only [List.setIfInBounds_toArray, List.set_cons_zero, List.set_cons_succ]
  refine takeH (i := 20) (d := 59) (oi := _) (v := .agg (lv l)) rfl (by kernel_rfl) (by kernel_rfl) (by kernel_rfl) (by kernel_rfl) (fun _ _ _ h => h) (yieldsIf_load_midC (by kernel_rfl) _ _ rfl (g1) (i * 66) rfl (lC l) (lv l) (lC_arr l) _ (fun u hSw => hSw.2.1) Try.underlying50 rfl (size_lv l)) hHeld ?_
  try simp only [List.setIfInBounds_toArray, List.set_cons_zero, List.set_cons_succ]
  refine wpAnyH_ready (rs := [15]) (by kernel_rfl) (by simp) ?_
  refine AllReadyH.cons (o := _) rfl (fun K hK => ?_) (AllReadyH.nil)
  go_simp
  go_at_call 15
  refine (weight_m (KP.out _ BX.out).1 l).mono ?_
  rw [HX1.out]
  rintro e w2 ⟨rfl, b2⟩
  have BX := Lib.hid (BX.out.trans (b2.mono BX.out.size))
  clear b2
  go_simp
  refine hK.out _ _ ((KP.out _ BX.out).2.2) (fun hHeld => ?_)
  clear hK K
  try simp only [Act.put, List.setIfInBounds_toArray, List.set_cons_zero, List.set_cons_succ]
  refine wpAnyH_ready (rs := [21]) (by kernel_rfl) (by simp) ?_
  refine AllReadyH.cons (o := _) rfl (fun K hK => ?_) (AllReadyH.nil)
  go_simp
  go_at_call 29
  refine (refWeight_c (KP.out _ BX.out).2.1 l HVL.out.1 HVL.out.2).mono ?_
  rw [HX2.out]
  rintro e w2 ⟨rfl, b2⟩
  have BX := Lib.hid (BX.out.trans (b2.mono BX.out.size))
  clear b2
  go_simp
  refine hK.out _ _ ((KP.out _ BX.out).2.2) (fun hHeld => ?_)
  clear hK K
  try simp only [Act.put, List.setIfInBounds_toArray, List.set_cons_zero, List.set_cons_succ]
  refine takeH (i := 22) (d := 61) (oi := _) (v := .bool false) rfl (by kernel_rfl) (by kernel_rfl) (by kernel_rfl) (by kernel_rfl) (fun _ _ _ h => h) (Or.inl ⟨by kernel_rfl, by intro u hSw; clear hSw; go_simp⟩) hHeld ?_
  try simp only [List.setIfInBounds_toArray, List.set_cons_zero, List.set_cons_succ]
  refine takeH (i := 23) (d := 62) (oi := _) (v := .bool false) rfl (by kernel_rfl) (by kernel_rfl) (by kernel_rfl) (by kernel_rfl) (fun _ _ _ h => h) (Or.inl ⟨by kernel_rfl, by intro u hSw; clear hSw; go_simp⟩) hHeld ?_
  try simp only [List.setIfInBounds_toArray, List.set_cons_zero, List.set_cons_succ]
  refine wpAnyH_done (by kernel_rfl) ?_ _
  refine NoPanic.normal ?_
  exact hQ _ _ _ _ _ _ _ _ _ _ _ _ _ _ _ _ _ _ _ _ _ _ _ _ BX.out
noncomputable def sm_r13C : Code := ((Try.f12.body.bind (regionOf 13))).getD .skip
set_option maxRecDepth 1000000 in
set_option maxHeartbeats 8000000 in
theorem sm_r13 (c0 c1 c2 c4 c6 c8 c10 c11 c12 c13 c14 c15 c16 c17 c18 c19 c20 c21 c22 c23 c24 c25 c26 c27 c28 c29 c30 c31 c32 c33 c34 c35 c36 c37 c38 c39 c40 c41 c42 c43 c44 c45 c46 c47 c48 c49 c50 c51 c52 c53 c54 c55 c56 c57 c58 c59 c60 c61 c62 c63 c64 c65 c66 c67 c68 c69 c70 c71 c72 c73 c74 c75 c76 c77 c78 c79 c80 c81 c82 c83 c84 c85 c86 c87 c88 c89 c90 c91 c92 c93 c94 c95 c96 c97 c98 c99 c100 c101 c102 c103 c104 c105 c106 c107 c108 c109 c110 c111 c112 c113 c114 c115 c116 c117 c118 c119 c120 c121 c122 c123 c124 c125 c126 c127 c128 c129 c130 c131 c132 c133 c134 c135 c136 c137 c138 c139 c140 c141 c142 c143 c144 c145 c146 c147 c148 c149 c150 c151 c152 c153 c154 c155 c156 c157 : Value) (w : World) (gr gx g1 n k1 i b m cv k : Nat) (l : Lk) (y : Sg) (hi : i < n) (hk : k < m) (hx : w.cell? ⟨gx, 0, none⟩ = some (.pointer (some ⟨gr, 0, none⟩))) (hgx : gx < w.heap.size) (hv : w.cell? ⟨gr, 0, none⟩ = some (.slice (some ⟨b, 0, none⟩) m cv)) (hgr : gr < w.heap.size) (r1 : w.rangeAt g1 (i * 66) (lC l)) (l1 : g1 < w.heap.size) (r2 : w.rangeAt b (k * 101) (sgC y))
    (Q : Exit → Act → World → Prop) (hQ : ∀ (u72 u73 u74 u75 u76 u77 u78 u79 u80 u81 u82 u83 u84 : Value) (w' : World), Below w.heap.size w w' → Q .normal ⟨#[c0, c1, c2, .pointer (some ⟨gx, 0, none⟩), c4, .slice (some ⟨g1, 0, none⟩) n k1, c6, .int .i64 (i : Int), c8, .int .i64 (k : Int), c10, c11, c12, c13, c14, c15, c16, c17, c18, c19, c20, c21, c22, c23, c24, c25, c26, c27, c28, c29, c30, c31, c32, c33, c34, c35, c36, c37, c38, c39, c40, c41, c42, c43, c44, c45, c46, c47, c48, c49, c50, c51, c52, c53, c54, c55, c56, c57, c58, c59, c60, c61, c62, c63, c64, c65, c66, c67, c68, c69, c70, c71, u72, u73, u74, u75, u76, u77, u78, u79, u80, u81, u82, u83, u84, .bool (decide (y.k = l)), c86, c87, c88, c89, c90, c91, c92, c93, c94, c95, c96, c97, c98, c99, c100, c101, c102, c103, c104, c105, c106, c107, c108, c109, c110, c111, c112, c113, c114, c115, c116, c117, c118, c119, c120, c121, c122, c123, c124, c125, c126, c127, c128, c129, c130, c131, c132, c133, c134, c135, c136, c137, c138, c139, c140, c141, c142, c143, c144, c145, c146, c147, c148, c149, c150, c151, c152, c153, c154, c155, c156, c157], []⟩ w') :
    Code.wp Try.prog sm_r13C Q ⟨#[c0, c1, c2, .pointer (some ⟨gx, 0, none⟩), c4, .slice (some ⟨g1, 0, none⟩) n k1, c6, .int .i64 (i : Int), c8, .int .i64 (k : Int), c10, c11, c12, c13, c14, c15, c16, c17, c18, c19, c20, c21, c22, c23, c24, c25, c26, c27, c28, c29, c30, c31, c32, c33, c34, c35, c36, c37, c38, c39, c40, c41, c42, c43, c44, c45, c46, c47, c48, c49, c50, c51, c52, c53, c54, c55, c56, c57, c58, c59, c60, c61, c62, c63, c64, c65, c66, c67, c68, c69, c70, c71, c72, c73, c74, c75, c76, c77, c78, c79, c80, c81, c82, c83, c84, c85, c86, c87, c88, c89, c90, c91, c92, c93, c94, c95, c96, c97, c98, c99, c100, c101, c102, c103, c104, c105, c106, c107, c108, c109, c110, c111, c112, c113, c114, c115, c116, c117, c118, c119, c120, c121, c122, c123, c124, c125, c126, c127, c128, c129, c130, c131, c132, c133, c134, c135, c136, c137, c138, c139, c140, c141, c142, c143, c144, c145, c146, c147, c148, c149, c150, c151, c152, c153, c154, c155, c156, c157], []⟩ w := by
  conv => arg 2; whnf
  try dsimp only at hQ ⊢
  have q1 : (i : Int) < (n : Int) := by omega
  have q2 : (k : Int) < (m : Int) := by omega
  obtain ⟨w2, hw2⟩ : ∃ w2, w2 = w.drew := ⟨_, rfl⟩
  have BX : Hid (Below w.heap.size w w2) := by rw [hw2]; exact (Below.refl _ _).drew
  have KP : Hid (∀ u : World, Below w.heap.size w u → u.cell? ⟨gx, 0, none⟩ = some (.pointer (some ⟨gr, 0, none⟩)) ∧ u.cell? ⟨gr, 0, none⟩ = some (.slice (some ⟨b, 0, none⟩) m cv) ∧ u.rangeAt b (k * 101) (sgC y) ∧ u.rangeAt g1 (i * 66) (lC l)) := fun u hu => ⟨(hu.cell hgx).trans hx, (hu.cell hgr).trans hv, fun j y hy => (hu.cell (p := ⟨b, k * 101 + j, none⟩) (World.block_lt_of_cell? w _ (r2 j y hy))).trans (r2 j y hy), fun j y hy => (hu.cell (p := ⟨g1, i * 66 + j, none⟩) l1).trans (r1 j y hy)⟩
  clear hx hgx hv hgr r1 r2 l1
  refine wp_region_noPanic ?_
  refine wp_region_held_drew (S := (fun u => u.cell? ⟨gx, 0, none⟩ = some (.pointer (some ⟨gr, 0, none⟩)) ∧ u.cell? ⟨gr, 0, none⟩ = some (.slice (some ⟨b, 0, none⟩) m cv) ∧ u.rangeAt b (k * 101) (sgC y) ∧ u.rangeAt g1 (i * 66) (lC l))) (by kernel_rfl) (by rw [← hw2]; exact KP.out _ BX.out) (fun hHeld => ?_)
  rw [← hw2]
  rw [← hw2] at hHeld
  clear hw2
  refine takeH (i := 0) (d := 72) (oi := _) (v := .pointer (some ⟨gr, 0, none⟩)) rfl (by kernel_rfl) (by kernel_rfl) (by kernel_rfl) (by kernel_rfl) (fun _ _ _ h => h) (Or.inl ⟨by kernel_rfl, by intro u hSw; (have hc := hSw.1; clear hSw; go_simp)⟩) hHeld ?_
  try simp only [List.setIfInBounds_toArray, List.set_cons_zero, List.set_cons_succ]
  refine takeH (i := 1) (d := 73) (oi := _) (v := .pointer (some ⟨gr, 0, none⟩)) rfl (by kernel_rfl) (by kernel_rfl) (by kernel_rfl) (by kernel_rfl) (fun _ _ _ h => h) (Or.inl ⟨by kernel_rfl, by intro u hSw; clear hSw; go_simp⟩) hHeld ?_
  try simp only [List.setIfInBounds_toArray, List.set_cons_zero, List.set_cons_succ]
  refine takeH (i := 2) (d := 74) (oi := _) (v := .pointer (some ⟨gr, 0, none⟩)) rfl (by kernel_rfl) (by kernel_rfl) (by kernel_rfl) (by kernel_rfl) (fun _ _ _ h => h) (Or.inl ⟨by kernel_rfl, by intro u hSw; clear hSw; go_simp⟩) hHeld ?_
  try simp only [List.setIfInBounds_toArray, List.set_cons_zero, List.set_cons_succ]
  refine takeH (i := 3) (d := 75) (oi := _) (v := .slice (some ⟨b, 0, none⟩) m cv) rfl (by kernel_rfl) (by kernel_rfl) (by kernel_rfl) (by kernel_rfl) (fun _ _ _ h => h) (Or.inl ⟨by kernel_rfl, by intro u hSw; (have hc := hSw.2.1; clear hSw; go_simp)⟩) hHeld ?_
  try simp only [List.setIfInBounds_toArray, List.set_cons_zero, List.set_cons_succ]
  refine takeH (i := 4) (d := 76) (oi := _) (v := .int .i64 (k : Int)) rfl (by kernel_rfl) (by kernel_rfl) (by kernel_rfl) (by kernel_rfl) (fun _ _ _ h => h) (Or.inl ⟨by kernel_rfl, by intro u hSw; clear hSw; go_simp⟩) hHeld ?_
  try simp only [List.setIfInBounds_toArray, List.set_cons_zero, List.set_cons_succ]
  refine takeH (i := 5) (d := 77) (oi := _) (v := .pointer (some ⟨b, (k * 101), none⟩)) rfl (by kernel_rfl) (by kernel_rfl) (by kernel_rfl) (by kernel_rfl) (fun _ _ _ h => h) (Or.inl ⟨by kernel_rfl, by intro u hSw; clear hSw; go_simp⟩) hHeld ?_
  try simp only [List.setIfInBounds_toArray, List.set_cons_zero, List.set_cons_succ]
  refine takeH (i := 6) (d := 78) (oi := _) (v := .pointer (some ⟨b, (k * 101), none⟩)) rfl (by kernel_rfl) (by kernel_rfl) (by kernel_rfl) (by kernel_rfl) (fun _ _ _ h => h) (Or.inl ⟨by kernel_rfl, by intro u hSw; clear hSw; go_simp⟩) hHeld ?_
  try simp only [List.setIfInBounds_toArray, List.set_cons_zero, List.set_cons_succ]
  refine takeH (i := 7) (d := 79) (oi := _) (v := .agg (vtw y.n y.k y.sv)) rfl (by kernel_rfl) (by kernel_rfl) (by kernel_rfl) (by kernel_rfl) (fun _ _ _ h => h) (yieldsIf_load_midC (by kernel_rfl) _ _ rfl (b) (k * 101) rfl (vtC y.n y.k y.sv) (vtw y.n y.k y.sv) (vtC_arr y.n y.k y.sv) _ (fun u hSw => sg_vote hSw.2.2.1) Try.underlying40 rfl (size_vtw y.n y.k y.sv)) hHeld ?_
  try simp only [List.setIfInBounds_toArray, List.set_cons_zero, List.set_cons_succ]
  refine takeH (i := 9) (d := 81) (oi := _) (v := .slice (some ⟨g1, 0, none⟩) n k1) rfl (by kernel_rfl) (by kernel_rfl) (by kernel_rfl) (by kernel_rfl) (fun _ _ _ h => h) (Or.inl ⟨by kernel_rfl, by intro u hSw; clear hSw; go_simp⟩) hHeld ?_
  try simp only [List.setIfInBounds_toArray, List.set_cons_zero, List.set_cons_succ]
  refine takeH (i := 10) (d := 82) (oi := _) (v := .int .i64 (i : Int)) rfl (by kernel_rfl) (by kernel_rfl) (by kernel_rfl) (by kernel_rfl) (fun _ _ _ h => h) (Or.inl ⟨by kernel_rfl, by intro u hSw; clear hSw; go_simp⟩) hHeld ?_
  try simp only [List.setIfInBounds_toArray, List.set_cons_zero, List.set_cons_succ]
  refine takeH (i := 11) (d := 83) (oi := _) (v := .pointer (some ⟨g1, (i * 66), none⟩)) rfl (by kernel_rfl) (by kernel_rfl) (by kernel_rfl) (by kernel_rfl) (fun _ _ _ h => h) (Or.inl ⟨by kernel_rfl, by intro u hSw; clear hSw; go_simp⟩) hHeld ?_
  try simp only [List.setIfInBounds_toArray, List.set_cons_zero, List.set_cons_succ]
  refine takeH (i := 12) (d := 84) (oi := _) (v := .agg (lv l)) rfl (by kernel_rfl) (by kernel_rfl) (by kernel_rfl) (by kernel_rfl) (fun _ _ _ h => h) (yieldsIf_load_midC (by kernel_rfl) _ _ rfl (g1) (i * 66) rfl (lC l) (lv l) (lC_arr l) _ (fun u hSw => hSw.2.2.2) Try.underlying50 rfl (size_lv l)) hHeld ?_
  try simp only [List.setIfInBounds_toArray, List.set_cons_zero, List.set_cons_succ]
  refine wpAnyH_ready (rs := [8]) (by kernel_rfl) (by simp) ?_
  refine AllReadyH.cons (o := _) rfl (fun K hK => ?_) (AllReadyH.nil)
  go_simp
  go_at_call 30
  refine (refLinkOf_c y.n y.k y.sv _).mono ?_
  rintro e w2 ⟨rfl, b2⟩
  have BX := Lib.hid (BX.out.trans (b2.mono BX.out.size))
  clear b2
  go_simp
  refine hK.out _ _ (KP.out _ BX.out) (fun hHeld => ?_)
  clear hK K
  try simp only [Act.put, List.setIfInBounds_toArray, List.set_cons_zero, List.set_cons_succ]
  refine takeH (i := 13) (d := 85) (oi := _) (v := .bool (decide (y.k = l))) rfl (by kernel_rfl) (by kernel_rfl) (by kernel_rfl) (by kernel_rfl) (fun _ _ _ h => h) (yieldsIf_eql (by kernel_rfl) 50 50 (.tmp 80) (.tmp 84) rfl (lv y.k) (lv l) rfl rfl guard_link _ (eq_link y.k l)) hHeld ?_
  try simp only [List.setIfInBounds_toArray, List.set_cons_zero, List.set_cons_succ]
  refine wpAnyH_done (by kernel_rfl) ?_ _
  refine NoPanic.normal ?_
  exact hQ _ _ _ _ _ _ _ _ _ _ _ _ _ _ BX.out
end Go.Proofs.Ytomfgopmgfoecaa
namespace Go.Proofs.Ytomfgopmgfoecaa
open Go.ChangeMaps Go.MapKept Go.Maps Go.RowKit Go.ChangeShapes Go.WideShapes Go.ChangeAt
set_option linter.unusedVariables false
set_option maxRecDepth 100000

noncomputable def sm_r27C : Code := ((Try.f12.body.bind (regionOf 27))).getD .skip
set_option maxRecDepth 1000000 in
set_option maxHeartbeats 8000000 in
theorem sm_r27 (c0 c1 c2 c5 c6 c7 c8 c9 c10 c12 c13 c14 c15 c16 c17 c18 c19 c20 c21 c22 c23 c24 c25 c26 c27 c28 c29 c30 c31 c32 c33 c34 c35 c36 c37 c38 c39 c40 c41 c42 c43 c44 c45 c46 c47 c48 c49 c50 c51 c52 c53 c54 c55 c56 c57 c58 c59 c60 c61 c62 c63 c64 c65 c66 c67 c68 c69 c70 c71 c72 c73 c74 c75 c76 c77 c78 c79 c80 c81 c82 c83 c84 c85 c86 c87 c88 c89 c90 c91 c92 c93 c94 c95 c96 c97 c98 c99 c100 c101 c102 c103 c104 c105 c106 c107 c108 c109 c110 c111 c112 c113 c114 c115 c116 c117 c118 c119 c120 c121 c122 c123 c124 c125 c126 c127 c128 c129 c130 c131 c132 c133 c134 c135 c136 c137 c138 c139 c140 c141 c142 c143 c144 c145 c146 c147 c148 c149 c150 c151 c152 c153 c154 c155 c156 c157 : Value) (ds : List Deferred) (w : World) (gr gx g4 nb m cv : Nat) (q : Bool) (Av : Option Addr) (hn : w.heap[nb]? = some (.cells #[.int .i64 (m : Nat)] 3 (0, 0))) (hx : w.heap[gx]? = some (.cells #[.pointer (some ⟨gr, 0, none⟩)] 29 (0, 0))) (hv : w.heap[gr]? = some (.cells #[.slice Av m cv] 31 (0, 0))) (h4 : w.heap[g4]? = some (.cells #[.bool q] 4 (0, 0))) (e1 : nb ≠ g4) (e2 : gx ≠ g4) (e3 : gr ≠ g4)
    (Q : Exit → Act → World → Prop) (hQ : ∀ (u151 u152 u153 u154 u155 u156 u157 : Value) (w' : World), (∃ u, Below w.heap.size w u ∧ w' = u.setCell ⟨g4, 0, none⟩ (.bool true)) → Q .normal ⟨#[c0, c1, c2, .pointer (some ⟨gx, 0, none⟩), .pointer (some ⟨g4, 0, none⟩), c5, c6, c7, c8, c9, c10, .pointer (some ⟨nb, 0, none⟩), c12, c13, c14, c15, c16, c17, c18, c19, c20, c21, c22, c23, c24, c25, c26, c27, c28, c29, c30, c31, c32, c33, c34, c35, c36, c37, c38, c39, c40, c41, c42, c43, c44, c45, c46, c47, c48, c49, c50, c51, c52, c53, c54, c55, c56, c57, c58, c59, c60, c61, c62, c63, c64, c65, c66, c67, c68, c69, c70, c71, c72, c73, c74, c75, c76, c77, c78, c79, c80, c81, c82, c83, c84, c85, c86, c87, c88, c89, c90, c91, c92, c93, c94, c95, c96, c97, c98, c99, c100, c101, c102, c103, c104, c105, c106, c107, c108, c109, c110, c111, c112, c113, c114, c115, c116, c117, c118, c119, c120, c121, c122, c123, c124, c125, c126, c127, c128, c129, c130, c131, c132, c133, c134, c135, c136, c137, c138, c139, c140, c141, c142, c143, c144, c145, c146, c147, c148, c149, c150, u151, u152, u153, u154, u155, u156, u157], ds⟩ w') :
    Code.wp Try.prog sm_r27C Q ⟨#[c0, c1, c2, .pointer (some ⟨gx, 0, none⟩), .pointer (some ⟨g4, 0, none⟩), c5, c6, c7, c8, c9, c10, .pointer (some ⟨nb, 0, none⟩), c12, c13, c14, c15, c16, c17, c18, c19, c20, c21, c22, c23, c24, c25, c26, c27, c28, c29, c30, c31, c32, c33, c34, c35, c36, c37, c38, c39, c40, c41, c42, c43, c44, c45, c46, c47, c48, c49, c50, c51, c52, c53, c54, c55, c56, c57, c58, c59, c60, c61, c62, c63, c64, c65, c66, c67, c68, c69, c70, c71, c72, c73, c74, c75, c76, c77, c78, c79, c80, c81, c82, c83, c84, c85, c86, c87, c88, c89, c90, c91, c92, c93, c94, c95, c96, c97, c98, c99, c100, c101, c102, c103, c104, c105, c106, c107, c108, c109, c110, c111, c112, c113, c114, c115, c116, c117, c118, c119, c120, c121, c122, c123, c124, c125, c126, c127, c128, c129, c130, c131, c132, c133, c134, c135, c136, c137, c138, c139, c140, c141, c142, c143, c144, c145, c146, c147, c148, c149, c150, c151, c152, c153, c154, c155, c156, c157], ds⟩ w := by
  conv => arg 2; whnf
  try dsimp only at hQ ⊢
  obtain ⟨w2, hw2⟩ : ∃ w2, w2 = w.drew := ⟨_, rfl⟩
  have BX : Hid (Below w.heap.size w w2) := by rw [hw2]; exact (Below.refl _ _).drew
  have KP : Hid (∀ u : World, Below w.heap.size w u → u.heap[nb]? = some (.cells #[.int .i64 (m : Nat)] 3 (0, 0)) ∧ u.heap[gx]? = some (.cells #[.pointer (some ⟨gr, 0, none⟩)] 29 (0, 0)) ∧ u.heap[gr]? = some (.cells #[.slice Av m cv] 31 (0, 0))) := fun u hu => ⟨(hu.block nb (blk_lt hn)).trans hn, (hu.block gx (blk_lt hx)).trans hx, (hu.block gr (blk_lt hv)).trans hv⟩
  have H4 : Hid (w2.heap[g4]? = some (.cells #[.bool q] 4 (0, 0))) := Lib.hid ((BX.out.block g4 (blk_lt h4)).trans h4)
  have LO : Hid ((fun u : World => u.heap[nb]? = some (.cells #[.int .i64 (m : Nat)] 3 (0, 0)) ∧ u.heap[gx]? = some (.cells #[.pointer (some ⟨gr, 0, none⟩)] 29 (0, 0)) ∧ u.heap[gr]? = some (.cells #[.slice Av m cv] 31 (0, 0))) (w2.setCell ⟨g4, 0, none⟩ (.bool true))) := Lib.hid ⟨(setCell_off 0 e1).trans (KP.out _ BX.out).1, (setCell_off 0 e2).trans (KP.out _ BX.out).2.1, (setCell_off 0 e3).trans (KP.out _ BX.out).2.2⟩
  clear hn hx hv h4 e1 e2 e3
  refine wp_region_noPanic ?_
  refine wp_region_held_drew (S := (fun u => u.heap[nb]? = some (.cells #[.int .i64 (m : Nat)] 3 (0, 0)) ∧ u.heap[gx]? = some (.cells #[.pointer (some ⟨gr, 0, none⟩)] 29 (0, 0)) ∧ u.heap[gr]? = some (.cells #[.slice Av m cv] 31 (0, 0)))) (by kernel_rfl) (by rw [← hw2]; exact KP.out _ BX.out) (fun hHeld => ?_)
  rw [← hw2]
  rw [← hw2] at hHeld
  clear hw2
  refine takeH (i := 0) (d := 151) (oi := _) (v := .int .i64 (m : Nat)) rfl (by kernel_rfl) (by kernel_rfl) (by kernel_rfl) (by kernel_rfl) (fun _ _ _ h => h) (Or.inl ⟨by kernel_rfl, by intro u hSw; (have hc := cell_of_row u nb 0 _ _ (0, 0) hSw.1; clear hSw; go_simp)⟩) hHeld ?_
  try simp only [List.setIfInBounds_toArray, List.set_cons_zero, List.set_cons_succ]
  refine takeH (i := 1) (d := 152) (oi := _) (v := .pointer (some ⟨gr, 0, none⟩)) rfl (by kernel_rfl) (by kernel_rfl) (by kernel_rfl) (by kernel_rfl) (fun _ _ _ h => h) (Or.inl ⟨by kernel_rfl, by intro u hSw; (have hc := cell_of_row u gx 0 _ _ (0, 0) hSw.2.1; clear hSw; go_simp)⟩) hHeld ?_
  try simp only [List.setIfInBounds_toArray, List.set_cons_zero, List.set_cons_succ]
  refine takeH (i := 2) (d := 153) (oi := _) (v := .pointer (some ⟨gr, 0, none⟩)) rfl (by kernel_rfl) (by kernel_rfl) (by kernel_rfl) (by kernel_rfl) (fun _ _ _ h => h) (Or.inl ⟨by kernel_rfl, by intro u hSw; clear hSw; go_simp⟩) hHeld ?_
  try simp only [List.setIfInBounds_toArray, List.set_cons_zero, List.set_cons_succ]
  refine takeH (i := 3) (d := 154) (oi := _) (v := .pointer (some ⟨gr, 0, none⟩)) rfl (by kernel_rfl) (by kernel_rfl) (by kernel_rfl) (by kernel_rfl) (fun _ _ _ h => h) (Or.inl ⟨by kernel_rfl, by intro u hSw; clear hSw; go_simp⟩) hHeld ?_
  try simp only [List.setIfInBounds_toArray, List.set_cons_zero, List.set_cons_succ]
  refine takeH (i := 4) (d := 155) (oi := _) (v := .slice Av m cv) rfl (by kernel_rfl) (by kernel_rfl) (by kernel_rfl) (by kernel_rfl) (fun _ _ _ h => h) (Or.inl ⟨by kernel_rfl, by intro u hSw; (have hc := cell_of_row u gr 0 _ _ (0, 0) hSw.2.2; clear hSw; go_simp)⟩) hHeld ?_
  try simp only [List.setIfInBounds_toArray, List.set_cons_zero, List.set_cons_succ]
  refine takeH (i := 5) (d := 156) (oi := _) (v := .int .i64 (m : Nat)) rfl (by kernel_rfl) (by kernel_rfl) (by kernel_rfl) (by kernel_rfl) (fun _ _ _ h => h) (Or.inl ⟨by kernel_rfl, by intro u hSw; clear hSw; go_simp⟩) hHeld ?_
  try simp only [List.setIfInBounds_toArray, List.set_cons_zero, List.set_cons_succ]
  refine takeH (i := 6) (d := 157) (oi := _) (v := .bool true) rfl (by kernel_rfl) (by kernel_rfl) (by kernel_rfl) (by kernel_rfl) (fun _ _ _ h => h) (Or.inl ⟨by kernel_rfl, by intro u hSw; clear hSw; go_simp⟩) hHeld ?_
  try simp only [List.setIfInBounds_toArray, List.set_cons_zero, List.set_cons_succ]
  refine wpAnyH_ready (rs := [7]) (by kernel_rfl) (by simp) ?_
  refine AllReadyH.cons (o := _) rfl (fun K hK => ?_) (AllReadyH.nil)
  have c4 := cell_of_row _ g4 0 _ _ (0, 0) H4.out
  have f4 : w2.frozen? ⟨g4, 0, none⟩ = false := by simp [World.frozen?, H4.out]
  go_simp
  clear c4 f4
  try go_simp
  refine hK.out _ _ (LO.out) (fun hHeld => ?_)
  clear hK K
  try simp only [Act.put, List.setIfInBounds_toArray, List.set_cons_zero, List.set_cons_succ]
  refine wpAnyH_done (by kernel_rfl) ?_ _
  refine NoPanic.normal ?_
  exact hQ _ _ _ _ _ _ _ _ ⟨_, BX.out, rfl⟩
end Go.Proofs.Ytomfgopmgfoecaa
namespace Go.Proofs.Ytomfgopmgfoecaa
open Go.ChangeMaps Go.MapKept Go.Maps Go.RowKit Go.ChangeShapes Go.WideShapes Go.ChangeAt
set_option linter.unusedVariables false
set_option maxRecDepth 100000

noncomputable def sm_r24C : Code := (((Try.f12.body.map rangesOf).bind (·[0]?)).bind fun c => regionOf 24 (rangeBody c)).getD .skip
set_option maxRecDepth 1000000 in
set_option maxHeartbeats 8000000 in
theorem sm_r24 (c0 c1 c2 c4 c5 c6 c7 c8 c9 c10 c14 c15 c16 c17 c18 c19 c20 c21 c22 c23 c24 c25 c26 c27 c28 c29 c30 c31 c32 c33 c34 c35 c36 c37 c38 c39 c40 c41 c42 c43 c44 c45 c46 c47 c48 c49 c50 c51 c52 c53 c54 c55 c56 c57 c58 c59 c60 c61 c62 c63 c64 c65 c66 c67 c68 c69 c70 c71 c72 c73 c74 c75 c76 c77 c78 c79 c80 c81 c82 c83 c84 c85 c86 c87 c88 c89 c90 c91 c92 c93 c94 c95 c96 c97 c98 c99 c100 c101 c102 c103 c104 c105 c106 c107 c108 c109 c110 c111 c112 c113 c114 c115 c116 c117 c118 c119 c120 c121 c122 c123 c124 c125 c126 c127 c128 c129 c130 c131 c132 c133 c134 c135 c136 c137 c138 c139 c140 c141 c142 c143 c144 c145 c146 c147 c148 c149 c150 c151 c152 c153 c154 c155 c156 c157 : Value) (l z : Nat) (w : World) (gr gx nb gs b m cv k : Nat) (v : Sv) (B B2 : Option Addr) (c d2 : Nat) (hk : k < m) (hm : m ≤ cv) (hm9 : m ≤ 100000) (hn : w.cell? ⟨nb, 0, none⟩ = some (.int .i64 (k : Int))) (hx : w.cell? ⟨gx, 0, none⟩ = some (.pointer (some ⟨gr, 0, none⟩))) (hv : w.cell? ⟨gr, 0, none⟩ = some (.slice (some ⟨b, 0, none⟩) m cv)) (hs : w.rangeAt gs 0 (sgC (v.sg B c))) (r1 : Rd w 0 w.heap.size B v.s) (hb : w.rangeAt b (k * 101) (sgC (v.sg B2 d2))) (r2 : Rd w 0 w.heap.size B2 v.s)
    (Q : Exit → Act → World → Prop) (hL : ¬ LetsOut Q) (hQ : ∀ (u123 u124 u125 u126 u127 u128 u129 u130 u131 u132 u133 u134 u135 u136 u137 u138 u139 u140 u141 u142 u143 u144 u145 u146 u147 : Value) (w' : World), Below w.heap.size w w' → Q .normal ⟨#[c0, c1, c2, .pointer (some ⟨gx, 0, none⟩), c4, c5, c6, c7, c8, c9, c10, .pointer (some ⟨nb, 0, none⟩), .int .i64 (k : Int), .pointer (some ⟨gs, 0, none⟩), c14, c15, c16, c17, c18, c19, c20, c21, c22, c23, c24, c25, c26, c27, c28, c29, c30, c31, c32, c33, c34, c35, c36, c37, c38, c39, c40, c41, c42, c43, c44, c45, c46, c47, c48, c49, c50, c51, c52, c53, c54, c55, c56, c57, c58, c59, c60, c61, c62, c63, c64, c65, c66, c67, c68, c69, c70, c71, c72, c73, c74, c75, c76, c77, c78, c79, c80, c81, c82, c83, c84, c85, c86, c87, c88, c89, c90, c91, c92, c93, c94, c95, c96, c97, c98, c99, c100, c101, c102, c103, c104, c105, c106, c107, c108, c109, c110, c111, c112, c113, c114, c115, c116, c117, c118, c119, c120, c121, c122, u123, u124, u125, u126, u127, u128, u129, u130, u131, u132, u133, u134, u135, u136, u137, u138, u139, u140, u141, u142, u143, u144, u145, u146, u147, .bool false, c149, c150, c151, c152, c153, c154, c155, c156, c157], []⟩ w') :
    Code.wpIn (Fence.wide.inRound l) z Try.prog sm_r24C Q ⟨#[c0, c1, c2, .pointer (some ⟨gx, 0, none⟩), c4, c5, c6, c7, c8, c9, c10, .pointer (some ⟨nb, 0, none⟩), .int .i64 (k : Int), .pointer (some ⟨gs, 0, none⟩), c14, c15, c16, c17, c18, c19, c20, c21, c22, c23, c24, c25, c26, c27, c28, c29, c30, c31, c32, c33, c34, c35, c36, c37, c38, c39, c40, c41, c42, c43, c44, c45, c46, c47, c48, c49, c50, c51, c52, c53, c54, c55, c56, c57, c58, c59, c60, c61, c62, c63, c64, c65, c66, c67, c68, c69, c70, c71, c72, c73, c74, c75, c76, c77, c78, c79, c80, c81, c82, c83, c84, c85, c86, c87, c88, c89, c90, c91, c92, c93, c94, c95, c96, c97, c98, c99, c100, c101, c102, c103, c104, c105, c106, c107, c108, c109, c110, c111, c112, c113, c114, c115, c116, c117, c118, c119, c120, c121, c122, c123, c124, c125, c126, c127, c128, c129, c130, c131, c132, c133, c134, c135, c136, c137, c138, c139, c140, c141, c142, c143, c144, c145, c146, c147, c148, c149, c150, c151, c152, c153, c154, c155, c156, c157], []⟩ w := by
  conv => arg 4; whnf
  try dsimp only at hQ ⊢
  have q1 : (k : Int) < (m : Int) := by omega
  have q2 : ¬ (m : Int) ≤ (k : Int) := by omega
  have q3 : (m : Int) ≤ (cv : Int) := by omega
  obtain ⟨w2, hw2⟩ : ∃ w2, w2 = w.drew := ⟨_, rfl⟩
  have BX : Hid (Below w.heap.size w w2) := by rw [hw2]; exact (Below.refl _ _).drew
  have KP : Hid (∀ u : World, Below w.heap.size w u → (u.cell? ⟨nb, 0, none⟩ = some (.int .i64 (k : Int)) ∧ u.cell? ⟨gx, 0, none⟩ = some (.pointer (some ⟨gr, 0, none⟩)) ∧ u.cell? ⟨gr, 0, none⟩ = some (.slice (some ⟨b, 0, none⟩) m cv) ∧ u.rangeAt gs 0 (sgC (v.sg B c))) ∧ Rd u 0 u.heap.size B v.s ∧ u.rangeAt b (k * 101) (sgC (v.sg B2 d2)) ∧ Rd u 0 u.heap.size B2 v.s) := fun u hu => ⟨⟨(hu.cell (p := ⟨nb, 0, none⟩) (World.block_lt_of_cell? w _ hn)).trans hn, (hu.cell (p := ⟨gx, 0, none⟩) (World.block_lt_of_cell? w _ hx)).trans hx, (hu.cell (p := ⟨gr, 0, none⟩) (World.block_lt_of_cell? w _ hv)).trans hv, fun j y hy => (hu.cell (p := ⟨gs, 0 + j, none⟩) (World.block_lt_of_cell? w _ (hs j y hy))).trans (hs j y hy)⟩, (r1.below hu (Nat.le_refl _)).wide (Nat.le_refl _) hu.size, fun j y hy => (hu.cell (p := ⟨b, k * 101 + j, none⟩) (World.block_lt_of_cell? w _ (hb j y hy))).trans (hb j y hy), (r2.below hu (Nat.le_refl _)).wide (Nat.le_refl _) hu.size⟩
  clear hn hx hv hs r1 hb r2
  refine wp_region_round (S := (fun u => u.cell? ⟨nb, 0, none⟩ = some (.int .i64 (k : Int)) ∧ u.cell? ⟨gx, 0, none⟩ = some (.pointer (some ⟨gr, 0, none⟩)) ∧ u.cell? ⟨gr, 0, none⟩ = some (.slice (some ⟨b, 0, none⟩) m cv) ∧ u.rangeAt gs 0 (sgC (v.sg B c)))) (by kernel_rfl) (by kernel_rfl) hL (by rw [← hw2]; exact (KP.out _ BX.out).1) (fun hHeld => ?_)
  rw [← hw2]
  rw [← hw2] at hHeld
  clear hw2
  refine takeH (i := 0) (d := 123) (oi := _) (v := .int .i64 (k : Int)) rfl (by kernel_rfl) (by kernel_rfl) (by kernel_rfl) (by kernel_rfl) (fun _ _ _ h => h) (Or.inl ⟨by kernel_rfl, by intro u hSw; clear hSw; go_simp⟩) hHeld ?_
  try simp only [List.setIfInBounds_toArray, List.set_cons_zero, List.set_cons_succ]
  refine takeH (i := 1) (d := 124) (oi := _) (v := .int .i64 (k : Int)) rfl (by kernel_rfl) (by kernel_rfl) (by kernel_rfl) (by kernel_rfl) (fun _ _ _ h => h) (Or.inl ⟨by kernel_rfl, by intro u hSw; (have hc := hSw.1; clear hSw; go_simp)⟩) hHeld ?_
  try simp only [List.setIfInBounds_toArray, List.set_cons_zero, List.set_cons_succ]
  refine takeH (i := 2) (d := 125) (oi := _) (v := .bool false) rfl (by kernel_rfl) (by kernel_rfl) (by kernel_rfl) (by kernel_rfl) (fun _ _ _ h => h) (Or.inl ⟨by kernel_rfl, by intro u hSw; clear hSw; go_simp⟩) hHeld ?_
  try simp only [List.setIfInBounds_toArray, List.set_cons_zero, List.set_cons_succ]
  refine takeH (i := 3) (d := 126) (oi := _) (v := .bool false) rfl (by kernel_rfl) (by kernel_rfl) (by kernel_rfl) (by kernel_rfl) (fun _ _ _ h => h) (Or.inl ⟨by kernel_rfl, by intro u hSw; clear hSw; go_simp⟩) hHeld ?_
  try simp only [List.setIfInBounds_toArray, List.set_cons_zero, List.set_cons_succ]
  refine takeH (i := 4) (d := 127) (oi := _) (v := .int .i64 (k : Int)) rfl (by kernel_rfl) (by kernel_rfl) (by kernel_rfl) (by kernel_rfl) (fun _ _ _ h => h) (Or.inl ⟨by kernel_rfl, by intro u hSw; (have hc := hSw.1; clear hSw; go_simp)⟩) hHeld ?_
  try simp only [List.setIfInBounds_toArray, List.set_cons_zero, List.set_cons_succ]
  refine takeH (i := 5) (d := 128) (oi := _) (v := .pointer (some ⟨gr, 0, none⟩)) rfl (by kernel_rfl) (by kernel_rfl) (by kernel_rfl) (by kernel_rfl) (fun _ _ _ h => h) (Or.inl ⟨by kernel_rfl, by intro u hSw; (have hc := hSw.2.1; clear hSw; go_simp)⟩) hHeld ?_
  try simp only [List.setIfInBounds_toArray, List.set_cons_zero, List.set_cons_succ]
  refine takeH (i := 6) (d := 129) (oi := _) (v := .pointer (some ⟨gr, 0, none⟩)) rfl (by kernel_rfl) (by kernel_rfl) (by kernel_rfl) (by kernel_rfl) (fun _ _ _ h => h) (Or.inl ⟨by kernel_rfl, by intro u hSw; clear hSw; go_simp⟩) hHeld ?_
  try simp only [List.setIfInBounds_toArray, List.set_cons_zero, List.set_cons_succ]
  refine takeH (i := 7) (d := 130) (oi := _) (v := .pointer (some ⟨gr, 0, none⟩)) rfl (by kernel_rfl) (by kernel_rfl) (by kernel_rfl) (by kernel_rfl) (fun _ _ _ h => h) (Or.inl ⟨by kernel_rfl, by intro u hSw; clear hSw; go_simp⟩) hHeld ?_
  try simp only [List.setIfInBounds_toArray, List.set_cons_zero, List.set_cons_succ]
  refine takeH (i := 8) (d := 131) (oi := _) (v := .slice (some ⟨b, 0, none⟩) m cv) rfl (by kernel_rfl) (by kernel_rfl) (by kernel_rfl) (by kernel_rfl) (fun _ _ _ h => h) (Or.inl ⟨by kernel_rfl, by intro u hSw; (have hc := hSw.2.2.1; clear hSw; go_simp)⟩) hHeld ?_
  try simp only [List.setIfInBounds_toArray, List.set_cons_zero, List.set_cons_succ]
  refine takeH (i := 9) (d := 132) (oi := _) (v := .int .i64 (m : Nat)) rfl (by kernel_rfl) (by kernel_rfl) (by kernel_rfl) (by kernel_rfl) (fun _ _ _ h => h) (Or.inl ⟨by kernel_rfl, by intro u hSw; clear hSw; go_simp⟩) hHeld ?_
  try simp only [List.setIfInBounds_toArray, List.set_cons_zero, List.set_cons_succ]
  refine takeH (i := 10) (d := 133) (oi := _) (v := .bool false) rfl (by kernel_rfl) (by kernel_rfl) (by kernel_rfl) (by kernel_rfl) (fun _ _ _ h => h) (Or.inl ⟨by kernel_rfl, by intro u hSw; clear hSw; go_simp⟩) hHeld ?_
  try simp only [List.setIfInBounds_toArray, List.set_cons_zero, List.set_cons_succ]
  refine takeH (i := 11) (d := 134) (oi := _) (v := .bool false) rfl (by kernel_rfl) (by kernel_rfl) (by kernel_rfl) (by kernel_rfl) (fun _ _ _ h => h) (Or.inl ⟨by kernel_rfl, by intro u hSw; clear hSw; go_simp⟩) hHeld ?_
  try simp only [List.setIfInBounds_toArray, List.set_cons_zero, List.set_cons_succ]
  refine takeH (i := 12) (d := 135) (oi := _) (v := .bool false) rfl (by kernel_rfl) (by kernel_rfl) (by kernel_rfl) (by kernel_rfl) (fun _ _ _ h => h) (Or.inl ⟨by kernel_rfl, by intro u hSw; clear hSw; go_simp⟩) hHeld ?_
  try simp only [List.setIfInBounds_toArray, List.set_cons_zero, List.set_cons_succ]
  refine takeH (i := 13) (d := 136) (oi := _) (v := .agg (sgv (v.sg B c))) rfl (by kernel_rfl) (by kernel_rfl) (by kernel_rfl) (by kernel_rfl) (fun _ _ _ h => h) (yieldsIf_load_midC (by kernel_rfl) _ _ rfl (gs) 0 rfl (sgC (v.sg B c)) (sgv (v.sg B c)) (sgC_arr (v.sg B c)) _ (fun u hSw => hSw.2.2.2) Try.underlying42 rfl (size_sgv (v.sg B c))) hHeld ?_
  try simp only [List.setIfInBounds_toArray, List.set_cons_zero, List.set_cons_succ]
  refine takeH (i := 15) (d := 138) (oi := _) (v := .pointer (some ⟨gr, 0, none⟩)) rfl (by kernel_rfl) (by kernel_rfl) (by kernel_rfl) (by kernel_rfl) (fun _ _ _ h => h) (Or.inl ⟨by kernel_rfl, by intro u hSw; (have hc := hSw.2.1; clear hSw; go_simp)⟩) hHeld ?_
  try simp only [List.setIfInBounds_toArray, List.set_cons_zero, List.set_cons_succ]
  refine takeH (i := 16) (d := 139) (oi := _) (v := .pointer (some ⟨gr, 0, none⟩)) rfl (by kernel_rfl) (by kernel_rfl) (by kernel_rfl) (by kernel_rfl) (fun _ _ _ h => h) (Or.inl ⟨by kernel_rfl, by intro u hSw; clear hSw; go_simp⟩) hHeld ?_
  try simp only [List.setIfInBounds_toArray, List.set_cons_zero, List.set_cons_succ]
  refine takeH (i := 17) (d := 140) (oi := _) (v := .pointer (some ⟨gr, 0, none⟩)) rfl (by kernel_rfl) (by kernel_rfl) (by kernel_rfl) (by kernel_rfl) (fun _ _ _ h => h) (Or.inl ⟨by kernel_rfl, by intro u hSw; clear hSw; go_simp⟩) hHeld ?_
  try simp only [List.setIfInBounds_toArray, List.set_cons_zero, List.set_cons_succ]
  refine takeH (i := 18) (d := 141) (oi := _) (v := .slice (some ⟨b, 0, none⟩) m cv) rfl (by kernel_rfl) (by kernel_rfl) (by kernel_rfl) (by kernel_rfl) (fun _ _ _ h => h) (Or.inl ⟨by kernel_rfl, by intro u hSw; (have hc := hSw.2.2.1; clear hSw; go_simp)⟩) hHeld ?_
  try simp only [List.setIfInBounds_toArray, List.set_cons_zero, List.set_cons_succ]
  refine takeH (i := 19) (d := 142) (oi := _) (v := .int .i64 (k : Int)) rfl (by kernel_rfl) (by kernel_rfl) (by kernel_rfl) (by kernel_rfl) (fun _ _ _ h => h) (Or.inl ⟨by kernel_rfl, by intro u hSw; (have hc := hSw.1; clear hSw; go_simp)⟩) hHeld ?_
  try simp only [List.setIfInBounds_toArray, List.set_cons_zero, List.set_cons_succ]
  refine takeH (i := 20) (d := 143) (oi := _) (v := .int .i64 (k : Int)) rfl (by kernel_rfl) (by kernel_rfl) (by kernel_rfl) (by kernel_rfl) (fun _ _ _ h => h) (Or.inl ⟨by kernel_rfl, by intro u hSw; (have hc := hSw.1; clear hSw; go_simp)⟩) hHeld ?_
  try simp only [List.setIfInBounds_toArray, List.set_cons_zero, List.set_cons_succ]
  refine takeH (i := 21) (d := 144) (oi := _) (v := .int .i64 ((k : Int) + 1)) rfl (by kernel_rfl) (by kernel_rfl) (by kernel_rfl) (by kernel_rfl) (fun _ _ _ h => h) (Or.inl ⟨by kernel_rfl, by intro u hSw; clear hSw; (go_simp; simp only [IntKind.wrap, IntKind.bits, IntKind.signed]; first | omega | (simp; omega))⟩) hHeld ?_
  try simp only [List.setIfInBounds_toArray, List.set_cons_zero, List.set_cons_succ]
  refine takeH (i := 22) (d := 145) (oi := _) (v := .slice (some ⟨b, k * 101, none⟩) 1 (cv - k)) rfl (by kernel_rfl) (by kernel_rfl) (by kernel_rfl) (by kernel_rfl) (fun _ _ _ h => h) (Or.inl ⟨by kernel_rfl, by intro u hSw; clear hSw; (go_simp; rw [if_pos (by omega), if_neg (by omega)])⟩) hHeld ?_
  try simp only [List.setIfInBounds_toArray, List.set_cons_zero, List.set_cons_succ]
  refine wpAnyH_ready (rs := [14]) (by kernel_rfl) (by simp) ?_
  refine AllReadyH.cons (o := _) rfl (fun K hK => ?_) (AllReadyH.nil)
  refine step_buildSlice_row (w' := w2.alloc (.cells (sgv (v.sg B c)) 42)) (by kernel_rfl) 22 1 #[(0, .tmp 136)] rfl (.slice (some ⟨w2.heap.size, 0, none⟩) 1 1) (by simp only [List.map_toArray, List.map_cons, List.map_nil]; exact one_sg (v.sg B c) rfl w2) ?_
  obtain ⟨gn, hgn⟩ : ∃ g0, g0 = w2.heap.size := ⟨_, rfl⟩
  have nl := (SgB.new (x := (v.sg B c)) (w := w2)).all
  have b2 : Below w2.heap.size w2 (w2.alloc (.cells (sgv (v.sg B c)) 42)) := (Below.refl _ _).alloc (Nat.le_refl _) _
  have gl : gn < (w2.alloc (.cells (sgv (v.sg B c)) 42)).heap.size := by rw [hgn]; simp
  rw [← hgn] at nl ⊢
  obtain ⟨w2, hw2⟩ : ∃ w3, w3 = w2.alloc (.cells (sgv (v.sg B c)) 42) := ⟨_, rfl⟩
  rw [← hw2] at nl b2 gl ⊢
  have NL := Lib.hid nl
  have GL := Lib.hid gl
  have BX := Lib.hid (BX.out.trans (b2.mono BX.out.size))
  clear nl b2 hw2 hgn gl
  try go_simp
  refine hK.out _ _ ((KP.out _ BX.out).1) (fun hHeld => ?_)
  clear hK K
  try simp only [Act.put, List.setIfInBounds_toArray, List.set_cons_zero, List.set_cons_succ]
  refine wpAnyH_ready (rs := [23]) (by kernel_rfl) (by simp) ?_
  refine AllReadyH.cons (o := _) rfl (fun K hK => ?_) (AllReadyH.nil)
  go_simp
  go_at_call 31
  refine (same12_c (some ⟨gn, 0, none⟩) (some ⟨b, k * 101, none⟩) 1 1 1 (cv - k) [v] w2 rfl rfl (by omega) (fun u hu i y hy => by
    have hi := (List.getElem?_eq_some_iff.1 hy).1
    obtain rfl : i = 0 := by simpa using hi
    injection hy with hy
    subst hy
    refine ⟨gn, 0, B, c, rfl, ?_, (KP.out _ (BX.out.trans (hu.mono BX.out.size))).2.1⟩
    rw [Nat.zero_mul, Nat.zero_add]
    exact fun j y hy => (hu.cell (p := ⟨gn, 0 + j, none⟩) GL.out).trans (NL.out j y hy)) (fun u hu i y hy => by
    have hi := (List.getElem?_eq_some_iff.1 hy).1
    obtain rfl : i = 0 := by simpa using hi
    injection hy with hy
    subst hy
    have q := (KP.out _ (BX.out.trans (hu.mono BX.out.size))).2.2
    refine ⟨b, k * 101, B2, d2, rfl, ?_, q.2⟩
    rw [Nat.zero_mul, Nat.add_zero]
    exact q.1)).mono ?_
  rintro e w2 ⟨rfl, b2⟩
  have BX := Lib.hid (BX.out.trans (b2.mono BX.out.size))
  clear b2
  go_simp
  refine hK.out _ _ ((KP.out _ BX.out).1) (fun hHeld => ?_)
  clear hK K
  try simp only [Act.put, List.setIfInBounds_toArray, List.set_cons_zero, List.set_cons_succ]
  refine takeH (i := 24) (d := 147) (oi := _) (v := .bool false) rfl (by kernel_rfl) (by kernel_rfl) (by kernel_rfl) (by kernel_rfl) (fun _ _ _ h => h) (Or.inl ⟨by kernel_rfl, by intro u hSw; clear hSw; go_simp⟩) hHeld ?_
  try simp only [List.setIfInBounds_toArray, List.set_cons_zero, List.set_cons_succ]
  refine takeH (i := 25) (d := 148) (oi := _) (v := .bool false) rfl (by kernel_rfl) (by kernel_rfl) (by kernel_rfl) (by kernel_rfl) (fun _ _ _ h => h) (Or.inl ⟨by kernel_rfl, by intro u hSw; clear hSw; go_simp⟩) hHeld ?_
  try simp only [List.setIfInBounds_toArray, List.set_cons_zero, List.set_cons_succ]
  refine wpAnyH_done (by kernel_rfl) ?_ _
  refine NoPanic.normal ?_
  exact hQ _ _ _ _ _ _ _ _ _ _ _ _ _ _ _ _ _ _ _ _ _ _ _ _ _ _ BX.out
end Go.Proofs.Ytomfgopmgfoecaa
namespace Go.Proofs.Ytomfgopmgfoecaa
open Go.Shelf Go.ChangeMaps Go.MapKept Go.Maps Go.RowKit Go.ChangeShapes Go.WideShapes Go.ChangeAt
attribute [local go_sem] Oper.semAt_some
set_option linter.unusedVariables false
set_option maxRecDepth 100000
theorem cells_from {W W' : World} {row : Option Nat} {B b : Nat} {cs : Array Value} {t : TypeId} {m : Nat × Nat} (hg : W.grownBy W' row) (hr : ∀ r, row = some r → B ≤ r ∧ ∃ o : Obj, W.heap[r]? = some o ∧ o.isCells = false) (h : W.heap[b]? = some (.cells cs t m)) : W'.heap[b]? = some (.cells cs t m) :=
  (hg.block b (Array.getElem?_eq_some_iff.1 h).1 (fun e => by
    obtain ⟨_, o, ho, hc⟩ := hr b e.symm
    rw [h] at ho
    injection ho with ho
    subst ho
    cases hc)).trans h
/-- What holds when k votes have come. -/
def IAt (w : World) (bs nb k : Nat) (u : World) : Prop := u.heap[nb]? = some (.cells #[.int .i64 (k : Int)] 3 (0, 0)) ∧ Below bs w u
theorem iAt_from {w : World} {bs nb : Nat} (hb : bs ≤ w.heap.size) : OwnFrom w.heap.size (IAt w bs nb) := fun k W W' row hs hg hr =>
  ⟨cells_from hg hr hs.1, hs.2.grown hg (Nat.le_trans hb hs.2.size) (fun j e => by have := (hr j e).1; omega)⟩
/-- What holds behind a round's assignment. -/
def RAt (w : World) (bs nb : Nat) (M : List Sv) (T : Nat → Nat → Sv → Option Addr → Nat → Array Value) (k : Nat) (a' : Act) (u : World) : Prop :=
  ∃ gs v B c, a' = ⟨T k gs v B c, []⟩ ∧ M[k]? = some v ∧ u.heap[gs]? = some (.cells (sgv (v.sg B c)) 42 (0, 0)) ∧ Ow u bs B v.s ∧ IAt w bs nb k u
theorem rAt_from {w : World} {bs nb : Nat} {M : List Sv} {T : Nat → Nat → Sv → Option Addr → Nat → Array Value} (hb : bs ≤ w.heap.size) (k : Nat) (a' : Act) : OwnFrom w.heap.size (fun (_ : Unit) => RAt w bs nb M T k a') := fun _ W W' row ⟨gs, v, B, c, h1, h2, h3, h4, h5⟩ hg hr =>
  ⟨gs, v, B, c, h1, h2, cells_from hg hr h3, fun hn => by
    obtain ⟨b, cur, e, q1, q2, q3, q4⟩ := h4 hn
    exact ⟨b, cur, e, q1, Nat.lt_of_lt_of_le q2 hg.size, cells_from hg hr q3, q4⟩, iAt_from hb k W W' row h5 hg hr⟩
noncomputable def samRange : Code := ((Try.f12.body.map rangesOf).bind (·[0]?)).getD .skip
set_option maxHeartbeats 8000000 in
theorem sm_range (c0 c1 c2 c4 c5 c6 c7 c8 c9 c10 c12 c13 c14 c15 c16 c17 c18 c19 c20 c21 c22 c23 c24 c25 c26 c27 c28 c29 c30 c31 c32 c33 c34 c35 c36 c37 c38 c39 c40 c41 c42 c43 c44 c45 c46 c47 c48 c49 c50 c51 c52 c53 c54 c55 c56 c57 c58 c59 c60 c61 c62 c63 c64 c65 c66 c67 c68 c69 c70 c71 c72 c73 c74 c75 c76 c77 c78 c79 c80 c81 c82 c83 c84 c85 c86 c87 c88 c89 c90 c91 c92 c93 c94 c95 c96 c97 c98 c99 c100 c101 c102 c103 c104 c105 c106 c107 c108 c109 c110 c111 c112 c113 c114 c115 c116 c117 c118 c119 c121 c122 c123 c124 c125 c126 c127 c128 c129 c130 c131 c132 c133 c134 c135 c136 c137 c138 c139 c140 c141 c142 c143 c144 c145 c146 c147 c148 c149 c150 c151 c152 c153 c154 c155 c156 c157 : Value) (w : World) (gx gr nb a bs m cv : Nat) (Av : Option Addr) (M : List Sv) (hm : m = M.length) (hm9 : m ≤ 100000) (hmc : m ≤ cv)
    (hseq : GoesM Fence.wide 8 Try.prog 40 #[.pointer (some ⟨a, 0, none⟩)] (YAll bs M) (KpH bs) M.length w)
    (hbs : bs ≤ w.heap.size) (hnb : bs ≤ nb) (hn : w.heap[nb]? = some (.cells #[.int .i64 0] 3 (0, 0))) (hx : w.cell? ⟨gx, 0, none⟩ = some (.pointer (some ⟨gr, 0, none⟩))) (hgx : gx < bs) (hv : w.cell? ⟨gr, 0, none⟩ = some (.slice Av m cv)) (hgr : gr < bs)
    (hR : ∀ (k : Nat) v, M[k]? = some v → ∃ b B2 d2, Av = some ⟨b, 0, none⟩ ∧ b < bs ∧ w.rangeAt b (k * 101) (sgC (v.sg B2 d2)) ∧ Rd w 0 bs B2 v.s)
    (Q : Exit → Act → World → Prop) (hQ : ∀ D W', w.heap.size ≤ D → W'.heap[D]? = some (.deferred (some [])) → Below bs w W' → W'.heap[nb]? = some (.cells #[.int .i64 (m : Int)] 3 (0, 0)) → Q .normal ⟨#[c0, c1, c2, .pointer (some ⟨gx, 0, none⟩), c4, c5, c6, c7, c8, c9, c10, .pointer (some ⟨nb, 0, none⟩), c12, c13, c14, c15, c16, c17, c18, c19, c20, c21, c22, c23, c24, c25, c26, c27, c28, c29, c30, c31, c32, c33, c34, c35, c36, c37, c38, c39, c40, c41, c42, c43, c44, c45, c46, c47, c48, c49, c50, c51, c52, c53, c54, c55, c56, c57, c58, c59, c60, c61, c62, c63, c64, c65, c66, c67, c68, c69, c70, c71, c72, c73, c74, c75, c76, c77, c78, c79, c80, c81, c82, c83, c84, c85, c86, c87, c88, c89, c90, c91, c92, c93, c94, c95, c96, c97, c98, c99, c100, c101, c102, c103, c104, c105, c106, c107, c108, c109, c110, c111, c112, c113, c114, c115, c116, c117, c118, c119, .func (.func 40) #[] #[.pointer (some ⟨a, 0, none⟩)], c121, c122, c123, c124, c125, c126, c127, c128, c129, c130, c131, c132, c133, c134, c135, c136, c137, c138, c139, c140, c141, c142, c143, c144, c145, c146, c147, c148, c149, c150, c151, c152, c153, c154, c155, c156, c157], [{ target := .collected D, args := #[] }]⟩ W') :
    samRange.wpIn Fence.wide 9 Try.prog Q ⟨#[c0, c1, c2, .pointer (some ⟨gx, 0, none⟩), c4, c5, c6, c7, c8, c9, c10, .pointer (some ⟨nb, 0, none⟩), c12, c13, c14, c15, c16, c17, c18, c19, c20, c21, c22, c23, c24, c25, c26, c27, c28, c29, c30, c31, c32, c33, c34, c35, c36, c37, c38, c39, c40, c41, c42, c43, c44, c45, c46, c47, c48, c49, c50, c51, c52, c53, c54, c55, c56, c57, c58, c59, c60, c61, c62, c63, c64, c65, c66, c67, c68, c69, c70, c71, c72, c73, c74, c75, c76, c77, c78, c79, c80, c81, c82, c83, c84, c85, c86, c87, c88, c89, c90, c91, c92, c93, c94, c95, c96, c97, c98, c99, c100, c101, c102, c103, c104, c105, c106, c107, c108, c109, c110, c111, c112, c113, c114, c115, c116, c117, c118, c119, .func (.func 40) #[] #[.pointer (some ⟨a, 0, none⟩)], c121, c122, c123, c124, c125, c126, c127, c128, c129, c130, c131, c132, c133, c134, c135, c136, c137, c138, c139, c140, c141, c142, c143, c144, c145, c146, c147, c148, c149, c150, c151, c152, c153, c154, c155, c156, c157], []⟩ w := by
  conv => arg 4; whnf
  dsimp only at hQ ⊢
  have hnl : nb < w.heap.size := (Array.getElem?_eq_some_iff.1 hn).1
  have KW : ∀ {A B : World} (k1 k2 : Nat), IAt w bs nb k1 A → IAt w bs nb k2 B → A.heap.size ≤ B.heap.size → KpH bs A B := fun k1 k2 h1 h2 hs => ⟨fun q hq => (h2.2.cell hq).trans (h1.2.cell hq).symm, hs⟩
  refine wpIn_range_mem2 (n := 9) rfl (by omega) (gf := 40) (lb := #[.pointer (some ⟨a, 0, none⟩)]) rfl trivial (enters_of Try.func40 (by kernel_rfl) rfl) hseq
    (fun h1 h2 => ⟨fun q hq => (h2.1 q hq).trans (h1.1 q hq), Nat.le_trans h1.2 h2.2⟩) ?kb (fun k args W h => by obtain ⟨v, B, c, _, rfl, _⟩ := h; rfl)
    (IAt w bs nb) (iAt_from hbs) ⟨hn, Below.refl _ _⟩ (RAt w bs nb M (fun k gs v B c => #[c0, c1, c2, .pointer (some ⟨gx, 0, none⟩), c4, c5, c6, c7, c8, c9, c10, .pointer (some ⟨nb, 0, none⟩), .int .i64 (k : Int), .pointer (some ⟨gs, 0, none⟩), c14, c15, c16, c17, c18, c19, c20, c21, c22, c23, c24, c25, c26, c27, c28, c29, c30, c31, c32, c33, c34, c35, c36, c37, c38, c39, c40, c41, c42, c43, c44, c45, c46, c47, c48, c49, c50, c51, c52, c53, c54, c55, c56, c57, c58, c59, c60, c61, c62, c63, c64, c65, c66, c67, c68, c69, c70, c71, c72, c73, c74, c75, c76, c77, c78, c79, c80, c81, c82, c83, c84, c85, c86, c87, c88, c89, c90, c91, c92, c93, c94, c95, c96, c97, c98, c99, c100, c101, c102, c103, c104, c105, c106, c107, c108, c109, c110, c111, c112, c113, c114, c115, c116, c117, c118, c119, .func (.func 40) #[] #[.pointer (some ⟨a, 0, none⟩)], .int .i64 (k : Int), .agg (sgv (v.sg B c)), c123, c124, c125, c126, c127, c128, c129, c130, c131, c132, c133, c134, c135, c136, c137, c138, c139, c140, c141, c142, c143, c144, c145, c146, c147, c148, c149, c150, c151, c152, c153, c154, c155, c156, c157])) (rAt_from hbs) ?assign ?body ?done
  case kb =>
    intro W l o' hl
    exact ⟨fun q hq => World.cell?_of_block (World.putObj_heap_other (by omega)), by simp [World.putObj]⟩
  case assign =>
    rintro l k args W K hI ⟨v, B, c, hv1, rfl, how⟩ hk hK
    have hz := zero_sg
    obtain ⟨W0, hW0⟩ : ∃ W0, W0 = W.alloc (.cells (sgv (v.sg B c)) 42) := ⟨_, rfl⟩
    have HW0 := Lib.hid hW0
    have ONE := Lib.hid (show (sgv (v.sg B c)).all (·.oneCell') = true from rowV_one 101 _ (sgf_one _ rfl))
    have b0 : Below W.heap.size W W0 := by rw [hW0]; exact (Below.refl _ _).alloc (Nat.le_refl _) _
    have KK := Lib.hid (hK ⟨#[c0, c1, c2, .pointer (some ⟨gx, 0, none⟩), c4, c5, c6, c7, c8, c9, c10, .pointer (some ⟨nb, 0, none⟩), .int .i64 (k : Int), .pointer (some ⟨W.heap.size, 0, none⟩), c14, c15, c16, c17, c18, c19, c20, c21, c22, c23, c24, c25, c26, c27, c28, c29, c30, c31, c32, c33, c34, c35, c36, c37, c38, c39, c40, c41, c42, c43, c44, c45, c46, c47, c48, c49, c50, c51, c52, c53, c54, c55, c56, c57, c58, c59, c60, c61, c62, c63, c64, c65, c66, c67, c68, c69, c70, c71, c72, c73, c74, c75, c76, c77, c78, c79, c80, c81, c82, c83, c84, c85, c86, c87, c88, c89, c90, c91, c92, c93, c94, c95, c96, c97, c98, c99, c100, c101, c102, c103, c104, c105, c106, c107, c108, c109, c110, c111, c112, c113, c114, c115, c116, c117, c118, c119, .func (.func 40) #[] #[.pointer (some ⟨a, 0, none⟩)], .int .i64 (k : Int), .agg (sgv (v.sg B c)), c123, c124, c125, c126, c127, c128, c129, c130, c131, c132, c133, c134, c135, c136, c137, c138, c139, c140, c141, c142, c143, c144, c145, c146, c147, c148, c149, c150, c151, c152, c153, c154, c155, c156, c157], []⟩ W0 ⟨W.heap.size, v, B, c, rfl, hv1, by rw [hW0]; exact heap_alloc_new W _, how.below b0 (Nat.le_refl _), (b0.block nb (by have := hI.2.size; omega)).trans hI.1, hI.2.trans (b0.mono (Nat.le_trans hbs hI.2.size))⟩ b0 ⟨fun q hq => b0.cell (Nat.lt_of_lt_of_le hq (Nat.le_trans hbs hI.2.size)), b0.size⟩)
    obtain ⟨x, hxe⟩ : ∃ x, x = v.sg B c := ⟨_, rfl⟩
    rw [← hxe] at KK HW0 ONE ⊢
    clear hseq hQ hR hK hI hW0 hxe b0 how KW hn hx hv
    gi_wp2_with (first
      | (refine listIn_store_row rfl 42 (.tmp 13) (.tmp 122) rfl W.heap.size (sgv x) rfl rfl 42 (sgv sgZ) (heap_alloc_last _ _) (size_sgv x) (by rw [show (sgv x).size = 101 from rowV_size _ _]; exact rowV_size _ _) ONE.out ?_; rw [World.setRow_alloc_new, ← HW0.out])
      | fail)
    exact KK.out
  case body =>
    rintro l k a' W ⟨gs, v, B, c, rfl, hv1, hg, how, hi, hb⟩ hk
    obtain ⟨b, B2, d2, rfl, hb9, r1, r2⟩ := hR k v hv1
    have hrd : Rd W 0 W.heap.size B v.s := how.rd.wide (Nat.zero_le _) (Nat.le_refl _)
    have hsz : bs ≤ W.heap.size := Nat.le_trans hbs hb.size
    have hL : ∀ u : World, Below W.heap.size W u → Below bs w u := fun u hu => hb.trans (hu.mono hsz)
    gi_wp2
    refine sm_r24 _ _ _ _ _ _ _ _ _ _ _ _ _ _ _ _ _ _ _ _ _ _ _ _ _ _ _ _ _ _ _ _ _ _ _ _ _ _ _ _ _ _ _ _ _ _ _ _ _ _ _ _ _ _ _ _ _ _ _ _ _ _ _ _ _ _ _ _ _ _ _ _ _ _ _ _ _ _ _ _ _ _ _ _ _ _ _ _ _ _ _ _ _ _ _ _ _ _ _ _ _ _ _ _ _ _ _ _ _ _ _ _ _ _ _ _ _ _ _ _ _ _ _ _ _ _ _ _ _ _ _ _ _ _ _ _ _ _ _ _ _ _ _ _ _ _ _ _ _ _ _ _ _ _ l 7 W gr gx nb gs b m cv k v B B2 c d2 (by omega) hmc hm9 (cell_of_row W nb 0 _ _ (0, 0) hi) ((hb.cell hgx).trans hx) ((hb.cell hgr).trans hv) (fun j y hy => by rw [Nat.zero_add]; exact cell_of_row W gs j _ _ (0, 0) hg ▸ (by rw [← sgC_arr, List.getElem?_toArray]; exact hy)) hrd (fun j y hy => (hb.cell (p := ⟨b, k * 101 + j, none⟩) hb9).trans (r1 j y hy)) ((r2.below hb (Nat.le_refl _)).wide (Nat.le_refl _) hsz) _ ?hL ?_
    case hL => rintro ⟨_, _, h⟩; exact h
    intro u123 u124 u125 u126 u127 u128 u129 u130 u131 u132 u133 u134 u135 u136 u137 u138 u139 u140 u141 u142 u143 u144 u145 u146 u147 W2 b2
    have HI := Lib.hid hi
    have hi2 := (b2.block nb (by have := Nat.le_trans hnl hb.size; omega)).trans hi
    have hc := cell_of_row W2 nb 0 _ _ (0, 0) hi2
    have hf : W2.frozen? ⟨nb, 0, none⟩ = false := by simp [World.frozen?, hi2]
    have HI2 := Lib.hid hi2
    have H2 := Lib.hid (hL W2 b2)
    have B2' := Lib.hid b2
    have HB := Lib.hid hb
    clear hi2 hi hL b2 hb hR hQ hseq hv1 hg how r1 r2 hrd hn hx hv KW
    gi_wp2
    have sz := B2'.out.size
    have szw := HB.out.size
    have row := setCell_heap (v := .int .i64 ((k : Int) + 1)) HI2.out 0
    refine ⟨⟨by rw [setCell_size]; exact sz, fun i o hi ho hc => ?_⟩, ⟨fun q hq => ?_, by rw [setCell_size]; exact sz⟩, ?_, H2.out.setCell hnb _⟩
    · have e : i ≠ nb := by omega
      rw [setCell_off 0 e, B2'.out.block i (Array.getElem?_eq_some_iff.1 ho).1]
      exact ho
    · exact World.cell?_of_block ((setCell_off 0 (by omega)).trans (B2'.out.block q.block (by omega)))
    · rw [row]
      rfl
  case done =>
    intro D W hD hI hK
    exact hQ D W hD hK hI.2 (by rw [hm]; exact hI.1)
end Go.Proofs.Ytomfgopmgfoecaa
namespace Go.Proofs.Ytomfgopmgfoecaa
open Go.Shelf Go.ChangeMaps Go.MapKept Go.Maps Go.RowKit Go.ChangeShapes Go.WideShapes Go.ChangeAt
set_option linter.unusedVariables false
set_option maxRecDepth 100000
/-- A row of its own of these votes, whose signatures lie below bs. -/
def LF (bs : Nat) (Y : List Sv) (v8 : Value) (u : World) : Prop :=
  ∃ A c Xs, v8 = .slice A Y.length c ∧ u.ownsRow bs 42 101 (.slice A Y.length c) Y.length (rws sgC Xs) ∧ Xs.length = Y.length ∧ ∀ (i : Nat) v, Y[i]? = some v → ∃ B d, Xs[i]? = some (v.sg B d) ∧ Rd u 0 bs B v.s
theorem LF.nil (bs : Nat) (u : World) : LF bs [] (.slice none 0 0) u := ⟨none, 0, [], rfl, ⟨rfl, .inl ⟨rfl, rfl⟩⟩, rfl, fun i v h => by simp at h⟩
theorem LF.below {bs : Nat} {Y : List Sv} {v8 : Value} {u u' : World} (h : LF bs Y v8 u) (hb : Below u.heap.size u u') (hs : bs ≤ u.heap.size) : LF bs Y v8 u' := by
  obtain ⟨A, c, Xs, h1, h2, h3, h4⟩ := h
  refine ⟨A, c, Xs, h1, ownKeep h2 (fun g hg => hb.block g (h2.lt g hg).2), h3, fun i v hv => ?_⟩
  obtain ⟨B, d, e1, e2⟩ := h4 i v hv
  exact ⟨B, d, e1, e2.below hb hs⟩
theorem LF.svs {bs : Nat} {Y : List Sv} {v8 : Value} {u : World} (h : LF bs Y v8 u) (hs : bs ≤ u.heap.size) : ∃ A c, v8 = .slice A Y.length c ∧ SvsAt u A Y := by
  obtain ⟨A, c, Xs, h1, h2, h3, h4⟩ := h
  refine ⟨A, c, h1, fun w hw i v hv => ?_⟩
  obtain ⟨B, d, e1, e2⟩ := h4 i v hv
  have hi := (List.getElem?_eq_some_iff.1 hv).1
  obtain ⟨g, rfl⟩ : ∃ g, A = some ⟨g, 0, none⟩ := by
    rcases h2.2 with ⟨e, h0⟩ | ⟨g, cap, cur, e, _⟩
    · omega
    · injection e with e1 _ _
      exact ⟨g, e1⟩
  have hr := rws_cells (n := 101) (c := sgC) (LL := Xs) (base := bs) (cap := c) sgC_len (by rw [h3]; exact h2) e1
  have hg := (h2.lt g rfl).2
  refine ⟨g, 0, B, d, rfl, fun j x hx => ?_, ((e2.below hw hs).wide (Nat.le_refl _) (Nat.le_trans hs hw.size))⟩
  rw [Nat.zero_add]
  exact (hw.cell (p := ⟨g, i * 101 + j, none⟩) hg).trans (hr j x hx)
/-- One vote more. -/
theorem LF.more {bs : Nat} {Y : List Sv} {A : Option Addr} {c : Nat} {u u2 : World} {Xs : List Sg} {v : Sv} {B : Option Addr} {d : Nat} {A2 : Option Addr} {c2 : Nat}
    (h2 : u.ownsRow bs 42 101 (.slice A Y.length c) Y.length (rws sgC Xs)) (h3 : Xs.length = Y.length) (h4 : ∀ (i : Nat) v, Y[i]? = some v → ∃ B d, Xs[i]? = some (v.sg B d) ∧ Rd u 0 bs B v.s) (hb : Below bs u u2)
    (ho : u2.ownsRow bs 42 101 (.slice A2 (Y.length + 1) c2) (Y.length + 1) (rws sgC (Xs ++ [v.sg B d]))) (hr : Rd u 0 bs B v.s) : LF bs (Y ++ [v]) (.slice A2 (Y.length + 1) c2) u2 := by
  have lenY : (Y ++ [v]).length = Y.length + 1 := by rw [List.length_append]; rfl
  refine ⟨A2, c2, Xs ++ [v.sg B d], by rw [lenY], by rw [lenY]; exact ho, by rw [List.length_append, List.length_append, h3]; rfl, fun i y hy => ?_⟩
  rcases Nat.lt_or_ge i Y.length with hi | hi
  · rw [List.getElem?_append_left hi] at hy
    obtain ⟨B1, d1, e1, e2⟩ := h4 i y hy
    exact ⟨B1, d1, by rw [List.getElem?_append_left (by omega)]; exact e1, e2.below hb (Nat.le_refl _)⟩
  · have hlt := (List.getElem?_eq_some_iff.1 hy).1
    rw [List.length_append, List.length_singleton] at hlt
    obtain rfl : i = Y.length := by omega
    rw [List.getElem?_append_right (Nat.le_refl _), Nat.sub_self] at hy
    injection hy with hy
    subst hy
    refine ⟨B, d, ?_, hr.below hb (Nat.le_refl _)⟩
    rw [List.getElem?_append_right (by omega), h3, Nat.sub_self]
    rfl
end Go.Proofs.Ytomfgopmgfoecaa
namespace Go.Proofs.Ytomfgopmgfoecaa
open Go.Shelf Go.ChangeMaps Go.MapKept Go.Maps Go.RowKit Go.ChangeShapes Go.WideShapes Go.ChangeAt
set_option linter.unusedVariables false
set_option maxRecDepth 100000
theorem fn_nilS (k a : Nat) (u : World) : (binOp .eql 61 (.func (.func k) #[] #[.pointer (some ⟨a, 0, none⟩)]) .nilFunc).run Try.prog u = .ok (.bool false) u := by kernel_rfl
theorem below_put {w W : World} {D : Nat} {o' : Obj} (hb : Below w.heap.size w W) (hD : w.heap.size ≤ D) : Below w.heap.size w (W.putObj D o') := by
  refine ⟨hb.os, hb.tape, hb.output, ?_, fun k hk => (World.putObj_heap_other (by omega)).trans (hb.block k hk)⟩
  have := hb.size
  simp [World.putObj]
  omega
theorem sam_ret {w W : World} {tmps : Array Value} {rb D : Nat} (h0 : tmps[4]? = some (.pointer (some ⟨rb, 0, none⟩))) (hc : W.cell? ⟨rb, 0, none⟩ = some (.bool true)) (hK : W.heap[D]? = some (.deferred (some []))) (hn : rb ≠ D) (hD : w.heap.size ≤ D) (hb : Below w.heap.size w W) :
    bodyPostM Fence.wide 9 Try.prog Try.f12 (fun e w' => e = .returned (.bool true) ∧ Below w.heap.size w w') .ret ⟨tmps, [{ target := .collected D, args := #[] }]⟩ W := by
  refine ⟨by simp, .inl ⟨_, _, rfl, run_takeDeferred hK, ?_⟩⟩
  have hc2 : (W.putObj D (.deferred none)).cell? ⟨rb, 0, none⟩ = some (.bool true) := (World.cell?_of_block (World.putObj_heap_other hn)).trans hc
  refine ⟨.bool true, ?_, rfl, below_put hb hD⟩
  simp [results, Try.results12, asAddr, go_sem, hc2, h0]
theorem Told.ks {base : Nat} {X : Nat → Prop} {S : PoS} {V : List Sg} {M : List Sv} {w : World} (h : Told base X S V M w) : V.map (·.k) = M.map (·.k) := by
  apply List.ext_getElem?
  intro i
  rw [List.getElem?_map, List.getElem?_map]
  cases hv : M[i]? with
  | none => rw [List.getElem?_eq_none (by have := h.lenV; have := List.getElem?_eq_none_iff.1 hv; omega)]; rfl
  | some v =>
    obtain ⟨B, c, B', c', h1, h2, _⟩ := h.at_ i v hv
    rw [h2]
    rfl
set_option maxRecDepth 1000000 in
set_option maxHeartbeats 16000000 in
theorem same_c {base ga gr : Nat} {F G : Nat → Prop} {S : PoS} {V : List Sg} {M : List Sv} {w : World} (hd : Duo base ga F S gr G V M w) (hM : M.length ≤ 60) :
    Calls Try.prog 12 #[.pointer (some ⟨ga, 0, none⟩), .pointer (some ⟨gr, 0, none⟩)] w fun e w' => e = .returned (.bool true) ∧ Below w.heap.size w w' := by
  refine (callsIn_wide (n := 9)).1 (callsIn_of_wp_marks Try.func12 rfl trivial ?_)
  refine wpIn_wide.2 ?_
  simp only [Try.ntmps12, List.size_toArray, List.length_cons, List.length_nil, Nat.reduceAdd, Nat.reduceSub, Array.replicate_succ, Array.replicate_zero, List.push_toArray, List.append_toArray, List.nil_append, List.cons_append]
  obtain ⟨Wa, hWa⟩ : ∃ x, x = w.alloc (.cells #[.pointer (some ⟨gr, 0, none⟩)] 29) := ⟨_, rfl⟩
  obtain ⟨W0, hW0⟩ : ∃ x, x = Wa.alloc (.cells #[.bool false] 4) := ⟨_, rfl⟩
  have za : Wa.heap.size = w.heap.size + 1 := by rw [hWa]; simp
  have z0 : W0.heap.size = w.heap.size + 2 := by rw [hW0]; simp [za]
  have ba : Below w.heap.size w Wa := by rw [hWa]; exact (Below.refl _ _).alloc (Nat.le_refl _) _
  have b0 : Below Wa.heap.size Wa W0 := by rw [hW0]; exact (Below.refl _ _).alloc (Nat.le_refl _) _
  have hx : W0.heap[w.heap.size]? = some (.cells #[.pointer (some ⟨gr, 0, none⟩)] 29 (0, 0)) := (b0.block _ (by omega)).trans (by rw [hWa]; exact heap_alloc_new w _)
  have h4 : W0.heap[w.heap.size + 1]? = some (.cells #[.bool false] 4 (0, 0)) := by rw [hW0, ← za]; exact heap_alloc_new Wa _
  obtain ⟨gx, hgx⟩ : ∃ x, x = w.heap.size := ⟨_, rfl⟩
  have HB := Lib.hid (ba.trans (b0.mono ba.size))
  have HD := Lib.hid (hd.below HB.out)
  have HW := Lib.hid (And.intro hWa (And.intro hW0 (And.intro hgx z0)))
  obtain ⟨Av, cv, hvv, hmc⟩ : ∃ Av cv, W0.heap[gr]? = some (.cells #[.slice Av V.length cv] 31 (0, 0)) ∧ V.length ≤ cv ∧ ∀ (i : Nat) x, V[i]? = some x → ∃ b, Av = some ⟨b, 0, none⟩ ∧ b < W0.heap.size ∧ W0.rangeAt b (i * 101) (sgC x) := by
    obtain ⟨v, h1, h2, h3⟩ := HD.out.r.ex
    obtain ⟨A, c, rfl, hc, _, _⟩ := ownForm h2
    refine ⟨A, c, h1, hc, fun i x hx => ?_⟩
    have hi := (List.getElem?_eq_some_iff.1 hx).1
    obtain ⟨b, rfl⟩ : ∃ b, A = some ⟨b, 0, none⟩ := by
      rcases h2.2 with ⟨e, h0⟩ | ⟨g, cap, cur, e, _⟩
      · omega
      · injection e with e1 _ _
        exact ⟨g, e1⟩
    exact ⟨b, rfl, (h2.lt b rfl).2, rws_cells (n := 101) (c := sgC) (LL := V) (base := 0) (cap := c) sgC_len h2 hx⟩
  have HV := Lib.hid (And.intro hvv hmc)
  have hX0 := Lib.hid hx
  have h40 := Lib.hid h4
  clear hx h4 hvv hmc hd za z0 ba b0 hWa hW0
  rw [← hgx] at hX0 h40
  go_upto_region 1 with fail
  rw [← HW.out.1, ← HW.out.2.1, ← hgx]
  clear hgx
  obtain ⟨K, hK⟩ : ∃ K, K = S.links := ⟨_, rfl⟩
  have HK := Lib.hid hK
  have KS := Lib.hid (show ddl (V.map (·.k)) = K by rw [HD.out.told.ks, hK]; exact HD.out.told.links.symm)
  have M60 : Hid (V.length ≤ 60) := Lib.hid (by have := HD.out.told.lenV; omega)
  refine sm_r1 _ _ _ _ _ _ _ _ _ _ _ _ _ _ _ _ _ _ _ _ _ _ _ _ _ _ _ _ _ _ _ _ _ _ _ _ _ _ _ _ _ _ _ _ _ _ _ _ _ _ _ _ _ _ _ _ _ _ _ _ _ _ _ _ _ _ _ _ _ _ _ _ _ _ _ _ _ _ _ _ _ _ _ _ _ _ _ _ _ _ _ _ _ _ _ _ _ _ _ _ _ _ _ _ _ _ _ _ _ _ _ _ _ _ _ _ _ _ _ _ _ _ _ _ _ _ _ _ _ _ _ _ _ _ _ _ _ _ _ _ _ _ _ _ _ _ _ _ _ _ _ _ _ _ _ _ W0 ga gr gx F G S V K HD.out.p HD.out.r (by have := M60.out; omega) hK.symm KS.out (cell_of_row W0 gx 0 _ _ (0, 0) hX0.out) (blk_lt hX0.out) _ ?_
  intro u14 u15 u16 u17 W1 A1 k1 A2 k2 ⟨b1, oA, oB⟩
  obtain ⟨n, hn⟩ : ∃ n, n = K.length := ⟨_, rfl⟩
  obtain ⟨m, hm⟩ : ∃ m, m = V.length := ⟨_, rfl⟩
  have HN := Lib.hid (And.intro hn hm)
  have n9 : n ≤ 60 := by
    obtain ⟨_, _, _, _, _, _, _, _, _, _, ok, _⟩ := HD.out.p
    have h1 := ok.links
    rw [← hK] at h1
    have := HD.out.told.lenS
    omega
  have m9 : m ≤ 60 := by have := M60.out; omega
  rw [← hn] at oA oB ⊢
  have OA := Lib.hid oA
  have OB := Lib.hid oB
  have H1 := Lib.hid (HD.out.below b1)
  have B1 := Lib.hid (HB.out.trans (b1.mono HB.out.size))
  have hX := Lib.hid ((b1.block gx (blk_lt hX0.out)).trans hX0.out)
  have h4 := Lib.hid ((b1.block (gx + 1) (blk_lt h40.out)).trans h40.out)
  have hR := Lib.hid ((b1.block gr (blk_lt HV.out.1)).trans HV.out.1)
  rw [← hm] at hR
  have mc : m ≤ cv := by rw [hm]; exact HV.out.2.1
  have HVV := Lib.hid (show ∀ (i : Nat) x, V[i]? = some x → ∃ b, Av = some ⟨b, 0, none⟩ ∧ b < W1.heap.size ∧ W1.rangeAt b (i * 101) (sgC x) from fun i x hx => by
    obtain ⟨b, e1, e2, e3⟩ := HV.out.2.2 i x hx
    exact ⟨b, e1, Nat.lt_of_lt_of_le e2 b1.size, fun j y hy => (b1.cell (p := ⟨b, i * 101 + j, none⟩) e2).trans (e3 j y hy)⟩)
  clear HV hX0 h40 hK oA oB b1 hn hm HD HB
  go_wp2_with fail
  refine sm_r2 _ _ _ _ _ _ _ _ _ _ _ _ _ _ _ _ _ _ _ _ _ _ _ _ _ _ _ _ _ _ _ _ _ _ _ _ _ _ _ _ _ _ _ _ _ _ _ _ _ _ _ _ _ _ _ _ _ _ _ _ _ _ _ _ _ _ _ _ _ _ _ _ _ _ _ _ _ _ _ _ _ _ _ _ _ _ _ _ _ _ _ _ _ _ _ _ _ _ _ _ _ _ _ _ _ _ _ _ _ _ _ _ _ _ _ _ _ _ _ _ _ _ _ _ _ _ _ _ _ _ _ _ _ _ _ _ _ _ _ _ _ _ _ _ _ _ _ _ _ _ _ _ _ _ W1 ga gr gx n k1 k2 m cv A1 A2 Av F S H1.out.p (by rw [H1.out.told.lenS, HN.out.2, H1.out.told.lenV]) (cell_of_row W1 gx 0 _ _ (0, 0) hX.out) (blk_lt hX.out) (cell_of_row W1 gr 0 _ _ (0, 0) hR.out) (blk_lt hR.out) _ ?_
  intro u18 u19 u20 u21 u22 u23 u24 u25 u26 u27 u28 u29 u30 u31 W2 b2
  obtain ⟨bs, hbs⟩ : ∃ b, b = W1.heap.size := ⟨_, rfl⟩
  rw [← hbs] at b2
  have BS := Lib.hid hbs
  have B2 := Lib.hid b2
  clear hbs b2
  have KP := Lib.hid (show ∀ u, Below bs W1 u → Duo base ga F S gr G V M u ∧ u.heap[gx]? = some (.cells #[.pointer (some ⟨gr, 0, none⟩)] 29 (0, 0)) ∧ u.heap[gr]? = some (.cells #[.slice Av m cv] 31 (0, 0)) ∧ bs ≤ u.heap.size from fun u hu => ⟨H1.out.below (BS.out ▸ hu), (hu.block gx (by rw [BS.out]; exact blk_lt hX.out)).trans hX.out, (hu.block gr (by rw [BS.out]; exact blk_lt hR.out)).trans hR.out, by have := hu.size; have := BS.out; omega⟩)
  go_wp2_with fail
  go_loopw [7] (fun v7 u => ∃ i : Nat, i ≤ n ∧ v7 = .int .i64 (i : Int) ∧ Below bs W1 u) (fun v7 _ => n - (intOf v7).toNat)
  case atStart => exact ⟨0, Nat.zero_le _, rfl, B2.out⟩
  case round =>
    clear B2
    obtain ⟨i, hi, rfl, bx⟩ := hrel
    have BX := Lib.hid bx
    clear bx
    by_cases hin : i < n
    · obtain ⟨l, hl⟩ : ∃ l, K[i]? = some l := ⟨_, List.getElem?_eq_getElem (by have := HN.out.1; omega)⟩
      obtain ⟨g1, rfl⟩ : ∃ g, A1 = some ⟨g, 0, none⟩ := by
        rcases OA.out.2 with ⟨e, h0⟩ | ⟨g, cap, cur, e, _⟩
        · omega
        · injection e with e1 _ _
          exact ⟨g, e1⟩
      obtain ⟨g2, rfl⟩ : ∃ g, A2 = some ⟨g, 0, none⟩ := by
        rcases OB.out.2 with ⟨e, h0⟩ | ⟨g, cap, cur, e, _⟩
        · omega
        · injection e with e1 _ _
          exact ⟨g, e1⟩
      have r1 := rws_cells (n := 66) (c := lC) (LL := K) (base := W0.heap.size) (cap := k1) lC_len (by rw [← HN.out.1]; exact OA.out) hl
      have r2 := rws_cells (n := 66) (c := lC) (LL := K) (base := W0.heap.size) (cap := k2) lC_len (by rw [← HN.out.1]; exact OB.out) hl
      have l1 : g1 < bs := by rw [BS.out]; exact (OA.out.lt g1 rfl).2
      have l2 : g2 < bs := by rw [BS.out]; exact (OB.out.lt g2 rfl).2
      have R1 := Lib.hid (show ∀ u, Below bs W1 u → u.rangeAt g1 (i * 66) (lC l) from fun u hu q v hv => (hu.cell (p := ⟨g1, i * 66 + q, none⟩) l1).trans (r1 q v hv))
      have R2 := Lib.hid (show ∀ u, Below bs W1 u → u.rangeAt g2 (i * 66) (lC l) from fun u hu q v hv => (hu.cell (p := ⟨g2, i * 66 + q, none⟩) l2).trans (r2 q v hv))
      clear hl r1 r2
      have q1 : (i : Int) < (n : Int) := by omega
      go_wp2_with fail
      have kp := KP.out _ BX.out
      refine sm_r7 _ _ _ _ _ _ _ _ _ _ _ _ _ _ _ _ _ _ _ _ _ _ _ _ _ _ _ _ _ _ _ _ _ _ _ _ _ _ _ _ _ _ _ _ _ _ _ _ _ _ _ _ _ _ _ _ _ _ _ _ _ _ _ _ _ _ _ _ _ _ _ _ _ _ _ _ _ _ _ _ _ _ _ _ _ _ _ _ _ _ _ _ _ _ _ _ _ _ _ _ _ _ _ _ _ _ _ _ _ _ _ _ _ _ _ _ _ _ _ _ _ _ _ _ _ _ _ _ _ _ _ _ _ _ _ _ _ _ _ _ _ _ _ _ _ _ _ _ _ _ _ _ _ wr ga gr gx g1 g2 n k1 k2 i (S.wt l) l F G S V hin kp.1.p kp.1.r ⟨kp.1.told.sts, by have := M60.out; omega⟩ rfl (kp.1.told.wt l).symm (cell_of_row wr gx 0 _ _ (0, 0) kp.2.1) (blk_lt kp.2.1) (R1.out _ BX.out) (R2.out _ BX.out) (Nat.lt_of_lt_of_le l1 kp.2.2.2) (Nat.lt_of_lt_of_le l2 kp.2.2.2) _ ?_
      intro u39 u40 u41 u42 u43 u44 u45 u46 u47 u48 u49 u50 u51 u52 u53 u54 u55 u56 u57 u58 u59 u60 u61 W3 b3
      have B3 := Lib.hid (BX.out.trans (b3.mono kp.2.2.2))
      clear b3 kp
      go_wp2_with fail
      go_loopw [8, 9] (fun v8 v9 u => ∃ k : Nat, k ≤ m ∧ v9 = .int .i64 (k : Int) ∧ LF bs ((M.take k).filter (fun v => decide (v.k = l))) v8 u ∧ Below bs W1 u) (fun _ v9 _ => m - (intOf v9).toNat)
      case atStart => exact ⟨0, Nat.zero_le _, rfl, LF.nil _ _, B3.out⟩
      case round =>
        clear B3 BX
        obtain ⟨k, hk, rfl, lf, bx⟩ := hrel
        have BX := Lib.hid bx
        have kp := KP.out _ bx
        have hcx : wr.cell? ⟨gx, 0, none⟩ = some (.pointer (some ⟨gr, 0, none⟩)) := cell_of_row _ gx 0 _ _ (0, 0) kp.2.1
        have hcr : wr.cell? ⟨gr, 0, none⟩ = some (.slice Av m cv) := cell_of_row _ gr 0 _ _ (0, 0) kp.2.2.1
        have KPX := Lib.hid kp
        clear bx kp
        by_cases hkn : k < m
        · obtain ⟨v, hv⟩ : ∃ v, M[k]? = some v := ⟨_, List.getElem?_eq_getElem (by have := H1.out.told.lenV; have := HN.out.2; omega)⟩
          obtain ⟨B, c, B', c', -, e2, e3, -⟩ := H1.out.told.at_ k v hv
          obtain ⟨b, rfl, hb, r3⟩ := HVV.out k _ e2
          have HV := Lib.hid hv
          have RD := Lib.hid e3
          have R3 := Lib.hid (show ∀ u, Below bs W1 u → u.rangeAt b (k * 101) (sgC (v.sg B c)) from fun u hu q y hy => (hu.cell (p := ⟨b, k * 101 + q, none⟩) (by rw [BS.out]; exact hb)).trans (r3 q y hy))
          have q2 : (k : Int) < (m : Int) := by omega
          have LFF := Lib.hid lf
          clear hv e2 e3 r3 hb lf
          obtain ⟨y, hy⟩ : ∃ y, y = v.sg B c := ⟨_, rfl⟩
          have HY := Lib.hid hy
          rw [← hy] at R3
          clear hy
          go_wp2_with fail
          refine sm_r13 _ _ _ _ _ _ _ _ _ _ _ _ _ _ _ _ _ _ _ _ _ _ _ _ _ _ _ _ _ _ _ _ _ _ _ _ _ _ _ _ _ _ _ _ _ _ _ _ _ _ _ _ _ _ _ _ _ _ _ _ _ _ _ _ _ _ _ _ _ _ _ _ _ _ _ _ _ _ _ _ _ _ _ _ _ _ _ _ _ _ _ _ _ _ _ _ _ _ _ _ _ _ _ _ _ _ _ _ _ _ _ _ _ _ _ _ _ _ _ _ _ _ _ _ _ _ _ _ _ _ _ _ _ _ _ _ _ _ _ _ _ _ _ _ _ _ _ _ _ _ _ _ _ _ wr gr gx g1 n k1 i b m cv k l y hin hkn hcx (blk_lt KPX.out.2.1) hcr (blk_lt KPX.out.2.2.1) (R1.out _ BX.out) (Nat.lt_of_lt_of_le l1 KPX.out.2.2.2) (R3.out _ BX.out) _ ?_
          intro u72 u73 u74 u75 u76 u77 u78 u79 u80 u81 u82 u83 u84 W4 b4
          have B4 := Lib.hid (BX.out.trans (b4.mono KPX.out.2.2.2))
          have LF4 := Lib.hid (LFF.out.below b4 KPX.out.2.2.2)
          clear b4 hcx hcr LFF KPX
          by_cases e : y.k = l
          · rw [decide_eq_true e]
            obtain ⟨i0, hi0⟩ : ∃ i0, Try.prog.info? 42 = some i0 := ⟨_, (Option.some_get (by kernel_rfl)).symm⟩
            obtain ⟨hz0, hz1, hz2⟩ := sg_row hi0
            have kp := KP.out _ B4.out
            have hcx : W4.cell? ⟨gx, 0, none⟩ = some (.pointer (some ⟨gr, 0, none⟩)) := cell_of_row _ gx 0 _ _ (0, 0) kp.2.1
            have hcr : W4.cell? ⟨gr, 0, none⟩ = some (.slice (some ⟨b, 0, none⟩) m cv) := cell_of_row _ gr 0 _ _ (0, 0) kp.2.2.1
            have hry := R3.out _ B4.out
            obtain ⟨A8, c8, Xs, rfl, o8, x8, f8⟩ := LF4.out
            obtain ⟨u2, hu2⟩ : ∃ u2, u2 = W4.alloc (.cells (sgv y) 42) := ⟨_, rfl⟩
            have b4 : Below W4.heap.size W4 u2 := by rw [hu2]; exact (Below.refl _ _).alloc (Nat.le_refl _) _
            have hb2 : (Instr.buildSlice 22 1 #[(0, .agg (sgv y))]).run Try.prog W4 = .ok (.slice (some ⟨W4.heap.size, 0, none⟩) 1 1) u2 := by rw [hu2]; exact one_sg y (by rw [HY.out]; rfl) W4
            have N2 : Hid (u2.ownsRow 0 42 101 (.slice (some ⟨W4.heap.size, 0, none⟩) 1 1) 1 (sgC y)) := by rw [hu2]; exact own_sg y W4
            have O2 := Lib.hid (ownKeep o8 (fun g hg => b4.block g (o8.lt g hg).2))
            have L2 := Lib.hid (show bs ≤ u2.heap.size from Nat.le_trans kp.2.2.2 b4.size)
            have BB := Lib.hid b4
            have ONE := Lib.hid (show ∀ z ∈ sgC y, z.oneCell' = true from sgC_one y (by rw [HY.out]; rfl))
            have YL : ((M.take k).filter (fun v => decide (v.k = l))).length ≤ 60 := by
              have h1 := List.length_filter_le (fun v : Sv => decide (v.k = l)) (M.take k)
              have h2 := List.length_take_le k M
              omega
            have F8 := Lib.hid (And.intro x8 (And.intro f8 (And.intro o8 kp.2.2.2)))
            obtain ⟨Y, hY⟩ : ∃ Y, Y = (M.take k).filter (fun v => decide (v.k = l)) := ⟨_, rfl⟩
            rw [← hY] at F8 O2 YL ⊢
            have HYY := Lib.hid hY
            obtain ⟨yl, hyl⟩ : ∃ yl, yl = Y.length := ⟨_, rfl⟩
            have HYL := Lib.hid hyl
            rw [← hyl] at O2 YL ⊢
            clear kp b4 o8 x8 f8 hu2 hY hyl LF4
            go_wp2_with (first
              | (refine wpList_load_mid rfl 42 (.tmp 92) rfl b (k * 101) (by go_simp) (sgC y) _ hry Try.underlying42 rfl (by rw [sgC_len]; exact size_sg) ?_; rw [sgC_arr])
              | (refine wpList_buildSlice_row (v := .slice (some ⟨W4.heap.size, 0, none⟩) 1 1) (w' := u2) rfl 22 1 #[(0, .tmp 93)] rfl ?hr ?_; case hr => (simp only [List.map_toArray, List.map_cons, List.map_nil]; exact hb2))
              | (at_builtin; refine wpList_append_row rfl (.tmp 86) (.tmp 94) 22 rfl bs 42 i0 _ 101 152 Try.underlying22 hi0 hz0 hz1 hz2 (by show (sgv sgZ).size = 101; exact rowV_size _ _) (by decide) (.slice A8 yl c8) yl (rws sgC Xs) rfl O2.out 0 _ 1 (sgC y) rfl N2.out ONE.out (by unfold maxLen; omega) (by omega) L2.out ?_; intro v' w3 o3 g3 b3; rw [rws_more] at o3; obtain ⟨A6, c6, rfl, _, _, _⟩ := ownForm o3; have O3 := Lib.hid o3; have G3 := Lib.hid g3; clear o3 g3 b3)
              | fail)
            have tk : (M.take (k + 1)).filter (fun v => decide (v.k = l)) = Y ++ [v] := by
              rw [List.take_add_one, HV.out, List.filter_append, HYY.out]
              have : ([v] : List Sv).filter (fun v => decide (v.k = l)) = [v] := List.filter_eq_self.2 (fun z hz => by
                rw [List.mem_singleton] at hz
                subst hz
                exact decide_eq_true (by rw [HY.out] at e; exact e))
              rw [Option.toList_some, this]
            have bb : Below bs W4 w3 := Below.grown (BB.out.mono F8.out.2.2.2) G3.out L2.out (fun j e => (O2.out.lt j e).1)
            refine ⟨⟨k + 1, by omega, by go_num, ?_, B4.out.trans bb⟩, by simp [intOf]; omega⟩
            have o3 := O3.out
            rw [tk, HYL.out]
            rw [HYL.out, HY.out] at o3
            exact LF.more F8.out.2.2.1 F8.out.1 F8.out.2.1 bb o3 ((RD.out.below B4.out (by have := H1.out.size; have := BS.out; omega)).wide (Nat.le_refl _) (by have := H1.out.size; have := BS.out; omega))
          · rw [decide_eq_false e]
            go_wp2_with fail
            have tk : (M.take (k + 1)).filter (fun v => decide (v.k = l)) = (M.take k).filter (fun v => decide (v.k = l)) := by
              rw [List.take_add_one, HV.out, List.filter_append]
              have : ([v] : List Sv).filter (fun v => decide (v.k = l)) = [] := List.filter_eq_nil_iff.2 (fun z hz => by
                rw [List.mem_singleton] at hz
                subst hz
                exact fun h => e (by rw [HY.out]; exact of_decide_eq_true h))
              rw [Option.toList_some, this, List.append_nil]
            exact ⟨⟨k + 1, by omega, by go_num, by rw [tk]; exact LF4.out, B4.out⟩, by simp [intOf]; omega⟩
        · obtain rfl : k = m := by omega
          have tkm : M.take k = M := List.take_of_length_le (by have := H1.out.told.lenV; have := HN.out.2; omega)
          have q3 : ¬ (k : Int) < (k : Int) := by omega
          rw [tkm] at lf
          obtain ⟨A8, c8, rfl, sv8⟩ := lf.svs KPX.out.2.2.2
          have SV := Lib.hid sv8
          have EV := Lib.hid (show ((S.pl (.inl l)).getD []).length = (M.filter (fun v => decide (v.k = l))).length by rw [KPX.out.1.told.plk l, pls_len])
          have VO := Lib.hid (voters_m KPX.out.1.p l)
          rw [EV.out] at VO
          have FO := Lib.hid (fun u (hu : Below bs W1 u) => for_c (KP.out u hu).1.p (KP.out u hu).1.told (KP.out u hu).1.size l (by omega))
          have YL := Lib.hid (show (M.filter (fun v => decide (v.k = l))).length ≤ 60 from Nat.le_trans (List.length_filter_le _ M) hM)
          obtain ⟨Y, hY⟩ : ∃ Y, Y = M.filter (fun v => decide (v.k = l)) := ⟨_, rfl⟩
          rw [← hY] at SV VO FO YL ⊢
          obtain ⟨yl, hyl⟩ : ∃ yl, yl = Y.length := ⟨_, rfl⟩
          have HYL := Lib.hid hyl
          rw [← hyl] at VO FO ⊢
          have hr1 := R1.out _ BX.out
          clear lf sv8 hY hyl tkm EV
          go_wp2_with (first
            | (refine wpList_load_mid rfl 50 (.tmp 99) rfl g1 (i * 66) (by go_simp) (lC l) _ hr1 Try.underlying50 rfl (by rw [size_lv l]; rfl) ?_; rw [lC_arr])
            | fail)
          refine VO.out.mono ?_
          rintro e w5 ⟨rfl, b5⟩
          have B5 := Lib.hid (BX.out.trans (b5.mono KPX.out.2.2.2))
          have SV5 := Lib.hid (SV.out.below b5)
          clear b5 hr1 hcx hcr
          have hr1 := R1.out _ B5.out
          go_wp2_with (first
            | (refine BigFrame.wpList_want rfl (fun K hK => ?_); refine wp_load_midC 50 (.tmp 109) rfl g1 (i * 66) (by go_simp) (lC l) _ (lC_arr l) _ hr1 Try.underlying50 rfl (size_lv l) ?_; refine hK _ _ ?_; clear hK K)
            | fail)
          refine (FO.out _ B5.out).mono ?_
          rintro e w6 ⟨A6, c6, rfl, sv6, b6⟩
          have B6 := Lib.hid (B5.out.trans (b6.mono (KP.out _ B5.out).2.2.2))
          have S6 := Lib.hid sv6
          have SV6 := Lib.hid (SV5.out.below b6)
          clear b6 sv6 hr1
          go_wp2_with fail
          refine (same12_c A6 A8 yl yl c6 c8 Y w6 HYL.out HYL.out (by have := YL.out; have := HYL.out; omega) S6.out SV6.out).mono ?_
          rintro e w7 ⟨rfl, b7⟩
          have B7 := Lib.hid (B6.out.trans (b7.mono (KP.out _ B6.out).2.2.2))
          clear b7
          go_wp2_with fail
          exact ⟨⟨i + 1, by omega, by go_num, B7.out⟩, by simp [intOf]; omega⟩
    · obtain rfl : i = n := by omega
      have q3 : ¬ (i : Int) < (i : Int) := by omega
      have kp := KP.out _ BX.out
      have AC := Lib.hid (all_c kp.1.p kp.1.told kp.1.size (by omega))
      have KPX := Lib.hid kp
      clear kp
      go_wp2_with fail
      refine AC.out.mono ?_
      rintro e w5 ⟨a, rfl, b5, goes⟩
      have hfn := fn_nilS 40 a
      have GO := Lib.hid goes
      have B5 := Lib.hid (BX.out.trans (b5.mono KPX.out.2.2.2))
      clear goes b5
      go_wp2_with fail
      obtain ⟨w6, hw6⟩ : ∃ x, x = w5.alloc (.cells #[.int .i64 0] 3) := ⟨_, rfl⟩
      have b6 : Below w5.heap.size w5 w6 := by rw [hw6]; exact (Below.refl _ _).alloc (Nat.le_refl _) _
      have nb6 : w6.heap[w5.heap.size]? = some (.cells #[.int .i64 0] 3 (0, 0)) := by rw [hw6]; exact heap_alloc_new w5 _
      rw [← hw6]
      have k5 := KP.out _ B5.out
      have B6 := B5.out.trans (b6.mono k5.2.2.2)
      have k6 := KP.out _ B6
      have sb : base ≤ bs := by rw [BS.out]; exact H1.out.size
      have h46 : w6.heap[gx + 1]? = some (.cells #[.bool false] 4 (0, 0)) := (B6.block _ (by rw [BS.out]; exact blk_lt h4.out)).trans h4.out
      have g4s : gx + 1 < w5.heap.size := Nat.lt_of_lt_of_le (by rw [BS.out]; exact blk_lt h4.out) k5.2.2.2
      clear hw6
      refine (wpIn_wide (n := 9)).1 ?_
      refine sm_range _ _ _ _ _ _ _ _ _ _ _ _ _ _ _ _ _ _ _ _ _ _ _ _ _ _ _ _ _ _ _ _ _ _ _ _ _ _ _ _ _ _ _ _ _ _ _ _ _ _ _ _ _ _ _ _ _ _ _ _ _ _ _ _ _ _ _ _ _ _ _ _ _ _ _ _ _ _ _ _ _ _ _ _ _ _ _ _ _ _ _ _ _ _ _ _ _ _ _ _ _ _ _ _ _ _ _ _ _ _ _ _ _ _ _ _ _ _ _ _ _ _ _ _ _ _ _ _ _ _ _ _ _ _ _ _ _ _ _ _ _ _ _ _ _ _ _ _ _ _ _ _ _ _ _ w6 gx gr w5.heap.size a w5.heap.size m cv Av M (by have := HN.out.2; have := H1.out.told.lenV; omega) (by omega) mc (GO.out _ b6) b6.size (Nat.le_refl _) nb6 (cell_of_row _ gx 0 _ _ (0, 0) k6.2.1) (blk_lt k5.2.1) (cell_of_row _ gr 0 _ _ (0, 0) k6.2.2.1) (blk_lt k5.2.2.1) ?_ _ ?_
      · intro k v hv
        obtain ⟨B, c, B', c', -, e2, e3, -⟩ := H1.out.told.at_ k v hv
        obtain ⟨b, e, hb, r3⟩ := HVV.out k _ e2
        exact ⟨b, B, c, e, by have := k5.2.2.2; have := BS.out; omega, fun q y hy => (B6.cell (p := ⟨b, k * 101 + q, none⟩) (by rw [BS.out]; exact hb)).trans (r3 q y hy), (e3.below B6 sb).wide (Nat.le_refl _) (Nat.le_trans sb k5.2.2.2)⟩
      · intro D W hD hK hB hn
        dsimp only
        have hxW := Lib.hid ((hB.block gx (blk_lt k5.2.1)).trans k6.2.1)
        have hrW := Lib.hid ((hB.block gr (blk_lt k5.2.2.1)).trans k6.2.2.1)
        have h4W := Lib.hid ((hB.block (gx + 1) g4s).trans h46)
        have HBW := Lib.hid (B1.out.trans ((B6.mono (by have := B1.out.size; have := BS.out; omega)).trans (hB.mono (by have := B1.out.size; have := BS.out; have := k5.2.2.2; omega))))
        have HKW := Lib.hid (And.intro hD (And.intro hK (And.intro hn (And.intro g4s (And.intro b6.size (show w.heap.size ≤ w5.heap.size by have := B1.out.size; have := BS.out; have := k5.2.2.2; omega))))))
        clear hD hK hB hn k5 k6 B6 b6 nb6 h46 g4s sb hfn
        go_wp2_with fail
        refine sm_r27 _ _ _ _ _ _ _ _ _ _ _ _ _ _ _ _ _ _ _ _ _ _ _ _ _ _ _ _ _ _ _ _ _ _ _ _ _ _ _ _ _ _ _ _ _ _ _ _ _ _ _ _ _ _ _ _ _ _ _ _ _ _ _ _ _ _ _ _ _ _ _ _ _ _ _ _ _ _ _ _ _ _ _ _ _ _ _ _ _ _ _ _ _ _ _ _ _ _ _ _ _ _ _ _ _ _ _ _ _ _ _ _ _ _ _ _ _ _ _ _ _ _ _ _ _ _ _ _ _ _ _ _ _ _ _ _ _ _ _ _ _ _ _ _ _ _ _ _ _ _ _ _ _ _ _ _ W gr gx (gx + 1) w5.heap.size m cv false Av HKW.out.2.2.1 hxW.out hrW.out h4W.out (by have := HKW.out.2.2.2.1; omega) (by omega) (fun e => kinds_ne (by decide) (hrW.out.symm.trans (e ▸ h4W.out))) _ ?_
        intro u151 u152 u153 u154 u155 u156 u157 W8 hu8
        obtain ⟨u, bu, rfl⟩ := hu8
        have h4u := (bu.block (gx + 1) (blk_lt h4W.out)).trans h4W.out
        have DL : D < W.heap.size := blk_lt HKW.out.2.1
        have DN : gx + 1 ≠ D := by have := HKW.out.1; have := HKW.out.2.2.2.1; have := HKW.out.2.2.2.2.1; omega
        have Ku := (bu.block D DL).trans HKW.out.2.1
        have FIN := Lib.hid (And.intro (cell_of_row _ (gx + 1) 0 _ _ (0, 0) (setCell_heap (v := .bool true) h4u 0)) (And.intro ((setCell_off (v := .bool true) 0 (Ne.symm DN)).trans Ku) (And.intro DN (Below.setCell (p := ⟨gx + 1, 0, none⟩) (HBW.out.trans (bu.mono HBW.out.size)) (show w.heap.size ≤ gx + 1 by rw [HW.out.2.2.1]; omega) (.bool true)))))
        clear h4u DL DN Ku bu
        go_wp2_with fail
        refine sam_ret rfl FIN.out.1 FIN.out.2.1 FIN.out.2.2.1 ?_ FIN.out.2.2.2
        have := HKW.out
        omega
end Go.Proofs.Ytomfgopmgfoecaa
