/- Maps as functions of their keys; an entry that is taken, and stored. -/
import Derived.Test.YtomfgopmgfoecaaWoFill
import Derived.Maps.OwnSet
import Derived.Maps.RangeWalk
import Derived.DeepKeys4
namespace Go.Proofs.Ytomfgopmgfoecaa
open Go.ChangeMaps Go.MapKept Go.Maps Go.WideElems Go.RowKit
set_option linter.unusedVariables false

section
variable {P : Program} {k e t : TypeId} {w : World} {b : Nat}
/-- An entry that was taken: its stamp, its key. -/
def EntryAt (w : World) (b s : Nat) (key : Value) : Prop := ∃ (es : Array MapEntry) (clock j : Nat) (e0 : MapEntry), w.heap[b]? = some (.map es clock) ∧ es.toList[j]? = some e0 ∧ e0.born = s ∧ e0.key = key
theorem EntryAt.keep {s : Nat} {key : Value} {w' : World} (h : EntryAt w b s key) (e : w'.heap[b]? = w.heap[b]?) : EntryAt w' b s key := by
  obtain ⟨es, clock, j, e0, h1, h2⟩ := h
  exact ⟨es, clock, j, e0, e.trans h1, h2⟩
theorem entry_run {H : Type} {R : Value → Option (DataW H × List MemPlace)} {es : Array MapEntry} {clock : Nat} (K : Keyed P k) (ht : P.underlying t = some (.map k e)) {z : Value} (hz : (zeroValue e).run P w = .ok z w) (hb : w.heap[b]? = some (.map es clock)) (F : Fit P k R es clock) {key : Value} {kl : Lit} (hkey : keyOf P k key = some kl) :
    ∃ v s w', (Instr.mapEntry t (.map (some b)) key).run P w = .ok (.tuple #[v, .int .i64 (s : Nat)]) w' ∧ (Instr.lookup t (.map (some b)) key false).run P w = .ok v w ∧ (Instr.mapUpdate t (.map (some b)) key v).run P w = .ok () w' ∧ EntryAt w' b s key := by
  rcases K.find w hkey es.toList F.keys with ⟨h1, h2⟩ | ⟨j, e0, h1, h2, h3⟩
  · refine ⟨z, clock, setBlock w b (.map (es.push ⟨key, z, clock⟩) (clock + 1)), ?_, ?_, ?_, _, _, es.size, ⟨key, z, clock⟩, heap_setBlock_same hb _, by simp, rfl, rfl⟩
    · simp [Instr.mapEntry, run_underlying ht, MapKept.run_getObj_map hb, K.check w false hkey, h1, hz, MapKept.run_setObj_map _ hb, Result.andThen, setBlock, goInt]
    · simp [Instr.lookup, run_underlying ht, MapKept.run_getObj_map hb, K.check w _ hkey, h1, hz, Result.andThen]
    · simp [Instr.mapUpdate, run_underlying ht, MapKept.run_getObj_map hb, K.check w false hkey, h1, MapKept.run_setObj_map _ hb, Result.andThen, setBlock]
  · have hj : es[j]? = some e0 := by simpa using h2
    have hjl : j < es.size := (Array.getElem?_eq_some_iff.1 hj).1
    have he : es[j] = e0 := (Array.getElem?_eq_some_iff.1 hj).2
    have hm : es.modify j (fun e' => { e' with key := key }) = es.modify j (fun e' => { e' with key := key, val := e0.val }) := by
      apply Array.ext
      · simp
      · intro i i1 i2
        simp only [Array.getElem_modify]
        split
        · next hi => subst hi; rw [he]
        · rfl
    refine ⟨e0.val, e0.born, setBlock w b (.map (es.modify j (fun e' => { e' with key := key })) clock), ?_, ?_, ?_, _, _, j, { e0 with key := key }, heap_setBlock_same hb _, ?_, rfl, rfl⟩
    · simp [Instr.mapEntry, run_underlying ht, MapKept.run_getObj_map hb, K.check w false hkey, h1, hj, h3, K.stays w hkey, MapKept.run_setObj_map _ hb, Result.andThen, setBlock, goInt]
    · simp [Instr.lookup, run_underlying ht, MapKept.run_getObj_map hb, K.check w _ hkey, h1, Result.andThen]
    · rw [hm]
      simp [Instr.mapUpdate, run_underlying ht, MapKept.run_getObj_map hb, K.check w false hkey, h1, hj, h3, K.stays w hkey, MapKept.run_setObj_map _ hb, Result.andThen, setBlock]
    · simp [hj]
theorem entryStore_run {H : Type} {R : Value → Option (DataW H × List MemPlace)} {es : Array MapEntry} {clock : Nat} (K : Keyed P k) (ht : P.underlying t = some (.map k e)) (hb : w.heap[b]? = some (.map es clock)) (F : Fit P k R es clock) {key val : Value} {kl : Lit} (hkey : keyOf P k key = some kl) {s : Nat} (hs : EntryAt w b s key) {w' : World}
    (hu : (Instr.mapUpdate t (.map (some b)) key val).run P w = .ok () w') : (Instr.entryStore t (.map (some b)) (.int .i64 (s : Nat)) val).run P w = .ok () w' := by
  obtain ⟨es2, clock2, j, e0, h0, h1, h2, h3⟩ := hs
  rw [hb] at h0
  injection h0 with h0
  injection h0 with h0 h0'
  subst h0
  subst h0'
  have hn := ((stamped_iff es clock).1 F.stamped)
  have hj : es[j]? = some e0 := by simpa using h1
  have hjl : j < es.size := (Array.getElem?_eq_some_iff.1 hj).1
  have he : es[j] = e0 := (Array.getElem?_eq_some_iff.1 hj).2
  rcases K.find w hkey es.toList F.keys with ⟨g1, g2⟩ | ⟨j', e1, g1, g2, g3⟩
  · exact absurd h3 (g2 e0 (List.mem_of_getElem? h1))
  · have hjj : j' = j := by
      rcases Nat.decEq j' j with hne | h
      · exact absurd (g3.trans h3.symm) (other_key F h1 g2 hne)
      · exact h
    subst hjj
    rw [h1] at g2
    injection g2 with g2
    subst g2
    have hidx : es.findIdx? (fun e => (e.born : Int) == (s : Int)) = some j' := by
      rw [Array.findIdx?_eq_some_iff_getElem]
      refine ⟨hjl, by rw [he, h2]; simp, fun i hi => ?_⟩
      have hne : es[i].born ≠ e0.born := by
        have hp : (es.toList.map (·.born)).Pairwise (· ≠ ·) := hn.2.1
        rw [List.pairwise_map, List.pairwise_iff_getElem] at hp
        have := hp i j' (by simp; omega) (by simpa using hjl) hi
        simpa [he] using this
      rw [h2] at hne
      simp
      exact_mod_cast hne
    have hm : es.modify j' (fun e' => { e' with val := val }) = es.modify j' (fun e' => { e' with key := key, val := val }) := by
      apply Array.ext
      · simp
      · intro i i1 i2
        simp only [Array.getElem_modify]
        split
        · next hi => subst hi; rw [he, ← h3]
        · rfl
    have hu2 : (Instr.mapUpdate t (.map (some b)) key val).run P w = .ok () (setBlock w b (.map (es.modify j' (fun e' => { e' with key := key, val := val })) clock)) := by
      simp [Instr.mapUpdate, run_underlying ht, MapKept.run_getObj_map hb, K.check w false hkey, g1, hj, h3, K.stays w hkey, MapKept.run_setObj_map _ hb, Result.andThen, setBlock]
    rw [hu] at hu2
    injection hu2 with _ hu2
    subst hu2
    rw [← hm]
    unfold Instr.entryStore
    simp only [Sem.run_bind, MapKept.run_getObj_map hb, asInt, asIntOf, Sem.run_pure, Result.andThen_ok, hidx, MapKept.run_setObj_map _ hb]
    rfl
end

/-- An element reads as itself. -/
def heldR (v : Value) : Option (DataW Value × List MemPlace) := some (.held v, [])
/-- A type of keys, and what they are. -/
structure KeyF {α : Type} (k : TypeId) (enc : α → Value) (kl : α → Lit) : Prop where
  law : Keyed Try.prog k
  at_ : ∀ a, keyOf Try.prog k (enc a) = some (kl a)
  inj : ∀ a a', enc a = enc a' → a = a'
theorem KeyF.ne {α : Type} {k : TypeId} {enc : α → Value} {kl : α → Lit} (F : KeyF k enc kl) {a a' : α} (h : a ≠ a') : kl a ≠ kl a' := fun e => h (F.inj a a' (F.law.inj (F.at_ a) (by rw [F.at_ a', e])))
def elemF (f : Option Value) (z : DataW Value) : DataW Value := match f with | some v => .held v | none => z
/-- A map whose element at enc a is f a. -/
def MapF {α : Type} (k : TypeId) (kl : α → Lit) (w : World) (b n : Nat) (f : α → Option Value) : Prop := ∃ D, w.ownsMap Try.prog k heldR b n D ∧ ∀ a z, D.atKey (kl a) z = elemF (f a) z
section
variable {α : Type} {k e t : TypeId} {enc : α → Value} {kl : α → Lit} {w : World} {b n : Nat} {f : α → Option Value}
def setF [DecidableEq α] (f : α → Option Value) (a : α) (v : Option Value) (x : α) : Option Value := if x = a then v else f x
theorem MapF.lt (h : MapF k kl w b n f) : b < w.heap.size := by obtain ⟨D, h, _⟩ := h; exact h.lt
theorem MapF.keep {w' : World} (h : MapF k kl w b n f) (hh : w'.heap[b]? = w.heap[b]?) : MapF k kl w' b n f := by
  obtain ⟨D, ⟨es, clock, h1, h2⟩, hD⟩ := h
  exact ⟨D, ⟨es, clock, hh.trans h1, h2⟩, hD⟩
theorem MapF.mono {n' : Nat} (h : MapF k kl w b n f) (hn : n ≤ n') : MapF k kl w b n' f := by
  obtain ⟨D, h, hD⟩ := h
  exact ⟨D, h.mono hn, hD⟩
theorem MapF.kept {w' : World} {row : Option Nat} (h : MapF k kl w b n f) (hg : w.grownBy w' row) (hne : some b ≠ row) : MapF k kl w' b n f := by
  obtain ⟨D, h, hD⟩ := h
  exact ⟨D, h.kept hg hne, hD⟩
theorem MapF.below {w' : World} {B : Nat} (h : MapF k kl w b n f) (hb : Below B w w') (hB : b < B) : MapF k kl w' b n f := h.keep (hb.block b hB)
theorem MapF.made (w : World) : MapF (α := α) k kl (w.alloc (.map #[] 0)) w.heap.size 0 (fun _ => none) :=
  ⟨_, World.ownsMap_made w Try.prog k heldR, fun a z => rfl⟩
theorem has_f (F : KeyF k enc kl) {D : DataW Value} (hD : ∀ a z, D.atKey (kl a) z = elemF (f a) z) (a : α) : Maps.has D (kl a) = (f a).isSome := by
  cases hf : f a with
  | none => exact Maps.has_false_of_atKey (fun z => by rw [hD, hf]; rfl)
  | some v => exact Maps.has_true_of_atKey (y := .held v) (fun z => by rw [hD, hf]; rfl)
theorem held_get {a : α} {v z : Value} {ps : List MemPlace} (h : heldR v = some (elemF (f a) (.held z), ps)) : v = (f a).getD z := by
  unfold heldR at h
  injection h with h
  injection h with h _
  cases hf : f a with
  | none => rw [hf] at h; injection h
  | some u => rw [hf] at h; injection h
theorem MapF.look (F : KeyF k enc kl) (h : MapF k kl w b n f) (ht : Try.prog.underlying t = some (.map k e)) {z : Value} (hz : (zeroValue e).run Try.prog w = .ok z w) (a : α) : (Instr.lookup t (.map (some b)) (enc a) false).run Try.prog w = .ok ((f a).getD z) w := by
  obtain ⟨D, h, hD⟩ := h
  obtain ⟨v, ps, hr, hv⟩ := h.lookup F.law ht hz (zd := .held z) (zp := []) rfl (F.at_ a)
  rw [hD] at hv
  rw [← held_get hv]
  exact hr
theorem MapF.lookOk (F : KeyF k enc kl) (h : MapF k kl w b n f) (ht : Try.prog.underlying t = some (.map k e)) {z : Value} (hz : (zeroValue e).run Try.prog w = .ok z w) (a : α) : (Instr.lookup t (.map (some b)) (enc a) true).run Try.prog w = .ok (.tuple #[(f a).getD z, .bool (f a).isSome]) w := by
  obtain ⟨D, h, hD⟩ := h
  obtain ⟨v, ps, hr, hv⟩ := h.look_ok F.law ht hz (zd := .held z) (zp := []) rfl (F.at_ a)
  rw [hD] at hv
  rw [← held_get hv, ← has_f F hD a]
  exact hr
theorem setF_at [DecidableEq α] (F : KeyF k enc kl) {D : DataW Value} (hm : Maps.IsMap D) (hD : ∀ a z, D.atKey (kl a) z = elemF (f a) z) (a : α) (v : Value) : ∀ x z, (D.put (kl a) (.held v)).atKey (kl x) z = elemF (setF f a (some v) x) z := fun x z => by
  unfold setF
  by_cases h : x = a
  · subst h
    rw [if_pos rfl]
    exact Maps.atKey_put_same hm (F.law.key (F.at_ x)) _ _
  · rw [if_neg h, ← hD]
    exact Maps.atKey_put_other (F.ne h) _ _
theorem MapF.put [DecidableEq α] (F : KeyF k enc kl) (h : MapF k kl w b n f) (ht : Try.prog.underlying t = some (.map k e)) (hn : n < maxLen) (a : α) (v : Value) : ∃ w', (Instr.mapUpdate t (.map (some b)) (enc a) v).run Try.prog w = .ok () w' ∧ MapF k kl w' b (n + 1) (setF f a (some v)) ∧ w.mapTurned w' b := by
  obtain ⟨D, h, hD⟩ := h
  obtain ⟨w', hr, h1, h2⟩ := h.store F.law ht hn (F.at_ a) (val := v) (d := .held v) (ps := []) rfl
  exact ⟨w', hr, ⟨_, h1, setF_at F h.isMap hD a v⟩, h2⟩
theorem MapF.del [DecidableEq α] (F : KeyF k enc kl) (h : MapF k kl w b n f) (ht : Try.prog.underlying t = some (.map k e)) (ty : TypeId) (a : α) : ∃ w', (Builtin.delete_ #[t, k] ty #[.map (some b), enc a]).run Try.prog w = .ok (.tuple #[]) w' ∧ MapF k kl w' b n (setF f a none) ∧ w.mapTurned w' b := by
  obtain ⟨D, h, hD⟩ := h
  obtain ⟨w', hr, h1, h2⟩ := h.drop F.law ht (F.at_ a) ty
  refine ⟨w', hr, ⟨_, h1, fun x z => ?_⟩, h2⟩
  unfold setF
  by_cases hx : x = a
  · subst hx
    rw [if_pos rfl]
    exact Maps.atKey_del_same _
  · rw [if_neg hx, ← hD]
    exact Maps.atKey_del_other (F.ne hx) _
theorem MapF.entry [DecidableEq α] (F : KeyF k enc kl) (h : MapF k kl w b n f) (ht : Try.prog.underlying t = some (.map k e)) {z : Value} (hz : (zeroValue e).run Try.prog w = .ok z w) (hn : n < maxLen) (a : α) :
    ∃ s w', (Instr.mapEntry t (.map (some b)) (enc a)).run Try.prog w = .ok (.tuple #[(f a).getD z, .int .i64 (s : Nat)]) w' ∧ MapF k kl w' b (n + 1) (setF f a (some ((f a).getD z))) ∧ w.mapTurned w' b ∧ EntryAt w' b s (enc a) := by
  have hl := h.look F ht hz a
  obtain ⟨w2, hr2, h2, h3⟩ := h.put F ht hn a ((f a).getD z)
  obtain ⟨D, ⟨es, clock, hb, FF, _⟩, hD⟩ := h
  obtain ⟨v, s, w', h4, h5, h6, h7⟩ := entry_run F.law ht hz hb FF (F.at_ a)
  rw [hl] at h5
  injection h5 with h5
  subst h5
  rw [hr2] at h6
  injection h6 with _ h6
  subst h6
  exact ⟨s, _, h4, h2, h3, h7⟩
theorem MapF.entryStore [DecidableEq α] (F : KeyF k enc kl) (h : MapF k kl w b n f) (ht : Try.prog.underlying t = some (.map k e)) (hn : n < maxLen) (a : α) {s : Nat} (hs : EntryAt w b s (enc a)) (v : Value) :
    ∃ w', (Instr.entryStore t (.map (some b)) (.int .i64 (s : Nat)) v).run Try.prog w = .ok () w' ∧ MapF k kl w' b (n + 1) (setF f a (some v)) ∧ w.mapTurned w' b := by
  obtain ⟨w2, hr2, h2, h3⟩ := h.put F ht hn a v
  obtain ⟨D, ⟨es, clock, hb, FF, _⟩, hD⟩ := h
  exact ⟨w2, entryStore_run F.law ht hb FF (F.at_ a) hs hr2, h2, h3⟩
end
end Go.Proofs.Ytomfgopmgfoecaa
