/- Plain facts: a directory as a rising list of names with numbers, and as the datum of a map. -/
import Derived.Test.YtcemfpbkaahcmaaRows
import Derived.Maps.Views
import Derived.Maps.OwnSet
import Derived.Sort.KeysCollected
namespace Go.Proofs.Ytcemfpbkaahcmaa
open Go.WideShapes
set_option linter.unusedVariables false

abbrev Str := List UInt8
abbrev Dir := List (Str × Nat)

def Dir.ins (x : Str × Nat) : Dir → Dir
  | [] => [x]
  | y :: r => if bytesBefore x.1 y.1 then x :: y :: r else y :: Dir.ins x r
def Dir.del (d : Dir) (s : Str) : Dir := d.filter fun p => !(p.1 == s)
def Dir.put (d : Dir) (s : Str) (k : Nat) : Dir := Dir.ins (s, k) (Dir.del d s)
def Dir.look : Dir → Str → Option Nat
  | [], _ => none
  | p :: r, s => if p.1 == s then some p.2 else Dir.look r s
/-- Rising by names. -/
def Dir.Ok (d : Dir) : Prop := d.Pairwise fun p q => bytesBefore p.1 q.1 = true

def datE (k : Nat) : DataW Unit := .lit (.int .i64 (k : Int))
def toE (p : Str × Nat) : Lit × DataW Unit := (.string p.1, datE p.2)
def toD (d : Dir) : DataW Unit := .map (d.map toE)

theorem same_str (a b : Str) : (Lit.string a).sameKey (.string b) = (a == b) := rfl

theorem insert_toE (x : Str × Nat) : ∀ d : Dir, DataW.insert (toE x) (d.map toE) = (Dir.ins x d).map toE
  | [] => rfl
  | y :: r => by
    show (if bytesBefore x.1 y.1 then _ else _) = _
    unfold Dir.ins
    split
    · rfl
    · rw [insert_toE x r]; rfl
theorem filter_toE (s : Str) : ∀ d : Dir, (d.map toE).filter (fun p => !p.1.sameKey (.string s)) = (Dir.del d s).map toE
  | [] => rfl
  | y :: r => by
    have ih := filter_toE s r
    unfold Dir.del at ih ⊢
    simp only [List.map_cons, List.filter_cons]
    have e : (toE y).1.sameKey (.string s) = (y.1 == s) := rfl
    rw [e, ih]
    split <;> rfl
theorem toD_put (d : Dir) (s : Str) (k : Nat) : (toD d).put (.string s) (datE k) = toD (Dir.put d s k) := by
  show DataW.map _ = DataW.map _
  rw [filter_toE]
  exact congrArg _ (insert_toE (s, k) (Dir.del d s))
theorem toD_del (d : Dir) (s : Str) : (toD d).del (.string s) = toD (Dir.del d s) := by
  show DataW.map _ = DataW.map _
  rw [filter_toE]
theorem toD_at (s : Str) (z : DataW Unit) : ∀ d : Dir, (toD d).atKey (.string s) z = match Dir.look d s with | some k => datE k | none => z
  | [] => rfl
  | y :: r => by
    have ih := toD_at s z r
    unfold Dir.look
    simp only [toD, DataW.atKey, List.map_cons, List.find?_cons] at ih ⊢
    have e : (toE y).1.sameKey (.string s) = (y.1 == s) := rfl
    rw [e]
    cases y.1 == s
    · simpa using ih
    · rfl
theorem toD_size (d : Dir) : Maps.size (toD d) = d.length := by simp [toD, Maps.size]
theorem toD_keys (d : Dir) : strKeys (toD d) = d.map (·.1) := by
  show (d.map toE).map (fun p => strOf p.1) = _
  rw [List.map_map]; rfl
theorem toD_nil : toD [] = .map [] := rfl

/-! ### looking -/
theorem look_mem {d : Dir} {s : Str} {k : Nat} (h : Dir.look d s = some k) : (s, k) ∈ d := by
  induction d with
  | nil => simp [Dir.look] at h
  | cons y r ih =>
    unfold Dir.look at h
    split at h
    · rename_i he
      cases h
      have : y.1 = s := by simpa using he
      subst this
      simp
    · exact List.mem_cons_of_mem _ (ih h)
theorem look_none {d : Dir} {s : Str} (h : Dir.look d s = none) : ∀ p ∈ d, p.1 ≠ s := by
  induction d with
  | nil => simp
  | cons y r ih =>
    unfold Dir.look at h
    split at h
    · cases h
    · rename_i he
      intro p hp
      rcases List.mem_cons.1 hp with rfl | hp
      · simpa using he
      · exact ih h p hp
theorem before_ne {a b : Str} (h : bytesBefore a b = true) : a ≠ b := fun e => by
  subst e
  rw [WideAt.bytes_irrefl] at h; cases h
theorem mem_look {d : Dir} (hd : Dir.Ok d) {s : Str} {k : Nat} (h : (s, k) ∈ d) : Dir.look d s = some k := by
  induction d with
  | nil => simp at h
  | cons y r ih =>
    obtain ⟨h1, h2⟩ := List.pairwise_cons.1 hd
    unfold Dir.look
    rcases List.mem_cons.1 h with e | h
    · subst e
      simp
    · have := before_ne (h1 _ h)
      rw [if_neg (by simpa using this)]
      exact ih h2 h
theorem mem_ins {x p : Str × Nat} {d : Dir} : p ∈ Dir.ins x d ↔ p = x ∨ p ∈ d := by
  induction d with
  | nil => simp [Dir.ins]
  | cons y r ih =>
    unfold Dir.ins
    split
    · simp
    · simp only [List.mem_cons, ih]
      constructor
      · rintro (h | h | h) <;> simp [h]
      · rintro (h | h | h) <;> simp [h]
theorem mem_del {p : Str × Nat} {d : Dir} {s : Str} : p ∈ Dir.del d s ↔ p ∈ d ∧ p.1 ≠ s := by
  unfold Dir.del
  rw [List.mem_filter]
  simp
theorem mem_put {p : Str × Nat} {d : Dir} {s : Str} {k : Nat} : p ∈ Dir.put d s k ↔ p = (s, k) ∨ (p ∈ d ∧ p.1 ≠ s) := by
  unfold Dir.put
  rw [mem_ins, mem_del]
theorem ins_ok {x : Str × Nat} {d : Dir} (hd : Dir.Ok d) (hx : ∀ p ∈ d, p.1 ≠ x.1) : Dir.Ok (Dir.ins x d) := by
  induction d with
  | nil => simp [Dir.ins, Dir.Ok]
  | cons y r ih =>
    obtain ⟨h1, h2⟩ := List.pairwise_cons.1 hd
    unfold Dir.ins
    split
    · rename_i hb
      refine List.pairwise_cons.2 ⟨fun q hq => ?_, hd⟩
      rcases List.mem_cons.1 hq with rfl | hq
      · exact hb
      · exact bytes_trans _ _ _ hb (h1 q hq)
    · rename_i hb
      have hyx : bytesBefore y.1 x.1 = true := by
        rcases WideAt.bytes_total y.1 x.1 (hx y (by simp)) with h | h
        · exact h
        · exact absurd h hb
      refine List.pairwise_cons.2 ⟨fun q hq => ?_, ih h2 (fun p hp => hx p (by simp [hp]))⟩
      rcases mem_ins.1 hq with rfl | hq
      · exact hyx
      · exact h1 q hq
theorem del_ok {d : Dir} (hd : Dir.Ok d) (s : Str) : Dir.Ok (Dir.del d s) := List.Pairwise.filter _ hd
theorem put_ok {d : Dir} (hd : Dir.Ok d) (s : Str) (k : Nat) : Dir.Ok (Dir.put d s k) :=
  ins_ok (del_ok hd s) fun p hp => (mem_del.1 hp).2
theorem nil_ok : Dir.Ok [] := List.Pairwise.nil
theorem look_put_same {d : Dir} (hd : Dir.Ok d) (s : Str) (k : Nat) : Dir.look (Dir.put d s k) s = some k :=
  mem_look (put_ok hd s k) (mem_put.2 (.inl rfl))
theorem look_iff {d : Dir} (hd : Dir.Ok d) {s : Str} {k : Nat} : Dir.look d s = some k ↔ (s, k) ∈ d := ⟨look_mem, mem_look hd⟩
theorem look_eq {d d' : Dir} (hd : Dir.Ok d) (hd' : Dir.Ok d') (s : Str) (h : ∀ k, (s, k) ∈ d ↔ (s, k) ∈ d') : Dir.look d s = Dir.look d' s := by
  cases e : Dir.look d' s with
  | none =>
    cases e' : Dir.look d s with
    | none => rfl
    | some k =>
      have := mem_look hd' ((h k).1 (look_mem e'))
      rw [e] at this; cases this
  | some k => exact mem_look hd ((h k).2 (look_mem e))
theorem look_put_other {d : Dir} (hd : Dir.Ok d) {s t : Str} (k : Nat) (ht : t ≠ s) : Dir.look (Dir.put d s k) t = Dir.look d t :=
  look_eq (put_ok hd s k) hd t fun j => by
    rw [mem_put]
    constructor
    · rintro (h | h)
      · cases h; exact absurd rfl ht
      · exact h.1
    · exact fun h => .inr ⟨h, ht⟩
theorem look_del_same (d : Dir) (s : Str) : Dir.look (Dir.del d s) s = none := by
  cases e : Dir.look (Dir.del d s) s with
  | none => rfl
  | some k => exact absurd rfl (mem_del.1 (look_mem e)).2
theorem look_del_other {d : Dir} (hd : Dir.Ok d) {s t : Str} (ht : t ≠ s) : Dir.look (Dir.del d s) t = Dir.look d t :=
  look_eq (del_ok hd s) hd t fun j => by
    rw [mem_del]
    exact ⟨fun h => h.1, fun h => ⟨h, ht⟩⟩
/-! ### how many -/
theorem length_ins (x : Str × Nat) (d : Dir) : (Dir.ins x d).length = d.length + 1 := by
  induction d with
  | nil => rfl
  | cons y r ih => unfold Dir.ins; split <;> simp_all
theorem length_del_le (d : Dir) (s : Str) : (Dir.del d s).length ≤ d.length := List.length_filter_le _ _
theorem length_put_le (d : Dir) (s : Str) (k : Nat) : (Dir.put d s k).length ≤ d.length + 1 := by
  unfold Dir.put
  rw [length_ins]
  have := length_del_le d s
  omega
theorem del_of_none {d : Dir} {s : Str} (h : Dir.look d s = none) : Dir.del d s = d := by
  unfold Dir.del
  exact List.filter_eq_self.2 fun p hp => by simpa using look_none h p hp
theorem length_del {d : Dir} (hd : Dir.Ok d) {s : Str} {k : Nat} (h : Dir.look d s = some k) : (Dir.del d s).length + 1 = d.length := by
  induction d with
  | nil => simp [Dir.look] at h
  | cons y r ih =>
    obtain ⟨h1, h2⟩ := List.pairwise_cons.1 hd
    unfold Dir.look at h
    unfold Dir.del
    split at h
    · rename_i he
      have hn : Dir.look r s = none := by
        cases e : Dir.look r s with
        | none => rfl
        | some j =>
          have := before_ne (h1 _ (look_mem e))
          exact absurd (by simpa using he) this
      have := del_of_none hn
      unfold Dir.del at this
      rw [List.filter_cons, if_neg (by simpa using he), this]
      simp
    · rename_i he
      have := ih h2 h
      unfold Dir.del at this
      rw [List.filter_cons, if_pos (by simpa using he)]
      simp [this]
/-! ### the names in order -/
theorem before_lt : ∀ {a b : Str}, bytesBefore a b = true → a ≤ b
  | [], [], h => by simp [bytesBefore] at h
  | [], _ :: _, _ => by simp
  | _ :: _, [], h => by simp [bytesBefore] at h
  | a :: r, b :: s, h => by
    unfold bytesBefore at h
    simp only [Bool.or_eq_true, decide_eq_true_eq, Bool.and_eq_true, beq_iff_eq] at h
    rw [List.cons_le_cons_iff]
    rcases h with h | ⟨rfl, h⟩
    · exact .inl h
    · exact .inr ⟨rfl, before_lt h⟩
theorem sorted_names {d : Dir} (hd : Dir.Ok d) : (d.map (·.1)).mergeSort leB = d.map (·.1) := by
  refine List.mergeSort_of_pairwise ?_
  rw [List.pairwise_map]
  exact hd.imp fun h => by simpa [leB] using before_lt h
theorem names_of_perm {d : Dir} (hd : Dir.Ok d) {ss : List Str} (h : ss.Perm (strKeys (toD d))) : ss.mergeSort leB = d.map (·.1) := by
  rw [mergeSort_of_perm h, toD_keys, sorted_names hd]
end Go.Proofs.Ytcemfpbkaahcmaa
