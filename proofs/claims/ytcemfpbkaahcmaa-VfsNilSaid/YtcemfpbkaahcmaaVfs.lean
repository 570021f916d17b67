/- Plain facts: a disk as the chapter has it: files by numbers, two directories, the changes since; what each call makes of it. -/
import Derived.Test.YtcemfpbkaahcmaaDir
namespace Go.Proofs.Ytcemfpbkaahcmaa
set_option linter.unusedVariables false

/-- A file: its bytes, how many of them last. -/
structure Fl where
  b : List UInt8
  n : Nat
/-- A change of the directory: 0 a make, 4 a rename, 5 a remove. -/
structure En where
  kind : Nat
  name : Str
  to : Str
  made : Nat
structure DS where
  cap : Nat
  D : Dir
  L : Dir
  es : List En
  fuse : Int
  fa : Int
  fc : Int
  dead : Bool
  ch : Int
  fl : Nat → Option Fl

def okSign (x : UInt8) : Bool := (97 ≤ x.toNat && x.toNat ≤ 122) || (48 ≤ x.toNat && x.toNat ≤ 57) || x.toNat == 46 || x.toNat == 45
def mayB (s : Str) : Bool := s.all okSign && (!s.isEmpty && decide (s.length ≤ 32))
def upd {α : Type} (f : Nat → α) (k : Nat) (v : α) : Nat → α := fun j => if j = k then v else f j
theorem upd_same {α : Type} (f : Nat → α) (k : Nat) (v : α) : upd f k v k = v := if_pos rfl
theorem upd_other {α : Type} (f : Nat → α) {k j : Nat} (v : α) (h : j ≠ k) : upd f k v j = f j := if_neg h

def DS.setFile (S : DS) (k : Nat) (f : Fl) : DS := { S with fl := upd S.fl k (some f) }
/-- The code of looking for a file. -/
def DS.find (S : DS) (nm : Str) (may : Bool) : Int := if (!may || !mayB nm) then 2 else if (S.D.look nm).isNone then 6 else 0
/-- What a change meets, and the disk behind that. -/
def DS.fault (S : DS) : Int × DS := if 0 < S.fa then (0, { S with fa := S.fa - 1 }) else (S.fc, { S with fa := 0, fc := 0 })
def DS.burn (S : DS) (met : Int) : Int × DS :=
  if 0 < S.fuse then (met, { S with fuse := S.fuse - 1 }) else if S.fuse = 0 ∧ met = 0 then (8, { S with dead := true }) else (met, S)
def DS.meet (S : DS) : Int × DS := (S.fault.2).burn S.fault.1
def DS.next (S : DS) : Int × DS := ({ S with ch := S.ch + 1 } : DS).meet
def leaves (kd : Nat) (met : Int) : Bool := kd == 1 && met != 5
def En.can (e : En) (d : Dir) : Bool := (d.look e.name).isSome != (e.kind == 0)
def En.app (e : En) (d : Dir) : Dir :=
  if e.kind = 0 then d.put e.name e.made
  else if e.kind = 4 then (match d.look e.name with | some k => (d.del e.name).put e.to k | none => d)
  else if e.kind = 5 then d.del e.name else d
/-- A change of the directory, done and listed. -/
def DS.enter (S : DS) (e : En) : Int × DS :=
  if S.dead then (8, S) else
    if S.next.1 = 0 then (0, { S.next.2 with D := e.app S.next.2.D, es := S.next.2.es ++ [e] }) else (S.next.1, S.next.2)
def sumL (fl : Nat → Option Fl) (d : Dir) : Nat := (d.map fun p => match fl p.2 with | some f => f.b.length | none => 0).sum
def DS.room (S : DS) : Int := max ((S.cap : Int) - sumL S.fl S.D) 0
def DS.make (S : DS) (nm : Str) (k : Nat) : Int × DS :=
  if S.find nm true = 0 then (11, S) else if S.find nm true ≠ 6 then (S.find nm true, S) else if 64 ≤ S.D.length then (5, S)
  else (({ S with fl := upd S.fl k (some ⟨[], 0⟩) } : DS).enter ⟨0, nm, [], k⟩)
def DS.fileOf (S : DS) (nm : Str) : Fl := match S.D.look nm with | some k => (S.fl k).getD ⟨[], 0⟩ | none => ⟨[], 0⟩
def DS.numOf (S : DS) (nm : Str) : Nat := (S.D.look nm).getD 0
def DS.append (S : DS) (nm : Str) (x : List UInt8) : Int × DS :=
  if S.find nm true ≠ 0 then (S.find nm true, S) else if S.room < x.length then (5, S) else if S.dead then (8, S) else
    if S.next.1 = 5 then (5, S.next.2) else
      (S.next.1, S.next.2.setFile (S.numOf nm) ⟨(S.fileOf nm).b ++ x.take (if S.next.1 = 9 then x.length / 2 else x.length), (S.fileOf nm).n⟩)
def DS.sync (S : DS) (nm : Str) : Int × DS :=
  if S.find nm true ≠ 0 then (S.find nm true, S) else if S.dead then (8, S) else
    if S.next.1 = 0 then (0, S.next.2.setFile (S.numOf nm) ⟨(S.fileOf nm).b, (S.fileOf nm).b.length⟩) else (S.next.1, S.next.2)
def DS.cut (S : DS) (nm : Str) (n : Int) : Int × DS :=
  if S.find nm (decide (0 ≤ n)) ≠ 0 then (S.find nm (decide (0 ≤ n)), S) else if (S.fileOf nm).b.length < n then (2, S) else if S.dead then (8, S) else
    if S.next.1 = 0 then (0, S.next.2.setFile (S.numOf nm) ⟨(S.fileOf nm).b.take n.toNat, min (S.fileOf nm).n n.toNat⟩) else (S.next.1, S.next.2)
def DS.rename (S : DS) (nm to : Str) : Int × DS :=
  if S.find nm (mayB to) ≠ 0 then (S.find nm (mayB to), S) else S.enter ⟨4, nm, to, 0⟩
def DS.remove (S : DS) (nm : Str) : Int × DS :=
  if S.find nm true ≠ 0 then (S.find nm true, S) else S.enter ⟨5, nm, [], 0⟩
def DS.syncDir (S : DS) : Int × DS :=
  if S.dead then (8, S) else if S.next.1 = 0 then (0, { S.next.2 with L := S.next.2.D, es := [] }) else (S.next.1, S.next.2)
def DS.lay (S : DS) (n e : Int) : Int × DS := if n < 0 ∨ (e ≠ 5 ∧ e ≠ 9) then (2, S) else (0, { S with fa := n, fc := e })
def DS.setFuse (S : DS) (n : Int) : DS := { S with fuse := max n (-1) }

/-! ### a loss of power -/
def pickOf : List Int → Int
  | [] => 0
  | x :: _ => max x 0
def redo : Dir → List En → List Int → Dir
  | d, [], _ => d
  | d, e :: r, ps => redo (if (pickOf ps).tmod 2 = 1 ∧ e.can d = true then e.app d else d) r ps.tail
def keepF (f : Fl) (ps : List Int) : List UInt8 := if f.n < f.b.length then f.b.take (f.n + ((pickOf ps).toNat % (f.b.length - f.n + 1))) else f.b
def keepR (f : Fl) (ps : List Int) : List Int := if f.n < f.b.length then ps.tail else ps
def keep (fl : Nat → Option Fl) : Dir → List Int → List (Str × List UInt8)
  | [], _ => []
  | p :: r, ps => (p.1, keepF ((fl p.2).getD ⟨[], 0⟩) ps) :: keep fl r (keepR ((fl p.2).getD ⟨[], 0⟩) ps)
def DS.view (S : DS) : List (Str × Option (List UInt8 × Nat)) := S.D.map fun p => (p.1, (S.fl p.2).map fun f => (f.b, f.n))
/-- A new disk on which all that is there lasts. -/
structure Fresh (S : DS) (cap : Nat) (l : List (Str × List UInt8)) : Prop where
  cap : S.cap = cap
  lst : S.L = S.D
  es : S.es = []
  fuse : S.fuse = -1
  fa : S.fa = 0
  fc : S.fc = 0
  dead : S.dead = false
  ch : S.ch = 0
  view : S.view = l.map fun p => (p.1, some (p.2, p.2.length))
def Crashed (S : DS) (ps : List Int) (S' : DS) : Prop := Fresh S' S.cap (keep S.fl (redo S.L S.es ps) (ps.drop S.es.length))

/-! ### what always holds -/
structure Good (S : DS) (m : Nat) : Prop where
  cap1 : 1 ≤ S.cap
  cap2 : S.cap ≤ 16777216
  okD : Dir.Ok S.D
  okL : Dir.Ok S.L
  nmD : ∀ p ∈ S.D, p.1.length ≤ 32
  nmL : ∀ p ∈ S.L, p.1.length ≤ 32
  domD : ∀ p ∈ S.D, (S.fl p.2).isSome = true
  domL : ∀ p ∈ S.L, (S.fl p.2).isSome = true
  inj : (S.D.map (·.2)).Nodup
  nmE : ∀ e ∈ S.es, e.name.length ≤ 32 ∧ e.to.length ≤ 32 ∧ (e.kind = 0 ∨ e.kind = 4 ∨ e.kind = 5) ∧ (e.kind = 0 → (S.fl e.made).isSome = true)
  las : ∀ k f, S.fl k = some f → f.n ≤ f.b.length ∧ f.b.length ≤ S.cap
  cnt : S.D.length ≤ S.L.length + S.es.length
  cnt2 : S.L.length + S.es.length ≤ m
  ch1 : 0 ≤ S.ch
  ch2 : S.ch ≤ m
  fa1 : 0 ≤ S.fa
  fa2 : S.fa ≤ 9223372036854775807
  fc : S.fc = 0 ∨ S.fc = 5 ∨ S.fc = 9
  fu1 : -1 ≤ S.fuse
  fu2 : S.fuse ≤ 9223372036854775807

theorem Good.mono {S : DS} {m m' : Nat} (h : Good S m) (hm : m ≤ m') : Good S m' :=
  { h with cnt2 := Nat.le_trans h.cnt2 hm, ch2 := by have := h.ch2; omega }
theorem mayB_le {s : Str} (h : mayB s = true) : s.length ≤ 32 := by
  unfold mayB at h
  simp only [Bool.and_eq_true, decide_eq_true_eq] at h
  exact h.2.2
theorem find_zero {S : DS} {nm : Str} {may : Bool} (h : S.find nm may = 0) : may = true ∧ mayB nm = true ∧ ∃ k, S.D.look nm = some k := by
  unfold DS.find at h
  split at h
  · omega
  · rename_i h1
    split at h
    · omega
    · rename_i h2
      cases may <;> cases hm : mayB nm <;> simp [hm] at h1 ⊢
      cases e : S.D.look nm with
      | none => simp [e] at h2
      | some k => exact ⟨k, rfl⟩
theorem find_cases (S : DS) (nm : Str) (may : Bool) : S.find nm may = 0 ∨ S.find nm may = 2 ∨ S.find nm may = 6 := by
  unfold DS.find
  split
  · exact .inr (.inl rfl)
  · split
    · exact .inr (.inr rfl)
    · exact .inl rfl
theorem find_six {S : DS} {nm : Str} {may : Bool} (h : S.find nm may = 6) : may = true ∧ mayB nm = true ∧ S.D.look nm = none := by
  unfold DS.find at h
  split at h
  · omega
  · rename_i h1
    split at h
    · rename_i h2
      cases may <;> cases hm : mayB nm <;> simp [hm] at h1 ⊢
      exact Option.isNone_iff_eq_none.1 h2
    · omega

/-! ### meeting -/
theorem fault_good {S : DS} {m : Nat} (h : Good S m) : Good S.fault.2 m := by
  unfold DS.fault
  split
  · exact { h with fa1 := by show (0 : Int) ≤ S.fa - 1; omega, fa2 := by have := h.fa2; show S.fa - 1 ≤ _; omega }
  · exact { h with fa1 := by show (0 : Int) ≤ 0; omega, fa2 := by show (0 : Int) ≤ _; omega, fc := .inl rfl }
theorem fault_met {S : DS} {m : Nat} (h : Good S m) : S.fault.1 = 0 ∨ S.fault.1 = 5 ∨ S.fault.1 = 9 := by
  unfold DS.fault
  split
  · exact .inl rfl
  · exact h.fc
theorem burn_good {S : DS} {m : Nat} (h : Good S m) (met : Int) : Good (S.burn met).2 m := by
  unfold DS.burn
  split
  · exact { h with fu1 := by show (-1 : Int) ≤ S.fuse - 1; omega, fu2 := by have := h.fu2; show S.fuse - 1 ≤ _; omega }
  · split
    · exact { h with }
    · exact h
theorem meet_good {S : DS} {m : Nat} (h : Good S m) : Good S.meet.2 m := burn_good (fault_good h) _
theorem meet_met {S : DS} {m : Nat} (h : Good S m) : S.meet.1 = 0 ∨ S.meet.1 = 5 ∨ S.meet.1 = 9 ∨ S.meet.1 = 8 := by
  have := fault_met h
  unfold DS.meet DS.burn
  split
  · dsimp only; omega
  · split
    · dsimp only; omega
    · dsimp only; omega
theorem count_good {S : DS} {m : Nat} (h : Good S m) : Good { S with ch := S.ch + 1 } (m + 1) :=
  { h with cnt2 := by have := h.cnt2; show S.L.length + S.es.length ≤ _; omega, ch1 := by have := h.ch1; show (0 : Int) ≤ S.ch + 1; omega, ch2 := by have := h.ch2; show S.ch + 1 ≤ _; omega }
theorem next_good {S : DS} {m : Nat} (h : Good S m) : Good S.next.2 (m + 1) := meet_good (count_good h)
theorem next_met {S : DS} {m : Nat} (h : Good S m) : S.next.1 = 0 ∨ S.next.1 = 5 ∨ S.next.1 = 9 ∨ S.next.1 = 8 := meet_met (count_good h)
/-- A meeting leaves the files and the directories. -/
structure SameFiles (S S' : DS) : Prop where
  cap : S'.cap = S.cap
  D : S'.D = S.D
  L : S'.L = S.L
  es : S'.es = S.es
  fl : S'.fl = S.fl
theorem burn_same (S : DS) (met : Int) : SameFiles S (S.burn met).2 := by
  unfold DS.burn
  split
  · exact ⟨rfl, rfl, rfl, rfl, rfl⟩
  · split <;> exact ⟨rfl, rfl, rfl, rfl, rfl⟩
theorem fault_same (S : DS) : SameFiles S S.fault.2 := by
  unfold DS.fault
  split <;> exact ⟨rfl, rfl, rfl, rfl, rfl⟩
theorem SameFiles.trans {A B C : DS} (h : SameFiles A B) (k : SameFiles B C) : SameFiles A C :=
  ⟨k.cap.trans h.cap, k.D.trans h.D, k.L.trans h.L, k.es.trans h.es, k.fl.trans h.fl⟩
theorem meet_same (S : DS) : SameFiles S S.meet.2 := (fault_same S).trans (burn_same _ _)
theorem next_same (S : DS) : SameFiles S S.next.2 := by
  have := meet_same { S with ch := S.ch + 1 }
  exact ⟨this.cap, this.D, this.L, this.es, this.fl⟩
theorem burn_ch (S : DS) (met : Int) : (S.burn met).2.ch = S.ch := by
  unfold DS.burn
  split
  · rfl
  · split <;> rfl
theorem fault_ch (S : DS) : S.fault.2.ch = S.ch := by unfold DS.fault; split <;> rfl
theorem next_ch (S : DS) : S.next.2.ch = S.ch + 1 := by
  unfold DS.next DS.meet
  rw [burn_ch, fault_ch]
end Go.Proofs.Ytcemfpbkaahcmaa
