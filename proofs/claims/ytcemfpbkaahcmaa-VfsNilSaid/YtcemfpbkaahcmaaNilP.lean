/- Plain facts: as many files as may be, and no room. -/
import Derived.Test.YtcemfpbkaahcmaaKnownP
namespace Go.Proofs.Ytcemfpbkaahcmaa
set_option linter.unusedVariables false

def nameK (i : Nat) : Str := [102, UInt8.ofNat (97 + i / 26), UInt8.ofNat (97 + i % 26)]
def sOne : Str := [111, 110, 101, 45, 109, 111, 114, 101]
def sFaa : Str := [102, 97, 97]
def sFab : Str := [102, 97, 98]
def sNon : Str := [110, 111, 110, 101]
theorem name_may : ∀ i, i < 64 → mayB (nameK i) = true := by decide
theorem name_inj : ∀ i, i < 64 → ∀ j, j < 64 → nameK i = nameK j → i = j := by decide +kernel
theorem name_one (i : Nat) : nameK i ≠ sOne := fun h => by simp [nameK, sOne] at h
theorem name_non (i : Nat) : nameK i ≠ sNon := fun h => by simp [nameK, sNon] at h
/-- A disk with the first i files, without bytes. -/
structure Many (S : DS) (i : Nat) : Prop where
  cap : S.cap = 16777216
  fuse : S.fuse = -1
  fa : S.fa = 0
  fc : S.fc = 0
  dead : S.dead = false
  ok : Dir.Ok S.D
  len : S.D.length = i
  nms : ∀ p ∈ S.D, ∃ j, j < i ∧ p.1 = nameK j
  has : ∀ j, j < i → ∃ k, (nameK j, k) ∈ S.D
  emp : ∀ p ∈ S.D, S.fl p.2 = some ⟨[], 0⟩
section
variable {S : DS} {i : Nat}
theorem next_quiet (h1 : S.fuse = -1) (h2 : S.fa = 0) (h3 : S.fc = 0) : S.next = (0, { S with ch := S.ch + 1, fa := 0, fc := 0 }) := by
  unfold DS.next DS.meet DS.fault DS.burn
  simp [h1, h2, h3]
theorem look_out {d : Dir} {s : Str} (h : ∀ p ∈ d, p.1 ≠ s) : d.look s = none := by
  cases e : Dir.look d s with
  | none => rfl
  | some k => exact absurd rfl (h _ (look_mem e))
theorem Many.new : Many (newS 16777216) 0 := ⟨rfl, rfl, rfl, rfl, rfl, nil_ok, rfl, fun p hp => by simp [newS, freshS] at hp, fun j hj => by omega, fun p hp => by simp [newS, freshS] at hp⟩
theorem Many.make (h : Many S i) (hi : i < 64) (k : Nat) : (S.make (nameK i) k).1 = 0 ∧ Many (S.make (nameK i) k).2 (i + 1) := by
  have hno : ∀ p ∈ S.D, p.1 ≠ nameK i := fun p hp e => by
    obtain ⟨j, hj, e2⟩ := h.nms p hp
    have := name_inj j (by omega) i hi (e2.symm.trans e)
    omega
  have hl := look_out hno
  have hf : S.find (nameK i) true = 6 := by simp [DS.find, name_may i hi, hl]
  unfold DS.make
  rw [hf, if_neg (by omega), if_neg (by omega), if_neg (by rw [h.len]; omega)]
  unfold DS.enter
  have hn := next_quiet (S := { S with fl := upd S.fl k (some ⟨[], 0⟩) }) h.fuse h.fa h.fc
  rw [hn, if_neg (by show ¬ S.dead = true; rw [h.dead]; simp), if_pos rfl]
  refine ⟨rfl, ⟨h.cap, h.fuse, rfl, rfl, h.dead, put_ok h.ok _ _, ?_, fun p hp => ?_, fun j hj => ?_, fun p hp => ?_⟩⟩
  · show (Dir.put S.D (nameK i) k).length = i + 1
    unfold Dir.put
    rw [length_ins, del_of_none hl, h.len]
  · rcases mem_put.1 hp with rfl | ⟨hp, _⟩
    · exact ⟨i, by omega, rfl⟩
    · obtain ⟨j, hj, e⟩ := h.nms p hp
      exact ⟨j, by omega, e⟩
  · by_cases e : j = i
    · subst e
      exact ⟨k, mem_put.2 (.inl rfl)⟩
    · obtain ⟨k', hk'⟩ := h.has j (by omega)
      exact ⟨k', mem_put.2 (.inr ⟨hk', hno _ hk'⟩)⟩
  · show upd S.fl k (some ⟨[], 0⟩) p.2 = _
    rcases mem_put.1 hp with rfl | ⟨hp, _⟩
    · exact upd_same _ _ _
    · by_cases e : p.2 = k
      · rw [e, upd_same]
      · rw [upd_other _ _ e]; exact h.emp p hp
theorem Many.full (h : Many S 64) (k : Nat) : S.make sOne k = (5, S) := by
  have hl : S.D.look sOne = none := look_out fun p hp e => by obtain ⟨j, _, e2⟩ := h.nms p hp; exact name_one j (e2.symm.trans e)
  have hf : S.find sOne true = 6 := by simp [DS.find, (by decide : mayB sOne = true), hl]
  unfold DS.make
  rw [hf, if_neg (by omega), if_neg (by omega), if_pos (by rw [h.len]; omega)]
/-- One of them under another name. -/
structure Moved (S : DS) (k0 : Nat) : Prop where
  cap : S.cap = 16777216
  fuse : S.fuse = -1
  fa : S.fa = 0
  fc : S.fc = 0
  dead : S.dead = false
  ok : Dir.Ok S.D
  nms : ∀ p ∈ S.D, p = (sOne, k0) ∨ ∃ j, p.1 = nameK j
  one : (sOne, k0) ∈ S.D
  fab : ∃ k, (sFab, k) ∈ S.D
  emp : ∀ p ∈ S.D, S.fl p.2 = some ⟨[], 0⟩
theorem Many.rename (h : Many S 64) : ∃ k0, (S.rename sFaa sOne).1 = 0 ∧ Moved (S.rename sFaa sOne).2 k0 := by
  obtain ⟨k0, hk0⟩ := h.has 0 (by omega)
  have e0 : nameK 0 = sFaa := by decide
  rw [e0] at hk0
  have hl := mem_look h.ok hk0
  have hf : S.find sFaa (mayB sOne) = 0 := by simp [DS.find, (by decide : mayB sOne = true), (by decide : mayB sFaa = true), hl]
  have hn := next_quiet h.fuse h.fa h.fc
  refine ⟨k0, ?_⟩
  unfold DS.rename
  rw [hf, if_neg (by omega)]
  unfold DS.enter
  rw [hn, if_neg (by rw [h.dead]; simp), if_pos rfl]
  have happ : En.app ⟨4, sFaa, sOne, 0⟩ S.D = (S.D.del sFaa).put sOne k0 := by simp [En.app, hl]
  refine ⟨rfl, ⟨h.cap, h.fuse, rfl, rfl, h.dead, ?_, fun p hp => ?_, ?_, ?_, fun p hp => ?_⟩⟩
  · show Dir.Ok (En.app ⟨4, sFaa, sOne, 0⟩ S.D)
    rw [happ]
    exact put_ok (del_ok h.ok _) _ _
  · have hp2 : p ∈ En.app ⟨4, sFaa, sOne, 0⟩ S.D := hp
    rw [happ] at hp2
    rcases mem_put.1 hp2 with e | ⟨hp, _⟩
    · exact .inl e
    · obtain ⟨j, _, e⟩ := h.nms p (mem_del.1 hp).1
      exact .inr ⟨j, e⟩
  · show (sOne, k0) ∈ En.app ⟨4, sFaa, sOne, 0⟩ S.D
    rw [happ]
    exact mem_put.2 (.inl rfl)
  · obtain ⟨k1, hk1⟩ := h.has 1 (by omega)
    have e1 : nameK 1 = sFab := by decide
    rw [e1] at hk1
    refine ⟨k1, ?_⟩
    show (sFab, k1) ∈ En.app ⟨4, sFaa, sOne, 0⟩ S.D
    rw [happ]
    exact mem_put.2 (.inr ⟨mem_del.2 ⟨hk1, by show sFab ≠ sFaa; decide⟩, by show sFab ≠ sOne; decide⟩)
  · have hp2 : p ∈ En.app ⟨4, sFaa, sOne, 0⟩ S.D := hp
    rw [happ] at hp2
    show S.fl p.2 = _
    rcases mem_put.1 hp2 with rfl | ⟨hp, _⟩
    · exact h.emp (sFaa, k0) hk0
    · exact h.emp p (mem_del.1 hp).1
theorem sum_empty (fl : Nat → Option Fl) : ∀ d : Dir, (∀ p ∈ d, fl p.2 = some ⟨[], 0⟩) → sumL fl d = 0
  | [], _ => rfl
  | p :: r, h => by
    have ih := sum_empty fl r (fun q hq => h q (by simp [hq]))
    unfold sumL at ih ⊢
    rw [List.map_cons, List.sum_cons, ih, h p (by simp)]
    rfl
theorem sum_mem (fl : Nat → Option Fl) {s : Str} {k : Nat} {f : Fl} (hf : fl k = some f) : ∀ d : Dir, (s, k) ∈ d → f.b.length ≤ sumL fl d
  | [], h => by simp at h
  | p :: r, h => by
    unfold sumL
    rw [List.map_cons, List.sum_cons]
    rcases List.mem_cons.1 h with rfl | h
    · rw [hf]; simp
    · have := sum_mem fl hf r h
      unfold sumL at this
      omega
/-- No room any more. -/
structure NoRoom (S : DS) : Prop where
  cap : S.cap = 16777216
  room : S.room = 0
  fab : S.find sFab true = 0
  non : S.find sNon true = 6
theorem Moved.append {k0 : Nat} (h : Moved S k0) (x : List UInt8) (hx : x.length = 16777216) : (S.append sOne x).1 = 0 ∧ NoRoom (S.append sOne x).2 := by
  have hl := mem_look h.ok h.one
  have hf : S.find sOne true = 0 := by simp [DS.find, (by decide : mayB sOne = true), hl]
  have hfo : S.fileOf sOne = ⟨[], 0⟩ := fileOf_eq hl (h.emp _ h.one)
  have hno := numOf_eq hl
  have hn := next_quiet h.fuse h.fa h.fc
  have hroom : S.room = 16777216 := by
    unfold DS.room
    rw [sum_empty S.fl S.D h.emp, h.cap]
    rfl
  obtain ⟨k1, hk1⟩ := h.fab
  unfold DS.append
  rw [hf, hroom, hn, hfo, hno, hx, if_neg (by omega), if_neg (by omega), if_neg (by rw [h.dead]; simp), if_neg (by show ¬ (0 : Int) = 5; omega)]
  refine ⟨rfl, ⟨h.cap, ?_, ?_, ?_⟩⟩
  · have hs := sum_mem (fl := upd S.fl k0 (some ⟨[] ++ x.take (if ((0 : Int) = 9) then 16777216 / 2 else 16777216), 0⟩)) (upd_same _ _ _) S.D h.one
    have e : ([] ++ x.take (if ((0 : Int) = 9) then 16777216 / 2 else 16777216)).length = 16777216 := by rw [List.nil_append, List.length_take, if_neg (by omega), hx]; rfl
    rw [show (⟨[] ++ x.take (if ((0 : Int) = 9) then 16777216 / 2 else 16777216), 0⟩ : Fl).b.length = 16777216 from e] at hs
    show max ((S.cap : Int) - (sumL (upd S.fl k0 (some ⟨[] ++ x.take (if ((0 : Int) = 9) then 16777216 / 2 else 16777216), 0⟩)) S.D : Nat)) 0 = 0
    rw [h.cap]
    omega
  · have := mem_look h.ok hk1
    show (if (!true || !mayB sFab) then (2 : Int) else if (S.D.look sFab).isNone then 6 else 0) = 0
    rw [this, (by decide : mayB sFab = true)]
    rfl
  · have : S.D.look sNon = none := look_out fun p hp e => by
      rcases h.nms p hp with rfl | ⟨j, e2⟩
      · exact absurd (show sOne = sNon from e) (by decide)
      · exact name_non j (e2.symm.trans e)
    show (if (!true || !mayB sNon) then (2 : Int) else if (S.D.look sNon).isNone then 6 else 0) = 6
    rw [this, (by decide : mayB sNon = true)]
    rfl
theorem NoRoom.append1 (h : NoRoom S) (x : List UInt8) (hx : 0 < x.length) : S.append sFab x = (5, S) := by
  unfold DS.append
  rw [h.fab, h.room, if_neg (by omega), if_pos (by omega)]
theorem NoRoom.append0 (h : NoRoom S) (x : List UInt8) : S.append sNon x = (6, S) := by
  unfold DS.append
  rw [h.non, if_pos (by omega)]
theorem lay_no (n e : Int) (h : n < 0 ∨ (e ≠ 5 ∧ e ≠ 9)) : S.lay n e = (2, S) := by
  unfold DS.lay
  rw [if_pos h]
end
end Go.Proofs.Ytcemfpbkaahcmaa
