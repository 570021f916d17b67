/- Plain facts: a file that goes from name to name, and where it is behind a loss of power. -/
import Derived.Test.YtcemfpbkaahcmaaKnownP
import Derived.Test.YtcemfpbkaahcmaaFilesIter
namespace Go.Proofs.Ytcemfpbkaahcmaa
set_option linter.unusedVariables false

def sF : Str := [102, 105, 114, 115, 116]
theorem may_f : mayB sF = true := by decide
def NS (D L : Dir) (es : List En) (ch : Int) (k : Nat) (b : List UInt8) (n : Nat) : DS := ⟨10000, D, L, es, -1, 0, 0, false, ch, flK k b n⟩
def eMakeF (k : Nat) : En := ⟨0, sF, [], k⟩
theorem findN {s : Str} (hs : mayB s = true) (L : Dir) (es : List En) (ch : Int) (k : Nat) (b : List UInt8) (n : Nat) : (NS [(s, k)] L es ch k b n).find s true = 0 := by
  simp [DS.find, hs, NS, Dir.look]
theorem fileN (s : Str) (L : Dir) (es : List En) (ch : Int) (k : Nat) (b : List UInt8) (n : Nat) : (NS [(s, k)] L es ch k b n).fileOf s = ⟨b, n⟩ ∧ (NS [(s, k)] L es ch k b n).numOf s = k := by
  simp [DS.fileOf, DS.numOf, NS, Dir.look, flK_same]
theorem roomN (s : Str) (L : Dir) (es : List En) (ch : Int) (k : Nat) (b : List UInt8) (n : Nat) : (NS [(s, k)] L es ch k b n).room = max ((10000 : Int) - (b.length : Int)) 0 := by
  simp [DS.room, NS, sumL, flK_same]
theorem nextN (D L : Dir) (es : List En) (ch : Int) (k : Nat) (b : List UInt8) (n : Nat) : (NS D L es ch k b n).next = (0, NS D L es (ch + 1) k b n) := by
  simp [DS.next, DS.meet, DS.fault, DS.burn, NS]
theorem setN (D L : Dir) (es : List En) (ch : Int) (k : Nat) (b b' : List UInt8) (n n' : Nat) : (NS D L es ch k b n).setFile k ⟨b', n'⟩ = NS D L es ch k b' n' := by
  unfold DS.setFile NS
  simp only [flK_upd]
theorem g1 (k : Nat) : (newS 10000).make sF k = (0, NS [(sF, k)] [] [eMakeF k] 1 k [] 0) := by
  have h1 : (newS 10000).find sF true = 6 := by simp [DS.find, may_f, newS, freshS, Dir.look]
  unfold DS.make
  rw [h1]
  simp only [newS, freshS, DS.enter, DS.next, DS.meet, DS.fault, DS.burn, En.app, Dir.put, Dir.del, Dir.ins, NS]
  simp
  exact ⟨rfl, rfl, rfl⟩
theorem g2 (k : Nat) (b : List UInt8) (hb : b.length ≤ 9000) : (NS [(sF, k)] [] [eMakeF k] 1 k [] 0).append sF b = (0, NS [(sF, k)] [] [eMakeF k] 2 k b 0) := by
  unfold DS.append
  rw [findN may_f, roomN, nextN, (fileN _ _ _ _ _ _ _).1, (fileN _ _ _ _ _ _ _).2]
  rw [if_neg (by simp), if_neg (by simp; omega), if_neg (by simp [NS]), if_neg (by simp), setN]
  simp
theorem g3 (k : Nat) (b : List UInt8) : (NS [(sF, k)] [] [eMakeF k] 2 k b 0).sync sF = (0, NS [(sF, k)] [] [eMakeF k] 3 k b b.length) := by
  unfold DS.sync
  rw [findN may_f, nextN, (fileN _ _ _ _ _ _ _).1, (fileN _ _ _ _ _ _ _).2]
  rw [if_neg (by simp), if_neg (by simp [NS]), if_pos rfl, setN]
  rfl
theorem g4 (k : Nat) (b : List UInt8) : (NS [(sF, k)] [] [eMakeF k] 3 k b b.length).syncDir = (0, NS [(sF, k)] [(sF, k)] [] 4 k b b.length) := by
  unfold DS.syncDir
  rw [nextN, if_neg (by simp [NS]), if_pos rfl]
  rfl
theorem app_one (x to : Str) (k : Nat) (nm : Str) (j : Nat) (h : x = nm) : En.app ⟨4, nm, to, j⟩ [(x, k)] = [(to, k)] := by
  subst h
  simp [En.app, Dir.look, Dir.del, Dir.put, Dir.ins]
theorem g5 {s : Str} (to : Str) (hs : mayB s = true) (ht : mayB to = true) (L : Dir) (es : List En) (ch : Int) (k : Nat) (b : List UInt8) (n : Nat) :
    (NS [(s, k)] L es ch k b n).rename s to = (0, NS [(to, k)] L (es ++ [⟨4, s, to, 0⟩]) (ch + 1) k b n) := by
  unfold DS.rename
  rw [ht, findN hs, if_neg (by simp)]
  unfold DS.enter
  rw [nextN, if_neg (by simp [NS]), if_pos rfl]
  show ((0 : Int), _) = _
  have := app_one s to k s 0 rfl
  unfold NS at this ⊢
  simp only [this]
/-- A list of renames to names that may be. -/
def Rens (es : List En) : Prop := ∀ e ∈ es, e.kind = 4 ∧ mayB e.to = true
theorem Rens.nil : Rens [] := fun e he => by simp at he
theorem Rens.snoc {es : List En} (h : Rens es) (s : Str) {to : Str} (ht : mayB to = true) : Rens (es ++ [⟨4, s, to, 0⟩]) := fun e he => by
  rcases List.mem_append.1 he with h1 | h1
  · exact h e h1
  · obtain rfl : e = ⟨4, s, to, 0⟩ := by simpa using h1
    exact ⟨rfl, ht⟩
theorem redo_rens (k : Nat) : ∀ (es : List En) (ps : List Int) (x : Str), Rens es → mayB x = true → ∃ y, mayB y = true ∧ redo [(x, k)] es ps = [(y, k)]
  | [], _, x, _, hx => ⟨x, hx, rfl⟩
  | e :: r, ps, x, h, hx => by
    obtain ⟨h1, h2⟩ := h e (by simp)
    have hr : Rens r := fun e' he => h e' (by simp [he])
    unfold redo
    split
    · rename_i hc
      obtain ⟨kd, nm, to, j⟩ := e
      simp only at h1 h2
      subst h1
      have hn : x = nm := by
        have := hc.2
        unfold En.can at this
        by_cases hxn : x = nm
        · exact hxn
        · simp [Dir.look, hxn] at this
      rw [app_one x to k nm j hn]
      exact redo_rens k r ps.tail to hr h2
    · exact redo_rens k r ps.tail x hr hx
/-- Behind a loss of power: one file, with all its bytes, under a name that may be. -/
structure OneFile (S : DS) (y : Str) (b : List UInt8) : Prop where
  may : mayB y = true
  one : ∃ k, S.D = [(y, k)] ∧ S.fl k = some ⟨b, b.length⟩
theorem fresh_file {S : DS} {c : Nat} {y : Str} {b : List UInt8} (h : Fresh S c [(y, b)]) (hy : mayB y = true) : OneFile S y b := by
  have hv := h.view
  unfold DS.view at hv
  refine ⟨hy, ?_⟩
  cases hD : S.D with
  | nil => rw [hD] at hv; simp at hv
  | cons p r =>
    rw [hD] at hv
    simp only [List.map_cons, List.map_nil, List.cons.injEq, List.map_eq_nil_iff, Prod.mk.injEq] at hv
    obtain ⟨⟨h1, h2⟩, h3⟩ := hv
    obtain ⟨f, hf, hfe⟩ := Option.map_eq_some_iff.1 h2
    obtain ⟨f1, f2⟩ := f
    obtain ⟨e1, e2⟩ := Prod.mk.inj hfe
    simp only at e1 e2
    subst e1 e2 h3
    exact ⟨p.2, by rw [← h1], hf⟩
theorem goes_crashed {S' : DS} {es : List En} {ch : Int} {k : Nat} {b : List UInt8} {at_ : Str} {ps : List Int} (he : Rens es)
    (h : Crashed (NS [(at_, k)] [(sF, k)] es ch k b b.length) ps S') : ∃ y, OneFile S' y b := by
  obtain ⟨y, hy, hr⟩ := redo_rens k es ps sF he may_f
  unfold Crashed at h
  have e : keep (NS [(at_, k)] [(sF, k)] es ch k b b.length).fl (redo (NS [(at_, k)] [(sF, k)] es ch k b b.length).L (NS [(at_, k)] [(sF, k)] es ch k b b.length).es ps) (ps.drop (NS [(at_, k)] [(sF, k)] es ch k b b.length).es.length) = [(y, b)] := by
    show keep (flK k b b.length) (redo [(sF, k)] es ps) _ = _
    rw [hr]
    simp [keep, flK_same, keepF]
  rw [e] at h
  exact ⟨y, fresh_file h hy⟩
theorem readN {s : Str} (hs : mayB s = true) (L : Dir) (es : List En) (ch : Int) (k : Nat) (b : List UInt8) (n : Nat) : (NS [(s, k)] L es ch k b n).readS s = b := by
  unfold DS.readS
  rw [if_pos (findN hs L es ch k b n), (fileN _ _ _ _ _ _ _).1]
theorem OneFile.find {S : DS} {y : Str} {b : List UInt8} (h : OneFile S y b) : S.find y true = 0 ∧ S.fileOf y = ⟨b, b.length⟩ := by
  obtain ⟨k, h1, h2⟩ := h.one
  simp [DS.find, DS.fileOf, h.may, h1, h2, Dir.look]
theorem OneFile.readS {S : DS} {y : Str} {b : List UInt8} (h : OneFile S y b) : S.readS y = b := by
  unfold DS.readS
  rw [if_pos h.find.1, h.find.2]
theorem OneFile.all {S : DS} {y : Str} {b : List UInt8} (h : OneFile S y b) : ∀ q ∈ S.D, (q.1, S.sz q) = (y, (b.length : Int)) := fun q hq => by
  obtain ⟨k, h1, h2⟩ := h.one
  rw [h1] at hq
  obtain rfl : q = (y, k) := by simpa using hq
  simp [DS.sz, h2]
theorem OneFile.len {S : DS} {y : Str} {b : List UInt8} (h : OneFile S y b) : S.D.length = 1 := by
  obtain ⟨k, h1, h2⟩ := h.one
  simp [h1]
end Go.Proofs.Ytcemfpbkaahcmaa
