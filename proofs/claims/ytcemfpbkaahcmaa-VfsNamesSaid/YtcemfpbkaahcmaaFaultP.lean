/- Plain facts: a fault that is laid is met by the change of its number, and by no other. -/
import Derived.Test.YtcemfpbkaahcmaaVfs
namespace Go.Proofs.Ytcemfpbkaahcmaa
set_option linter.unusedVariables false

/-- A fault c lies for the change n. -/
structure Fa (S : DS) (n c : Int) : Prop where
  dead : S.dead = false
  fuse : S.fuse = -1
  fa : S.fa = if S.ch ≤ n then n - S.ch else 0
  fc : S.fc = if S.ch ≤ n then c else 0
theorem SameFiles.room {S S' : DS} (h : SameFiles S S') : S'.room = S.room := by
  unfold DS.room
  rw [h.cap, h.D, h.fl]
theorem next_fa {S : DS} {n c : Int} (h : Fa S n c) : S.next.1 = (if S.ch = n then c else 0) ∧ Fa S.next.2 n c := by
  have hch := next_ch S
  by_cases h1 : S.ch < n
  · have e1 : S.fa = n - S.ch := by rw [h.fa, if_pos (by omega)]
    have e2 : S.fc = c := by rw [h.fc, if_pos (by omega)]
    have hn : S.next = (0, { S with ch := S.ch + 1, fa := S.fa - 1 }) := by
      unfold DS.next DS.meet DS.fault DS.burn
      have q : 0 < S.fa := by omega
      simp [h.fuse, q]
    rw [hn, if_neg (by omega)]
    refine ⟨rfl, ⟨h.dead, h.fuse, ?_, ?_⟩⟩
    · show S.fa - 1 = if S.ch + 1 ≤ n then n - (S.ch + 1) else 0
      rw [if_pos (by omega)]; omega
    · show S.fc = if S.ch + 1 ≤ n then c else 0
      rw [if_pos (by omega)]; exact e2
  · have e1 : S.fa = 0 := by rw [h.fa]; split <;> omega
    have hn : S.next = (S.fc, { S with ch := S.ch + 1, fa := 0, fc := 0 }) := by
      unfold DS.next DS.meet DS.fault DS.burn
      simp only [h.fuse, e1]
      simp
    rw [hn]
    refine ⟨?_, ⟨h.dead, h.fuse, ?_, ?_⟩⟩
    · show S.fc = _
      rw [h.fc]
      by_cases e : S.ch = n
      · rw [if_pos e, if_pos (by omega)]
      · rw [if_neg e, if_neg (by omega)]
    · show (0 : Int) = if S.ch + 1 ≤ n then n - (S.ch + 1) else 0
      rw [if_neg (by omega)]
    · show (0 : Int) = if S.ch + 1 ≤ n then c else 0
      rw [if_neg (by omega)]

/-- What a step has made of it: no change, or the one of that number. -/
def Took (S : DS) (r : Int × DS) (n c : Int) : Prop :=
  (r.2.ch = S.ch ∧ r.1 ≠ 0 ∧ Fa r.2 n c) ∨ (r.2.ch = S.ch + 1 ∧ r.1 = (if S.ch = n then c else 0) ∧ Fa r.2 n c ∧ (S.ch = n → c = 5 → r.2.room = S.room))
section
variable {S : DS} {n c : Int}
theorem Took.no (h : Fa S n c) {r : Int} (hr : r ≠ 0) : Took S (r, S) n c := .inl ⟨rfl, hr, h⟩
theorem Took.next (h : Fa S n c) : Took S (S.next.1, S.next.2) n c := .inr ⟨next_ch S, (next_fa h).1, (next_fa h).2, fun _ _ => (next_same S).room⟩
/-- A change that is done. -/
theorem Took.done (h : Fa S n c) (hc : c ≠ 0) {S' : DS} (h0 : S.next.1 ≠ 5) (hch : S'.ch = S.next.2.ch) (hd : S'.dead = S.next.2.dead) (hfu : S'.fuse = S.next.2.fuse) (hfa : S'.fa = S.next.2.fa) (hfc : S'.fc = S.next.2.fc) : Took S (S.next.1, S') n c := by
  obtain ⟨h1, h2⟩ := next_fa h
  refine .inr ⟨by rw [hch, next_ch], h1, ⟨hd.trans h2.dead, hfu.trans h2.fuse, by rw [hfa, hch]; exact h2.fa, by rw [hfc, hch]; exact h2.fc⟩, fun e e5 => ?_⟩
  rw [h1, if_pos e] at h0
  exact absurd e5 h0
theorem enter_took (h : Fa S n c) (hc : c ≠ 0) (e : En) : Took S (S.enter e) n c := by
  unfold DS.enter
  rw [if_neg (by rw [h.dead]; decide)]
  split
  · rename_i h0
    have := Took.done (S' := { S.next.2 with D := e.app S.next.2.D, es := S.next.2.es ++ [e] }) h hc (by omega) rfl rfl rfl rfl rfl
    rw [h0] at this
    exact this
  · exact Took.next h
theorem sumL_upd {fl : Nat → Option Fl} {k : Nat} {v : Option Fl} : ∀ (d : Dir), (∀ p ∈ d, p.2 ≠ k) → sumL (upd fl k v) d = sumL fl d := fun d hd => by
  unfold sumL
  congr 1
  refine List.map_congr_left fun p hp => ?_
  rw [upd_other _ _ (hd p hp)]
theorem make_took {m : Nat} (hG : Good S m) (h : Fa S n c) (hc : c ≠ 0) (nm : Str) {k : Nat} (hk : S.fl k = none) : Took S (S.make nm k) n c := by
  unfold DS.make
  split
  · exact Took.no h (by decide)
  · rename_i h0
    split
    · exact Took.no h h0
    · split
      · exact Took.no h (by decide)
      · have hr : ({ S with fl := upd S.fl k (some ⟨[], 0⟩) } : DS).room = S.room := by
          unfold DS.room
          show max ((S.cap : Int) - sumL (upd S.fl k (some ⟨[], 0⟩)) S.D) 0 = _
          rw [sumL_upd S.D (fun p hp e => by have := hG.domD p hp; rw [e, hk] at this; cases this)]
        rcases enter_took (S := { S with fl := upd S.fl k (some ⟨[], 0⟩) }) ⟨h.dead, h.fuse, h.fa, h.fc⟩ hc ⟨0, nm, [], k⟩ with h1 | ⟨h1, h2, h3, h4⟩
        · exact .inl h1
        · exact .inr ⟨h1, h2, h3, fun a b => (h4 a b).trans hr⟩
theorem append_took (h : Fa S n c) (hc : c ≠ 0) (nm : Str) (x : List UInt8) : Took S (S.append nm x) n c := by
  unfold DS.append
  split
  · rename_i h0; exact Took.no h h0
  · split
    · exact Took.no h (by decide)
    · rw [if_neg (by rw [h.dead]; decide)]
      split
      · rename_i h5
        have := Took.next h
        rw [h5] at this
        exact this
      · rename_i h5
        exact Took.done h hc h5 rfl rfl rfl rfl rfl
theorem sync_took (h : Fa S n c) (hc : c ≠ 0) (nm : Str) : Took S (S.sync nm) n c := by
  unfold DS.sync
  split
  · rename_i h0; exact Took.no h h0
  · rw [if_neg (by rw [h.dead]; decide)]
    split
    · rename_i h0
      have := Took.done (S' := S.next.2.setFile (S.numOf nm) ⟨(S.fileOf nm).b, (S.fileOf nm).b.length⟩) h hc (by omega) rfl rfl rfl rfl rfl
      rw [h0] at this
      exact this
    · exact Took.next h
theorem cut_took (h : Fa S n c) (hc : c ≠ 0) (nm : Str) (x : Int) : Took S (S.cut nm x) n c := by
  unfold DS.cut
  split
  · rename_i h0; exact Took.no h h0
  · split
    · exact Took.no h (by decide)
    · rw [if_neg (by rw [h.dead]; decide)]
      split
      · rename_i h0
        have := Took.done (S' := S.next.2.setFile (S.numOf nm) ⟨(S.fileOf nm).b.take x.toNat, min (S.fileOf nm).n x.toNat⟩) h hc (by omega) rfl rfl rfl rfl rfl
        rw [h0] at this
        exact this
      · exact Took.next h
theorem rename_took (h : Fa S n c) (hc : c ≠ 0) (nm to : Str) : Took S (S.rename nm to) n c := by
  unfold DS.rename
  split
  · rename_i h0; exact Took.no h h0
  · exact enter_took h hc _
theorem remove_took (h : Fa S n c) (hc : c ≠ 0) (nm : Str) : Took S (S.remove nm) n c := by
  unfold DS.remove
  split
  · rename_i h0; exact Took.no h h0
  · exact enter_took h hc _
theorem syncDir_took (h : Fa S n c) (hc : c ≠ 0) : Took S S.syncDir n c := by
  unfold DS.syncDir
  rw [if_neg (by rw [h.dead]; decide)]
  split
  · rename_i h0
    have := Took.done (S' := { S.next.2 with L := S.next.2.D, es := [] }) h hc (by omega) rfl rfl rfl rfl rfl
    rw [h0] at this
    exact this
  · exact Took.next h
end
end Go.Proofs.Ytcemfpbkaahcmaa
