/- Contract: a step of whatever kind, done to a disk: there is a disk behind it, of names that may be. -/
import Derived.Test.YtcemfpbkaahcmaaDoAppend
import Derived.Test.YtcemfpbkaahcmaaDoCrash
import Derived.Test.YtcemfpbkaahcmaaBackP
namespace Go.Proofs.Ytcemfpbkaahcmaa
open Go.RowKit Go.Shelf
set_option linter.unusedVariables false

section
variable {w w' : World} {base p m : Nat} {S : DS}
def DoB (w : World) (base m : Nat) (e : Ending) (w' : World) : Prop :=
  ∃ (r : Int) (p' base' : Nat) (S' : DS), e = .returned (.tuple #[.int .i64 r, .pointer (some ⟨p', 0, none⟩)]) ∧ base ≤ base' ∧ Holds w' base' p' S' (m + 1) ∧ MayS S' ∧ Below base w w'
theorem DoP.back {r : Int × DS} {n : Nat} {e : Ending} (h : DoP w base p r n e w') (hn : n ≤ m + 1) (hM : MayS r.2) : DoB w base m e w' := ⟨r.1, p, base, r.2, h.1, Nat.le_refl _, h.2.1.mono hn, hM, h.2.2⟩
theorem do_back (h : Holds w base p S m) (hm : m ≤ 268435456) (s : Stp) {hi : Nat} (hs : StepOk w hi s) (hib : hi ≤ base) (hb : s.b.length ≤ 20000) (hM : MayS S) :
    Calls Try.prog 11 #[.pointer (some ⟨p, 0, none⟩), .agg #[.int .i64 s.kind, .int .i64 s.n, .int .i64 s.e, strV s.name, strV s.to, .slice s.A s.b.length s.bc, .slice s.P s.picks.length s.pc]] w (DoB w base m) := by
  have hlt := h.lt
  have hm2 : m ≤ 1073741824 := by omega
  by_cases hk : s.kind < 1 ∨ 10 < s.kind
  · exact (do_none h s hk).mono fun e w' hq => hq.back (by omega) hM
  · have hk : s.kind = 1 ∨ s.kind = 2 ∨ s.kind = 3 ∨ s.kind = 4 ∨ s.kind = 5 ∨ s.kind = 6 ∨ s.kind = 7 ∨ s.kind = 8 ∨ s.kind = 9 ∨ s.kind = 10 := by omega
    rcases hk with hk | hk | hk | hk | hk | hk | hk | hk | hk | hk <;> rw [hk]
    · exact (do_make h hm2 s hs).mono fun e w' hq => hq.back (by omega) (hM.make _ _)
    · exact (do_append h hm2 s hs hib hb).mono fun e w' hq => hq.back (by omega) (hM.append _ _)
    · exact (do_sync h hm2 s hs).mono fun e w' hq => hq.back (by omega) (hM.sync _)
    · exact (do_cut h hm2 s hs).mono fun e w' hq => hq.back (by omega) (hM.cut _ _)
    · exact (do_rename h hm2 s hs).mono fun e w' hq => hq.back (by omega) (hM.rename _ _)
    · exact (do_remove h hm2 s hs).mono fun e w' hq => hq.back (by omega) (hM.remove _)
    · exact (do_syncDir h hm2 s hs).mono fun e w' hq => hq.back (by omega) hM.syncDir
    · exact (do_fuse h hm2 s hs).mono fun e w' hq => hq.back (by omega) (hM.fuse _)
    · exact (do_lay h hm2 s hs).mono fun e w' hq => hq.back (by omega) (hM.lay _ _)
    · refine (do_crash h hm s hs (by omega)).mono ?_
      rintro e w' ⟨p', S', he, hh, hc, hbl⟩
      exact ⟨0, p', w.heap.size + 1, S', he, by omega, hh.mono (by omega), hM.crashed hc, hbl.mono (by omega)⟩
end
end Go.Proofs.Ytcemfpbkaahcmaa
