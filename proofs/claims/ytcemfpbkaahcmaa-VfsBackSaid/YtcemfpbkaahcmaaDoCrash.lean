/- Contract: a step that is a loss of power. -/
import Derived.Test.YtcemfpbkaahcmaaDoEasy
namespace Go.Proofs.Ytcemfpbkaahcmaa
open Go.RowKit Go.Shelf
set_option linter.unusedVariables false

section
variable {w w' : World} {base p m g : Nat} {S : DS}
set_option maxRecDepth 100000 in
set_option maxHeartbeats 4000000 in
theorem do_crash (h : Holds w base p S m) (hm : m ≤ 268435456) (s : Stp) {hi : Nat} (hs : StepOk w hi s) (hib : hi ≤ w.heap.size) :
    Calls Try.prog 11 #[.pointer (some ⟨p, 0, none⟩), .agg #[.int .i64 10, .int .i64 s.n, .int .i64 s.e, strV s.name, strV s.to, .slice s.A s.b.length s.bc, .slice s.P s.picks.length s.pc]] w
      (fun e w' => ∃ p' S', e = .returned (.tuple #[.int .i64 0, .pointer (some ⟨p', 0, none⟩)]) ∧ Holds w' (w.heap.size + 1) p' S' m ∧ Crashed S s.picks S' ∧ Below w.heap.size w w') := by
  have hr : RdI (w.alloc (boxS 10 s)) (w.alloc (boxS 10 s)).heap.size s.P s.picks := fun hn => by
    obtain ⟨b, off, e, h2, hc⟩ := hs.rp hn
    exact ⟨b, off, e, by simp; omega, fun j x hx => (World.cell?_alloc_lt w _ ⟨b, off + j, none⟩ (by show b < _; omega)).trans (hc j x hx)⟩
  have hc := crash_any (h.alloc (boxS 10 s)) hm s.P s.pc s.picks hr hs.p1 hs.p2
  have hB := (Below.refl w.heap.size w).alloc (Nat.le_refl _) (boxS 10 s)
  have HSZ := Lib.hid (show (w.alloc (boxS 10 s)).heap.size = w.heap.size + 1 by simp)
  have HB := Lib.hid hB
  clear h hs hB hr
  unfold CrashP at hc
  rw [HSZ.out] at hc
  clear HSZ
  unfold boxS at hc HB
  unfold strV at hc HB ⊢
  go_enter Try.func11, Try.ntmps11
  go_wp2_with (go_at_call 12; refine hc.mono ?_; rintro e w' ⟨p', S', rfl, hh, hcr, hb⟩; have HH := Lib.hid hh; have HC := Lib.hid hcr; have HB2 := Lib.hid hb; clear hh hcr hb)
  go_ret2
  exact ⟨p', S', rfl, HH.out, HC.out, HB.out.trans (HB2.out.mono (by omega))⟩
end
end Go.Proofs.Ytcemfpbkaahcmaa
