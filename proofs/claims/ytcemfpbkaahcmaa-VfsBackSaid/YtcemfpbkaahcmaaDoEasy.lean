/- Contracts: a step of the first kinds, but that which appends. -/
import Derived.Test.YtcemfpbkaahcmaaSteps
namespace Go.Proofs.Ytcemfpbkaahcmaa
open Go.RowKit Go.Shelf
set_option linter.unusedVariables false

section
variable {w w' : World} {base p m g : Nat} {S : DS}
/-- What a step leaves that goes on with the same disk. -/
def DoP (w : World) (base p : Nat) (r : Int × DS) (m : Nat) (e : Ending) (w' : World) : Prop :=
  e = .returned (.tuple #[.int .i64 r.1, .pointer (some ⟨p, 0, none⟩)]) ∧ Holds w' base p r.2 m ∧ Below base w w'
def boxS (k : Int) (s : Stp) : Obj := .cells #[.int .i64 k, .int .i64 s.n, .int .i64 s.e, strV s.name, strV s.to, .slice s.A s.b.length s.bc, .slice s.P s.picks.length s.pc] 35 (0, 0)
set_option maxRecDepth 100000 in
set_option maxHeartbeats 4000000 in
theorem do_make (h : Holds w base p S m) (hm : m ≤ 1073741824) (s : Stp) {hi : Nat} (hs : StepOk w hi s) :
    Calls Try.prog 11 #[.pointer (some ⟨p, 0, none⟩), .agg #[.int .i64 1, .int .i64 s.n, .int .i64 s.e, strV s.name, strV s.to, .slice s.A s.b.length s.bc, .slice s.P s.picks.length s.pc]] w (DoP w base p (S.make s.name (w.heap.size + 1)) (m + 1)) := by
  have hbp := h.lt
  have hbase : base ≤ w.heap.size := by omega
  have hnum := fun e u => num_any e u
  have hc := make_any (h.alloc (boxS 1 s)) hm s.name hs.nm
  have hB := (Below.refl base w).alloc hbase (boxS 1 s)
  have e1 : (w.alloc (boxS 1 s)).heap.size = w.heap.size + 1 := by simp
  rw [e1] at hc
  have HB := Lib.hid hB
  clear h hs hB e1
  unfold boxS at hc HB
  unfold strV at hc HB ⊢
  go_enter Try.func11, Try.ntmps11
  go_wp2_with (first
    | (go_at_call 21; refine hc.mono ?_; rintro e w' hQ; have HQ := Lib.hid hQ; obtain ⟨rfl, _, _⟩ := hQ)
    | (go_at_call 10; refine (hnum _ _).mono ?_; rintro e w2 ⟨rfl, rfl⟩))
  go_ret2
  exact ⟨rfl, HQ.out.2.1, HB.out.trans HQ.out.2.2⟩
set_option maxRecDepth 100000 in
set_option maxHeartbeats 4000000 in
theorem do_sync (h : Holds w base p S m) (hm : m ≤ 1073741824) (s : Stp) {hi : Nat} (hs : StepOk w hi s) :
    Calls Try.prog 11 #[.pointer (some ⟨p, 0, none⟩), .agg #[.int .i64 3, .int .i64 s.n, .int .i64 s.e, strV s.name, strV s.to, .slice s.A s.b.length s.bc, .slice s.P s.picks.length s.pc]] w (DoP w base p (S.sync s.name) (m + 1)) := by
  have hbp := h.lt
  have hbase : base ≤ w.heap.size := by omega
  have hnum := fun e u => num_any e u
  have hc := sync_any (h.alloc (boxS 3 s)) hm s.name hs.nm
  have hB := (Below.refl base w).alloc hbase (boxS 3 s)
  have HB := Lib.hid hB
  clear h hs hB
  unfold boxS at hc HB
  unfold strV at hc HB ⊢
  go_enter Try.func11, Try.ntmps11
  go_wp2_with (first
    | (go_at_call 16; refine hc.mono ?_; rintro e w' hQ; have HQ := Lib.hid hQ; obtain ⟨rfl, _, _⟩ := hQ)
    | (go_at_call 10; refine (hnum _ _).mono ?_; rintro e w2 ⟨rfl, rfl⟩))
  go_ret2
  exact ⟨rfl, HQ.out.2.1, HB.out.trans HQ.out.2.2⟩
set_option maxRecDepth 100000 in
set_option maxHeartbeats 4000000 in
theorem do_cut (h : Holds w base p S m) (hm : m ≤ 1073741824) (s : Stp) {hi : Nat} (hs : StepOk w hi s) :
    Calls Try.prog 11 #[.pointer (some ⟨p, 0, none⟩), .agg #[.int .i64 4, .int .i64 s.n, .int .i64 s.e, strV s.name, strV s.to, .slice s.A s.b.length s.bc, .slice s.P s.picks.length s.pc]] w (DoP w base p (S.cut s.name s.n) (m + 1)) := by
  have hbp := h.lt
  have hbase : base ≤ w.heap.size := by omega
  have hnum := fun e u => num_any e u
  have hc := cut_any (h.alloc (boxS 4 s)) hm s.name hs.nm s.n
  have hB := (Below.refl base w).alloc hbase (boxS 4 s)
  have HB := Lib.hid hB
  clear h hs hB
  unfold boxS at hc HB
  unfold strV at hc HB ⊢
  go_enter Try.func11, Try.ntmps11
  go_wp2_with (first
    | (go_at_call 32; refine hc.mono ?_; rintro e w' hQ; have HQ := Lib.hid hQ; obtain ⟨rfl, _, _⟩ := hQ)
    | (go_at_call 10; refine (hnum _ _).mono ?_; rintro e w2 ⟨rfl, rfl⟩))
  go_ret2
  exact ⟨rfl, HQ.out.2.1, HB.out.trans HQ.out.2.2⟩
set_option maxRecDepth 100000 in
set_option maxHeartbeats 4000000 in
theorem do_rename (h : Holds w base p S m) (hm : m ≤ 1073741824) (s : Stp) {hi : Nat} (hs : StepOk w hi s) :
    Calls Try.prog 11 #[.pointer (some ⟨p, 0, none⟩), .agg #[.int .i64 5, .int .i64 s.n, .int .i64 s.e, strV s.name, strV s.to, .slice s.A s.b.length s.bc, .slice s.P s.picks.length s.pc]] w (DoP w base p (S.rename s.name s.to) (m + 1)) := by
  have hbp := h.lt
  have hbase : base ≤ w.heap.size := by omega
  have hnum := fun e u => num_any e u
  have hc := rename_any (h.alloc (boxS 5 s)) hm s.name s.to hs.nm hs.to
  have hB := (Below.refl base w).alloc hbase (boxS 5 s)
  have HB := Lib.hid hB
  clear h hs hB
  unfold boxS at hc HB
  unfold strV at hc HB ⊢
  go_enter Try.func11, Try.ntmps11
  go_wp2_with (first
    | (go_at_call 22; refine hc.mono ?_; rintro e w' hQ; have HQ := Lib.hid hQ; obtain ⟨rfl, _, _⟩ := hQ)
    | (go_at_call 10; refine (hnum _ _).mono ?_; rintro e w2 ⟨rfl, rfl⟩))
  go_ret2
  exact ⟨rfl, HQ.out.2.1, HB.out.trans HQ.out.2.2⟩
set_option maxRecDepth 100000 in
set_option maxHeartbeats 4000000 in
theorem do_remove (h : Holds w base p S m) (hm : m ≤ 1073741824) (s : Stp) {hi : Nat} (hs : StepOk w hi s) :
    Calls Try.prog 11 #[.pointer (some ⟨p, 0, none⟩), .agg #[.int .i64 6, .int .i64 s.n, .int .i64 s.e, strV s.name, strV s.to, .slice s.A s.b.length s.bc, .slice s.P s.picks.length s.pc]] w (DoP w base p (S.remove s.name) (m + 1)) := by
  have hbp := h.lt
  have hbase : base ≤ w.heap.size := by omega
  have hnum := fun e u => num_any e u
  have hc := remove_any (h.alloc (boxS 6 s)) hm s.name hs.nm
  have hB := (Below.refl base w).alloc hbase (boxS 6 s)
  have HB := Lib.hid hB
  clear h hs hB
  unfold boxS at hc HB
  unfold strV at hc HB ⊢
  go_enter Try.func11, Try.ntmps11
  go_wp2_with (first
    | (go_at_call 30; refine hc.mono ?_; rintro e w' hQ; have HQ := Lib.hid hQ; obtain ⟨rfl, _, _⟩ := hQ)
    | (go_at_call 10; refine (hnum _ _).mono ?_; rintro e w2 ⟨rfl, rfl⟩))
  go_ret2
  exact ⟨rfl, HQ.out.2.1, HB.out.trans HQ.out.2.2⟩
set_option maxRecDepth 100000 in
set_option maxHeartbeats 4000000 in
theorem do_syncDir (h : Holds w base p S m) (hm : m ≤ 1073741824) (s : Stp) {hi : Nat} (hs : StepOk w hi s) :
    Calls Try.prog 11 #[.pointer (some ⟨p, 0, none⟩), .agg #[.int .i64 7, .int .i64 s.n, .int .i64 s.e, strV s.name, strV s.to, .slice s.A s.b.length s.bc, .slice s.P s.picks.length s.pc]] w (DoP w base p (S.syncDir) (m + 1)) := by
  have hbp := h.lt
  have hbase : base ≤ w.heap.size := by omega
  have hnum := fun e u => num_any e u
  have hc := syncDir_any (h.alloc (boxS 7 s)) hm
  have hB := (Below.refl base w).alloc hbase (boxS 7 s)
  have HB := Lib.hid hB
  clear h hs hB
  unfold boxS at hc HB
  unfold strV at hc HB ⊢
  go_enter Try.func11, Try.ntmps11
  go_wp2_with (first
    | (go_at_call 17; refine hc.mono ?_; rintro e w' hQ; have HQ := Lib.hid hQ; obtain ⟨rfl, _, _⟩ := hQ)
    | (go_at_call 10; refine (hnum _ _).mono ?_; rintro e w2 ⟨rfl, rfl⟩))
  go_ret2
  exact ⟨rfl, HQ.out.2.1, HB.out.trans HQ.out.2.2⟩
set_option maxRecDepth 100000 in
set_option maxHeartbeats 4000000 in
theorem do_fuse (h : Holds w base p S m) (hm : m ≤ 1073741824) (s : Stp) {hi : Nat} (hs : StepOk w hi s) :
    Calls Try.prog 11 #[.pointer (some ⟨p, 0, none⟩), .agg #[.int .i64 8, .int .i64 s.n, .int .i64 s.e, strV s.name, strV s.to, .slice s.A s.b.length s.bc, .slice s.P s.picks.length s.pc]] w (DoP w base p (0, S.setFuse s.n) m) := by
  have hbp := h.lt
  have hbase : base ≤ w.heap.size := by omega
  have hnum := fun e u => num_any e u
  have hc := fuse_disk (h.alloc (boxS 8 s)) s.n hs.n2
  have hB := (Below.refl base w).alloc hbase (boxS 8 s)
  have HB := Lib.hid hB
  clear h hs hB
  unfold boxS at hc HB
  unfold strV at hc HB ⊢
  go_enter Try.func11, Try.ntmps11
  go_wp2_with (first
    | (go_at_call 29; refine hc.mono ?_; rintro e w' hQ; have HQ := Lib.hid hQ; obtain ⟨rfl, _, _⟩ := hQ)
    | (go_at_call 10; refine (hnum _ _).mono ?_; rintro e w2 ⟨rfl, rfl⟩))
  go_ret2
  exact ⟨rfl, HQ.out.2.1, HB.out.trans HQ.out.2.2⟩
set_option maxRecDepth 100000 in
set_option maxHeartbeats 4000000 in
theorem do_lay (h : Holds w base p S m) (hm : m ≤ 1073741824) (s : Stp) {hi : Nat} (hs : StepOk w hi s) :
    Calls Try.prog 11 #[.pointer (some ⟨p, 0, none⟩), .agg #[.int .i64 9, .int .i64 s.n, .int .i64 s.e, strV s.name, strV s.to, .slice s.A s.b.length s.bc, .slice s.P s.picks.length s.pc]] w (DoP w base p (S.lay s.n s.e) m) := by
  have hbp := h.lt
  have hbase : base ≤ w.heap.size := by omega
  have hnum := fun e u => num_any e u
  have hc := lay_disk (h.alloc (boxS 9 s)) s.n s.e hs.n2
  have hB := (Below.refl base w).alloc hbase (boxS 9 s)
  have HB := Lib.hid hB
  clear h hs hB
  unfold boxS at hc HB
  unfold strV at hc HB ⊢
  go_enter Try.func11, Try.ntmps11
  go_wp2_with (first
    | (go_at_call 19; refine hc.mono ?_; rintro e w' hQ; have HQ := Lib.hid hQ; obtain ⟨rfl, _, _⟩ := hQ)
    | (go_at_call 10; refine (hnum _ _).mono ?_; rintro e w2 ⟨rfl, rfl⟩))
  go_ret2
  exact ⟨rfl, HQ.out.2.1, HB.out.trans HQ.out.2.2⟩
set_option maxRecDepth 100000 in
set_option maxHeartbeats 4000000 in
theorem do_none (h : Holds w base p S m) (s : Stp) {k : Int} (hk : k < 1 ∨ 10 < k) :
    Calls Try.prog 11 #[.pointer (some ⟨p, 0, none⟩), .agg #[.int .i64 k, .int .i64 s.n, .int .i64 s.e, strV s.name, strV s.to, .slice s.A s.b.length s.bc, .slice s.P s.picks.length s.pc]] w (DoP w base p (0, S) m) := by
  have hbp := h.lt
  have hbase : base ≤ w.heap.size := by omega
  have hB := (Below.refl base w).alloc hbase (boxS k s)
  have HB := Lib.hid hB
  have HH := Lib.hid (h.alloc (boxS k s))
  have e1 : (k == 1) = false := by simp; omega
  have e2 : (k == 2) = false := by simp; omega
  have e3 : (k == 3) = false := by simp; omega
  have e4 : (k == 4) = false := by simp; omega
  have e5 : (k == 5) = false := by simp; omega
  have e6 : (k == 6) = false := by simp; omega
  have e7 : (k == 7) = false := by simp; omega
  have e8 : (k == 8) = false := by simp; omega
  have e9 : (k == 9) = false := by simp; omega
  have e10 : (k == 10) = false := by simp; omega
  clear h hB hk
  unfold boxS at HB HH
  unfold strV at HB HH ⊢
  go_enter Try.func11, Try.ntmps11
  go_wp2
  go_ret2
  exact ⟨rfl, HH.out, HB.out⟩
end
end Go.Proofs.Ytcemfpbkaahcmaa
