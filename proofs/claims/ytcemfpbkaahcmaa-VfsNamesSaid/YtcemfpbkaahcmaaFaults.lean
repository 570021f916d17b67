/- Contract: the law of faults. -/
import Derived.Test.YtcemfpbkaahcmaaDoAppend
import Derived.Test.YtcemfpbkaahcmaaFaultP
namespace Go.Proofs.Ytcemfpbkaahcmaa
open Go.RowKit Go.Shelf
set_option linter.unusedVariables false

section
variable {w w' : World} {base p m : Nat} {S : DS} {n c : Int}
def DoF (w : World) (base p : Nat) (S : DS) (m : Nat) (n c : Int) (e : Ending) (w' : World) : Prop :=
  ∃ (r : Int) (S' : DS), e = .returned (.tuple #[.int .i64 r, .pointer (some ⟨p, 0, none⟩)]) ∧ Holds w' base p S' (m + 1) ∧ Below base w w' ∧ Took S (r, S') n c
theorem DoP.took {r : Int × DS} {e : Ending} (h : DoP w base p r (m + 1) e w') (ht : Took S r n c) : DoF w base p S m n c e w' := ⟨r.1, r.2, h.1, h.2.1, h.2.2, ht⟩
theorem do_fault (h : Holds w base p S m) (hm : m ≤ 1073741824) (s : Stp) {hi : Nat} (hs : StepOk w hi s) (hib : hi ≤ base) (hb : s.b.length ≤ 20000) (hF : Fa S n c) (hc : c ≠ 0) (h1 : 1 ≤ s.kind) (h7 : s.kind ≤ 7) :
    Calls Try.prog 11 #[.pointer (some ⟨p, 0, none⟩), .agg #[.int .i64 s.kind, .int .i64 s.n, .int .i64 s.e, strV s.name, strV s.to, .slice s.A s.b.length s.bc, .slice s.P s.picks.length s.pc]] w (DoF w base p S m n c) := by
  have hk : s.kind = 1 ∨ s.kind = 2 ∨ s.kind = 3 ∨ s.kind = 4 ∨ s.kind = 5 ∨ s.kind = 6 ∨ s.kind = 7 := by omega
  rcases hk with hk | hk | hk | hk | hk | hk | hk <;> rw [hk]
  · refine (do_make h hm s hs).mono fun e w' hq => hq.took ?_
    obtain ⟨hG, fb, lb, sv, rv, hM⟩ := h
    refine make_took hG hF hc _ ?_
    cases e : S.fl (w.heap.size + 1) with
    | none => rfl
    | some f => have := hM.fil.lt e; omega
  · exact (do_append h hm s hs hib hb).mono fun e w' hq => hq.took (append_took hF hc _ _)
  · exact (do_sync h hm s hs).mono fun e w' hq => hq.took (sync_took hF hc _)
  · exact (do_cut h hm s hs).mono fun e w' hq => hq.took (cut_took hF hc _ _)
  · exact (do_rename h hm s hs).mono fun e w' hq => hq.took (rename_took hF hc _ _)
  · exact (do_remove h hm s hs).mono fun e w' hq => hq.took (remove_took hF hc _)
  · exact (do_syncDir h hm s hs).mono fun e w' hq => hq.took (syncDir_took hF hc)
theorem room_disk (h : Holds w base p S m) (hm : m ≤ 1073741824) : Calls Try.prog 20 #[.pointer (some ⟨p, 0, none⟩)] w (RoomP w S.room) := by
  obtain ⟨hG, fb, lb, sv, rv, hM⟩ := h
  exact room_any hG hM hm
theorem RdS.all {hi : Nat} {A : Option Addr} {L : List Stp} (h : RdS w hi A L) {j : Nat} (hj : j < L.length) :
    ∃ b off, A = some ⟨b, off, none⟩ ∧ b < hi ∧ ∀ u : World, Below hi w u → StepOk u hi L[j] ∧ u.cell? ⟨b, off + j * 7, none⟩ = some (.int .i64 L[j].kind) ∧ u.cell? ⟨b, off + j * 7 + 1, none⟩ = some (.int .i64 L[j].n) ∧ u.cell? ⟨b, off + j * 7 + 2, none⟩ = some (.int .i64 L[j].e) ∧
      u.cell? ⟨b, off + j * 7 + 3, none⟩ = some (strV L[j].name) ∧ u.cell? ⟨b, off + j * 7 + 4, none⟩ = some (strV L[j].to) ∧ u.cell? ⟨b, off + j * 7 + 5, none⟩ = some (.slice L[j].A L[j].b.length L[j].bc) ∧ u.cell? ⟨b, off + j * 7 + 6, none⟩ = some (.slice L[j].P L[j].picks.length L[j].pc) := by
  obtain ⟨b, off, e, h1, hc⟩ := h (by omega)
  refine ⟨b, off, e, h1, fun u hu => ?_⟩
  obtain ⟨h2, h3⟩ := hc j _ (List.getElem?_eq_getElem hj)
  have hk : ∀ i v, (stepV L[j])[i]? = some v → u.cell? ⟨b, off + j * 7 + i, none⟩ = some v := fun i v hv => (hu.cell (p := ⟨b, off + j * 7 + i, none⟩) h1).trans (h3 i v hv)
  exact ⟨h2.below hu (Nat.le_refl _), hk 0 _ rfl, hk 1 _ rfl, hk 2 _ rfl, hk 3 _ rfl, hk 4 _ rfl, hk 5 _ rfl, hk 6 _ rfl⟩
def TrueP (w : World) (e : Ending) (w' : World) : Prop := e = .returned (.bool true) ∧ Below w.heap.size w w'
set_option maxRecDepth 100000 in
set_option maxHeartbeats 4000000 in
theorem vfsFaults_neg (w : World) (A : Option Addr) (cp : Nat) (L : List Stp) (n : Int) (full : Bool) (hR : RdS w w.heap.size A L) (hl : L.length ≤ 9223372036854775807) (h0 : n < 0) :
    Calls Try.prog 4 #[.slice A L.length cp, .int .i64 n, .bool full] w (TrueP w) := by
  have hmu := much_any w A cp L 60 (by omega) hR hl
  clear hR
  go_enter Try.func4, Try.ntmps4
  have hkn := fun u => known_any u
  go_wp2_with (first
    | (go_at_call 8; refine hmu.mono ?_; rintro e w1 ⟨b, rfl, hg, _⟩; have HG := Lib.hid hg; clear hg hmu; rcases b with _ | _)
    | (go_at_call 7; refine (hkn _).mono ?_; rintro e w2 ⟨rfl, hb⟩; have HB := Lib.hid hb; clear hb))
  all_goals
    go_ret
    exact ⟨rfl, (below_grown HG.out (Nat.le_refl _) (fun k e => by cases e)).trans (HB.out.mono HG.out.size)⟩
set_option maxRecDepth 100000 in
set_option maxHeartbeats 4000000 in
theorem vfsFaults_pos (w : World) (A : Option Addr) (cp : Nat) (L : List Stp) (n : Int) (full : Bool) (hR : RdS w w.heap.size A L) (hl : L.length ≤ 9223372036854775807) (h0 : 0 ≤ n) (h1 : n ≤ 9223372036854775807) (c : Int) (hc : c = if full = true then 5 else 9) :
    Calls Try.prog 4 #[.slice A L.length cp, .int .i64 n, .bool full] w (TrueP w) := by
  have hmu := much_any w A cp L 60 (by omega) hR hl
  have hnum := fun e u => num_any e u
  have hkn := fun u => known_any u
  have hnew := fun (u : World) => new_any (w := u) 30000 (by omega) (by omega)
  have HR := Lib.hid hR
  have hlay : ∀ (u : World) (b p : Nat), Holds u b p (newS 30000) 0 → ∃ S, Fa S n c ∧ Calls Try.prog 19 #[.pointer (some ⟨p, 0, none⟩), .int .i64 n, .int .i64 c] u (StepP u b p (0, S) 0) := fun u b p h => by
    have h2 := lay_disk h n c h1
    have e : (newS 30000).lay n c = (0, { newS 30000 with fa := n, fc := c }) := by
      unfold DS.lay
      rw [if_neg (by rw [hc]; split <;> omega)]
    rw [e] at h2
    refine ⟨_, ⟨rfl, rfl, ?_, ?_⟩, h2⟩
    · show n = if (0 : Int) ≤ n then n - 0 else 0
      rw [if_pos h0]; omega
    · show c = if (0 : Int) ≤ n then c else 0
      rw [if_pos h0]
  have HC := Lib.hid hc
  clear hR hc
  have hlay5 : full = true → c = 5 := fun h => by rw [HC.out, if_pos h]
  have hlay9 : full = false → c = 9 := fun h => by rw [HC.out, h]; rfl
  rcases full with _ | _
  · obtain rfl := hlay9 rfl
    clear hlay5 hlay9
    go_enter Try.func4, Try.ntmps4
    go_wp2_with (first
      | (go_at_call 8; refine hmu.mono ?_; rintro e w1 ⟨b, rfl, hg, hs⟩; have HG := Lib.hid hg; have HS := Lib.hid hs; clear hg hs hmu; rcases b with _ | _)
      | (go_at_call 7; refine (hkn _).mono ?_; rintro e w2 ⟨rfl, hb⟩; have HB := Lib.hid hb; clear hb)
      | (go_at_call 9; refine (hnew _).mono ?_; rintro e w2 ⟨p, rfl, hh, hb⟩; have hlay := hlay _ _ _ hh; obtain ⟨S0, hF0, hlay⟩ := hlay; have HF0 := Lib.hid hF0; have HB2 := Lib.hid hb; clear hb hF0 hh)
      | (go_at_call 19; refine hlay.mono ?_; rintro e w3 ⟨rfl, hh, hb⟩; have HH3 := Lib.hid hh; have HB3 := Lib.hid hb; clear hh hb hlay)
      | (go_at_call 10; refine (hnum _ _).mono ?_; rintro e w5 ⟨rfl, rfl⟩))
    · have hL := HS.out (by simp)
      have hb3 : Below w.heap.size w w3 := (below_grown HG.out (Nat.le_refl _) (fun k e => by cases e)).trans ((HB2.out.mono HG.out.size).trans (HB3.out.mono HG.out.size))
      have H60 := Lib.hid hL.1
      have HLB := Lib.hid hL.2
      have HBB := Lib.hid hb3
      have HGS := Lib.hid HG.out.size
      clear hb3 hL hnew
      go_loopw [10] (fun i wr => ∃ (j m : Nat) (S : DS), i = .int .i64 (j : Int) ∧ j ≤ L.length ∧ m ≤ j ∧ Holds wr w1.heap.size p S m ∧ Fa S n 9 ∧ Below w.heap.size w wr) (fun i _ => L.length - (intOf i).toNat)
      case atStart => exact ⟨0, 0, S0, rfl, by omega, Nat.le_refl _, HH3.out, HF0.out, HBB.out⟩
      case round =>
        obtain ⟨j, m, S, rfl, hj, hmj, hH, hF, hB⟩ := hrel
        have HH := Lib.hid hH
        have HF := Lib.hid hF
        have HB := Lib.hid hB
        by_cases hlt : j < L.length
        · have q2 : (j : Int) < (L.length : Int) := by omega
          obtain ⟨b, off, rfl, hbw, hall⟩ := HR.out.all hlt
          have hbb := HLB.out _ (List.getElem_mem hlt)
          obtain ⟨s, hss⟩ : ∃ s, s = L[j] := ⟨_, rfl⟩
          rw [← hss] at hall hbb
          have HALL := Lib.hid hall
          have h2 := hall _ hB
          obtain ⟨hok, c0, _⟩ := h2
          have HBS := Lib.hid hbb.1
          have HM := Lib.hid (show m ≤ 1073741824 by have := H60.out; omega)
          clear hss hall hbb
          by_cases hk : s.kind < 1 ∨ 7 < s.kind
          · clear hok hH hF hB
            rcases hk with hk | hk
            · go_wp2
              refine ⟨⟨j + 1, m, S, by go_num, by omega, by omega, HH.out, HF.out, HB.out⟩, by simp [intOf]; omega⟩
            · have hk1 : ¬ s.kind < 1 := by omega
              go_wp2
              refine ⟨⟨j + 1, m, S, by go_num, by omega, by omega, HH.out, HF.out, HB.out⟩, by simp [intOf]; omega⟩
          · have hk1 : ¬ s.kind < 1 := fun h => hk (.inl h)
            have hk7 : ¬ 7 < s.kind := fun h => hk (.inr h)
            have hchg := changes_disk hH
            have hroom := room_disk hH HM.out
            clear hk hH hF hB
            go_upto_region 18 with (first
              | (go_at_call 14; refine hchg.mono ?_; rintro e w4 ⟨rfl, rfl⟩)
              | (go_at_call 20; refine hroom.mono ?_; rintro e w4 ⟨rfl, hb⟩; have hB4 := HB.out.trans (hb.mono HB.out.size); obtain ⟨hok4, d0, d1, d2, d3, d4, d5, d6⟩ := HALL.out _ hB4; have HB4 := Lib.hid hB4; have hdo := do_fault (HH.out.below hb (Nat.le_refl _)) HM.out s hok4 HGS.out HBS.out HF.out (by omega) (by omega) (by omega); clear hb hB4 hok4)
              | (go_at_call 11; refine hdo.mono ?_; rintro e w5 ⟨r, S', rfl, hH5, hB5, ht⟩; have HH5 := Lib.hid hH5; have HB5 := Lib.hid hB5; have HT := Lib.hid ht; clear hdo ht hB5 hH5 d0 d1 d2 d3 d4 d5 d6)
              | fail)
            have hchg5 := changes_disk HH5.out
            have hroom5 := room_disk HH5.out (by have := HM.out; have := H60.out; omega)
            have hch0 : 0 ≤ S.ch ∧ S.ch ≤ 100 := by
              obtain ⟨hG, _⟩ := HH.out
              have h1 := hG.ch1
              have h2 := hG.ch2
              have := H60.out
              omega
            clear c0 hok hchg hroom
            rcases HT.out with ⟨e1, e2, hF5⟩ | ⟨e1, e2, hF5, hr5⟩
            · have HF5 := Lib.hid hF5
              clear hF5 HT
              simp only at e1 e2
              rw [e1] at hchg5
              have p1 : (S.ch == S.ch + 1) = false := by rw [beq_eq_false_iff_ne]; omega
              have p2 : (r == 0) = false := by simpa using e2
              by_cases hy : r = 9
              · subst hy
                clear e1 e2 hroom5
                go_wp2_with (first
                  | (go_at_call 14; refine hchg5.mono ?_; rintro e w6 ⟨rfl, rfl⟩)
                  | (go_at_call 20; refine hroom5.mono ?_; rintro e w7 ⟨rfl, hb⟩; have HB7 := Lib.hid hb; clear hb)
                  | (go_at_call 10; refine (hnum _ _).mono ?_; rintro e w6 ⟨rfl, rfl⟩)
                  | fail)
                refine ⟨⟨j + 1, m + 1, S', by go_num, by omega, by omega, HH5.out, HF5.out, HB4.out.trans (HB5.out.mono HGS.out)⟩, by simp [intOf]; omega⟩
              · have p3 : (r == 9) = false := by simpa using hy
                clear e1 e2 hroom5
                go_wp2_with (first
                  | (go_at_call 14; refine hchg5.mono ?_; rintro e w6 ⟨rfl, rfl⟩)
                  | (go_at_call 20; refine hroom5.mono ?_; rintro e w7 ⟨rfl, hb⟩; have HB7 := Lib.hid hb; clear hb)
                  | (go_at_call 10; refine (hnum _ _).mono ?_; rintro e w6 ⟨rfl, rfl⟩)
                  | fail)
                refine ⟨⟨j + 1, m + 1, S', by go_num, by omega, by omega, HH5.out, HF5.out, HB4.out.trans (HB5.out.mono HGS.out)⟩, by simp [intOf]; omega⟩
            · have HF5 := Lib.hid hF5
              clear hF5 HT
              simp only at e1 e2 hr5
              rw [e1] at hchg5
              have p1 : (S.ch + 1 == S.ch) = false := by rw [beq_eq_false_iff_ne]; omega
              by_cases hy : S.ch = n
              · rw [if_pos hy] at e2
                have p3 : (S.ch == n) = true := by simpa using hy
                clear hroom5
                clear hr5
                subst e2
                clear e1
                go_wp2_with (first
                  | (go_at_call 14; refine hchg5.mono ?_; rintro e w6 ⟨rfl, rfl⟩)
                  | (go_at_call 20; refine hroom5.mono ?_; rintro e w7 ⟨rfl, hb⟩; have HB7 := Lib.hid hb; clear hb)
                  | (go_at_call 10; refine (hnum _ _).mono ?_; rintro e w6 ⟨rfl, rfl⟩)
                  | fail)
                refine ⟨⟨j + 1, m + 1, S', by go_num, by omega, by omega, HH5.out, HF5.out, HB4.out.trans (HB5.out.mono HGS.out)⟩, by simp [intOf]; omega⟩
              · rw [if_neg hy] at e2
                have p3 : (S.ch == n) = false := by simpa using hy
                clear hroom5 hr5
                subst e2
                clear e1
                go_wp2_with (first
                  | (go_at_call 14; refine hchg5.mono ?_; rintro e w6 ⟨rfl, rfl⟩)
                  | (go_at_call 20; refine hroom5.mono ?_; rintro e w7 ⟨rfl, hb⟩; have HB7 := Lib.hid hb; clear hb)
                  | (go_at_call 10; refine (hnum _ _).mono ?_; rintro e w6 ⟨rfl, rfl⟩)
                  | fail)
                refine ⟨⟨j + 1, m + 1, S', by go_num, by omega, by omega, HH5.out, HF5.out, HB4.out.trans (HB5.out.mono HGS.out)⟩, by simp [intOf]; omega⟩
        · have hjl : j = L.length := by omega
          subst hjl
          have q2 : ¬ (L.length : Int) < (L.length : Int) := by omega
          clear hlt hH hF hB
          go_wp2_with (go_at_call 7; refine (hkn _).mono ?_; rintro e w6 ⟨rfl, hb⟩; have HB6 := Lib.hid hb; clear hb)
          go_ret
          exact ⟨rfl, HB.out.trans (HB6.out.mono HB.out.size)⟩
    · go_ret
      exact ⟨rfl, (below_grown HG.out (Nat.le_refl _) (fun k e => by cases e)).trans (HB.out.mono HG.out.size)⟩
  · obtain rfl := hlay5 rfl
    clear hlay5 hlay9
    go_enter Try.func4, Try.ntmps4
    go_wp2_with (first
      | (go_at_call 8; refine hmu.mono ?_; rintro e w1 ⟨b, rfl, hg, hs⟩; have HG := Lib.hid hg; have HS := Lib.hid hs; clear hg hs hmu; rcases b with _ | _)
      | (go_at_call 7; refine (hkn _).mono ?_; rintro e w2 ⟨rfl, hb⟩; have HB := Lib.hid hb; clear hb)
      | (go_at_call 9; refine (hnew _).mono ?_; rintro e w2 ⟨p, rfl, hh, hb⟩; have hlay := hlay _ _ _ hh; obtain ⟨S0, hF0, hlay⟩ := hlay; have HF0 := Lib.hid hF0; have HB2 := Lib.hid hb; clear hb hF0 hh)
      | (go_at_call 19; refine hlay.mono ?_; rintro e w3 ⟨rfl, hh, hb⟩; have HH3 := Lib.hid hh; have HB3 := Lib.hid hb; clear hh hb hlay)
      | (go_at_call 10; refine (hnum _ _).mono ?_; rintro e w5 ⟨rfl, rfl⟩))
    · have hL := HS.out (by simp)
      have hb3 : Below w.heap.size w w3 := (below_grown HG.out (Nat.le_refl _) (fun k e => by cases e)).trans ((HB2.out.mono HG.out.size).trans (HB3.out.mono HG.out.size))
      have H60 := Lib.hid hL.1
      have HLB := Lib.hid hL.2
      have HBB := Lib.hid hb3
      have HGS := Lib.hid HG.out.size
      clear hb3 hL hnew
      go_loopw [10] (fun i wr => ∃ (j m : Nat) (S : DS), i = .int .i64 (j : Int) ∧ j ≤ L.length ∧ m ≤ j ∧ Holds wr w1.heap.size p S m ∧ Fa S n 5 ∧ Below w.heap.size w wr) (fun i _ => L.length - (intOf i).toNat)
      case atStart => exact ⟨0, 0, S0, rfl, by omega, Nat.le_refl _, HH3.out, HF0.out, HBB.out⟩
      case round =>
        obtain ⟨j, m, S, rfl, hj, hmj, hH, hF, hB⟩ := hrel
        have HH := Lib.hid hH
        have HF := Lib.hid hF
        have HB := Lib.hid hB
        by_cases hlt : j < L.length
        · have q2 : (j : Int) < (L.length : Int) := by omega
          obtain ⟨b, off, rfl, hbw, hall⟩ := HR.out.all hlt
          have hbb := HLB.out _ (List.getElem_mem hlt)
          obtain ⟨s, hss⟩ : ∃ s, s = L[j] := ⟨_, rfl⟩
          rw [← hss] at hall hbb
          have HALL := Lib.hid hall
          have h2 := hall _ hB
          obtain ⟨hok, c0, _⟩ := h2
          have HBS := Lib.hid hbb.1
          have HM := Lib.hid (show m ≤ 1073741824 by have := H60.out; omega)
          clear hss hall hbb
          by_cases hk : s.kind < 1 ∨ 7 < s.kind
          · clear hok hH hF hB
            rcases hk with hk | hk
            · go_wp2
              refine ⟨⟨j + 1, m, S, by go_num, by omega, by omega, HH.out, HF.out, HB.out⟩, by simp [intOf]; omega⟩
            · have hk1 : ¬ s.kind < 1 := by omega
              go_wp2
              refine ⟨⟨j + 1, m, S, by go_num, by omega, by omega, HH.out, HF.out, HB.out⟩, by simp [intOf]; omega⟩
          · have hk1 : ¬ s.kind < 1 := fun h => hk (.inl h)
            have hk7 : ¬ 7 < s.kind := fun h => hk (.inr h)
            have hchg := changes_disk hH
            have hroom := room_disk hH HM.out
            clear hk hH hF hB
            go_upto_region 18 with (first
              | (go_at_call 14; refine hchg.mono ?_; rintro e w4 ⟨rfl, rfl⟩)
              | (go_at_call 20; refine hroom.mono ?_; rintro e w4 ⟨rfl, hb⟩; have hB4 := HB.out.trans (hb.mono HB.out.size); obtain ⟨hok4, d0, d1, d2, d3, d4, d5, d6⟩ := HALL.out _ hB4; have HB4 := Lib.hid hB4; have hdo := do_fault (HH.out.below hb (Nat.le_refl _)) HM.out s hok4 HGS.out HBS.out HF.out (by omega) (by omega) (by omega); clear hb hB4 hok4)
              | (go_at_call 11; refine hdo.mono ?_; rintro e w5 ⟨r, S', rfl, hH5, hB5, ht⟩; have HH5 := Lib.hid hH5; have HB5 := Lib.hid hB5; have HT := Lib.hid ht; clear hdo ht hB5 hH5 d0 d1 d2 d3 d4 d5 d6)
              | fail)
            have hchg5 := changes_disk HH5.out
            have hroom5 := room_disk HH5.out (by have := HM.out; have := H60.out; omega)
            have hch0 : 0 ≤ S.ch ∧ S.ch ≤ 100 := by
              obtain ⟨hG, _⟩ := HH.out
              have h1 := hG.ch1
              have h2 := hG.ch2
              have := H60.out
              omega
            clear c0 hok hchg hroom
            rcases HT.out with ⟨e1, e2, hF5⟩ | ⟨e1, e2, hF5, hr5⟩
            · have HF5 := Lib.hid hF5
              clear hF5 HT
              simp only at e1 e2
              rw [e1] at hchg5
              have p1 : (S.ch == S.ch + 1) = false := by rw [beq_eq_false_iff_ne]; omega
              have p2 : (r == 0) = false := by simpa using e2
              by_cases hy : r = 5
              · subst hy
                clear e1 e2 hroom5
                go_wp2_with (first
                  | (go_at_call 14; refine hchg5.mono ?_; rintro e w6 ⟨rfl, rfl⟩)
                  | (go_at_call 20; refine hroom5.mono ?_; rintro e w7 ⟨rfl, hb⟩; have HB7 := Lib.hid hb; clear hb)
                  | (go_at_call 10; refine (hnum _ _).mono ?_; rintro e w6 ⟨rfl, rfl⟩)
                  | fail)
                refine ⟨⟨j + 1, m + 1, S', by go_num, by omega, by omega, HH5.out, HF5.out, HB4.out.trans (HB5.out.mono HGS.out)⟩, by simp [intOf]; omega⟩
              · have p3 : (r == 5) = false := by simpa using hy
                clear e1 e2 hroom5
                go_wp2_with (first
                  | (go_at_call 14; refine hchg5.mono ?_; rintro e w6 ⟨rfl, rfl⟩)
                  | (go_at_call 20; refine hroom5.mono ?_; rintro e w7 ⟨rfl, hb⟩; have HB7 := Lib.hid hb; clear hb)
                  | (go_at_call 10; refine (hnum _ _).mono ?_; rintro e w6 ⟨rfl, rfl⟩)
                  | fail)
                refine ⟨⟨j + 1, m + 1, S', by go_num, by omega, by omega, HH5.out, HF5.out, HB4.out.trans (HB5.out.mono HGS.out)⟩, by simp [intOf]; omega⟩
            · have HF5 := Lib.hid hF5
              clear hF5 HT
              simp only at e1 e2 hr5
              rw [e1] at hchg5
              have p1 : (S.ch + 1 == S.ch) = false := by rw [beq_eq_false_iff_ne]; omega
              by_cases hy : S.ch = n
              · rw [if_pos hy] at e2
                have p3 : (S.ch == n) = true := by simpa using hy
                rw [hr5 hy (by first | rfl | trivial)] at hroom5
                clear hr5
                subst e2
                clear e1
                go_wp2_with (first
                  | (go_at_call 14; refine hchg5.mono ?_; rintro e w6 ⟨rfl, rfl⟩)
                  | (go_at_call 20; refine hroom5.mono ?_; rintro e w7 ⟨rfl, hb⟩; have HB7 := Lib.hid hb; clear hb)
                  | (go_at_call 10; refine (hnum _ _).mono ?_; rintro e w6 ⟨rfl, rfl⟩)
                  | fail)
                refine ⟨⟨j + 1, m + 1, S', by go_num, by omega, by omega, HH5.out.below HB7.out (Nat.le_refl _), HF5.out, HB4.out.trans ((HB5.out.mono HGS.out).trans (HB7.out.mono (by have h1 := HB4.out.size; have h2 := HB5.out.size; omega)))⟩, by simp [intOf]; omega⟩
              · rw [if_neg hy] at e2
                have p3 : (S.ch == n) = false := by simpa using hy
                clear hroom5 hr5
                subst e2
                clear e1
                go_wp2_with (first
                  | (go_at_call 14; refine hchg5.mono ?_; rintro e w6 ⟨rfl, rfl⟩)
                  | (go_at_call 20; refine hroom5.mono ?_; rintro e w7 ⟨rfl, hb⟩; have HB7 := Lib.hid hb; clear hb)
                  | (go_at_call 10; refine (hnum _ _).mono ?_; rintro e w6 ⟨rfl, rfl⟩)
                  | fail)
                refine ⟨⟨j + 1, m + 1, S', by go_num, by omega, by omega, HH5.out, HF5.out, HB4.out.trans (HB5.out.mono HGS.out)⟩, by simp [intOf]; omega⟩
        · have hjl : j = L.length := by omega
          subst hjl
          have q2 : ¬ (L.length : Int) < (L.length : Int) := by omega
          clear hlt hH hF hB
          go_wp2_with (go_at_call 7; refine (hkn _).mono ?_; rintro e w6 ⟨rfl, hb⟩; have HB6 := Lib.hid hb; clear hb)
          go_ret
          exact ⟨rfl, HB.out.trans (HB6.out.mono HB.out.size)⟩
    · go_ret
      exact ⟨rfl, (below_grown HG.out (Nat.le_refl _) (fun k e => by cases e)).trans (HB.out.mono HG.out.size)⟩
end
end Go.Proofs.Ytcemfpbkaahcmaa
