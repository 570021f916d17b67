/- Words for memory: a slice of steps. Contract: are they more than is gone through? -/
import Derived.Test.YtcemfpbkaahcmaaKnown4
import Derived.BigRegion
import Derived.Deep.QuietTactic
import Derived.BigQuiet
namespace Go.Proofs.Ytcemfpbkaahcmaa
open Go.RowKit Go.Shelf
set_option linter.unusedVariables false

/-- A step, with where its slices lie. -/
structure Stp where
  kind : Int
  n : Int
  e : Int
  name : Str
  to : Str
  A : Option Addr
  b : List UInt8
  bc : Nat
  P : Option Addr
  picks : List Int
  pc : Nat
def stepV (s : Stp) : List Value := [.int .i64 s.kind, .int .i64 s.n, .int .i64 s.e, strV s.name, strV s.to, .slice s.A s.b.length s.bc, .slice s.P s.picks.length s.pc]
structure StepOk (w : World) (hi : Nat) (s : Stp) : Prop where
  rb : Rd w 0 hi s.A s.b
  rp : RdI w hi s.P s.picks
  b1 : s.b.length ≤ s.bc
  b2 : s.bc ≤ maxLen
  p1 : s.picks.length ≤ s.pc
  p2 : s.pc ≤ maxLen
  nm : s.name.length ≤ maxLen
  to : s.to.length ≤ maxLen
  n2 : s.n ≤ 9223372036854775807
/-- The slice at A reads as these steps, in blocks below hi. -/
def RdS (w : World) (hi : Nat) (A : Option Addr) (L : List Stp) : Prop :=
  0 < L.length → ∃ b off, A = some ⟨b, off, none⟩ ∧ b < hi ∧ ∀ j s, L[j]? = some s → StepOk w hi s ∧ ∀ i v, (stepV s)[i]? = some v → w.cell? ⟨b, off + j * 7 + i, none⟩ = some v
theorem StepOk.below {w w' : World} {hi B : Nat} {s : Stp} (h : StepOk w hi s) (hb : Below B w w') (hB : hi ≤ B) : StepOk w' hi s := { h with rb := h.rb.below hb hB, rp := h.rp.below hb hB }
theorem RdS.below {w w' : World} {hi B : Nat} {A : Option Addr} {L : List Stp} (h : RdS w hi A L) (hb : Below B w w') (hB : hi ≤ B) : RdS w' hi A L := fun hn => by
  obtain ⟨b, off, e, h1, hc⟩ := h hn
  exact ⟨b, off, e, h1, fun j s hs => ⟨(hc j s hs).1.below hb hB, fun i v hv => (hb.cell (p := ⟨b, off + j * 7 + i, none⟩) (by show b < B; omega)).trans ((hc j s hs).2 i v hv)⟩⟩
theorem RdS.at_ {w : World} {hi : Nat} {A : Option Addr} {L : List Stp} (h : RdS w hi A L) {j : Nat} (hj : j < L.length) :
    ∃ b off, A = some ⟨b, off, none⟩ ∧ b < hi ∧ StepOk w hi L[j] ∧ w.cell? ⟨b, off + j * 7, none⟩ = some (.int .i64 L[j].kind) ∧ w.cell? ⟨b, off + j * 7 + 1, none⟩ = some (.int .i64 L[j].n) ∧ w.cell? ⟨b, off + j * 7 + 2, none⟩ = some (.int .i64 L[j].e) ∧
      w.cell? ⟨b, off + j * 7 + 3, none⟩ = some (strV L[j].name) ∧ w.cell? ⟨b, off + j * 7 + 4, none⟩ = some (strV L[j].to) ∧ w.cell? ⟨b, off + j * 7 + 5, none⟩ = some (.slice L[j].A L[j].b.length L[j].bc) ∧ w.cell? ⟨b, off + j * 7 + 6, none⟩ = some (.slice L[j].P L[j].picks.length L[j].pc) := by
  obtain ⟨b, off, e, h1, hc⟩ := h (by omega)
  obtain ⟨h2, h3⟩ := hc j _ (List.getElem?_eq_getElem hj)
  exact ⟨b, off, e, h1, h2, h3 0 _ rfl, h3 1 _ rfl, h3 2 _ rfl, h3 3 _ rfl, h3 4 _ rfl, h3 5 _ rfl, h3 6 _ rfl⟩
def MuchP (w : World) (L : List Stp) (most : Nat) (e : Ending) (w' : World) : Prop :=
  ∃ b, e = .returned (.bool b) ∧ w.grownBy w' none ∧ (b = false → L.length ≤ most ∧ ∀ s ∈ L, s.b.length ≤ 20000 ∧ s.picks.length ≤ 20000)
theorem take_snocS (L : List Stp) (k : Nat) (h : k < L.length) : L.take (k + 1) = L.take k ++ [L[k]] := List.take_succ_eq_append_getElem h
set_option maxHeartbeats 4000000 in
theorem much_any (w : World) (A : Option Addr) (c : Nat) (L : List Stp) (most : Nat) (hm : most ≤ 1000) (h : RdS w w.heap.size A L) (hl : L.length ≤ 9223372036854775807) :
    Calls Try.prog 8 #[.slice A L.length c, .int .i64 (most : Int)] w (MuchP w L most) := by
  have HR := Lib.hid h
  clear h
  go_enter Try.func8, Try.ntmps8
  go_wp2
  go_loopw [5, 6] (fun n i wr => ∃ (t j : Nat), t ≤ 20000 ∧ j ≤ L.length ∧ j ≤ most + 1 ∧ n = .int .i64 (t : Int) ∧ i = .int .i64 (j : Int) ∧ (∀ s ∈ L.take j, s.b.length ≤ 20000 ∧ s.picks.length ≤ 20000) ∧ w.grownBy wr none) (fun _ i _ => most + 1 - (intOf i).toNat)
  case atStart => exact ⟨0, 0, by omega, by omega, by omega, rfl, rfl, fun s hs => by simp at hs, World.grownBy.refl _ _⟩
  case round =>
    obtain ⟨t, j, ht, hj, hjm, rfl, rfl, hs, hg⟩ := hrel
    by_cases hlt : j < L.length ∧ j ≤ most
    · obtain ⟨hlt, hle⟩ := hlt
      obtain ⟨b, off, rfl, hb, hok, c0, c1, c2, c3, c4, c5, c6⟩ := (HR.out.below (B := w.heap.size) ⟨hg.os, hg.tape, hg.output, hg.size, fun k hk => hg.block k hk (by simp)⟩ (Nat.le_refl _)).at_ hlt
      obtain ⟨s, hss⟩ : ∃ s, s = L[j] := ⟨_, rfl⟩
      rw [← hss] at hok c0 c1 c2 c3 c4 c5 c6
      have HS := Lib.hid hs
      have HSS := Lib.hid hss
      have HG := Lib.hid hg
      have l1 : s.b.length ≤ 9223372036854775807 := by have := hok.b1; have := hok.b2; unfold maxLen at this; omega
      have l2 : s.picks.length ≤ 9223372036854775807 := by have := hok.p1; have := hok.p2; unfold maxLen at this; omega
      have l3 : s.name.length ≤ 9223372036854775807 := by have := hok.nm; unfold maxLen at this; omega
      have l4 : s.to.length ≤ 9223372036854775807 := by have := hok.to; unfold maxLen at this; omega
      have hlt' : (j : Int) < (L.length : Int) := by omega
      have hle' : (j : Int) ≤ (most : Int) := by omega
      unfold strV at c3 c4
      clear hs hss hok hg
      go_wp2_with fail
      go_quiet (fail)
      have e : ((t : Int) + min (s.b.length : Int) 20001 + min (s.name.length : Int) 20001 + min (s.to.length : Int) 20001 + min (s.picks.length : Int) 20001) = ((t + min s.b.length 20001 + min s.name.length 20001 + min s.to.length 20001 + min s.picks.length 20001 : Nat) : Int) := by omega
      rw [e]
      clear e c0 c1 c2 c3 c4 c5 c6
      obtain ⟨t2, ht2⟩ : ∃ t2, t2 = t + min s.b.length 20001 + min s.name.length 20001 + min s.to.length 20001 + min s.picks.length 20001 := ⟨_, rfl⟩
      rw [← ht2]
      have HT2 := Lib.hid ht2
      clear ht2
      have hgd : w.grownBy (wr.drewN nq) none := ⟨HG.out.os, HG.out.tape, HG.out.output, HG.out.size, HG.out.block⟩
      have HGD := Lib.hid hgd
      clear hgd
      by_cases hbig : 20000 < t2
      · have q : (20000 : Int) < (t2 : Int) := by omega
        go_wp2
        go_ret
        exact ⟨true, rfl, HGD.out, fun h => by cases h⟩
      · have q : ¬ (20000 : Int) < (t2 : Int) := by omega
        have HT3 := Lib.hid (show t2 ≤ 20000 by omega)
        clear hbig
        go_wp2
        go_roundw
        case rel =>
          refine ⟨t2, j + 1, HT3.out, by omega, by omega, rfl, by go_num, fun x hx => ?_, HGD.out⟩
          rw [take_snocS L j hlt] at hx
          rcases List.mem_append.1 hx with hx | hx
          · exact HS.out x hx
          · obtain rfl : x = L[j] := by simpa using hx
            rw [← HSS.out]
            have := HT2.out
            have := HT3.out
            omega
        case measure => simp [intOf]; omega
    · have HSS := Lib.hid (show (L.length ≤ most) ∨ (most < L.length) by omega)
      have HG := Lib.hid hg
      have HS := Lib.hid hs
      by_cases hle : L.length ≤ most
      · have hjl : j = L.length := by omega
        subst hjl
        have q : ¬ (L.length : Int) < (L.length : Int) := by omega
        have q2 : ¬ (most : Int) < (L.length : Int) := by omega
        clear hlt hg hs
        go_wp2
        go_ret
        have hall := HS.out
        rw [List.take_length] at hall
        exact ⟨_, rfl, HG.out, fun _ => ⟨hle, hall⟩⟩
      · have q2 : (most : Int) < (L.length : Int) := by omega
        have hjm2 : j = most + 1 ∨ j = L.length := by omega
        clear hlt hg hs
        rcases hjm2 with rfl | rfl
        · by_cases hml : most + 1 < L.length
          · have q3 : ((most : Int) + 1) < (L.length : Int) := by omega
            have q4 : ¬ ((most : Int) + 1) ≤ (most : Int) := by omega
            go_wp2
            all_goals go_ret
            all_goals exact ⟨_, rfl, HG.out, fun h => by first | (simp at h; omega) | cases h⟩
          · have q3 : ¬ ((most : Int) + 1) < (L.length : Int) := by omega
            go_wp2
            all_goals go_ret
            all_goals exact ⟨_, rfl, HG.out, fun h => by first | (simp at h; omega) | cases h⟩
        · have q : ¬ (L.length : Int) < (L.length : Int) := by omega
          go_wp2
          all_goals go_ret
          all_goals exact ⟨_, rfl, HG.out, fun h => by first | (simp at h; omega) | cases h⟩
end Go.Proofs.Ytcemfpbkaahcmaa
