/- do: a list told to both. -/
import Derived.Test.YtomfgopmgfoecaaPoDoR
import Derived.BigFrame
namespace Go.Proofs.Ytomfgopmgfoecaa
open Go.ChangeMaps Go.MapKept Go.Maps Go.RowKit Go.ChangeShapes Go.WideShapes Go.ChangeAt
set_option linter.unusedVariables false
set_option maxRecDepth 100000

/-- What a list told to both leaves. -/
def DoP (base ga : Nat) (F : Nat → Prop) (gr : Nat) (G : Nat → Prop) (M : List Sv) (m : Nat) (w w' : World) : Prop :=
  ∃ F' S' G' V' M', Duo base ga F' S' gr G' V' M' w' ∧ Below base w w' ∧ (∀ k, F' k → F k ∨ w.heap.size ≤ k) ∧ (∀ k, G' k → G k ∨ w.heap.size ≤ k) ∧ M'.length ≤ M.length + m
set_option maxRecDepth 1000000 in
set_option maxHeartbeats 16000000 in
theorem do_c {w0 w : World} {ga gr : Nat} {F G : Nat → Prop} {S : PoS} {V : List Sg} {M : List Sv} (D : Duo w0.heap.size ga F S gr G V M w) (hb : Below w0.heap.size w0 w) (A : Option Addr) (n c : Nat) (L : List Sv) (hn : n = L.length) (h : SvsAt w0 A L) (hs : ∀ v ∈ L, v.s.length ≤ 5000) (hM : M.length + L.length ≤ 1000) :
    Calls Try.prog 11 #[.pointer (some ⟨ga, 0, none⟩), .pointer (some ⟨gr, 0, none⟩), .slice A n c] w fun e w' => e = .returned (.bool true) ∧ DoP w0.heap.size ga F gr G M n w w' := by
  have HA := Lib.hid h.fix
  have HS := Lib.hid hs
  have HN := Lib.hid hn
  have HD := Lib.hid D
  have HB := Lib.hid hb
  have HM := Lib.hid hM
  have n9 : n ≤ 1000 := by omega
  obtain ⟨base, hbase⟩ : ∃ b, b = w0.heap.size := ⟨_, rfl⟩
  rw [← hbase] at HD HB HA ⊢
  clear h hs hn D hb hM hbase
  go_enter Try.func11, Try.ntmps11
  go_wp2_with fail
  go_loopw [7] (fun v7 u => ∃ (i : Nat) (F' : Nat → Prop) (S' : PoS) (G' : Nat → Prop) (V' : List Sg) (M' : List Sv), i ≤ n ∧ v7 = .int .i64 (i : Int) ∧ Duo base ga F' S' gr G' V' M' u ∧ Below base w u ∧ (∀ k, F' k → F k ∨ w.heap.size ≤ k) ∧ (∀ k, G' k → G k ∨ w.heap.size ≤ k) ∧ M'.length ≤ M.length + i) (fun v7 _ => n - (intOf v7).toNat)
  case atStart => exact ⟨0, F, S, G, V, M, Nat.zero_le _, rfl, HD.out, Below.refl _ _, fun k e => .inl e, fun k e => .inl e, Nat.le_refl _⟩
  case round =>
    obtain ⟨i, F1, S1, G1, V1, M1, hi, rfl, d, bx, f1, g1, ml⟩ := hrel
    have HD := Lib.hid d
    have BX := Lib.hid bx
    have FG := Lib.hid (And.intro f1 (And.intro g1 ml))
    clear d bx f1 g1 ml
    by_cases hin : i < n
    · obtain ⟨v, hv⟩ : ∃ v, L[i]? = some v := ⟨_, List.getElem?_eq_getElem (by have := HN.out; omega)⟩
      obtain ⟨g, o, B, cb, rfl, hg, hx⟩ := HA.out i v hv
      have HX := Lib.hid (And.intro hg hx)
      have LV := Lib.hid (HS.out v (List.mem_of_getElem? hv))
      have VL := Lib.hid (show V1.length ≤ 2000 by have := HD.out.told.lenV; have := FG.out.2.2; have := HM.out; have := HN.out; omega)
      have S0 := Lib.hid HD.out.size
      clear hv hg hx
      have q1 : (i : Int) < (n : Int) := by omega
      go_wp2_with fail
      refine do_r4 _ _ _ _ _ _ _ _ _ _ _ _ _ _ _ _ _ _ _ _ _ _ _ _ _ _ _ _ _ _ _ _ _ _ _ _ _ _ _ _ _ _ _ _ _ _ _ _ _ _ _ _ _ _ _ _ _ _ _ _ _ _ _ _ _ _ _ _ _ _ _ _ _ _ _ _ _ _ _ _ _ _ _ _ _ _ _ _ _ _ _ _ _ _ _ _ _ wr g o n c i ga gr (chk S1 v.n v.k v.s.length v.h v.st) F1 G1 S1 V1 v B cb hin HD.out.p HD.out.r (by have := VL.out; omega) (HX.out.2 _ (HB.out.trans BX.out)).1 (Nat.lt_of_lt_of_le HX.out.1 S0.out) rfl (HD.out.chk v) _ ?_
      intro u0 u1 u2 u3 u4 u5 u6 u7 u8 u9 u10 u11 u12 u13 u14 u15 u16 u17 u18 u19 u20 u21 u22 u23 u24 u25 u26 u27 u28 u29 u30 u31 u32 u33 w2 b2
      have HD2 := Lib.hid (HD.out.below b2)
      have B2 := Lib.hid (BX.out.trans (b2.mono S0.out))
      have Z2 := Lib.hid b2.size
      clear b2
      go_wp2_with fail
      refine do_r6 _ _ _ _ _ _ _ _ _ _ _ _ _ _ _ _ _ _ _ _ _ _ _ _ _ _ _ _ _ _ _ _ _ _ _ _ _ _ _ _ _ _ _ _ _ _ _ _ _ _ _ _ _ _ _ _ _ _ _ _ _ _ _ _ _ _ _ _ _ _ _ _ _ _ _ _ _ _ _ _ _ _ _ _ _ _ _ _ _ _ _ _ _ _ _ _ _ _ w2 g o n c i ga F1 S1 v B cb hin HD2.out.p (HX.out.2 _ (HB.out.trans B2.out)).1 ((HX.out.2 _ (HB.out.trans B2.out)).2.wide (Nat.le_refl _) HD2.out.size) (by have := LV.out; omega) (Nat.lt_of_lt_of_le HX.out.1 HD2.out.size) (fun e => by have := HD2.out.lf g e; have := HX.out.1; omega) _ ?_
      intro u0 u1 u2 u3 u4 u5 u6 u7 u8 u9 u10 u11 u12 u13 u14 u15 u16 u17 u18 u19 w3 r q F2 S2 ax
      have AX := Lib.hid ax
      have B3 := Lib.hid (B2.out.trans (ax.2.1.below HD2.out.size HD2.out.lf))
      have R3 := Lib.hid (HD2.out.r.kept ax.2.1 (fun k e e2 => HD2.out.fg k e2 e))
      have Z3 := Lib.hid ax.2.1.2.2.2.1
      clear ax
      go_wp2_with fail
      refine do_r7 _ _ _ _ _ _ _ _ _ _ _ _ _ _ _ _ _ _ _ _ _ _ _ _ _ _ _ _ _ _ _ _ _ _ _ _ _ _ _ _ _ _ _ _ _ _ _ _ _ _ _ _ _ _ _ _ _ _ _ _ _ _ _ _ _ _ _ _ _ _ _ _ _ _ _ _ _ _ _ _ _ _ _ _ _ _ _ _ _ _ _ _ _ _ _ _ _ _ w3 g o n c i gr G1 V1 v B cb hin R3.out (HX.out.2 _ (HB.out.trans B3.out)).1 ⟨by have := VL.out; omega, HD2.out.told.sts, HD2.out.told.one⟩ (Nat.lt_of_lt_of_le HX.out.1 (Nat.le_trans HD2.out.size Z3.out)) (fun e => by have := HD2.out.lg gr HD2.out.r.at_; have := HX.out.1; omega) _ ?_
      intro u0 u1 u2 u3 u4 u5 u6 u7 u8 u9 u10 u11 u12 u13 u14 u15 u16 u17 u18 u19 w4 r2 q2 G2 V2 ar
      obtain ⟨e1, e2, ⟨M2, ml2, d4⟩, b4, f4, g4⟩ := HD2.out.add (by have := FG.out.2.2; have := HM.out; have := HN.out; omega) AX.out ar (HX.out.2 _ (HB.out.trans B2.out)).2
      have HD4 := Lib.hid d4
      have B4 := Lib.hid (B2.out.trans b4)
      have FG4 := Lib.hid (show (∀ k, F2 k → F k ∨ w.heap.size ≤ k) ∧ (∀ k, G2 k → G k ∨ w.heap.size ≤ k) ∧ M2.length ≤ M.length + (i + 1) from ⟨fun k e => (f4 k e).elim (FG.out.1 k) (fun e2 => .inr (by have := B2.out.size; omega)), fun k e => (g4 k e).elim (FG.out.2.1 k) (fun e2 => .inr (by have := B2.out.size; omega)), by have := FG.out.2.2; omega⟩)
      subst e1
      subst e2
      clear ar d4 b4 f4 g4 ml2
      go_wp2_with fail
      exact ⟨⟨i + 1, F2, S2, G2, V2, M2, by omega, by go_num, HD4.out, B4.out, FG4.out⟩, by simp [intOf]; omega⟩
    · obtain rfl : i = n := by omega
      go_wp2_with fail
      go_ret
      exact ⟨rfl, F1, S1, G1, V1, M1, HD.out, BX.out, FG.out⟩
end Go.Proofs.Ytomfgopmgfoecaa
