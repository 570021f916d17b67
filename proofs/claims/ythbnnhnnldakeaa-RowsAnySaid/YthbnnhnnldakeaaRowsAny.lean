/- The walk of RowsAny. -/
import Derived.Test.YthbnnhnnldakeaaRefNum
import Derived.Deep.CutBlock
import Derived.Deep.RegionLaw
import Derived.Deep.RegionHeld3
namespace Go.Proofs.Ythbnnhnnldakeaa
open Go.ChangeShapes Go.WideShapes Go.ChangeAt Go.RowKit
set_option linter.unusedVariables false

def big2 (a b : Nat) : Bool := decide (6000 < a ∨ 200 < b)

/-- Wants that came in. -/
def RdW (w : World) (hi : Nat) (A : Option Addr) (L : List (Int × Int)) : Prop :=
  0 < L.length → ∃ b off, A = some ⟨b, off, none⟩ ∧ b < hi ∧ ∀ j x, L[j]? = some x → w.cell? ⟨b, off + j * 2, none⟩ = some (.int .i64 x.1) ∧ w.cell? ⟨b, off + j * 2 + 1, none⟩ = some (.int .i64 x.2)

/-- Both readers, in the same state; nothing that was there has changed. -/
structure Inv (w : World) (lo p p3 : Nat) (A : Option Addr) (c : Nat) (b : List UInt8) (st : Option (List UInt8)) (wr : World) : Prop where
  rs : RS wr lo p st
  rr : RR wr p3 A c b st
  bel : Below w.heap.size w wr
  l1 : w.heap.size ≤ lo
  l2 : lo ≤ p
  l3 : p < p3
  l4 : p3 < wr.heap.size

theorem RS.far {w : World} {lo p : Nat} {st : Option (List UInt8)} {a : Addr} {v : Value} (h : RS w lo p st) (hne : p ≠ a.block) (ho : a.block < lo ∨ p ≤ a.block) : RS (w.setCell a v) lo p st := by
  cases st with
  | none => exact (Below.heap_setCell w a v p hne).trans h
  | some l =>
    obtain ⟨A, h1, h2, h3⟩ := h
    refine ⟨A, (Below.heap_setCell w a v p hne).trans h1, h2.keep fun q hq1 hq2 => World.cell?_setCell_other w a q v (fun e => ?_), h3⟩
    subst e
    omega
theorem RR.far {w : World} {p : Nat} {A : Option Addr} {c : Nat} {b : List UInt8} {st : Option (List UInt8)} {a : Addr} {v : Value} (h : RR w p A c b st) (hne : p ≠ a.block) : RR (w.setCell a v) p A c b st := by
  obtain ⟨k, h1, h2, h3⟩ := h
  exact ⟨k, h1, (Below.heap_setCell w a v p hne).trans h2, h3⟩
theorem RR.grown {w w' : World} {p : Nat} {A : Option Addr} {c : Nat} {b : List UInt8} {st : Option (List UInt8)} {row : Option Nat} (h : RR w p A c b st) (hg : w.grownBy w' row) (hne : some p ≠ row) (hp : p < w.heap.size) : RR w' p A c b st := by
  obtain ⟨k, h1, h2, h3⟩ := h
  exact ⟨k, h1, (hg.block p hp hne).trans h2, h3⟩
theorem RS.grown {w w' : World} {lo p : Nat} {st : Option (List UInt8)} {g : Nat} (h : RS w lo p st) (hg : w.grownBy w' (some g)) (hne : p < g) : RS w' lo p st := by
  have hp := h.lt
  cases st with
  | none => exact (hg.block p hp (by simp; omega)).trans h
  | some l =>
    obtain ⟨A, h1, h2, h3⟩ := h
    exact ⟨A, (hg.block p hp (by simp; omega)).trans h1, h2.grown hg (by omega) (fun g' e => by injection e with e; omega), h3⟩
section
variable {w wr w' : World} {lo p p3 : Nat} {A : Option Addr} {c : Nat} {b : List UInt8} {st : Option (List UInt8)}
theorem Inv.set (h : Inv w lo p p3 A c b st wr) {a : Addr} (v : Value) (h1 : w.heap.size ≤ a.block) (h2 : a.block < lo ∨ p3 < a.block) : Inv w lo p p3 A c b st (wr.setCell a v) := by
  have := h.l2; have := h.l3
  exact ⟨h.rs.far (by omega) (by omega), h.rr.far (by omega), h.bel.setCell h1 _, h.l1, h.l2, h.l3, by simpa [World.setCell] using h.l4⟩
theorem Inv.drewN (h : Inv w lo p p3 A c b st wr) (n : Nat) : Inv w lo p p3 A c b st (wr.drewN n) := by
  refine ⟨?_, h.rr.drewN n, ⟨h.bel.os, h.bel.tape, h.bel.output, h.bel.size, h.bel.block⟩, h.l1, h.l2, h.l3, h.l4⟩
  have := h.rs
  cases st with
  | none => exact this
  | some l => exact this
/-- The wire's reader has gone on. -/
theorem Inv.left (h : Inv w lo p p3 A c b st wr) (hg : wr.grownBy w' (some p)) : RR w' p3 A c b st ∧ Below w.heap.size w w' ∧ p3 < w'.heap.size := by
  have := h.l1; have := h.l2; have := h.l3; have := h.l4
  exact ⟨h.rr.grown hg (by simp; omega) h.l4, h.bel.grown hg h.bel.size (fun k e => by injection e with e; omega), Nat.lt_of_lt_of_le h.l4 hg.size⟩
theorem Inv.drew (h : Inv w lo p p3 A c b st wr) : Inv w lo p p3 A c b st wr.drew := by
  refine ⟨?_, h.rr, ⟨h.bel.os, h.bel.tape, h.bel.output, h.bel.size, h.bel.block⟩, h.l1, h.l2, h.l3, h.l4⟩
  have := h.rs
  cases st with
  | none => exact this
  | some l => exact this
/-- Both have gone on. -/
theorem Inv.both {w4 w5 : World} {st' : Option (List UInt8)} (h : Inv w lo p p3 A c b st wr) (hg : wr.grownBy w4 (some p)) (hR : RS w4 lo p st') (hg2 : w4.grownBy w5 (some p3)) (hR2 : RR w5 p3 A c b st') : Inv w lo p p3 A c b st' w5 := by
  obtain ⟨_, h2, h3⟩ := h.left hg
  have := h.l1; have := h.l2; have := h.l3
  exact ⟨hR.grown hg2 h.l3, hR2, h2.grown hg2 h2.size (fun k e => by injection e with e; omega), h.l1, h.l2, h.l3, Nat.lt_of_lt_of_le h3 hg2.size⟩
end

/-- A call that changes nothing, or draws alone, in a world behind draws. -/
theorem quiet_eq {P : Program} {f : FuncId} {args : Array Value} {w : World} {n : Nat} {v : Value} (h : Calls P f args (w.drewN n) fun e w' => e = .returned v ∧ w.drewN n = w') :
    Calls P f args (w.drewN n) fun e w'' => e = .returned v ∧ ∃ m, w'' = w.drewN m := h.mono fun _ _ ⟨he, hm⟩ => ⟨he, n, hm.symm⟩
theorem quiet_on {P : Program} {f : FuncId} {args : Array Value} {w : World} {n : Nat} {v : Value} (h : Calls P f args (w.drewN n) fun e w' => e = .returned v ∧ ∃ m, w' = (w.drewN n).drewN m) :
    Calls P f args (w.drewN n) fun e w'' => e = .returned v ∧ ∃ m, w'' = w.drewN m := h.mono fun _ _ ⟨he, m, hm⟩ => ⟨he, n + m, by rw [hm, World.drewN_drewN]⟩

theorem blob_len {w : World} {lo p : Nat} {st : Option (List UInt8)} (h : RS w lo p st) : (blobS st).1.length ≤ 140737488355328 := by
  rcases cut_len (numS st 2).2 ((numS st 2).1 : Int) (by omega) with h0 | h0
  · unfold blobS; omega
  · have := num2 st
    unfold blobS
    omega

/-- 'x ^ 255' of a byte. -/
def flip (x : UInt8) : UInt8 := UInt8.ofNat (x.toNat ^^^ 255)
theorem flip_eq (x : UInt8) : bits .xor .u8 (x.toNat : Int) 255 = ((flip x).toNat : Int) := by
  have hx := x.toNat_lt
  have e := u8_xor_nat x.toNat 255 (by omega) (by omega)
  rw [show ((255 : Nat) : Int) = 255 by rfl] at e
  have hl : x.toNat ^^^ 255 < 2 ^ 8 := Nat.xor_lt_two_pow (by omega) (by omega)
  rw [e]
  unfold flip
  rw [UInt8.toNat_ofNat', Nat.mod_eq_of_lt hl]

/-- A row of bytes that may be written: it stays one. -/
def Wr (w : World) (g n : Nat) : Prop := ∃ cur : Array Value, w.heap[g]? = some (.cells cur 5 (0, 0)) ∧ n ≤ cur.size ∧ ∀ j, j < n → ∃ x : UInt8, cur[j]? = some (bv x)
theorem Wr.cell {w : World} {g n j : Nat} (h : Wr w g n) (hj : j < n) : ∃ x : UInt8, w.cell? ⟨g, j, none⟩ = some (.int .u8 (x.toNat : Int)) ∧ w.frozen? ⟨g, j, none⟩ = false := by
  obtain ⟨cur, h1, h2, h3⟩ := h
  obtain ⟨x, hx⟩ := h3 j hj
  exact ⟨x, by rw [cell_of_row w g j _ _ (0, 0) h1, hx]; rfl, by simp [World.frozen?, h1]⟩
theorem Wr.set {w : World} {g n j : Nat} (h : Wr w g n) (hj : j < n) (x : UInt8) : Wr (w.setCell ⟨g, j, none⟩ (.int .u8 (x.toNat : Int))) g n := by
  obtain ⟨cur, h1, h2, h3⟩ := h
  refine ⟨cur.setIfInBounds j (.int .u8 (x.toNat : Int)), by simp [World.setCell, Array.getElem?_modify, h1], by simpa using h2, fun i hi => ?_⟩
  rw [Array.getElem?_setIfInBounds]
  by_cases e : j = i
  · rw [if_pos e, if_pos (by omega)]
    exact ⟨x, rfl⟩
  · rw [if_neg e]
    exact h3 i hi
theorem Wr.of_ow {w : World} {lo : Nat} {A : Option Addr} {l : List UInt8} (h : Ow w lo A l) (hl : 0 < l.length) : ∃ g, A = some ⟨g, 0, none⟩ ∧ lo ≤ g ∧ g < w.heap.size ∧ Wr w g l.length := by
  obtain ⟨g, cur, e, h1, h2, h3, h4⟩ := h hl
  refine ⟨g, e, h1, h2, cur, h3, ?_, fun j hj => ?_⟩
  · have := congrArg List.length h4
    simp at this
    omega
  · refine ⟨l[j], ?_⟩
    have h5 : (cur.toList.take l.length)[j]? = some (bv l[j]) := by rw [h4]; simp [hj]
    rw [List.getElem?_take, if_pos hj] at h5
    simpa using h5

set_option maxRecDepth 100000 in
set_option maxHeartbeats 8000000 in
theorem rowsAny_any (A1 A2 : Option Addr) (c1 c2 : Nat) (b : List UInt8) (L : List (Int × Int)) (w : World)
    (r1 : Rd w 0 w.heap.size A1 b) (r2 : RdW w w.heap.size A2 L) (hc1 : b.length ≤ c1) (hb : b.length ≤ 9223372036854775807) (hL : L.length ≤ 9223372036854775807) :
    Calls Try.prog 6 #[.slice A1 b.length c1, .slice A2 L.length c2] w fun e w' => e = .returned (.bool true) ∧ Below w.heap.size w w' := by
  obtain ⟨i0, hi0, hz0, hz1, hz2⟩ := info_parts byte_info
  go_enter Try.func6, Try.ntmps6
  go_upto_region 1 with fail
  go_cut [20] (fun s20 wx => s20 = .bool (big2 b.length L.length) ∧ w = wx)
  case first =>
    go_wp2
    all_goals go_meet
    all_goals refine ⟨congrArg Value.bool ?_, rfl⟩
    all_goals unfold big2
    all_goals first | (exact (decide_eq_true (by omega)).symm) | (rw [Bool.eq_iff_iff]; simp only [Bool.or_eq_true, decide_eq_true_eq]; omega)
  case rest =>
    obtain ⟨hu, rfl⟩ := hcut
    by_cases hbig : 6000 < b.length ∨ 200 < L.length
    · rw [show big2 b.length L.length = true from decide_eq_true hbig] at hu
      subst hu
      clear hbig
      go_wp2_with (go_at_call 12; refine (known_any _).mono ?_; rintro e w3 ⟨rfl, hb3⟩)
      go_ret
      exact ⟨rfl, hb3⟩
    · rw [show big2 b.length L.length = false from decide_eq_false hbig] at hu
      subst hu
      have hb6 : b.length ≤ 6000 := by omega
      have hL2 : L.length ≤ 200 := by omega
      clear hbig hb hL
      go_wp2_with (at_builtin; refine wpList_append_rd _ rfl (.const (.slice none 0 0)) (.tmp 22) _ rfl w.heap.size 5 i0 _ Try.underlying23 hi0 hz0 hz1 hz2 rfl (.slice none 0 0) 0 [] rfl (World.ownsRow_nil _ _ _ _) 0 w.heap.size A1 c1 b rfl r1 (by omega) (Nat.le_refl _) ?_; intro v1 w1 hown1 hg1 hat1)
      rw [Nat.zero_add, List.nil_append] at hown1
      obtain ⟨A3, c3, e3, _⟩ := own_form hown1
      subst e3
      obtain ⟨ho1, _, _⟩ := Ow.of_own hown1
      have hbel1 : Below w.heap.size w w1 := (Below.refl _ _).grown hg1 (Nat.le_refl _) (fun k e => by cases e)
      clear hown1 hg1 hat1
      refine (read_any A3 c3 b w1 (ho1.rd.wide (Nat.zero_le _) (Nat.le_refl _)) (by omega)).mono ?_
      rintro e w2 ⟨p, rfl, hp, hR2, hb2⟩
      have hs1 := hbel1.size
      have hs2 := hb2.size
      have hI : Inv w w1.heap.size p w2.heap.size A1 c1 b (some b) (w2.alloc (.cells #[.slice A1 b.length c1, .int .i64 0, .bool false] 46)) := by
        refine ⟨hR2.below ((Below.refl w2.heap.size w2).alloc (Nat.le_refl _) _) hR2.lt, ⟨0, Nat.zero_le _, heap_alloc_new w2 _, fun l e => by injection e with e; rw [← e]; rfl⟩, (hbel1.trans (hb2.mono hs1)).alloc (by omega) _, hs1, hp, hR2.lt, by simp⟩
      have hO : 0 < b.length → ∃ g, A3 = some ⟨g, 0, none⟩ ∧ w.heap.size ≤ g ∧ g < w1.heap.size ∧ Wr (w2.alloc (.cells #[.slice A1 b.length c1, .int .i64 0, .bool false] 46)) g b.length := fun h0 => by
        obtain ⟨g, e, h1, h2, cur, h3, h4⟩ := Wr.of_ow ho1 h0
        exact ⟨g, e, h1, h2, cur, ((Below.heap_alloc w2 _ g (by omega)).trans (hb2.block g h2)).trans h3, h4⟩
      have HI := Lib.hid hI
      have HO := Lib.hid hO
      clear hI hO ho1 hR2 hb2 hbel1
      go_wp2_with fail
      go_loopw [8] (fun i wx => ∃ k : Nat, k ≤ b.length ∧ i = .int .i64 k ∧ Inv w w1.heap.size p w2.heap.size A1 c1 b (some b) wx ∧ (0 < b.length → ∃ g, A3 = some ⟨g, 0, none⟩ ∧ w.heap.size ≤ g ∧ g < w1.heap.size ∧ Wr wx g b.length)) (fun i _ => b.length - (intOf i).toNat)
      case atStart => exact ⟨0, Nat.zero_le _, rfl, HI.out, HO.out⟩
      case round =>
        obtain ⟨k, hk, rfl, hInv, hOw⟩ := hrel
        by_cases hlt : k < b.length
        · obtain ⟨g, rfl, hg1, hg2, hWr⟩ := hOw (by omega)
          obtain ⟨x, hc, hf⟩ := hWr.cell hlt
          have hx := x.toNat_lt
          have hfl := flip_eq x
          clear hOw
          go_wp2
          exact ⟨⟨k + 1, by omega, by go_num, hInv.set _ hg1 (.inl hg2), fun _ => ⟨g, rfl, hg1, hg2, hWr.set hlt _⟩⟩, by simp [intOf]; omega⟩
        · clear HO hOw HI
          go_wp2_with fail
          generalize w2.heap.size = p3 at *
          generalize w1.heap.size = lo at *
          go_loopw [9] (fun i wx => ∃ (k : Nat) (st : Option (List UInt8)), k ≤ L.length ∧ i = .int .i64 k ∧ Inv w lo p p3 A1 c1 b st wx) (fun i _ => L.length - (intOf i).toNat)
          case atStart => exact ⟨0, some b, Nat.zero_le _, rfl, hInv⟩
          case round =>
            clear hInv
            rename_i kk _
            obtain ⟨k, st, hk, rfl, hInv⟩ := hrel
            by_cases hlt : k < L.length
            · obtain ⟨bl, ol, rfl, hbl, hcell⟩ := r2 (by omega)
              obtain ⟨hcK, hcN⟩ := hcell k _ (List.getElem?_eq_getElem hlt)
              have HCK := Lib.hid hcK
              have HCN := Lib.hid hcN
              obtain ⟨K, hK⟩ : ∃ K, K = L[k].1 := ⟨_, rfl⟩
              obtain ⟨N, hN⟩ : ∃ N, N = L[k].2 := ⟨_, rfl⟩
              rw [← hK] at HCK
              rw [← hN] at HCN
              clear hK hN hcK hcN hcell
              have hbel := hInv.bel
              have g1 := (hbel.cell (p := ⟨bl, ol + k * 2, none⟩) hbl).trans HCK.out
              have g2 := (hbel.cell (p := ⟨bl, ol + k * 2 + 1, none⟩) hbl).trans HCN.out
              have i3 : (k : Int) < (L.length : Int) := by omega
              go_upto_block 4 with fail
              go_cut [] (fun wx => ∃ st' : Option (List UInt8), Inv w lo p p3 A1 c1 b st' wx)
              case first =>
                by_cases hK1 : K = 1
                · subst hK1
                  have l4 := hInv.l4
                  have HNA := Lib.hid (fun u (h : RS u lo p st) => number_at lo p st N u h)
                  have HRA := Lib.hid (fun (u : World) (h : RR u p3 A1 c1 b st) (hr : Rd u 0 w.heap.size A1 b) (hs : p3 < u.heap.size) => refNumber_any p3 A1 c1 0 w.heap.size b st N u hb6 hc1 h hr (by have := hInv.l1; have := hInv.l2; have := hInv.l3; omega) hs)
                  have hcc : ∀ m, (wr.drewN m).cell? ⟨bl, ol + k * 2 + 1, none⟩ = some (.int .i64 N) := fun m => g2
                  have hDr := hInv.drew
                  have HDr := Lib.hid hDr
                  have hcd : wr.drew.cell? ⟨bl, ol + k * 2 + 1, none⟩ = some (.int .i64 N) := g2
                  clear hDr
                  go_wp2_with fail
                  go_region_held3 (fun u => u.cell? ⟨bl, ol + k * 2 + 1, none⟩ = some (.int .i64 N)) (first | exact hcd | exact hcc _ | exact k4 | exact k5)
                    (first
                      | (go_at_call 21; refine (HNA.out _ (by exact HDr.out.rs)).mono ?_; rintro e w4 ⟨rfl, hR4, hg4⟩; have hL4 := Lib.hid (HDr.out.left hg4); have k4 := (hL4.out.2.1.cell (p := ⟨bl, ol + k * 2 + 1, none⟩) hbl).trans HCN.out)
                      | (go_at_call 22; refine (HRA.out _ hL4.out.1 (r1.below hL4.out.2.1 (Nat.le_refl _)) hL4.out.2.2).mono ?_; rintro e w5 ⟨rfl, hR5, hg5⟩; have k5 : w5.cell? ⟨bl, ol + k * 2 + 1, none⟩ = some (.int .i64 N) := (Inv.both HDr.out hg4 hR4 hg5 hR5).bel.cell (p := ⟨bl, ol + k * 2 + 1, none⟩) hbl |>.trans HCN.out))
                  go_wp2_with fail
                  go_meet
                  exact ⟨_, Inv.both HDr.out hg4 hR4 hg5 hR5⟩
                · have e1 : (K == 1) = false := by simpa using hK1
                  by_cases hK2 : K = 2
                  · subst hK2
                    have HBA := Lib.hid (blob_at lo p st wr hInv.rs)
                    have HRA := Lib.hid (fun (u : World) (h : RR u p3 A1 c1 b st) (hr : Rd u 0 w.heap.size A1 b) (hs : p3 < u.heap.size) => refBlob_any p3 A1 c1 0 w.heap.size b st u hb6 hc1 h hr (by have := hInv.l1; have := hInv.l2; have := hInv.l3; omega) hs)
                    go_wp2_with (go_at_call 23; refine HBA.out.mono ?_; rintro e w4 ⟨A4, rfl, ho4, hR4, hg4⟩; have hL4 := Lib.hid (hInv.left hg4))
                    refine (HRA.out _ hL4.out.1 (r1.below hL4.out.2.1 (Nat.le_refl _)) hL4.out.2.2).mono ?_
                    rintro e w5 ⟨A5, c5, rfl, hR5, ht5, hg5⟩
                    have HI5 := Lib.hid (Inv.both hInv hg4 hR4 hg5 hR5)
                    have HO5 := Lib.hid ((ho4.wide (lo' := p3 + 1) (by have := hInv.l4; exact this)).grown hg5 (fun g e => by injection e with e; omega))
                    have HR5 := Lib.hid (ht5 w5 0 w.heap.size (r1.below HI5.out.bel (Nat.le_refl _)))
                    have s1 := run_str HO5.out.rd _ ((blobS st).1).length rfl
                    have s2 := run_str HR5.out _ c5 rfl
                    unfold strOf at s1 s2
                    have hOw : 0 < ((blobS st).1).length → ∃ g, A4 = some ⟨g, 0, none⟩ ∧ p3 < g ∧ Wr w5 g ((blobS st).1).length := fun h0 => by
                      obtain ⟨g, e, h1, _, h2⟩ := Wr.of_ow HO5.out h0
                      exact ⟨g, e, h1, h2⟩
                    have HOw := Lib.hid hOw
                    have HLN := Lib.hid (blob_len hInv.rs)
                    clear hOw
                    obtain ⟨x, hx⟩ : ∃ x, x = (blobS st).1 := ⟨_, rfl⟩
                    rw [← hx] at s1 s2 HOw HLN ⊢
                    obtain ⟨st', hst'⟩ : ∃ st', st' = (blobS st).2 := ⟨_, rfl⟩
                    rw [← hst'] at HI5
                    clear hx hst' HO5 HR5 ho4 ht5 hR4 hR5 hg4 hg5 HBA HRA hL4
                    have hxl : x.length ≤ 140737488355328 := HLN.out
                    go_wp2_with fail
                    go_loopw [12] (fun i wx => ∃ j : Nat, j ≤ x.length ∧ i = .int .i64 j ∧ Inv w lo p p3 A1 c1 b st' wx ∧ (0 < x.length → ∃ g, A4 = some ⟨g, 0, none⟩ ∧ p3 < g ∧ Wr wx g x.length)) (fun i _ => x.length - (intOf i).toNat)
                    case atStart => exact ⟨0, Nat.zero_le _, rfl, HI5.out, HOw.out⟩
                    case round =>
                      clear HOw HI5 s1 s2
                      obtain ⟨j, hj, rfl, hI6, hO6⟩ := hrel
                      by_cases hjl : j < x.length
                      · obtain ⟨g, rfl, hg1, hWr⟩ := hO6 (by omega)
                        obtain ⟨y, hc, hf⟩ := hWr.cell hjl
                        have hy := y.toNat_lt
                        have hfl := flip_eq y
                        clear hO6
                        go_wp2
                        exact ⟨⟨j + 1, by omega, by go_num, hI6.set _ (by have := hI6.l1; have := hI6.l2; have := hI6.l3; show _ ≤ g; omega) (.inr hg1), fun _ => ⟨g, rfl, hg1, hWr.set hjl _⟩⟩, by simp [intOf]; omega⟩
                      · clear hO6
                        go_wp2_with fail
                        go_meet
                        exact ⟨st', hI6⟩
                  · have e2 : (K == 2) = false := by simpa using hK2
                    by_cases hK3 : K = 3
                    · subst hK3
                      have HNA := Lib.hid (fun u (h : RS u lo p st) => bytes_at lo p st N u h)
                      have HRA := Lib.hid (fun (u : World) (h : RR u p3 A1 c1 b st) => refBytes_any p3 A1 c1 b st N u hb6 hc1 h)
                      have HDr := Lib.hid hInv.drew
                      have hcd : wr.drew.cell? ⟨bl, ol + k * 2 + 1, none⟩ = some (.int .i64 N) := g2
                      have hcc : ∀ m, (wr.drewN m).cell? ⟨bl, ol + k * 2 + 1, none⟩ = some (.int .i64 N) := fun m => g2
                      go_wp2_with fail
                      go_region_held3 (fun u => u.cell? ⟨bl, ol + k * 2 + 1, none⟩ = some (.int .i64 N)) (first | exact hcd | exact hcc _ | exact k4 | exact k5)
                        (first
                          | (go_at_call 25; refine (HNA.out _ (by exact HDr.out.rs)).mono ?_; rintro e w4 ⟨A4, rfl, ho4, hR4, hg4⟩; have hL4 := Lib.hid (HDr.out.left hg4); have k4 := (hL4.out.2.1.cell (p := ⟨bl, ol + k * 2 + 1, none⟩) hbl).trans HCN.out)
                          | (go_at_call 26; refine (HRA.out _ hL4.out.1).mono ?_; rintro e w5 ⟨A5, c5, rfl, hR5, ht5, hg5⟩; have k5 : w5.cell? ⟨bl, ol + k * 2 + 1, none⟩ = some (.int .i64 N) := (Inv.both HDr.out hg4 hR4 hg5 hR5).bel.cell (p := ⟨bl, ol + k * 2 + 1, none⟩) hbl |>.trans HCN.out))
                      have HI5 := Lib.hid (Inv.both HDr.out hg4 hR4 hg5 hR5)
                      have HO5 := Lib.hid ((ho4.wide (lo' := p3 + 1) (by have := hInv.l4; exact this)).grown hg5 (fun g e => by injection e with e; omega))
                      have HR5 := Lib.hid (ht5 w5 0 w.heap.size (r1.below HI5.out.bel (Nat.le_refl _)))
                      have s1 := run_str HO5.out.rd _ ((cutS st N).1).length rfl
                      have s2 := run_str HR5.out _ c5 rfl
                      unfold strOf at s1 s2
                      have hOw : 0 < ((cutS st N).1).length → ∃ g, A4 = some ⟨g, 0, none⟩ ∧ p3 < g ∧ Wr w5 g ((cutS st N).1).length := fun h0 => by
                        obtain ⟨g, e, h1, _, h2⟩ := Wr.of_ow HO5.out h0
                        exact ⟨g, e, h1, h2⟩
                      have HOw := Lib.hid hOw
                      have HLN := Lib.hid (hInv.rs.piece N)
                      clear hOw
                      obtain ⟨x, hx⟩ : ∃ x, x = (cutS st N).1 := ⟨_, rfl⟩
                      rw [← hx] at s1 s2 HOw HLN ⊢
                      obtain ⟨st', hst'⟩ : ∃ st', st' = (cutS st N).2 := ⟨_, rfl⟩
                      rw [← hst'] at HI5
                      clear hx hst' HO5 HR5 ho4 ht5 hR4 hR5 hg4 hg5 HNA HRA hL4 k4 k5 hcd hcc
                      have hxl : x.length ≤ 140737488355328 := HLN.out
                      go_wp2_with fail
                      go_loopw [12] (fun i wx => ∃ j : Nat, j ≤ x.length ∧ i = .int .i64 j ∧ Inv w lo p p3 A1 c1 b st' wx ∧ (0 < x.length → ∃ g, A4 = some ⟨g, 0, none⟩ ∧ p3 < g ∧ Wr wx g x.length)) (fun i _ => x.length - (intOf i).toNat)
                      case atStart => exact ⟨0, Nat.zero_le _, rfl, HI5.out, HOw.out⟩
                      case round =>
                        clear HOw HI5 s1 s2
                        obtain ⟨j, hj, rfl, hI6, hO6⟩ := hrel
                        by_cases hjl : j < x.length
                        · obtain ⟨g, rfl, hg1, hWr⟩ := hO6 (by omega)
                          obtain ⟨y, hc, hf⟩ := hWr.cell hjl
                          have hy := y.toNat_lt
                          have hfl := flip_eq y
                          clear hO6
                          go_wp2
                          exact ⟨⟨j + 1, by omega, by go_num, hI6.set _ (by have := hI6.l1; have := hI6.l2; have := hI6.l3; show _ ≤ g; omega) (.inr hg1), fun _ => ⟨g, rfl, hg1, hWr.set hjl _⟩⟩, by simp [intOf]; omega⟩
                        · clear hO6
                          go_wp2_with fail
                          go_meet
                          exact ⟨st', hI6⟩
                    · have e3 : (K == 3) = false := by simpa using hK3
                      go_wp2_with fail
                      go_meet
                      exact ⟨st, hInv⟩
              case rest =>
                obtain ⟨st', hI⟩ := hcut
                clear hInv hbel g1 g2
                obtain ⟨k3, _, hh3, _⟩ := hI.rr
                have hz := (cells3 hh3).2.2.1
                clear hh3
                have HF := Lib.hid (fun n => quiet_eq (failed_at lo p st' (wc.drewN n) (hI.drewN n).rs))
                have HL := Lib.hid (fun n => quiet_eq (left_at lo p st' (wc.drewN n) (hI.drewN n).rs))
                have HE := Lib.hid (fun n => quiet_eq (end_at lo p st' (wc.drewN n) (hI.drewN n).rs))
                have HRL := Lib.hid (fun n => quiet_on (refLeft_any p3 A1 c1 b st' (wc.drewN n) hb6 (hI.drewN n).rr))
                have HRE := Lib.hid (fun n => quiet_on (refEnd_any p3 A1 c1 b st' (wc.drewN n) hb6 (hI.drewN n).rr))
                have HC := Lib.hid (fun (x : Int) (n : Nat) => quiet_eq (code_any x (wc.drewN n)))
                generalize st'.isNone = q at *
                generalize leftS st' = lf at *
                generalize endS st' = en at *
                go_wp2_with fail
                go_quiet ((first | (go_at_call 27; exact HF.out _) | (go_at_call 28; exact HL.out _) | (go_at_call 30; exact HE.out _) | (go_at_call 29; exact HRL.out _) | (go_at_call 31; exact HRE.out _) | (go_at_call 10; exact HC.out _ _)))
                go_wp2_with fail
                exact ⟨⟨k + 1, st', by omega, by go_num, hI.drewN nq⟩, by simp [intOf]; omega⟩
            · have hbf := hInv.bel
              clear hInv
              go_wp2_with (go_at_call 12; refine (known_any _).mono ?_; rintro e wz ⟨rfl, hbz⟩)
              go_ret
              exact ⟨rfl, hbf.trans (hbz.mono hbf.size)⟩
end Go.Proofs.Ythbnnhnnldakeaa
