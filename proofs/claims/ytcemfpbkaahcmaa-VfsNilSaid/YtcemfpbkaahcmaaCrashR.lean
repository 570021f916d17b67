/- The region of a loss of power in which so many bytes of a file are kept as its pick says. -/
import Derived.Test.YtcemfpbkaahcmaaCrashMem
import Derived.Laws.EntriesVeiled
import Derived.IntWalk
namespace Go.Proofs.Ytcemfpbkaahcmaa
open Go.RowKit Go.Shelf
set_option linter.unusedVariables false

/-- The region of a number. -/
def regionOf (i : Nat) : Code → Option Code
  | .region id ops d => if id = i then some (.region id ops d) else none
  | .seq a b => match regionOf i a with
    | some c => some c
    | none => regionOf i b
  | .cond _ a b => match regionOf i a with
    | some c => some c
    | none => regionOf i b
  | .block _ c => regionOf i c
  | .loop c => regionOf i c
  | .scope c => regionOf i c
  | _ => none
theorem tmod_nat (a : Int) (h : 0 ≤ a) (n : Nat) : a.tmod (n : Int) = ((a.toNat % n : Nat) : Int) := by
  rw [Int.tmod_eq_emod_of_nonneg h]
  obtain ⟨k, rfl⟩ := Int.eq_ofNat_of_zero_le h
  simp
theorem cut_close {w wr : World} {pb nb rb n k c m x : Nat} {d : Dir} {fl : Nat → Option Fl} {rv : Nat → Value} {ps : List Int} {vn : Value} {names : List Value} {A : Option Addr} {b b' : List UInt8}
    (h : CS w wr pb nb rb n d fl rv ps vn names k (.slice A b.length c) m b) (hb : b' = b.take x) (hx : x ≤ b.length) : CS w (wr.setCell ⟨k, 0, none⟩ (.slice A x c)) pb nb rb n d fl rv ps vn names k (.slice A b'.length c) m b' := by
  have := h.set0 x hx
  have hl : b'.length = x := by rw [hb, List.length_take]; omega
  rw [hl, hb]
  exact this
noncomputable def crashR10 : Code := ((Try.f12.body.bind (regionOf 10))).getD .skip
set_option maxRecDepth 1000000 in
set_option maxHeartbeats 8000000 in
theorem crash_r10 (c0 c1 c2 c3 c4 c6 c7 c8 c10 c11 c12 c13 c14 c15 c16 c17 c18 c19 c20 c21 c22 c23 c24 c25 c26 c27 c28 c29 c30 c31 c32 c33 c34 c35 c36 c37 c38 c39 c40 c41 c42 c43 c44 c45 c46 c47 c48 c49 c50 c51 c52 c53 c54 c55 c56 c57 c58 c59 c60 c61 c62 c63 c64 c65 c66 : Value) (w wr : World) (pb nb rb n k c : Nat) (d : Dir) (fl : Nat → Option Fl) (rv : Nat → Value) (ps : List Int) (vn : Value) (names : List Value) (A : Option Addr) (f : Fl)
    (h : CS w wr pb nb rb n d fl rv ps vn names k (.slice A f.b.length c) f.n f.b) (hpb : w.heap.size ≤ pb) (hn : f.n < f.b.length) (hl : f.b.length ≤ 16777216)
    (Q : Exit → Act → World → Prop) (hQ : ∀ (u30 u31 u32 u33 u34 u35 u36 u37 u38 u39 u40 u41 u42 u43 u44 u45 u46 u47 u48 : Value) (w' : World), CS w w' pb nb rb n d fl rv ps.tail vn names k (.slice A (keepF f ps).length c) f.n (keepF f ps) → Q .normal ⟨#[c0, c1, c2, c3, c4, .pointer (some ⟨nb, 0, none⟩), c6, c7, c8, .pointer (some ⟨k, 0, none⟩), c10, c11, c12, c13, c14, c15, c16, c17, c18, c19, c20, c21, c22, c23, c24, c25, c26, c27, c28, c29, u30, u31, u32, u33, u34, u35, u36, u37, u38, u39, u40, u41, u42, u43, u44, u45, u46, u47, u48, c49, c50, c51, c52, c53, c54, c55, c56, c57, c58, c59, c60, c61, c62, c63, c64, c65, c66], []⟩ w') :
    Code.wp Try.prog crashR10 Q ⟨#[c0, c1, c2, c3, c4, .pointer (some ⟨nb, 0, none⟩), c6, c7, c8, .pointer (some ⟨k, 0, none⟩), c10, c11, c12, c13, c14, c15, c16, c17, c18, c19, c20, c21, c22, c23, c24, c25, c26, c27, c28, c29, c30, c31, c32, c33, c34, c35, c36, c37, c38, c39, c40, c41, c42, c43, c44, c45, c46, c47, c48, c49, c50, c51, c52, c53, c54, c55, c56, c57, c58, c59, c60, c61, c62, c63, c64, c65, c66], []⟩ wr := by
  conv => arg 2; whnf
  dsimp only at hQ ⊢
  have HC6d := Lib.hid (h.grow (⟨rfl, rfl, rfl, Nat.le_refl _, fun _ _ _ => rfl⟩ : wr.grownBy wr.drew none))
  have hnx := next_any HC6d.out.pk hpb
  have HKC := Lib.hid (fun (u : World) (ps9 : List Int) (h : CS w u pb nb rb n d fl rv ps9 vn names k (.slice A f.b.length c) f.n f.b) =>
    (⟨(file_cells h.blk).1, (file_cells h.blk).2, cell_of_one h.fn⟩ : u.cell? ⟨k, 0, none⟩ = some (.slice A f.b.length c) ∧ u.cell? ⟨k, 1, none⟩ = some (.int .i64 (f.n : Int)) ∧ u.cell? ⟨nb, 0, none⟩ = some (nextF pb)))
  unfold nextF at HKC
  obtain ⟨d0, d1, dn⟩ := HKC.out _ _ h
  have h0 : 0 ≤ pickOf ps := by cases ps <;> simp [pickOf]; omega
  obtain ⟨x, hx⟩ : ∃ x, x = (pickOf ps).toNat % (f.b.length - f.n + 1) := ⟨_, rfl⟩
  have hxl : x ≤ f.b.length - f.n := by have := Nat.mod_lt (pickOf ps).toNat (show 0 < f.b.length - f.n + 1 by omega); omega
  have hcc : f.b.length ≤ c := by obtain ⟨_, _, e, hc⟩ := row_form h.row; injection e with _ _ e; omega
  have hcm := row_cap h.row
  unfold maxLen at hcm
  have HKF : Hid (keepF f ps = f.b.take (f.n + x)) := Lib.hid (by unfold keepF; rw [if_pos hn, hx])
  have e1 : (f.b.length : Int) - (f.n : Int) + 1 = ((f.b.length - f.n + 1 : Nat) : Int) := by omega
  have w2 : (pickOf ps).tmod ((f.b.length : Int) - (f.n : Int) + 1) = (x : Int) := by rw [e1, tmod_nat _ h0, hx]
  have w1 : IntKind.i64.wrap ((f.b.length : Int) - (f.n : Int) + 1) = (f.b.length : Int) - (f.n : Int) + 1 := IntWalk.i64_in _ (by omega)
  have w3 : IntKind.i64.wrap ((f.n : Int) + (x : Int)) = (f.n : Int) + (x : Int) := IntWalk.i64_in _ (by omega)
  have w4 : ((f.n : Int) + (x : Int)).toNat = f.n + x := by omega
  have q0 : ¬ ((f.b.length : Int) - (f.n : Int) + 1 = 0) := by omega
  have i1 : (0 : Int) ≤ (f.n : Int) + (x : Int) := by omega
  have i2 : (f.n : Int) + (x : Int) ≤ (c : Int) := by omega
  have hxf : f.n + x ≤ f.b.length := by omega
  obtain ⟨pk, hpk⟩ : ∃ pk, pk = pickOf ps := ⟨_, rfl⟩
  rw [← hpk] at hnx w2
  have HN := Lib.hid hn
  have HXF := Lib.hid hxf
  have HL := Lib.hid hl
  clear h hn hx hpk e1 h0 hxl hcc hcm hxf hl
  refine wp_region_noPanic ?_
  go_region_law (first
    | (go_simp; go_at_call 34; refine hnx.mono ?_; rintro e w7 ⟨rfl, hQ7⟩; have HC7 := Lib.hid (HC6d.out.next hpb hQ7); obtain ⟨k0, k1, kn⟩ := HKC.out _ _ HC7.out; have hlo := loose_any HC7.out.blk (Nat.le_of_lt HN.out) (by have := HL.out; omega); clear hQ7)
    | (go_simp; go_at_call 39; refine hlo.mono ?_; rintro e w8 ⟨rfl, hw8⟩; have HC8 := Lib.hid (hw8 ▸ HC7.out.grow (⟨rfl, rfl, rfl, Nat.le_refl _, fun _ _ _ => rfl⟩ : w7.grownBy w7.drew none)); obtain ⟨k0, k1, kn⟩ := HKC.out _ _ HC8.out; have ff := free_block (j := 0) HC8.out.blk; clear hw8))
  all_goals refine NoPanic.normal ?_
  all_goals exact hQ _ _ _ _ _ _ _ _ _ _ _ _ _ _ _ _ _ _ _ _ (cut_close HC8.out HKF.out HXF.out)
end Go.Proofs.Ytcemfpbkaahcmaa
