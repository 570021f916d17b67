/- Contract: a region of the law of names: the first file. -/
import Derived.Test.YtcemfpbkaahcmaaGoes
import Derived.Deep.RegionHeld3
namespace Go.Proofs.Ytcemfpbkaahcmaa
open Go.RowKit Go.Shelf
set_option linter.unusedVariables false
section
theorem below_drew {w u : World} {B : Nat} (h : Below B w.drew u) : Below B w u := Below.trans (show Below B w w.drew from ⟨rfl, rfl, rfl, Nat.le_refl _, fun _ _ => rfl⟩) h
noncomputable def namesR4 : Code := ((Try.f6.body.bind (regionOf 4))).getD .skip
set_option maxRecDepth 1000000 in
set_option maxHeartbeats 4000000 in
theorem names_r4 (c0 c1 c2 c3 c5 c6 c9 c10 c11 c12 c13 c14 c15 c16 c17 c18 c19 c20 c21 c22 c23 c24 c25 c26 c27 c28 c29 c30 c31 c32 c33 c34 c35 c36 c37 c38 c39 c40 c41 c42 c43 c44 c45 c46 c47 c48 c49 c50 c51 c52 c53 c54 c55 c56 c57 c58 c59 c60 c61 c62 c63 c64 c65 c66 c67 c68 c69 c70 c71 c72 c73 c74 c75 c76 c77 c78 c79 c80 c81 c82 c83 c84 c85 c86 c87 c88 c89 c90 c91 c92 c93 c94 c95 c96 c97 c98 c99 c100 c101 c102 c103 c104 c105 c106 c107 c108 c109 c110 c111 c112 c113 c114 c115 c116 c117 c118 c119 c120 c121 c122 c123 c124 c125 c126 c127 c128 c129 c130 c131 c132 c133 c134 c135 c136 c137 c138 c139 c140 c141 c142 c143 c144 c145 c146 c147 : Value) (w : World) (base p bb hi cb : Nat) (A : Option Addr) (b : List UInt8) (hh : Holds w base p (newS 10000) 0) (hc : w.cell? ⟨bb, 0, none⟩ = some (.slice A b.length cb)) (hbb : bb < base)
    (hr : Rd w 0 hi A b) (hib : hi ≤ base) (hcb : b.length ≤ cb) (hcm : cb ≤ maxLen) (hbl : b.length ≤ 9000)
    (Q : Exit → Act → World → Prop) (hQ : ∀ (u36 u37 u38 u39 u40 u41 u42 u43 u44 u45 u46 u47 u48 u49 u50 u51 u52 u53 u54 u55 u56 u57 u58 u59 u60 : Value) (w' : World) (k : Nat), Holds w' base p (NS [(sF, k)] [(sF, k)] [] 4 k b b.length) 4 → Below base w w' → Q .normal ⟨#[c0, c1, c2, c3, .pointer (some ⟨bb, 0, none⟩), c5, c6, .pointer (some ⟨p, 0, none⟩), .int .i64 0, c9, c10, c11, c12, c13, c14, c15, c16, c17, c18, c19, c20, c21, c22, c23, c24, c25, c26, c27, c28, c29, c30, c31, c32, c33, c34, c35, u36, u37, u38, u39, u40, u41, u42, u43, u44, u45, u46, u47, u48, u49, u50, u51, u52, u53, u54, u55, u56, u57, u58, u59, u60, .bool false, c62, c63, c64, c65, c66, c67, c68, c69, c70, c71, c72, c73, c74, c75, c76, c77, c78, c79, c80, c81, c82, c83, c84, c85, c86, c87, c88, c89, c90, c91, c92, c93, c94, c95, c96, c97, c98, c99, c100, c101, c102, c103, c104, c105, c106, c107, c108, c109, c110, c111, c112, c113, c114, c115, c116, c117, c118, c119, c120, c121, c122, c123, c124, c125, c126, c127, c128, c129, c130, c131, c132, c133, c134, c135, c136, c137, c138, c139, c140, c141, c142, c143, c144, c145, c146, c147], []⟩ w') :
    Code.wp Try.prog namesR4 Q ⟨#[c0, c1, c2, c3, .pointer (some ⟨bb, 0, none⟩), c5, c6, .pointer (some ⟨p, 0, none⟩), .int .i64 0, c9, c10, c11, c12, c13, c14, c15, c16, c17, c18, c19, c20, c21, c22, c23, c24, c25, c26, c27, c28, c29, c30, c31, c32, c33, c34, c35, c36, c37, c38, c39, c40, c41, c42, c43, c44, c45, c46, c47, c48, c49, c50, c51, c52, c53, c54, c55, c56, c57, c58, c59, c60, c61, c62, c63, c64, c65, c66, c67, c68, c69, c70, c71, c72, c73, c74, c75, c76, c77, c78, c79, c80, c81, c82, c83, c84, c85, c86, c87, c88, c89, c90, c91, c92, c93, c94, c95, c96, c97, c98, c99, c100, c101, c102, c103, c104, c105, c106, c107, c108, c109, c110, c111, c112, c113, c114, c115, c116, c117, c118, c119, c120, c121, c122, c123, c124, c125, c126, c127, c128, c129, c130, c131, c132, c133, c134, c135, c136, c137, c138, c139, c140, c141, c142, c143, c144, c145, c146, c147], []⟩ w := by
  conv => arg 2; whnf
  dsimp only at hQ ⊢
  have hnum := fun e u => num_any e u
  have k0 : w.drew.cell? ⟨bb, 0, none⟩ = some (.slice A b.length cb) := hc
  have HH := Lib.hid (hh.grow (⟨rfl, rfl, rfl, Nat.le_refl _, fun _ _ _ => rfl⟩ : w.grownBy w.drew none))
  have HR := Lib.hid (hr.keep (fun q _ _ => rfl) : Rd w.drew 0 hi A b)
  have HB := Lib.hid (Below.refl base w.drew)
  clear hh hr hc
  refine wp_region_noPanic ?_
  go_region_held3 (fun u => u.cell? ⟨bb, 0, none⟩ = some (.slice A b.length cb)) (first | exact k0 | exact k1 | exact k2 | exact k3 | exact k4)
    (first
      | (go_at_call 10; refine (hnum _ _).mono ?_; rintro e w9 ⟨rfl, rfl⟩)
      | (go_at_call 21; refine (make_any HH.out (by omega) sF (by decide)).mono ?_; rintro e w2 hs; obtain ⟨rfl, h1, b1⟩ := step_eq (g1 _) hs; have H1 := Lib.hid h1; have B1 := Lib.hid b1; have k1 := (b1.cell (p := ⟨bb, 0, none⟩) hbb).trans k0; clear hs h1 b1)
      | (go_at_call 23; refine (append_any H1.out (by omega) sF (by decide) A cb 0 hi b (HR.out.below B1.out hib) (by have h2 := H1.out.lt; omega) (fun g _ h2 => by have h3 := H1.out.lt; omega) hcb hcm).mono ?_; rintro e w3 hs; obtain ⟨rfl, h1, b1⟩ := step_eq (g2 _ b hbl) hs; have H2 := Lib.hid h1; have B2 := Lib.hid (B1.out.trans b1); have k2 := (b1.cell (p := ⟨bb, 0, none⟩) hbb).trans k1; clear hs h1 b1)
      | (go_at_call 16; refine (sync_any H2.out (by omega) sF (by decide)).mono ?_; rintro e w4 hs; obtain ⟨rfl, h1, b1⟩ := step_eq (g3 _ b) hs; have H3 := Lib.hid h1; have B3 := Lib.hid (B2.out.trans b1); have k3 := (b1.cell (p := ⟨bb, 0, none⟩) hbb).trans k2; clear hs h1 b1)
      | (go_at_call 17; refine (syncDir_any H3.out (by omega)).mono ?_; rintro e w5 hs; obtain ⟨rfl, h1, b1⟩ := step_eq (g4 _ b) hs; have H4 := Lib.hid h1; have B4 := Lib.hid (B3.out.trans b1); have k4 := (b1.cell (p := ⟨bb, 0, none⟩) hbb).trans k3; clear hs h1 b1))
  all_goals refine NoPanic.normal ?_
  all_goals exact hQ _ _ _ _ _ _ _ _ _ _ _ _ _ _ _ _ _ _ _ _ _ _ _ _ _ _ _ H4.out (Below.trans (show Below base w w.drew from ⟨rfl, rfl, rfl, Nat.le_refl _, fun _ _ => rfl⟩) B4.out)
noncomputable def namesR15 : Code := ((Try.f6.body.bind (regionOf 15))).getD .skip
set_option maxRecDepth 1000000 in
set_option maxHeartbeats 4000000 in
theorem names_r15 (c1 c2 c3 c5 c6 c8 c10 c11 c12 c13 c14 c15 c16 c17 c18 c19 c20 c21 c22 c23 c24 c25 c26 c27 c28 c29 c30 c31 c32 c33 c34 c35 c36 c37 c38 c39 c40 c41 c42 c43 c44 c45 c46 c47 c48 c49 c50 c51 c52 c53 c54 c55 c56 c57 c58 c59 c60 c61 c62 c63 c64 c65 c66 c67 c68 c69 c70 c71 c72 c73 c74 c75 c76 c77 c78 c79 c80 c81 c82 c83 c84 c85 c86 c87 c88 c89 c90 c91 c92 c93 c94 c95 c96 c97 c98 c99 c100 c101 c102 c103 c104 c105 c106 c107 c108 c109 c110 c111 c112 c113 c114 c115 c116 c117 c118 c119 c120 c121 c122 c123 c124 c125 c126 c127 c128 c129 c130 c131 c132 c133 c134 c135 c136 c137 c138 c139 c140 c141 c142 c143 c144 c145 c146 c147 : Value) (w : World) (base p bb hi cb cn k m : Nat) (A An : Option Addr) (b : List UInt8) (at_ : Str) (Ld : Dir) (es : List En) (ch : Int) (L : List Str) (hat : mayB at_ = true) (hatl : at_.length ≤ maxLen) (hh : Holds w base p (NS [(at_, k)] Ld es ch k b b.length) m) (hc : w.cell? ⟨bb, 0, none⟩ = some (.slice A b.length cb)) (hbw : bb < w.heap.size)
    (hr : Rd w 0 hi A b) (hhi : hi ≤ w.heap.size) (hel : es.length = L.length) (hL : L.length ≤ 20)
    (Q : Exit → Act → World → Prop) (hQ : ∀ (u88 u89 u90 u91 u92 u93 u94 u95 u96 u97 u98 u99 : Value) (w' : World), Holds w' base p (NS [(at_, k)] Ld es ch k b b.length) m → Below w.heap.size w w' → Q .normal ⟨#[.slice An L.length cn, c1, c2, c3, .pointer (some ⟨bb, 0, none⟩), c5, c6, .pointer (some ⟨p, 0, none⟩), c8, strV at_, c10, c11, c12, c13, c14, c15, c16, c17, c18, c19, c20, c21, c22, c23, c24, c25, c26, c27, c28, c29, c30, c31, c32, c33, c34, c35, c36, c37, c38, c39, c40, c41, c42, c43, c44, c45, c46, c47, c48, c49, c50, c51, c52, c53, c54, c55, c56, c57, c58, c59, c60, c61, c62, c63, c64, c65, c66, c67, c68, c69, c70, c71, c72, c73, c74, c75, c76, c77, c78, c79, c80, c81, c82, c83, c84, c85, c86, c87, u88, u89, u90, u91, u92, u93, u94, u95, u96, u97, u98, u99, .bool false, c101, c102, c103, c104, c105, c106, c107, c108, c109, c110, c111, c112, c113, c114, c115, c116, c117, c118, c119, c120, c121, c122, c123, c124, c125, c126, c127, c128, c129, c130, c131, c132, c133, c134, c135, c136, c137, c138, c139, c140, c141, c142, c143, c144, c145, c146, c147], []⟩ w') :
    Code.wp Try.prog namesR15 Q ⟨#[.slice An L.length cn, c1, c2, c3, .pointer (some ⟨bb, 0, none⟩), c5, c6, .pointer (some ⟨p, 0, none⟩), c8, strV at_, c10, c11, c12, c13, c14, c15, c16, c17, c18, c19, c20, c21, c22, c23, c24, c25, c26, c27, c28, c29, c30, c31, c32, c33, c34, c35, c36, c37, c38, c39, c40, c41, c42, c43, c44, c45, c46, c47, c48, c49, c50, c51, c52, c53, c54, c55, c56, c57, c58, c59, c60, c61, c62, c63, c64, c65, c66, c67, c68, c69, c70, c71, c72, c73, c74, c75, c76, c77, c78, c79, c80, c81, c82, c83, c84, c85, c86, c87, c88, c89, c90, c91, c92, c93, c94, c95, c96, c97, c98, c99, c100, c101, c102, c103, c104, c105, c106, c107, c108, c109, c110, c111, c112, c113, c114, c115, c116, c117, c118, c119, c120, c121, c122, c123, c124, c125, c126, c127, c128, c129, c130, c131, c132, c133, c134, c135, c136, c137, c138, c139, c140, c141, c142, c143, c144, c145, c146, c147], []⟩ w := by
  conv => arg 2; whnf
  dsimp only at hQ ⊢
  have hrd := read_here (l := b) (hh.grow (⟨rfl, rfl, rfl, Nat.le_refl _, fun _ _ _ => rfl⟩ : w.grownBy w.drew none)) (readN hat _ _ _ _ _ _) hatl
  have HP := Lib.hid (fun (u : World) (h : Holds u base p (NS [(at_, k)] Ld es ch k b b.length) m) => (by have h2 := pending_disk h; rw [show (NS [(at_, k)] Ld es ch k b b.length).es.length = L.length from hel] at h2; exact h2 : Calls Try.prog 26 #[.pointer (some ⟨p, 0, none⟩)] u fun e w' => e = .returned (.int .i64 (L.length : Int)) ∧ u = w'))
  have HS := Lib.hid (fun (u : World) (h : Below w.heap.size w u) => (⟨(h.cell (p := ⟨bb, 0, none⟩) hbw).trans hc, run_str (hr.below h hhi) b.length cb rfl⟩ : _ ∧ _))
  obtain ⟨k0, s0⟩ := HS.out w.drew ⟨rfl, rfl, rfl, Nat.le_refl _, fun _ _ => rfl⟩
  clear hh hr hc hbw
  unfold strOf at s0 HS
  unfold strV at hrd hQ ⊢
  refine wp_region_noPanic ?_
  go_region_held3 (fun u => u.cell? ⟨bb, 0, none⟩ = some (.slice A b.length cb) ∧ (convert 33 9 (.slice A b.length cb)).run Try.prog u = .ok (.string ⟨b.toArray⟩) u) (first | exact ⟨k0, s0⟩ | exact ⟨k1, s1⟩)
    (first
      | (go_at_call 18; refine hrd.mono ?_; rintro e w2 ⟨rfl, h1, b0⟩; have b1 : Below w.heap.size w w2 := below_drew b0; have H1 := Lib.hid h1; have B1 := Lib.hid b1; obtain ⟨k1, s1⟩ := HS.out w2 b1; have hp1 := HP.out w2 h1; clear h1 b0 b1)
      | (go_at_call 26; refine hp1.mono ?_; rintro e w3 ⟨rfl, rfl⟩))
  all_goals refine NoPanic.normal ?_
  all_goals exact hQ _ _ _ _ _ _ _ _ _ _ _ _ _ H1.out B1.out
end
end Go.Proofs.Ytcemfpbkaahcmaa
